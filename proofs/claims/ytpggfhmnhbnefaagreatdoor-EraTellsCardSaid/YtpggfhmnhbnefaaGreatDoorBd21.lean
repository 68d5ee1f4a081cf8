/- Joined: AmM0, AmM, RnA, RmA, RmB, RmC. -/
import Derived.Test.YtpggfhmnhbnefaaGreatDoorBd06
import Derived.Test.YtpggfhmnhbnefaaGreatDoorBd16
import Derived.Test.YtpggfhmnhbnefaaGreatDoorBd01
import Derived.Test.YtpggfhmnhbnefaaGreatDoorBd03
import Derived.Test.YtpggfhmnhbnefaaGreatDoorBd08
set_option linter.unusedVariables false
set_option linter.unusedSimpArgs false
namespace Go.Proofs.YtpggfhmnhbnefaaGreatDoor
open Go Go.Lib
namespace Am
def nc (l : List UInt8) : Prop := ∀ c ∈ l, c ≠ 58
theorem nc_dig {l : List UInt8} (h : l.all Num.dig = true) : nc l := by
 intro c hc e
 subst e
 have := List.all_eq_true.1 h 58 hc
 revert this; decide
theorem pre58 (c : UInt8) (l : List UInt8) : ([58] : List UInt8).isPrefixOf (c :: l) = (58 == c) := by
 rw [List.isPrefixOf, List.isPrefixOf, Bool.and_true]
theorem ix_none : ∀ l : List UInt8, nc l → index l [58] = -1 := by
 intro l
 induction l with
 | nil => intro _; rfl
 | cons c l ih =>
  intro h
  have h1 : (58 == c) = false := by rw [beq_eq_false_iff_ne]; exact fun e => h c (List.mem_cons_self ..) e.symm
  unfold index
  rw [pre58, h1, ih (fun x hx => h x (List.mem_cons_of_mem _ hx))]
  rfl
theorem ix_at : ∀ (a r : List UInt8), nc a → index (a ++ 58 :: r) [58] = (a.length : Int) := by
 intro a
 induction a with
 | nil => intro r _; rw [List.nil_append]; unfold index; rw [pre58]; rfl
 | cons c a ih =>
  intro r h
  have h1 : (58 == c) = false := by rw [beq_eq_false_iff_ne]; exact fun e => h c (List.mem_cons_self ..) e.symm
  have h2 := ih r (fun x hx => h x (List.mem_cons_of_mem _ hx))
  have h3 : ((a.length : Int) == -1) = false := by rw [beq_eq_false_iff_ne]; omega
  rw [List.cons_append]
  unfold index
  rw [pre58, h1, h2, h3]
  simp
theorem splitK_at (a r : List UInt8) (k : Nat) (h : nc a) : splitK [58] 0 (k + 1) (a ++ 58 :: r) = a :: splitK [58] 0 k r := by
 have h3 : ((a.length : Int) == -1) = false := by rw [beq_eq_false_iff_ne]; omega
 conv => lhs; unfold splitK
 rw [ix_at a r h, h3]
 simp
theorem splitK_no (k : Nat) (l : List UInt8) (h : nc l) : splitK [58] 0 k l = [l] := by
 cases k with
 | zero => rfl
 | succ k => unfold splitK; rw [ix_none l h]; rfl
theorem pcs_data (s : ByteArray) : (pcs s).map (·.data.toList) = splitK [58] 0 (min 3 (s.size + 1) - 1) s.data.toList := splitB_data _ _ _ _
theorem isK_l (s : ByteArray) (k : Nat) : isK s k = match ((pcs s).map (·.data.toList))[k]? with | some x => isP k x | none => true := by
 unfold isK
 rw [List.getElem?_map]
 cases (pcs s)[k]? <;> rfl
theorem vK_l (s : ByteArray) (k : Nat) : vK s k = match ((pcs s).map (·.data.toList))[k]? with | some x => (Num.val 0 x : Int) | none => 0 := by
 unfold vK
 rw [List.getElem?_map]
 cases (pcs s)[k]? <;> rfl
theorem pcs3 {s : ByteArray} {a b c : List UInt8} (e : s.data.toList = a ++ 58 :: (b ++ 58 :: c)) (ha : nc a) (hb : nc b) : (pcs s).map (·.data.toList) = [a, b, c] := by
 have hl : 2 ≤ s.size := by rw [← ab_len s, e]; simp; omega
 rw [pcs_data, e, show min 3 (s.size + 1) - 1 = 2 by omega, splitK_at a _ 1 ha, splitK_at b _ 0 hb]
 rfl
theorem alone {t : ByteArray} (h : 2 ≤ t.size) : (t.toList == [45]) = false := by
 rw [beq_eq_false_iff_ne, ByteArray.toList_eq]
 intro e
 have := ab_len t
 rw [e] at this
 simp at this; omega
theorem rd_no {t : ByteArray} (h2 : 2 ≤ t.size) (h : okK (un t) = false) : rd t = (0, 2) := by
 unfold rd
 rw [alone h2, h]; rfl
end Am
namespace Am
end Am
end Go.Proofs.YtpggfhmnhbnefaaGreatDoor
set_option linter.unusedVariables false
set_option linter.unusedSimpArgs false
namespace Go.Proofs.YtpggfhmnhbnefaaGreatDoor
open Go.RowKit
namespace Num
def dB (n : Int) : ByteArray := ⟨(Lib.decDigits n.toNat).toArray⟩
theorem one_tab : ∀ n : Fin 10, (⟨#[48, 49, 50, 51, 52, 53, 54, 55, 56, 57]⟩ : ByteArray).extract n.val (n.val + 1) = ⟨#[UInt8.ofNat (48 + n.val)]⟩ := by decide +kernel
theorem dB_one {n : Int} (h0 : 0 ≤ n) (h1 : n < 10) : (⟨#[48, 49, 50, 51, 52, 53, 54, 55, 56, 57]⟩ : ByteArray).extract n.toNat (n + 1).toNat = dB n := by
 have h := one_tab ⟨n.toNat, by omega⟩
 have e : (n + 1).toNat = n.toNat + 1 := by omega
 unfold dB
 rw [e, dec_small (by omega)]
 exact h
theorem dB_step {n : Int} (h : 10 ≤ n) : dB n = dB (n / 10) ++ dB (n % 10) := by
 unfold dB
 have e1 : (n / 10).toNat = n.toNat / 10 := by omega
 have e2 : (n % 10).toNat = n.toNat % 10 := by omega
 rw [e1, e2, dec_step (u := n.toNat) (by omega), dec_small (u := n.toNat % 10) (by omega)]
 apply ByteArray.ext
 apply Array.toList_inj.1
 rw [ByteArray.data_append, Array.toList_append]
theorem dB_size {n : Int} (h0 : 0 ≤ n) (h1 : n < 18446744073709551616) : (dB n).size ≤ 20 := by
 have := dec_short n.toNat (by omega)
 show (Lib.decDigits n.toNat).toArray.size ≤ 20
 rw [List.size_toArray]; exact this
theorem itoa_neg {n : Int} (h : n < 0) : (⟨(Lib.itoa n).toArray⟩ : ByteArray) = ⟨#[45]⟩ ++ dB (-n) := by
 unfold Lib.itoa dB
 rw [if_pos h]
 apply ByteArray.ext
 apply Array.toList_inj.1
 rw [ByteArray.data_append, Array.toList_append, show (-n).toNat = n.natAbs by omega]
 rfl
theorem itoa_pos {n : Int} (h : ¬ n < 0) : (⟨(Lib.itoa n).toArray⟩ : ByteArray) = dB n := by
 unfold Lib.itoa dB
 rw [if_neg h]
end Num
set_option maxHeartbeats 1000000 in
theorem rdg_one (n : Int) (w : World) (h0 : 0 ≤ n) (h1 : n < 10) :
  Calls Tryz.prog 122 #[.int .u64 n] w fun e w' => e = .returned (.string (Num.dB n)) ∧ Below w.heap.size w w' := by
 have E := Lib.hid (Num.dB_one h0 h1)
 go_enter Tryz.func122, Tryz.ntmps122
 go_wp2_with fail
 go_ret
 exact ⟨by rw [← E.out]; rfl, Below.refl _ _⟩
set_option maxHeartbeats 1000000 in
theorem rdg_all : ∀ (k : Nat) (n : Int) (w : World), n.toNat ≤ k → 0 ≤ n → n < 18446744073709551616 →
  Calls Tryz.prog 122 #[.int .u64 n] w fun e w' => e = .returned (.string (Num.dB n)) ∧ Below w.heap.size w w' := by
 intro k
 induction k with
 | zero => intro n w hk h0 h1; exact rdg_one n w h0 (by omega)
 | succ k ih =>
  intro n w hk h0 h1
  by_cases c : n < 10
  ·
   exact rdg_one n w h0 c
  ·
   have CA : Hid (∀ W, Calls Tryz.prog 122 #[.int .u64 (n / 10)] W fun e w' => e = .returned (.string (Num.dB (n / 10))) ∧ Below W.heap.size W w') := fun W => ih (n / 10) W (by omega) (by omega) (by omega)
   have CB : Hid (∀ W, Calls Tryz.prog 122 #[.int .u64 (n % 10)] W fun e w' => e = .returned (.string (Num.dB (n % 10))) ∧ Below W.heap.size W w') := fun W => rdg_one (n % 10) W (by omega) (by omega)
   have zA := Num.dB_size (n := n / 10) (by omega) (by omega)
   have zB := Num.dB_size (n := n % 10) (by omega) (by omega)
   have E := Lib.hid (Num.dB_step (n := n) (by omega))
   generalize Num.dB (n / 10) = A at *
   generalize Num.dB (n % 10) = B' at *
   generalize Num.dB n = R at *
   clear ih hk
   go_enter Tryz.func122, Tryz.ntmps122
   go_wp2_with fail
   refine (CA.out _).mono ?_; rintro e w1 ⟨rfl, b1⟩
   have d1 : Below w.heap.size w w1 := below_step gr0 b1
   have B1 := Lib.hid d1
   clear b1 d1
   go_wp2_with fail
   refine (CB.out _).mono ?_; rintro e w2 ⟨rfl, b2⟩
   have d2 : Below w1.heap.size w1 w2 := below_step gr0 b2
   have B2 := Lib.hid (below_step B1.out d2)
   clear b2 d2 B1
   go_wp2_with fail
   go_ret
   exact ⟨by rw [E.out]; rfl, B2.out⟩
theorem rdg_any (n : Int) (w : World) (h0 : 0 ≤ n) (h1 : n < 18446744073709551616) :
  Calls Tryz.prog 122 #[.int .u64 n] w fun e w' => e = .returned (.string (Num.dB n)) ∧ Below w.heap.size w w' := rdg_all _ n w (Nat.le_refl _) h0 h1
set_option maxHeartbeats 1000000 in
theorem rtext_any (n : Int) (w : World) (h0 : -9223372036854775808 ≤ n) (h1 : n ≤ 9223372036854775807) :
  Calls Tryz.prog 70 #[.int .i64 n] w fun e w' => e = .returned (.string ⟨(Lib.itoa n).toArray⟩) ∧ Below w.heap.size w w' := by
 by_cases h : n < 0
 ·
  have E := Lib.hid (Num.itoa_neg h)
  have CA : Hid (∀ W, Calls Tryz.prog 122 #[.int .u64 (-(n + 1) + 1)] W fun e w' => e = .returned (.string (Num.dB (-n))) ∧ Below W.heap.size W w') := fun W => by
   rw [show -(n + 1) + 1 = -n by omega]; exact rdg_any (-n) W (by omega) (by omega)
  have zA := Num.dB_size (n := -n) (by omega) (by omega)
  generalize Num.dB (-n) = A at *
  generalize (⟨(Lib.itoa n).toArray⟩ : ByteArray) = R at *
  go_enter Tryz.func70, Tryz.ntmps70
  go_wp2_with fail
  refine (CA.out _).mono ?_; rintro e w1 ⟨rfl, b1⟩
  have d1 : Below w.heap.size w w1 := below_step gr0 b1
  have B1 := Lib.hid d1
  clear b1 d1
  go_wp2_with fail
  go_ret
  exact ⟨by rw [E.out]; rfl, B1.out⟩
 ·
  have E := Lib.hid (Num.itoa_pos h)
  have CA : Hid (∀ W, Calls Tryz.prog 122 #[.int .u64 n] W fun e w' => e = .returned (.string (Num.dB n)) ∧ Below W.heap.size W w') := fun W => rdg_any n W (by omega) (by omega)
  generalize Num.dB n = A at *
  generalize (⟨(Lib.itoa n).toArray⟩ : ByteArray) = R at *
  go_enter Tryz.func70, Tryz.ntmps70
  go_wp2_with fail
  refine (CA.out _).mono ?_; rintro e w1 ⟨rfl, b1⟩
  have d1 : Below w.heap.size w w1 := below_step gr0 b1
  have B1 := Lib.hid d1
  clear b1 d1
  go_wp2_with fail
  go_ret
  exact ⟨by rw [E.out]; rfl, B1.out⟩
end Go.Proofs.YtpggfhmnhbnefaaGreatDoor
set_option linter.unusedVariables false
set_option linter.unusedSimpArgs false
namespace Go.Proofs.YtpggfhmnhbnefaaGreatDoor
open Go.RowKit Go.Sort
namespace Am
theorem two_tab : ∀ n : Fin 100, (if (n.val : Int) < 10 then 48 :: Lib.itoa (n.val : Int) else Lib.itoa (n.val : Int)) = Lib.itoa ((n.val : Int) / 10) ++ Lib.itoa ((n.val : Int) % 10) := by decide +kernel
theorem two_dd {n : Int} (h0 : 0 ≤ n) (h1 : n < 100) : (if n < 10 then ⟨#[48]⟩ ++ tI n else tI n) = dd n := by
 have h := two_tab ⟨n.toNat, by omega⟩
 have e : ((⟨n.toNat, by omega⟩ : Fin 100).val : Int) = n := by show ((n.toNat : Nat) : Int) = n; omega
 rw [e] at h
 unfold dd tI
 apply ByteArray.ext
 apply Array.toList_inj.1
 rw [ByteArray.data_append, Array.toList_append]
 by_cases c : n < 10
 ·
  rw [if_pos c] at h ⊢
  rw [ByteArray.data_append, Array.toList_append]
  exact h
 ·
  rw [if_neg c] at h ⊢
  exact h
end Am
theorem rtwo_any (n : Int) (w : World) (n0 : 0 ≤ n) (n1 : n < 100) :
  Calls Tryz.prog 107 #[.int .i64 n] w fun e w' => e = .returned (.string (Am.dd n)) ∧ Below w.heap.size w w' := by
 rw [← Am.two_dd n0 n1]
 have CT : Hid (∀ W, Calls Tryz.prog 70 #[.int .i64 n] W fun e w' => e = .returned (.string (Am.tI n)) ∧ Below W.heap.size W w') := fun W => rtext_any n W (by omega) (by omega)
 have z := Am.tI_size n (by omega) (by omega)
 generalize Am.tI n = T at CT z ⊢
 by_cases c : n < 10
 ·
  rw [if_pos c]
  go_enter Tryz.func107, Tryz.ntmps107
  go_wp2_with fail
  refine (CT.out _).mono ?_; rintro e w1 ⟨rfl, b1⟩
  have d1 : Below w.heap.size w w1 := below_step gr0 b1
  have B1 := Lib.hid d1
  clear b1 d1
  go_wp2_with fail
  go_ret
  exact ⟨rfl, (grB B1)⟩
 ·
  rw [if_neg c]
  go_enter Tryz.func107, Tryz.ntmps107
  go_wp2_with fail
  refine (CT.out _).mono ?_; rintro e w1 ⟨rfl, b1⟩
  have d1 : Below w.heap.size w w1 := below_step gr0 b1
  have B1 := Lib.hid d1
  clear b1 d1
  go_wp2_with fail
  go_ret
  exact ⟨rfl, (grB B1)⟩
theorem rtI (n : Int) (h0 : -9223372036854775808 ≤ n) (h1 : n ≤ 9223372036854775807) : ∃ A, A = Am.tI n ∧ A.size ≤ 21 ∧ Hid (∀ W, Calls Tryz.prog 70 #[.int .i64 n] W fun e w' => e = .returned (.string A) ∧ Below W.heap.size W w') :=
 ⟨_, rfl, Am.tI_size n h0 h1, fun W => rtext_any n W h0 h1⟩
theorem rdd (n : Int) (n0 : 0 ≤ n) (n1 : n < 100) : ∃ A, A = Am.dd n ∧ A.size ≤ 42 ∧ Hid (∀ W, Calls Tryz.prog 107 #[.int .i64 n] W fun e w' => e = .returned (.string A) ∧ Below W.heap.size W w') :=
 ⟨_, rfl, Am.dd_size n n0 n1, fun W => rtwo_any n W n0 n1⟩
set_option maxHeartbeats 2000000 in
theorem ratext_pos (n : Int) (w : World) (n0 : 0 < n) (n1 : n ≤ 604799) :
  Calls Tryz.prog 50 #[.int .i64 n] w fun e w' => e = .returned (.tuple #[.string (Am.w1 n), .int .i64 0]) ∧ Below w.heap.size w w' := by
 obtain ⟨A, hA, zA, CA⟩ := rtI (n / 3600) (by omega) (by omega)
 obtain ⟨D, hD, zD, CD⟩ := rdd (n / 60 % 60) (by omega) (by omega)
 obtain ⟨E, hE, zE, CE⟩ := rdd (n % 60) (by omega) (by omega)
 have g1 : (n == 0) = false := beq_eq_false_iff_ne.2 (by omega)
 have g2 : ¬ n < 0 := by omega
 have g3 : ¬ n ≤ -604800 := by omega
 have g4 : ¬ 604800 ≤ n := by omega
 have e0 : (⟨#[]⟩ : ByteArray) ++ A = A := by apply ByteArray.ext; apply Array.toList_inj.1; simp
 have e1 : (A ++ ⟨#[58]⟩ : ByteArray).size = A.size + 1 := by rw [ByteArray.size_append]; rfl
 have e2 : (A ++ ⟨#[58]⟩ ++ D : ByteArray).size = A.size + 1 + D.size := by rw [ByteArray.size_append, e1]
 have e3 : (⟨#[58]⟩ ++ E : ByteArray).size = 1 + E.size := by rw [ByteArray.size_append]; rfl
 by_cases hs : n % 60 = 0
 ·
  have HR := Lib.hid (show Am.w1 n = A ++ ⟨#[58]⟩ ++ D by unfold Am.w1 Am.wr; rw [hA, hD, if_pos hs])
  have g5 : ¬ 0 < n % 60 := by omega
  generalize Am.w1 n = R at *
  clear hA hD hE CE zE e3
  go_enter Tryz.func50, Tryz.ntmps50
  go_wp2_with fail
  refine (CA.out _).mono ?_; rintro e w1 ⟨rfl, b1⟩
  have d1 : Below w.heap.size w w1 := below_step gr0 b1
  have B1 := Lib.hid d1
  clear b1 d1
  go_wp2_with fail
  refine (CD.out _).mono ?_; rintro e w2 ⟨rfl, b2⟩
  have d2 : Below w1.heap.size w1 w2 := below_step gr0 b2
  have B2 := Lib.hid (below_step B1.out d2)
  clear b2 d2 B1
  go_wp2_with fail
  go_ret2
  exact ⟨by rw [HR.out]; first | rfl | (rw [e0]; rfl), B2.out⟩
 ·
  have HR := Lib.hid (show Am.w1 n = A ++ ⟨#[58]⟩ ++ D ++ (⟨#[58]⟩ ++ E) by unfold Am.w1 Am.wr; rw [hA, hD, hE, if_neg hs])
  have g5 : 0 < n % 60 := by omega
  generalize Am.w1 n = R at *
  clear hA hD hE
  go_enter Tryz.func50, Tryz.ntmps50
  go_wp2_with fail
  refine (CA.out _).mono ?_; rintro e w1 ⟨rfl, b1⟩
  have d1 : Below w.heap.size w w1 := below_step gr0 b1
  have B1 := Lib.hid d1
  clear b1 d1
  go_wp2_with fail
  refine (CD.out _).mono ?_; rintro e w2 ⟨rfl, b2⟩
  have d2 : Below w1.heap.size w1 w2 := below_step gr0 b2
  have B2 := Lib.hid (below_step B1.out d2)
  clear b2 d2 B1
  go_wp2_with fail
  refine (CE.out _).mono ?_; rintro e w3 ⟨rfl, b3⟩
  have d3 : Below w2.heap.size w2 w3 := below_step gr0 b3
  have B3 := Lib.hid (below_step B2.out d3)
  clear b3 d3 B2
  go_wp2_with fail
  go_ret2
  exact ⟨by rw [HR.out]; first | rfl | (rw [e0]; rfl), B3.out⟩
set_option maxHeartbeats 2000000 in
theorem ratext_neg (n : Int) (w : World) (n0 : n < 0) (n1 : -604799 ≤ n) :
  Calls Tryz.prog 50 #[.int .i64 n] w fun e w' => e = .returned (.tuple #[.string (⟨#[45]⟩ ++ Am.w1 (-n)), .int .i64 0]) ∧ Below w.heap.size w w' := by
 obtain ⟨A, hA, zA, CA⟩ := rtI (-n / 3600) (by omega) (by omega)
 obtain ⟨D, hD, zD, CD⟩ := rdd (-n / 60 % 60) (by omega) (by omega)
 obtain ⟨E, hE, zE, CE⟩ := rdd (-n % 60) (by omega) (by omega)
 have g1 : (n == 0) = false := beq_eq_false_iff_ne.2 (by omega)
 have g3 : ¬ n ≤ -604800 := by omega
 have g4 : ¬ 604800 ≤ n := by omega
 have e0 : (⟨#[45]⟩ ++ A : ByteArray).size = 1 + A.size := by rw [ByteArray.size_append]; rfl
 have e1 : (⟨#[45]⟩ ++ A ++ ⟨#[58]⟩ : ByteArray).size = 1 + A.size + 1 := by rw [ByteArray.size_append, e0]; rfl
 have e2 : (⟨#[45]⟩ ++ A ++ ⟨#[58]⟩ ++ D : ByteArray).size = 1 + A.size + 1 + D.size := by rw [ByteArray.size_append, e1]
 have e3 : (⟨#[58]⟩ ++ E : ByteArray).size = 1 + E.size := by rw [ByteArray.size_append]; rfl
 by_cases hs : -n % 60 = 0
 ·
  have HR := Lib.hid (show ⟨#[45]⟩ ++ Am.w1 (-n) = ⟨#[45]⟩ ++ A ++ ⟨#[58]⟩ ++ D by unfold Am.w1 Am.wr; rw [hA, hD, if_pos hs]; simp only [ByteArray.append_assoc])
  have g5 : ¬ 0 < -n % 60 := by omega
  generalize ⟨#[45]⟩ ++ Am.w1 (-n) = R at *
  clear hA hD hE CE zE e3
  generalize hm : -n = m at *
  have m0 : 0 < m := by omega
  have m1 : m ≤ 604799 := by omega
  go_enter Tryz.func50, Tryz.ntmps50
  go_wp2_with fail
  refine (CA.out _).mono ?_; rintro e w1 ⟨rfl, b1⟩
  have d1 : Below w.heap.size w w1 := below_step gr0 b1
  have B1 := Lib.hid d1
  clear b1 d1
  go_wp2_with fail
  refine (CD.out _).mono ?_; rintro e w2 ⟨rfl, b2⟩
  have d2 : Below w1.heap.size w1 w2 := below_step gr0 b2
  have B2 := Lib.hid (below_step B1.out d2)
  clear b2 d2 B1
  go_wp2_with fail
  go_ret2
  exact ⟨by rw [HR.out]; rfl, B2.out⟩
 ·
  have HR := Lib.hid (show ⟨#[45]⟩ ++ Am.w1 (-n) = ⟨#[45]⟩ ++ A ++ ⟨#[58]⟩ ++ D ++ (⟨#[58]⟩ ++ E) by unfold Am.w1 Am.wr; rw [hA, hD, hE, if_neg hs]; simp only [ByteArray.append_assoc])
  have g5 : 0 < -n % 60 := by omega
  generalize ⟨#[45]⟩ ++ Am.w1 (-n) = R at *
  clear hA hD hE
  generalize hm : -n = m at *
  have m0 : 0 < m := by omega
  have m1 : m ≤ 604799 := by omega
  go_enter Tryz.func50, Tryz.ntmps50
  go_wp2_with fail
  refine (CA.out _).mono ?_; rintro e w1 ⟨rfl, b1⟩
  have d1 : Below w.heap.size w w1 := below_step gr0 b1
  have B1 := Lib.hid d1
  clear b1 d1
  go_wp2_with fail
  refine (CD.out _).mono ?_; rintro e w2 ⟨rfl, b2⟩
  have d2 : Below w1.heap.size w1 w2 := below_step gr0 b2
  have B2 := Lib.hid (below_step B1.out d2)
  clear b2 d2 B1
  go_wp2_with fail
  refine (CE.out _).mono ?_; rintro e w3 ⟨rfl, b3⟩
  have d3 : Below w2.heap.size w2 w3 := below_step gr0 b3
  have B3 := Lib.hid (below_step B2.out d3)
  clear b3 d3 B2
  go_wp2_with fail
  go_ret2
  exact ⟨by rw [HR.out]; rfl, B3.out⟩
set_option maxHeartbeats 1000000 in
theorem ratext_any (n : Int) (w : World) :
  Calls Tryz.prog 50 #[.int .i64 n] w fun e w' => e = .returned (.tuple #[.string (Am.tx n).1, .int .i64 (Am.tx n).2]) ∧ Below w.heap.size w w' := by
 obtain ⟨ans, hans⟩ : ∃ ans, ans = Am.tx n := ⟨_, rfl⟩
 unfold Am.tx at hans ⊢
 by_cases c1 : n < -604799 ∨ 604799 < n
 ·
  rw [if_pos c1]
  clear hans
  rcases c1 with c | c
  ·
   have g3 : n ≤ -604800 := by omega
   clear c
   go_enter Tryz.func50, Tryz.ntmps50
   go_wp2_with fail
   go_ret2
   exact ⟨rfl, Below.refl _ _⟩
  ·
   have g3 : ¬ n ≤ -604800 := by omega
   have g4 : 604800 ≤ n := by omega
   clear c
   go_enter Tryz.func50, Tryz.ntmps50
   go_wp2_with fail
   go_ret2
   exact ⟨rfl, Below.refl _ _⟩
 ·
  rw [if_neg c1]
  by_cases c2 : n = 0
  ·
   subst c2
   rw [if_pos rfl]
   clear hans
   have e : Am.tI 0 = ⟨#[48]⟩ := by decide +kernel
   show Calls _ _ _ _ (fun e w' => e = .returned (.tuple #[.string (Am.tI 0), .int .i64 0]) ∧ Below w.heap.size w w')
   rw [e]
   go_enter Tryz.func50, Tryz.ntmps50
   go_wp2_with fail
   go_ret2
   exact ⟨rfl, Below.refl _ _⟩
  ·
   rw [if_neg c2]
   by_cases c3 : n < 0
   ·
    rw [if_pos c3]; exact ratext_neg n w c3 (by omega)
   ·
    rw [if_neg c3]; exact ratext_pos n w (by omega) (by omega)
namespace Am
def ptB (l : List UInt8) (lo hi : Int) : Bool := decide (lo ≤ (l.length : Int)) && (decide ((l.length : Int) ≤ hi) && Num.dgs l)
def ptV (l : List UInt8) (lo hi : Int) : Int := if ptB l lo hi then (Num.val 0 l : Int) else 0
end Am
set_option maxHeartbeats 2000000 in
set_option maxRecDepth 100000 in
theorem rpart_yes (s : ByteArray) (lo hi : Int) (w : World) (h1 : lo ≤ (s.size : Int)) (h2 : (s.size : Int) ≤ hi) (h3 : hi ≤ 3) (hd : s.data.toList.all Num.dig = true) (CD : Hid (∀ W, Calls Tryz.prog 162 #[.string s] W fun e w' => e = .returned (.bool true) ∧ W = w')) :
  Calls Tryz.prog 117 #[.string s, .int .i64 lo, .int .i64 hi] w fun e w' => e = .returned (.tuple #[.int .i64 (Num.val 0 s.data.toList : Int), .bool true]) ∧ w = w' := by
 obtain ⟨ans, hans⟩ : ∃ ans, ans = Num.val 0 s.data.toList := ⟨_, rfl⟩
 rw [← hans]
 have HA := Lib.hid hans; clear hans
 have HD := Lib.hid hd; clear hd
 have h4 : s.size ≤ 3 := by omega
 have g1 : ¬ (s.size : Int) < lo := by omega
 have g2 : ¬ hi < (s.size : Int) := by omega
 clear h1 h2 h3
 go_enter Tryz.func117, Tryz.ntmps117
 go_wp2_with fail
 refine (CD.out _).mono ?_; rintro e w1 ⟨rfl, rfl⟩
 go_wp2_with fail
 go_loopw [8, 9] (fun n i wr => ∃ k a : Nat, k ≤ s.size ∧ i = .int .i64 k ∧ n = .int .i64 a ∧ Hid (a + 1 ≤ 10 ^ k) ∧ Hid (Num.val a (s.data.toList.drop k) = ans) ∧ wr = w) (fun _ i _ => s.size - (intOf i).toNat)
 case atStart => exact ⟨0, 0, Nat.zero_le _, rfl, rfl, Nat.le_refl 1, HA.out.symm, rfl⟩
 case round =>
  obtain ⟨k, a, hk, rfl, rfl, hp, hr, hw⟩ := hrel
  obtain rfl : w = wr := hw.symm
  by_cases hlt : k < s.size
  ·
   have hb := s[k].toNat_lt
   have hdk : Num.dig s[k] = true := by
    have h := HD.out
    have := List.all_eq_true.1 h s[k] (by
     have e : s[k] = s.data.toList[k]'(by rw [Num.rn_len]; exact hlt) := rfl
     rw [e]; exact List.getElem_mem _)
    exact this
   have h48 : 48 ≤ s[k].toNat ∧ s[k].toNat ≤ 57 := by unfold Num.dig at hdk; exact of_decide_eq_true hdk
   obtain ⟨l48, l57⟩ := h48
   have ha : a ≤ 99999 := by
    have h := hp.out
    have := Nat.pow_le_pow_right (n := 10) (by omega) (show k ≤ 5 by omega)
    omega
   have hp' := Lib.hid (show Num.stp a s[k] + 1 ≤ 10 ^ (k + 1) by rw [Num.stp_eq, Nat.pow_succ]; have := hp.out; omega)
   have hr' := Lib.hid (show Num.val (Num.stp a s[k]) (s.data.toList.drop (k + 1)) = ans by rw [← hr.out, Num.rn_drop s k hlt, Num.val_cons])
   have hs' := Lib.hid (show 10 * (a : Int) + ((s[k].toNat : Int) - 48) = (Num.stp a s[k] : Int) by rw [Num.stp_eq]; omega)
   clear hdk hp hr
   go_wp2_with fail
   go_roundw
   case rel => exact ⟨k + 1, Num.stp a s[k], by omega, by go_num, by first | (rw [← hs'.out]; done) | (rw [← hs'.out]; rfl) | (congr 1; rw [← hs'.out]), hp', hr', by first | rfl | trivial⟩
   case measure => first | (simp [intOf]; done) | (simp [intOf]; omega)
  ·
   have hyes := Lib.hid (show a = ans by rw [← hr.out, List.drop_of_length_le (by rw [Num.rn_len]; omega)]; rfl)
   go_wp2_with fail
   go_ret2
   exact ⟨by rw [hyes.out]; rfl, rfl⟩
theorem rpart_no (s : ByteArray) (lo hi : Int) (w : World) (h : (s.size : Int) < lo ∨ (¬ (s.size : Int) < lo ∧ hi < (s.size : Int))) :
  Calls Tryz.prog 117 #[.string s, .int .i64 lo, .int .i64 hi] w fun e w' => e = .returned (.tuple #[.int .i64 0, .bool false]) ∧ w = w' := by
 rcases h with h | ⟨h, h2⟩
 ·
  go_enter Tryz.func117, Tryz.ntmps117
  go_wp2_with fail
  go_ret2
  exact ⟨rfl, rfl⟩
 ·
  go_enter Tryz.func117, Tryz.ntmps117
  go_wp2_with fail
  go_ret2
  exact ⟨rfl, rfl⟩
theorem rpart_dig (s : ByteArray) (lo hi : Int) (w : World) (h1 : ¬ (s.size : Int) < lo) (h2 : ¬ hi < (s.size : Int)) (CD : Hid (∀ W, Calls Tryz.prog 162 #[.string s] W fun e w' => e = .returned (.bool false) ∧ W = w')) :
  Calls Tryz.prog 117 #[.string s, .int .i64 lo, .int .i64 hi] w fun e w' => e = .returned (.tuple #[.int .i64 0, .bool false]) ∧ w = w' := by
 go_enter Tryz.func117, Tryz.ntmps117
 go_wp2_with fail
 refine (CD.out _).mono ?_; rintro e w1 ⟨rfl, rfl⟩
 go_wp2_with fail
 go_ret2
 exact ⟨rfl, rfl⟩
theorem rpart_any (s : ByteArray) (lo hi : Int) (w : World) (hs : s.size ≤ maxLen) (h3 : hi ≤ 3) :
  Calls Tryz.prog 117 #[.string s, .int .i64 lo, .int .i64 hi] w fun e w' => e = .returned (.tuple #[.int .i64 (Am.ptV s.data.toList lo hi), .bool (Am.ptB s.data.toList lo hi)]) ∧ w = w' := by
 have hl := Num.rn_len s
 unfold Am.ptV
 by_cases h1 : lo ≤ (s.size : Int)
 ·
  by_cases h2 : (s.size : Int) ≤ hi
  ·
   have CD := Lib.hid (fun W => rdigs_any s W hs)
   cases hd : Num.dgs s.data.toList
   ·
    have e : Am.ptB s.data.toList lo hi = false := by unfold Am.ptB; rw [hd]; simp
    rw [hd] at CD
    rw [e]
    exact rpart_dig s lo hi w (by omega) (by omega) CD
   ·
    have e : Am.ptB s.data.toList lo hi = true := by unfold Am.ptB; rw [hd, hl, decide_eq_true h1, decide_eq_true h2]; rfl
    rw [hd] at CD
    rw [e]
    have ha : s.data.toList.all Num.dig = true := by unfold Num.dgs at hd; rw [Bool.and_eq_true] at hd; exact hd.1
    exact rpart_yes s lo hi w h1 h2 h3 ha CD
  ·
   have e : Am.ptB s.data.toList lo hi = false := by unfold Am.ptB; rw [hl, decide_eq_false h2]; simp
   rw [e]
   exact rpart_no s lo hi w (.inr ⟨by omega, by omega⟩)
 ·
  have e : Am.ptB s.data.toList lo hi = false := by unfold Am.ptB; rw [hl, decide_eq_false h1]; simp
  rw [e]
  exact rpart_no s lo hi w (.inl (by omega))
namespace Am
def rest (cur : List UInt8) : List UInt8 → List (List UInt8)
 | [] => [cur]
 | c :: r => if c = 58 then cur :: rest [] r else rest (cur ++ [c]) r
theorem ext_l (s : ByteArray) (a b : Nat) : (s.extract a b).data.toList = (s.data.toList.take b).drop a := by
 rw [ByteArray.data_extract, Array.toList_extract]
 rw [List.drop_take]
theorem cur_next (l : List UInt8) (a k : Nat) (ha : a ≤ k) (hk : k < l.length) : (l.take (k + 1)).drop a = (l.take k).drop a ++ [l[k]] := by
 rw [List.take_succ_eq_append_getElem hk, List.drop_append_of_le_length (by rw [List.length_take]; omega)]
end Am
theorem info_str : (Tryz.prog.info? 9).map (fun i => (i.zero, i.size, i.bytes)) = some (some (.string ⟨#[]⟩), 1, 16) := by kernel_rfl
theorem rcut_parts {i0 : Option TypeInfo} {z : Value} {n b : Nat} (h : i0.map (fun i => (i.zero, i.size, i.bytes)) = some (some z, n, b)) : ∃ i, i0 = some i ∧ i.zero = some z ∧ i.size = n ∧ i.bytes = b := by
 cases i0 with
 | none => cases h
 | some i => simp at h; exact ⟨i, rfl, h.1, h.2.1, h.2.2⟩
def AnsT (P : List (List UInt8)) (w : World) (e : Ending) (w' : World) : Prop := ∃ (v : Value) (l : List ByteArray), StS w' v l ∧ l.map (·.data.toList) = P ∧ e = .returned v ∧ Below w.heap.size w w'
set_option maxHeartbeats 4000000 in
set_option maxRecDepth 100000 in
theorem rcut_any (s : ByteArray) (w : World) (hs : s.size ≤ 600) :
  Calls Tryz.prog 116 #[.string s] w (AnsT (Am.rest [] s.data.toList) w) := by
 obtain ⟨i0, hi, hz0, hz1, hz2⟩ := rcut_parts info_str
 have CT : Hid (∀ (a b : Nat), a ≤ b → b ≤ s.size → ∀ W, Sem.run Tryz.prog (Instr.slice 9 (.string s) (some (.int .i64 (a : Int))) (some (.int .i64 (b : Int))) none) W = .ok (.string (s.extract a b)) W) := fun a b h1 h2 W => by
  rw [run_slice_string W 9 s .i64 .i64 (a : Int) (b : Int) Tryz.underlying9 (by omega) (by omega) (by omega)]
  simp
 obtain ⟨tot, htot⟩ : ∃ tot, tot = Am.rest [] s.data.toList := ⟨_, rfl⟩
 rw [← htot]
 have HT := Lib.hid htot; clear htot
 go_enter Tryz.func116, Tryz.ntmps116
 go_wp2_with fail
 go_loopw [3, 4, 5] (fun v at_ i wr => ∃ (k a : Nat) (l : List ByteArray), k ≤ s.size + 1 ∧ a ≤ k ∧ l.length ≤ k ∧ i = .int .i64 k ∧ at_ = .int .i64 a ∧ Hid (wr.ownsRow w.heap.size 9 1 v l.length (l.map Value.string)) ∧ Hid (if k ≤ s.size then l.map (·.data.toList) ++ Am.rest ((s.data.toList.take k).drop a) (s.data.toList.drop k) = tot else l.map (·.data.toList) = tot) ∧ Hid (Below w.heap.size w wr)) (fun _ _ i _ => s.size + 1 - (intOf i).toNat)
 case atStart =>
  refine ⟨0, 0, [], by omega, Nat.le_refl _, Nat.le_refl _, rfl, rfl, World.ownsRow_nil _ _ _ _, ?_, Below.refl _ _⟩
  show (if 0 ≤ s.size then _ else _)
  rw [if_pos (Nat.zero_le _)]
  exact HT.out.symm
 case round =>
  obtain ⟨k, a, l, hk, ha, hlk, rfl, rfl, hown, hinv, hbw⟩ := hrel
  by_cases hks : k ≤ s.size
  ·
   have hinv' := hinv.out
   rw [if_pos hks] at hinv'
   by_cases hke : k = s.size
   ·
    subst hke
    have F := CT.out a s.size ha hks
    have hX := Am.ext_l s a s.size
    generalize s.extract a s.size = X at F hX
    have HI := Lib.hid (show (if s.size + 1 ≤ s.size then (l ++ [X]).map (·.data.toList) ++ Am.rest ((s.data.toList.take (s.size + 1)).drop (s.size + 1)) (s.data.toList.drop (s.size + 1)) = tot else (l ++ [X]).map (·.data.toList) = tot) from by
     rw [if_neg (by omega), List.map_append, ← hinv', List.drop_of_length_le (l := s.data.toList) (by rw [Num.rn_len]; omega)]
     show _ ++ [X.data.toList] = _ ++ [_]
     rw [hX])
    clear hinv hinv' hX CT
    go_wp2_with (at_builtin; refine wpList_append_own _ rfl _ _ 22 rfl w.heap.size 9 i0 (.string ⟨#[]⟩) 1 16 Tryz.underlying22 hi hz0 hz1 hz2 rfl (by decide) _ _ _ rfl (hown.out.alloc _) ⟨wr.heap.size, 0, none⟩ 1 1 [.string X] rfl rfl (by intro j u hj; match j, hj with | 0, hj => (simp at hj; subst hj; simp [go_sem])) (by intro u hu; simp at hu; subst hu; rfl) (by unfold maxLen; omega) (by omega) (by have := hbw.out.size; simp; omega) ?_)
    intro v6 w6 own6 grow6 _
    have B6 := Lib.hid (show Below w.heap.size w w6 from ((hbw.out.alloc hbw.out.size _).trans (below_grown grow6 (by have := hbw.out.size; simp; omega) (own_row hown.out))))
    have O6 := Lib.hid (show w6.ownsRow w.heap.size 9 1 v6 (l ++ [X]).length ((l ++ [X]).map Value.string) from by rw [List.length_append, List.map_append]; exact own6)
    clear own6 grow6 hown hbw
    go_wp2_with fail
    go_roundw
    case rel => exact ⟨s.size + 1, s.size + 1, l ++ [X], by omega, Nat.le_refl _, by rw [List.length_append]; show l.length + 1 ≤ _; omega, by go_num, by go_num, O6, HI, B6⟩
    case measure => first | (simp [intOf]; done) | (simp [intOf]; omega)
   ·
    have hlt : k < s.size := by omega
    have F := CT.out a k ha hks
    have hX := Am.ext_l s a k
    generalize s.extract a k = X at F hX
    have g1 : ((k : Int) == (s.size : Int)) = false := by rw [beq_eq_false_iff_ne]; omega
    have IX := fun W => rn_ix s k hlt W
    have hget : s.data.toList[k]'(by rw [Num.rn_len]; exact hlt) = s[k] := rfl
    by_cases h58 : s[k] = 58
    ·
     have HI := Lib.hid (show (if k + 1 ≤ s.size then (l ++ [X]).map (·.data.toList) ++ Am.rest ((s.data.toList.take (k + 1)).drop (k + 1)) (s.data.toList.drop (k + 1)) = tot else (l ++ [X]).map (·.data.toList) = tot) from by
      rw [if_pos (by omega), List.map_append, ← hinv', Num.rn_drop s k hlt, Am.rest, if_pos h58, List.append_assoc]
      have : (s.data.toList.take (k + 1)).drop (k + 1) = [] := List.drop_of_length_le (by rw [List.length_take]; omega)
      rw [this]
      show _ ++ ([X.data.toList] ++ _) = _
      rw [hX]; rfl)
     rw [h58] at IX
     have IX : ∀ W, Sem.run Tryz.prog (Instr.index 9 (.string s) (.int .i64 (k : Int))) W = .ok (.int .u8 58) W := IX
     clear hinv hinv' hX CT h58
     go_wp2_with (at_builtin; refine wpList_append_own _ rfl _ _ 22 rfl w.heap.size 9 i0 (.string ⟨#[]⟩) 1 16 Tryz.underlying22 hi hz0 hz1 hz2 rfl (by decide) _ _ _ rfl (hown.out.alloc _) ⟨wr.heap.size, 0, none⟩ 1 1 [.string X] rfl rfl (by intro j u hj; match j, hj with | 0, hj => (simp at hj; subst hj; simp [go_sem])) (by intro u hu; simp at hu; subst hu; rfl) (by unfold maxLen; omega) (by omega) (by have := hbw.out.size; simp; omega) ?_)
     intro v6 w6 own6 grow6 _
     have B6 := Lib.hid (show Below w.heap.size w w6 from ((hbw.out.alloc hbw.out.size _).trans (below_grown grow6 (by have := hbw.out.size; simp; omega) (own_row hown.out))))
     have O6 := Lib.hid (show w6.ownsRow w.heap.size 9 1 v6 (l ++ [X]).length ((l ++ [X]).map Value.string) from by rw [List.length_append, List.map_append]; exact own6)
     clear own6 grow6 hown hbw
     go_wp2_with fail
     go_roundw
     case rel => exact ⟨k + 1, k + 1, l ++ [X], by omega, Nat.le_refl _, by rw [List.length_append]; show l.length + 1 ≤ _; omega, by go_num, by go_num, O6, HI, B6⟩
     case measure => first | (simp [intOf]; done) | (simp [intOf]; omega)
    ·
     have HI := Lib.hid (show (if k + 1 ≤ s.size then l.map (·.data.toList) ++ Am.rest ((s.data.toList.take (k + 1)).drop a) (s.data.toList.drop (k + 1)) = tot else l.map (·.data.toList) = tot) from by
      rw [if_pos (by omega), ← hinv', Num.rn_drop s k hlt, Am.rest, if_neg h58, Am.cur_next _ a k ha (by rw [Num.rn_len]; exact hlt), hget])
     have g2 : ((s[k].toNat : Int) == 58) = false := by
      rw [beq_eq_false_iff_ne]
      intro h; exact h58 (UInt8.toNat_inj.1 (by rw [show (58 : UInt8).toNat = 58 from rfl]; omega))
     generalize (s[k].toNat : Int) = c at IX g2
     clear hinv hinv' hX CT h58 F
     go_wp2_with fail
     go_roundw
     case rel => exact ⟨k + 1, a, l, by omega, by omega, by omega, by go_num, rfl, hown, HI, hbw⟩
     case measure => first | (simp [intOf]; done) | (simp [intOf]; omega)
  ·
   have hinv' := Lib.hid (show l.map (·.data.toList) = tot from by have := hinv.out; rwa [if_neg hks] at this)
   clear hinv CT
   go_wp2_with fail
   go_ret
   exact ⟨_, l, Lst.own hown.out, hinv'.out, rfl, hbw.out⟩
namespace Am
theorem rest_nc : ∀ (l cur : List UInt8), nc l → rest cur l = [cur ++ l] := by
 intro l
 induction l with
 | nil => intro cur _; simp [rest]
 | cons c r ih =>
  intro cur h
  have hc : c ≠ 58 := h c List.mem_cons_self
  rw [rest, if_neg hc, ih _ (fun x hx => h x (List.mem_cons_of_mem _ hx)), List.append_assoc]
  rfl
theorem rest_at : ∀ (a cur r : List UInt8), nc a → rest cur (a ++ 58 :: r) = (cur ++ a) :: rest [] r := by
 intro a
 induction a with
 | nil => intro cur r _; simp [rest]
 | cons c a ih =>
  intro cur r h
  have hc : c ≠ 58 := h c List.mem_cons_self
  rw [List.cons_append, rest, if_neg hc, ih _ _ (fun x hx => h x (List.mem_cons_of_mem _ hx)), List.append_assoc]
  rfl
theorem rest_len : ∀ (l cur : List UInt8), 1 ≤ (rest cur l).length := by
 intro l
 induction l with
 | nil => intro cur; simp [rest]
 | cons c r ih =>
  intro cur
  rw [rest]
  split
  ·
   simp
  ·
   exact ih _
theorem first58 : ∀ l : List UInt8, nc l ∨ ∃ a r, l = a ++ 58 :: r ∧ nc a := by
 intro l
 induction l with
 | nil => exact .inl (fun c hc => by cases hc)
 | cons c r ih =>
  by_cases hc : c = 58
  ·
   subst hc; exact .inr ⟨[], r, rfl, fun c hc => by cases hc⟩
  ·
   rcases ih with h | ⟨a, r2, e, h⟩
   ·
    left; intro x hx; rcases List.mem_cons.1 hx with rfl | hx
    ·
     exact hc
    ·
     exact h x hx
   ·
    right; refine ⟨c :: a, r2, by rw [e]; rfl, ?_⟩
    intro x hx; rcases List.mem_cons.1 hx with rfl | hx
    ·
     exact hc
    ·
     exact h x hx
def fin3 (P : List (List UInt8)) : Int × Int :=
 match P with
 | [a] => if isP 0 a then (if (Num.val 0 a : Int) * 3600 ≤ 604799 then ((Num.val 0 a : Int) * 3600, 0) else (0, 1)) else (0, 2)
 | [a, b] => if isP 0 a && isP 1 b then (if (Num.val 0 b : Int) ≤ 59 ∧ (Num.val 0 a : Int) * 3600 + (Num.val 0 b : Int) * 60 ≤ 604799 then ((Num.val 0 a : Int) * 3600 + (Num.val 0 b : Int) * 60, 0) else (0, 1)) else (0, 2)
 | [a, b, c] => if isP 0 a && (isP 1 b && isP 2 c) then (if (Num.val 0 b : Int) ≤ 59 ∧ (Num.val 0 c : Int) ≤ 59 ∧ (Num.val 0 a : Int) * 3600 + (Num.val 0 b : Int) * 60 + (Num.val 0 c : Int) ≤ 604799 then ((Num.val 0 a : Int) * 3600 + (Num.val 0 b : Int) * 60 + (Num.val 0 c : Int), 0) else (0, 1)) else (0, 2)
 | _ => (0, 2)
theorem isP_nc {i : Int} {l : List UInt8} (h : isP i l = true) : nc l := by
 unfold isP at h
 rw [Bool.and_eq_true] at h
 exact nc_dig h.1
def mid (t : ByteArray) : Int × Int :=
 if okK t then (if vK t 1 < 60 ∧ vK t 2 < 60 ∧ vK t 0 * 3600 + vK t 1 * 60 + vK t 2 ≤ 604799 then (vK t 0 * 3600 + vK t 1 * 60 + vK t 2, 0) else (0, 1)) else (0, 2)
theorem pcs1 {s : ByteArray} (h : nc s.data.toList) : (pcs s).map (·.data.toList) = [s.data.toList] := by
 rw [pcs_data, splitK_no _ _ h]
theorem pcs2' {s : ByteArray} {a b : List UInt8} (e : s.data.toList = a ++ 58 :: b) (ha : nc a) (hb : nc b) : (pcs s).map (·.data.toList) = [a, b] := by
 rw [pcs_data, e]
 have hz : 1 ≤ s.size := by rw [← ab_len, e, List.length_append, List.length_cons]; omega
 obtain ⟨k, hk⟩ : ∃ k, min 3 (s.size + 1) - 1 = k + 1 := ⟨min 3 (s.size + 1) - 2, by omega⟩
 rw [hk, splitK_at _ _ _ ha, splitK_no _ _ hb]
theorem mid_eq (t : ByteArray) : mid t = fin3 (rest [] t.data.toList) := by
 unfold mid okK
 rw [isK_l, isK_l, isK_l, vK_l, vK_l, vK_l]
 rcases first58 t.data.toList with h | ⟨a, r, e, ha⟩
 ·
  rw [rest_nc _ _ h, pcs1 h]
  show (if (isP 0 t.data.toList && (true && true)) = true then _ else _) = fin3 [t.data.toList]
  show _ = if isP 0 t.data.toList = true then _ else _
  cases hp : isP 0 t.data.toList
  ·
   rw [if_neg (by decide), if_neg (by decide)]
  ·
   rw [if_pos (by decide), if_pos rfl]
   show (if (0 : Int) < 60 ∧ (0 : Int) < 60 ∧ (Num.val 0 t.data.toList : Int) * 3600 + 0 * 60 + 0 ≤ 604799 then (_, _) else _) = _
   by_cases hc : (Num.val 0 t.data.toList : Int) * 3600 ≤ 604799
   ·
    rw [if_pos hc, if_pos ⟨by decide, by decide, by omega⟩]
    show ((Num.val 0 t.data.toList : Int) * 3600 + 0 * 60 + 0, _) = _
    rw [show (Num.val 0 t.data.toList : Int) * 3600 + 0 * 60 + 0 = (Num.val 0 t.data.toList : Int) * 3600 by omega]
   ·
    rw [if_neg hc, if_neg (fun h => hc (by omega))]
 ·
  rcases first58 r with h | ⟨b, c, e2, hb⟩
  ·
   rw [e, rest_at _ _ _ ha, rest_nc _ _ h, pcs2' e ha h]
   show (if (isP 0 a && (isP 1 r && true)) = true then _ else _) = fin3 [a, r]
   show _ = if (isP 0 a && isP 1 r) = true then _ else _
   rw [Bool.and_true]
   cases hp : (isP 0 a && isP 1 r)
   ·
    rw [if_neg (by decide), if_neg (by decide)]
   ·
    rw [if_pos rfl, if_pos rfl]
    show (if (Num.val 0 r : Int) < 60 ∧ (0 : Int) < 60 ∧ (Num.val 0 a : Int) * 3600 + (Num.val 0 r : Int) * 60 + 0 ≤ 604799 then _ else _) = _
    by_cases hc : (Num.val 0 r : Int) ≤ 59 ∧ (Num.val 0 a : Int) * 3600 + (Num.val 0 r : Int) * 60 ≤ 604799
    ·
     rw [if_pos hc, if_pos ⟨by omega, by decide, by omega⟩]; show (_ + 0, _) = _; rw [Int.add_zero]; rfl
    ·
     rw [if_neg hc, if_neg (fun h => hc ⟨by omega, by omega⟩)]
  ·
   subst e2
   rw [e, rest_at _ _ _ ha, rest_at _ _ _ hb, pcs3 e ha hb]
   show (if (isP 0 a && (isP 1 b && isP 2 c)) = true then _ else _) = _
   rcases first58 c with h | ⟨d, f, e3, hd⟩
   ·
    rw [rest_nc _ _ h]
    show _ = fin3 [a, b, c]
    show _ = if (isP 0 a && (isP 1 b && isP 2 c)) = true then _ else _
    cases hp : (isP 0 a && (isP 1 b && isP 2 c))
    ·
     rw [if_neg (by decide), if_neg (by decide)]
    ·
     rw [if_pos rfl, if_pos rfl]
     show (if (Num.val 0 b : Int) < 60 ∧ (Num.val 0 c : Int) < 60 ∧ _ then _ else _) = _
     by_cases hc : (Num.val 0 b : Int) ≤ 59 ∧ (Num.val 0 c : Int) ≤ 59 ∧ (Num.val 0 a : Int) * 3600 + (Num.val 0 b : Int) * 60 + (Num.val 0 c : Int) ≤ 604799
     ·
      rw [if_pos hc, if_pos ⟨by omega, by omega, hc.2.2⟩]; rfl
     ·
      rw [if_neg hc, if_neg (fun h => hc ⟨by omega, by omega, h.2.2⟩)]
   ·
    have hno : isP 2 c = false := by
     cases hp : isP 2 c
     ·
      rfl
     ·
      exfalso
      have := isP_nc hp
      rw [e3] at this
      exact this 58 (List.mem_append_right _ List.mem_cons_self) rfl
    rw [hno, e3, rest_at _ _ _ hd]
    have := rest_len f []
    obtain ⟨y, z, hz⟩ : ∃ y z, rest [] f = y :: z := by
     cases hr : rest [] f with
     | nil => rw [hr] at this; simp at this
     | cons y z => exact ⟨y, z, rfl⟩
    rw [hz]
    have : (isP 0 a && (isP 1 b && false)) = false := by simp
    rw [this]
    rfl
theorem rd_mid (s : ByteArray) : rd s = if s.data.toList = [45] then (0, 0) else if neg s then ((-(mid (un s)).1), (mid (un s)).2) else mid (un s) := by
 have hb : (s.toList == [45]) = decide (s.data.toList = [45]) := by rw [ByteArray.toList_eq]; exact (Bool.beq_eq_decide_eq _ _)
 unfold rd mid
 rw [hb]
 by_cases h1 : s.data.toList = [45]
 ·
  rw [if_pos (by simpa using h1), if_pos h1]
 ·
  rw [if_neg (by simpa using h1), if_neg h1]
  cases ho : okK (un s)
  ·
   rw [if_pos rfl]; cases neg s <;> rfl
  ·
   rw [if_neg (by decide)]
   have hi : inR s = decide (vK (un s) 1 < 60 ∧ vK (un s) 2 < 60 ∧ vK (un s) 0 * 3600 + vK (un s) 1 * 60 + vK (un s) 2 ≤ 604799) := by
    unfold inR sum
    rw [Bool.decide_and, Bool.decide_and]
   rw [hi]
   by_cases hc : vK (un s) 1 < 60 ∧ vK (un s) 2 < 60 ∧ vK (un s) 0 * 3600 + vK (un s) 1 * 60 + vK (un s) 2 ≤ 604799
   ·
    rw [if_neg (by rw [decide_eq_true hc]; decide)]
    cases neg s
    ·
     rw [if_neg (by decide), if_neg (by decide), if_pos rfl, if_pos hc]; rfl
    ·
     rw [if_pos rfl, if_pos rfl, if_pos rfl, if_pos hc]; rfl
   ·
    rw [if_pos (by rw [decide_eq_false hc])]
    cases neg s
    ·
     rw [if_neg (by decide), if_pos rfl, if_neg hc]
    ·
     rw [if_pos rfl, if_pos rfl, if_neg hc]; rfl
end Am
end Go.Proofs.YtpggfhmnhbnefaaGreatDoor
