/- Joined: DsG, AmM0, AmM, AmP, ClF0, RuM. -/
import Derived.Test.YtjggjkeopbcmoaaGreatDoorBt10
import Derived.Test.YtjggjkeopbcmoaaGreatDoorBt05
import Derived.Test.YtjggjkeopbcmoaaGreatDoorBt16
import Derived.Test.YtjggjkeopbcmoaaGreatDoorBt12
import Derived.Test.YtjggjkeopbcmoaaGreatDoorBt15
import Derived.Test.YtjggjkeopbcmoaaGreatDoorBt17
import Derived.Test.YtjggjkeopbcmoaaGreatDoorBt26
set_option linter.unusedVariables false
set_option linter.unusedSimpArgs false
namespace Go.Proofs.YtjggjkeopbcmoaaGreatDoor
open Go.RowKit Go.Sort
structure Ds.Lv (w : World) (tp : TypeId) (p : Value) : Prop where
 tab : Lib.TabIs Tryz.prog w "internal/strconv.uint64pow10" .u64 Lib.pow10Tab
 rng : w.var? Tryz.prog "strconv.ErrRange" = some #[.iface tp p]
 days : Wd.DTabs w
theorem Ds.Lv.keep {w w' : World} {tp : TypeId} {p : Value} (h : Ds.Lv w tp p) (k : Below w.heap.size w w') : Ds.Lv w' tp p := ⟨var_keep k h.tab, var_keep k h.rng, h.days.on k⟩
namespace Wd
end Wd
namespace Ds
set_option maxRecDepth 100000 in
theorem rd_tab : ∀ k : Fin 4, ∀ w : Fin 7, ∀ d : Fin 32, Dr.onR k.val w.val d.val = true → rd (tx k.val w.val d.val).1.data.toList = ((k.val : Int), (w.val : Int), (d.val : Int), (0 : Int)) := by decide +kernel
theorem rd_tx {k w d : Int} (h : Dr.onR k w d = true) : rd (tx k w d).1.data.toList = (k, w, d, 0) := by
 have hb := Dr.onR_true.1 h
 obtain ⟨k', rfl⟩ : ∃ n : Nat, k = n := ⟨k.toNat, by omega⟩
 obtain ⟨w', rfl⟩ : ∃ n : Nat, w = n := ⟨w.toNat, by omega⟩
 obtain ⟨d', rfl⟩ : ∃ n : Nat, d = n := ⟨d.toNat, by omega⟩
 exact rd_tab ⟨k', by omega⟩ ⟨w', by omega⟩ ⟨d', by omega⟩ h
theorem tx_ok {k w d : Int} (h : Dr.onR k w d = true) : (tx k w d).2 = 0 ∧ (tx k w d).1.size ≤ 1000 := by
 have hb := Dr.onR_true.1 h
 have a := td_sz d (by omega) (by omega)
 have b := tw_sz w (by omega) (by omega)
 unfold tx
 rw [if_pos h]
 refine ⟨rfl, ?_⟩
 show (if k = 1 then ⟨#[108, 97, 115, 116]⟩ ++ tw w else if k = 2 then tw w ++ ⟨#[62, 61]⟩ ++ td d else if k = 3 then tw w ++ ⟨#[60, 61]⟩ ++ td d else td d : ByteArray).size ≤ 1000
 have e1 : (⟨#[108, 97, 115, 116]⟩ : ByteArray).size = 4 := rfl
 have e2 : (⟨#[62, 61]⟩ : ByteArray).size = 2 := rfl
 have e3 : (⟨#[60, 61]⟩ : ByteArray).size = 2 := rfl
 split
 ·
  rw [ByteArray.size_append]; omega
 ·
  split
  ·
   rw [ByteArray.size_append, ByteArray.size_append]; omega
  ·
   split
   ·
    rw [ByteArray.size_append, ByteArray.size_append]; omega
   ·
    omega
end Ds
end Go.Proofs.YtjggjkeopbcmoaaGreatDoor
set_option linter.unusedVariables false
set_option linter.unusedSimpArgs false
namespace Go.Proofs.YtjggjkeopbcmoaaGreatDoor
open Go Go.Lib
namespace Am
def nc (l : List UInt8) : Prop := ∀ c ∈ l, c ≠ 58
theorem nc_dig {l : List UInt8} (h : l.all Num.dig = true) : nc l := by
 intro c hc e
 subst e
 have := List.all_eq_true.1 h 58 hc
 revert this; decide
theorem pre58 (c : UInt8) (l : List UInt8) : ([58] : List UInt8).isPrefixOf (c :: l) = (58 == c) := by
 rw [List.isPrefixOf, List.isPrefixOf, Bool.and_true]
theorem ix_none : ∀ l : List UInt8, nc l → index l [58] = -1 := by
 intro l
 induction l with
 | nil => intro _; rfl
 | cons c l ih =>
  intro h
  have h1 : (58 == c) = false := by rw [beq_eq_false_iff_ne]; exact fun e => h c (List.mem_cons_self ..) e.symm
  unfold index
  rw [pre58, h1, ih (fun x hx => h x (List.mem_cons_of_mem _ hx))]
  rfl
theorem ix_at : ∀ (a r : List UInt8), nc a → index (a ++ 58 :: r) [58] = (a.length : Int) := by
 intro a
 induction a with
 | nil => intro r _; rw [List.nil_append]; unfold index; rw [pre58]; rfl
 | cons c a ih =>
  intro r h
  have h1 : (58 == c) = false := by rw [beq_eq_false_iff_ne]; exact fun e => h c (List.mem_cons_self ..) e.symm
  have h2 := ih r (fun x hx => h x (List.mem_cons_of_mem _ hx))
  have h3 : ((a.length : Int) == -1) = false := by rw [beq_eq_false_iff_ne]; omega
  rw [List.cons_append]
  unfold index
  rw [pre58, h1, h2, h3]
  simp
theorem splitK_at (a r : List UInt8) (k : Nat) (h : nc a) : splitK [58] 0 (k + 1) (a ++ 58 :: r) = a :: splitK [58] 0 k r := by
 have h3 : ((a.length : Int) == -1) = false := by rw [beq_eq_false_iff_ne]; omega
 conv => lhs; unfold splitK
 rw [ix_at a r h, h3]
 simp
theorem splitK_no (k : Nat) (l : List UInt8) (h : nc l) : splitK [58] 0 k l = [l] := by
 cases k with
 | zero => rfl
 | succ k => unfold splitK; rw [ix_none l h]; rfl
theorem pcs_data (s : ByteArray) : (pcs s).map (·.data.toList) = splitK [58] 0 (min 3 (s.size + 1) - 1) s.data.toList := splitB_data _ _ _ _
theorem isK_l (s : ByteArray) (k : Nat) : isK s k = match ((pcs s).map (·.data.toList))[k]? with | some x => isP k x | none => true := by
 unfold isK
 rw [List.getElem?_map]
 cases (pcs s)[k]? <;> rfl
theorem vK_l (s : ByteArray) (k : Nat) : vK s k = match ((pcs s).map (·.data.toList))[k]? with | some x => (Num.val 0 x : Int) | none => 0 := by
 unfold vK
 rw [List.getElem?_map]
 cases (pcs s)[k]? <;> rfl
theorem pcs3 {s : ByteArray} {a b c : List UInt8} (e : s.data.toList = a ++ 58 :: (b ++ 58 :: c)) (ha : nc a) (hb : nc b) : (pcs s).map (·.data.toList) = [a, b, c] := by
 have hl : 2 ≤ s.size := by rw [← ab_len s, e]; simp; omega
 rw [pcs_data, e, show min 3 (s.size + 1) - 1 = 2 by omega, splitK_at a _ 1 ha, splitK_at b _ 0 hb]
 rfl
theorem pcs2 {s : ByteArray} {a b : List UInt8} (e : s.data.toList = a ++ 58 :: b) (hl : 2 ≤ s.size) (ha : nc a) (hb : nc b) : (pcs s).map (·.data.toList) = [a, b] := by
 rw [pcs_data, e, show min 3 (s.size + 1) - 1 = 2 by omega, splitK_at a _ 1 ha, splitK_no 1 b hb]
theorem ok3 {s : ByteArray} {a b c : List UInt8} (e : s.data.toList = a ++ 58 :: (b ++ 58 :: c)) (ha : isP 0 a = true) (hb : isP 1 b = true) (hc : isP 2 c = true) :
  okK s = true ∧ vK s 0 = (Num.val 0 a : Int) ∧ vK s 1 = (Num.val 0 b : Int) ∧ vK s 2 = (Num.val 0 c : Int) := by
 have p := pcs3 e (nc_dig (isP_size ha).1) (nc_dig (isP_size hb).1)
 refine ⟨?_, by rw [vK_l, p]; rfl, by rw [vK_l, p]; rfl, by rw [vK_l, p]; rfl⟩
 unfold okK
 rw [isK_l, isK_l, isK_l, p]
 show (isP 0 a && (isP 1 b && isP 2 c)) = true
 rw [ha, hb, hc]; rfl
theorem ok2 {s : ByteArray} {a b : List UInt8} (e : s.data.toList = a ++ 58 :: b) (ha : isP 0 a = true) (hb : isP 1 b = true) :
  okK s = true ∧ vK s 0 = (Num.val 0 a : Int) ∧ vK s 1 = (Num.val 0 b : Int) ∧ vK s 2 = 0 := by
 have hl : 2 ≤ s.size := by
  rw [← ab_len s, e]
  unfold isP at hb
  rw [Bool.and_eq_true] at hb
  have := of_decide_eq_true hb.2
  simp; omega
 have p := pcs2 e hl (nc_dig (isP_size ha).1) (nc_dig (isP_size hb).1)
 refine ⟨?_, by rw [vK_l, p]; rfl, by rw [vK_l, p]; rfl, by rw [vK_l, p]; rfl⟩
 unfold okK
 rw [isK_l, isK_l, isK_l, p]
 show (isP 0 a && (isP 1 b && true)) = true
 rw [ha, hb]; rfl
theorem no1 {s : ByteArray} {a r : List UInt8} (e : s.data.toList = a ++ 58 :: r) (ha : nc a) (hp : isP 0 a = false) : okK s = false := by
 have hl : 1 ≤ s.size := by rw [← ab_len s, e]; simp; omega
 obtain ⟨k, hk⟩ : ∃ k, min 3 (s.size + 1) - 1 = k + 1 := ⟨min 3 (s.size + 1) - 2, by omega⟩
 have p : ((pcs s).map (·.data.toList))[0]? = some a := by rw [pcs_data, e, hk, splitK_at a r k ha]; rfl
 refine okK_no (k := 0) (by omega) ?_
 rw [isK_l, p]; exact hp
theorem un_dig {t : ByteArray} {c : UInt8} {r : List UInt8} (h : t.data.toList = c :: r) (hc : c ≠ 45) : un t = t ∧ neg t = false := by
 have e : trimPrefix t.data.toList [45] = t.data.toList := by rw [h]; exact Num.tp_other c r hc
 refine ⟨?_, ?_⟩
 ·
  unfold un; rw [e]
 ·
  unfold neg; rw [h, Num.hp_cons]; simpa using hc
theorem un_neg {t : ByteArray} {l : List UInt8} (h : t.data.toList = 45 :: l) : un t = ⟨l.toArray⟩ ∧ neg t = true := by
 refine ⟨?_, ?_⟩
 ·
  unfold un; rw [h, Num.tp_minus]
 ·
  unfold neg; rw [h, Num.hp_cons]; rfl
theorem alone {t : ByteArray} (h : 2 ≤ t.size) : (t.toList == [45]) = false := by
 rw [beq_eq_false_iff_ne, ByteArray.toList_eq]
 intro e
 have := ab_len t
 rw [e] at this
 simp at this; omega
theorem rd_of {t : ByteArray} {x y z : Int} {ng : Bool} (h2 : 2 ≤ t.size) (hn : neg t = ng) (h : okK (un t) = true ∧ vK (un t) 0 = x ∧ vK (un t) 1 = y ∧ vK (un t) 2 = z) :
  rd t = if y < 60 ∧ z < 60 ∧ x * 3600 + y * 60 + z ≤ 604799 then ((if ng then -(x * 3600 + y * 60 + z) else x * 3600 + y * 60 + z), 0) else (0, 1) := by
 obtain ⟨hk, v0, v1, v2⟩ := h
 unfold rd inR sum
 rw [alone h2, hk, v0, v1, v2, hn]
 simp only [Bool.false_eq_true, if_false]
 by_cases h1 : y < 60
 ·
  by_cases h3 : z < 60
  ·
   by_cases h4 : x * 3600 + y * 60 + z ≤ 604799
   ·
    simp [h1, h3, h4]
   ·
    simp [h1, h3, h4]
  ·
   simp [h1, h3]
 ·
  simp [h1]
theorem rd_no {t : ByteArray} (h2 : 2 ≤ t.size) (h : okK (un t) = false) : rd t = (0, 2) := by
 unfold rd
 rw [alone h2, h]; rfl
theorem h_tab : ∀ n : Fin 1000, (isP 0 (itoa (n.val : Int)) && (decide (Num.val 0 (itoa (n.val : Int)) = n.val) && (isP 0 (48 :: itoa (n.val : Int)) == decide (n.val < 100)))) = true := by decide +kernel
theorem d_tab : ∀ n : Fin 100, (isP 1 (itoa ((n.val : Int) / 10) ++ itoa ((n.val : Int) % 10)) && decide (Num.val 0 (itoa ((n.val : Int) / 10) ++ itoa ((n.val : Int) % 10)) = n.val)) = true := by decide +kernel
theorem e_tab : ∀ n : Fin 100, 10 ≤ n.val → (isP 1 (itoa (n.val : Int)) && decide (Num.val 0 (itoa (n.val : Int)) = n.val)) = true := by decide +kernel
theorem hours {n : Int} (h0 : 0 ≤ n) (h1 : n < 1000) : isP 0 (itoa n) = true ∧ (Num.val 0 (itoa n) : Int) = n ∧ isP 0 (48 :: itoa n) = decide (n < 100) := by
 have := h_tab ⟨n.toNat, by omega⟩
 rw [Bool.and_eq_true, Bool.and_eq_true, decide_eq_true_eq, beq_iff_eq] at this
 obtain ⟨a, b, c⟩ := this
 simp only [show ((n.toNat : Nat) : Int) = n by omega] at a b c
 refine ⟨a, by omega, ?_⟩
 rw [c, Bool.eq_iff_iff, decide_eq_true_eq, decide_eq_true_eq]; omega
theorem isP_12 {l : List UInt8} : isP 2 l = isP 1 l := rfl
theorem digits3 {n : Int} (h0 : 10 ≤ n) (h1 : n < 100) : isP 1 (itoa n) = true ∧ (Num.val 0 (itoa n) : Int) = n := by
 have := e_tab ⟨n.toNat, by omega⟩ (show 10 ≤ n.toNat by omega)
 rw [Bool.and_eq_true, decide_eq_true_eq] at this
 simp only [show ((n.toNat : Nat) : Int) = n by omega] at this
 exact ⟨this.1, by omega⟩
theorem isP_head {i : Int} {l : List UInt8} (h : isP i l = true) (hn : l ≠ []) : ∃ c r, l = c :: r ∧ c ≠ 45 := by
 cases l with
 | nil => exact absurd rfl hn
 | cons c r =>
  have := (isP_size (i := i.toNat) (l := c :: r))
  unfold isP at h
  rw [Bool.and_eq_true, List.all_cons, Bool.and_eq_true] at h
  exact ⟨c, r, rfl, (Num.dig_ne h.1.1).1⟩
end Am
namespace Am
theorem digits2 {n : Int} (h0 : 0 ≤ n) (h1 : n < 100) : isP 1 (dd n).data.toList = true ∧ (Num.val 0 (dd n).data.toList : Int) = n := by
 have := d_tab ⟨n.toNat, by omega⟩
 rw [Bool.and_eq_true, decide_eq_true_eq] at this
 simp only [show ((n.toNat : Nat) : Int) = n by omega] at this
 have e : (dd n).data.toList = itoa (n / 10) ++ itoa (n % 10) := by unfold dd tI; rw [ByteArray.data_append, Array.toList_append]
 rw [e]
 exact ⟨this.1, by omega⟩
end Am
end Go.Proofs.YtjggjkeopbcmoaaGreatDoor
set_option linter.unusedVariables false
set_option linter.unusedSimpArgs false
namespace Go.Proofs.YtjggjkeopbcmoaaGreatDoor
open Go.RowKit Go.Sort
namespace Am
theorem app_l (a b : ByteArray) : (a ++ b).data.toList = a.data.toList ++ b.data.toList := by rw [ByteArray.data_append, Array.toList_append]
theorem tI_l (n : Int) : (tI n).data.toList = Lib.itoa n := rfl
def Shape (t : ByteArray) (a : List UInt8) (m s : Int) : Prop := (t.data.toList = a ++ 58 :: (dd m).data.toList ∧ s = 0) ∨ t.data.toList = a ++ 58 :: ((dd m).data.toList ++ 58 :: (dd s).data.toList)
theorem shape_w1 (n : Int) : Shape (w1 n) (Lib.itoa (n / 3600)) (n / 60 % 60) (n % 60) := by
 unfold Shape w1 wr
 by_cases h : n % 60 = 0
 ·
  left
  rw [if_pos h, app_l, app_l, tI_l]
  exact ⟨by rw [List.append_assoc]; rfl, h⟩
 ·
  right
  rw [if_neg h, app_l, app_l, app_l, app_l, tI_l]
  simp
theorem shape_pre {t : ByteArray} {a : List UInt8} {m s : Int} (p u : ByteArray) (h : Shape t a m s) (hu : u.data.toList = p.data.toList ++ t.data.toList) : Shape u (p.data.toList ++ a) m s := by
 unfold Shape at *
 rw [hu]
 rcases h with ⟨e, h⟩ | e
 ·
  left; exact ⟨by rw [e, List.append_assoc], h⟩
 ·
  right; rw [e, List.append_assoc]
theorem shape_ok {t : ByteArray} {a : List UInt8} {m s : Int} (h : Shape t a m s) (ha : isP 0 a = true) (m0 : 0 ≤ m) (m1 : m < 60) (s0 : 0 ≤ s) (s1 : s < 60) : okK t = true ∧ vK t 0 = (Num.val 0 a : Int) ∧ vK t 1 = m ∧ vK t 2 = s := by
 obtain ⟨d1, d2⟩ := digits2 (n := m) m0 (by omega)
 obtain ⟨e1, e2⟩ := digits2 (n := s) s0 (by omega)
 rcases h with ⟨e, h⟩ | e
 ·
  have := ok2 e ha d1
  rw [d2] at this
  rw [h]; exact this
 ·
  have := ok3 e ha d1 (by rw [isP_12]; exact e1)
  rw [d2, e2] at this
  exact this
theorem shape_no {t : ByteArray} {a : List UInt8} {m s : Int} (h : Shape t a m s) (ha : nc a) (hp : isP 0 a = false) : okK t = false := by
 rcases h with ⟨e, h⟩ | e
 ·
  exact no1 e ha hp
 ·
  exact no1 e ha hp
theorem shape_size {t : ByteArray} {a : List UInt8} {m s : Int} (h : Shape t a m s) (ha : a ≠ []) : 2 ≤ t.size := by
 have := List.length_pos_iff.2 ha
 rw [← ab_len t]
 rcases h with ⟨e, h⟩ | e
 ·
  rw [e, List.length_append, List.length_cons]; omega
 ·
  rw [e, List.length_append, List.length_cons]; omega
theorem shape_head {t : ByteArray} {a : List UInt8} {m s : Int} {c : UInt8} {r : List UInt8} (h : Shape t a m s) (ha : a = c :: r) : ∃ r', t.data.toList = c :: r' := by
 rcases h with ⟨e, h⟩ | e
 ·
  rw [e, ha]; exact ⟨_, rfl⟩
 ·
  rw [e, ha]; exact ⟨_, rfl⟩
theorem back {n : Int} (n0 : 0 < n) (n1 : n ≤ 604799) : rd (w1 n) = (n, 0) ∧ rd (⟨#[45]⟩ ++ w1 n) = (-n, 0) ∧ rd (⟨#[48]⟩ ++ w1 n) = if n < 360000 then (n, 0) else (0, 2) := by
 have S := shape_w1 n
 obtain ⟨h1, h2, h3⟩ := hours (n := n / 3600) (by omega) (by omega)
 obtain ⟨c, r, hc, hc45⟩ := isP_head h1 (Num.itoa_ne _)
 have ne := Num.itoa_ne (n / 3600)
 have sum : n / 3600 * 3600 + n / 60 % 60 * 60 + n % 60 = n := by omega
 have ok := shape_ok S h1 (by omega) (by omega) (by omega) (by omega)
 rw [h2] at ok
 refine ⟨?_, ?_, ?_⟩
 ·
  obtain ⟨r', hl⟩ := shape_head S hc
  obtain ⟨u1, u2⟩ := un_dig hl hc45
  rw [rd_of (shape_size S ne) u2 (by rw [u1]; exact ok), sum, if_pos (by omega)]; rfl
 ·
  have hl : (⟨#[45]⟩ ++ w1 n : ByteArray).data.toList = 45 :: (w1 n).data.toList := by rw [app_l]; rfl
  obtain ⟨u1, u2⟩ := un_neg hl
  have S2 := shape_pre ⟨#[45]⟩ (⟨#[45]⟩ ++ w1 n) S (by rw [app_l])
  have S3 : Shape ⟨(w1 n).data.toList.toArray⟩ (Lib.itoa (n / 3600)) (n / 60 % 60) (n % 60) := S
  have ok3 := shape_ok S3 h1 (by omega) (by omega) (by omega) (by omega)
  rw [h2] at ok3
  rw [rd_of (shape_size S2 (by simp)) u2 (by rw [u1]; exact ok3), sum, if_pos (by omega)]; rfl
 ·
  have S2 := shape_pre ⟨#[48]⟩ (⟨#[48]⟩ ++ w1 n) S (by rw [app_l])
  have e48 : (⟨#[48]⟩ : ByteArray).data.toList ++ Lib.itoa (n / 3600) = 48 :: Lib.itoa (n / 3600) := rfl
  rw [e48] at S2
  obtain ⟨r', hl⟩ := shape_head S2 rfl
  obtain ⟨u1, u2⟩ := un_dig hl (by decide)
  by_cases hn : n < 360000
  ·
   have hp : isP 0 (48 :: Lib.itoa (n / 3600)) = true := by rw [h3]; exact decide_eq_true (by omega)
   have ok2 := shape_ok S2 hp (by omega) (by omega) (by omega) (by omega)
   have hv : Num.val 0 (48 :: Lib.itoa (n / 3600)) = Num.val 0 (Lib.itoa (n / 3600)) := by rw [Num.val_cons, show Num.stp 0 48 = 0 by rw [Num.stp_eq]; rfl]
   rw [hv, h2] at ok2
   rw [rd_of (shape_size S2 (by simp)) u2 (by rw [u1]; exact ok2), sum, if_pos (by omega), if_pos hn]; rfl
  ·
   have hp : isP 0 (48 :: Lib.itoa (n / 3600)) = false := by rw [h3]; exact decide_eq_false (by omega)
   have hd : nc (48 :: Lib.itoa (n / 3600)) := by
    intro x hx
    rcases List.mem_cons.1 hx with rfl | hx
    ·
     decide
    ·
     exact nc_dig (isP_size h1).1 x hx
   rw [rd_no (shape_size S2 (by simp)) (by rw [u1]; exact shape_no S2 hd hp), if_neg hn]
def pt (h m s : Int) : ByteArray := tI h ++ ⟨#[58]⟩ ++ tI m ++ ⟨#[58]⟩ ++ tI s
theorem pt_l (h m s : Int) : (pt h m s).data.toList = Lib.itoa h ++ 58 :: (Lib.itoa m ++ 58 :: Lib.itoa s) := by
 unfold pt
 rw [app_l, app_l, app_l, app_l, tI_l, tI_l, tI_l]
 simp
theorem parts {h m s : Int} (h0 : 0 ≤ h) (h1 : h ≤ 999) (m0 : 10 ≤ m) (m1 : m ≤ 99) (s0 : 10 ≤ s) (s1 : s ≤ 99) :
  rd (pt h m s) = (if m < 60 ∧ s < 60 ∧ h * 3600 + m * 60 + s ≤ 604799 then (h * 3600 + m * 60 + s, 0) else (0, 1)) ∧
  rd (⟨#[45]⟩ ++ pt h m s) = (if m < 60 ∧ s < 60 ∧ h * 3600 + m * 60 + s ≤ 604799 then (-(h * 3600 + m * 60 + s), 0) else (0, 1)) := by
 obtain ⟨a1, a2, _⟩ := hours (n := h) h0 (by omega)
 obtain ⟨b1, b2⟩ := digits3 (n := m) m0 (by omega)
 obtain ⟨c1, c2⟩ := digits3 (n := s) s0 (by omega)
 obtain ⟨c, r, hc, hc45⟩ := isP_head a1 (Num.itoa_ne _)
 have e := pt_l h m s
 have ok := ok3 e a1 b1 (by rw [isP_12]; exact c1)
 rw [a2, b2, c2] at ok
 have hz : 2 ≤ (pt h m s).size := by
  have := List.length_pos_iff.2 (Num.itoa_ne h)
  rw [← ab_len (pt h m s), e, List.length_append, List.length_cons, List.length_append, List.length_cons]; omega
 refine ⟨?_, ?_⟩
 ·
  have hl : (pt h m s).data.toList = c :: (r ++ 58 :: (Lib.itoa m ++ 58 :: Lib.itoa s)) := by rw [e, hc]; rfl
  obtain ⟨u1, u2⟩ := un_dig hl hc45
  rw [rd_of hz u2 (by rw [u1]; exact ok)]; rfl
 ·
  have hl : (⟨#[45]⟩ ++ pt h m s : ByteArray).data.toList = 45 :: (pt h m s).data.toList := by rw [app_l]; rfl
  obtain ⟨u1, u2⟩ := un_neg hl
  have e3 : (⟨(pt h m s).data.toList.toArray⟩ : ByteArray).data.toList = Lib.itoa h ++ 58 :: (Lib.itoa m ++ 58 :: Lib.itoa s) := e
  have ok2 := ok3 e3 a1 b1 (by rw [isP_12]; exact c1)
  rw [a2, b2, c2] at ok2
  rw [rd_of (by rw [ByteArray.size_append]; omega) u2 (by rw [u1]; exact ok2)]; rfl
end Am
namespace Cl
theorem three_tab : ∀ n : Fin 256, (Num.dig (UInt8.ofNat n.val) || decide (n.val = 58)) = true → base (UInt8.ofNat n.val) = 3 := by decide +kernel
theorem three_dig {c : UInt8} (h : Num.dig c = true) : base c = 3 := by
 have := three_tab ⟨c.toNat, c.toNat_lt⟩
 rw [show UInt8.ofNat c.toNat = c from UInt8.ofNat_toNat, h] at this
 exact this rfl
theorem three_all {l : List UInt8} (h : l.all Num.dig = true) : ∀ c ∈ l, base c = 3 := fun c hc => three_dig (List.all_eq_true.1 h c hc)
theorem three_58 : base 58 = 3 := by decide
theorem shape_three {t : ByteArray} {a : List UInt8} {m s : Int} (h : Am.Shape t a m s) (ha : a.all Num.dig = true) (m0 : 0 ≤ m) (m1 : m < 60) (s0 : 0 ≤ s) (s1 : s < 60) : ∀ c ∈ t.data.toList, base c = 3 := by
 obtain ⟨d1, _⟩ := Am.digits2 (n := m) m0 (by omega)
 obtain ⟨e1, _⟩ := Am.digits2 (n := s) s0 (by omega)
 have x := three_all ha
 have y := three_all (Am.isP_size d1).1
 have z := three_all (Am.isP_size e1).1
 intro c hc
 rcases h with ⟨e, _⟩ | e
 ·
  rw [e] at hc
  rcases List.mem_append.1 hc with hc | hc
  ·
   exact x c hc
  ·
   rcases List.mem_cons.1 hc with rfl | hc
   ·
    exact three_58
   ·
    exact y c hc
 ·
  rw [e] at hc
  rcases List.mem_append.1 hc with hc | hc
  ·
   exact x c hc
  ·
   rcases List.mem_cons.1 hc with rfl | hc
   ·
    exact three_58
   ·
    rcases List.mem_append.1 hc with hc | hc
    ·
     exact y c hc
    ·
     rcases List.mem_cons.1 hc with rfl | hc
     ·
      exact three_58
     ·
      exact z c hc
theorem text_ok {n : Int} (n0 : 0 ≤ n) (n1 : n ≤ 172800) : (∀ c ∈ (Am.tx n).1.data.toList, base c = 3) ∧ 0 < (Am.tx n).1.size ∧ Am.rd (Am.tx n).1 = (n, 0) := by
 unfold Am.tx
 rw [if_neg (by omega)]
 by_cases h : n = 0
 ·
  subst h
  rw [if_pos rfl]
  exact ⟨by decide +kernel, by decide +kernel, by decide +kernel⟩
 ·
  rw [if_neg h, if_neg (by omega)]
  have S := Am.shape_w1 n
  obtain ⟨h1, h2, h3⟩ := Am.hours (n := n / 3600) (by omega) (by omega)
  exact ⟨shape_three S (Am.isP_size h1).1 (by omega) (by omega) (by omega) (by omega), by have := Am.shape_size S (Num.itoa_ne _); show 0 < (Am.w1 n).size; omega, (Am.back (by omega) (by omega)).1⟩
theorem cutL_none {A : ByteArray} (h : ∀ c ∈ A.data.toList, base c = 3) (hz : 0 < A.size) : cutL A = (A, 0) := by
 have hm : A[A.size - 1] ∈ A.data.toList := by
  have e : A[A.size - 1] = A.data.toList[A.size - 1]'(by rw [ab_len]; omega) := rfl
  rw [e]; exact List.getElem_mem _
 unfold cutL
 rw [dif_pos hz, if_pos (h _ hm)]
theorem cut_ext (A : ByteArray) (c : UInt8) : (A ++ ⟨#[c]⟩).extract 0 ((A ++ ⟨#[c]⟩ : ByteArray).size - 1) = A := by
 have hs : (A ++ ⟨#[c]⟩ : ByteArray).size = A.size + 1 := by rw [ByteArray.size_append]; rfl
 apply ByteArray.ext
 apply Array.toList_inj.1
 have e2 : (A ++ ⟨#[c]⟩ : ByteArray).data.toList = A.data.toList ++ [c] := by rw [ByteArray.data_append, Array.toList_append]
 rw [hs, ByteArray.data_extract, Array.toList_extract, e2, Nat.add_sub_cancel]
 show (List.drop 0 (A.data.toList ++ [c])).take (A.size - 0) = A.data.toList
 rw [List.drop_zero, Nat.sub_zero]
 have hl := ab_len A
 rw [← hl, List.take_left]
theorem cutL_app (A : ByteArray) (c : UInt8) (hc : base c ≠ 3) : cutL (A ++ ⟨#[c]⟩) = (A, (base c : Int)) := by
 have hs : (A ++ ⟨#[c]⟩ : ByteArray).size = A.size + 1 := by rw [ByteArray.size_append]; rfl
 have hl : (A ++ ⟨#[c]⟩ : ByteArray)[(A ++ ⟨#[c]⟩ : ByteArray).size - 1]'(by omega) = c := by
  have e : (A ++ ⟨#[c]⟩ : ByteArray)[(A ++ ⟨#[c]⟩ : ByteArray).size - 1]'(by omega) = (A ++ ⟨#[c]⟩ : ByteArray).data.toList[(A ++ ⟨#[c]⟩ : ByteArray).size - 1]'(by rw [ab_len]; omega) := rfl
  rw [e]
  have h1 := ab_len A
  have e2 : (A ++ ⟨#[c]⟩ : ByteArray).data.toList = A.data.toList ++ [c] := by rw [ByteArray.data_append, Array.toList_append]
  apply Option.some.inj
  rw [← List.getElem?_eq_getElem, e2, hs, Nat.add_sub_cancel, ← h1, List.getElem?_append_right (Nat.le_refl _), Nat.sub_self]
  rfl
 unfold cutL
 rw [dif_pos (by omega), hl, if_neg hc, cut_ext]
theorem rd_none {n : Int} (n0 : 0 ≤ n) (n1 : n ≤ 172800) : rd (Am.tx n).1 = (n, 0, 0) := by
 obtain ⟨h, hz, hr⟩ := text_ok n0 n1
 unfold rd
 rw [cutL_none h hz, hr, if_neg (by simp), if_neg (by rw [rB_iff.2 ⟨n0, n1, by omega, by omega⟩]; decide)]
theorem rd_app {n : Int} (n0 : 0 ≤ n) (n1 : n ≤ 172800) (c : UInt8) (b : Nat) (hb : base c = b) (h3 : b < 3) : rd ((Am.tx n).1 ++ ⟨#[c]⟩) = (n, (b : Int), 0) := by
 obtain ⟨h, hz, hr⟩ := text_ok n0 n1
 unfold rd
 rw [cutL_app _ c (by omega), hr, hb, if_neg (by simp), if_neg (by rw [rB_iff.2 ⟨n0, n1, by omega, by omega⟩]; decide)]
end Cl
namespace Ru
theorem mon_tab : ∀ m : Fin 12, Wd.up (Wd.mat (Wd.t3 Wd.months ((m.val : Int) + 1 - 1)).data.toList Wd.months) = (m.val : Int) + 1 ∧ (Wd.mat (Wd.t3 Wd.months ((m.val : Int) + 1 - 1)).data.toList Wd.months).2 = 0 ∧ (Wd.t3 Wd.months ((m.val : Int) + 1 - 1)).size ≤ 10 := by decide +kernel
theorem mon_back {m : Int} (h1 : 1 ≤ m) (h2 : m ≤ 12) : mo (Wd.t3 Wd.months (m - 1)) = m ∧ (Wd.mat (Wd.t3 Wd.months (m - 1)).data.toList Wd.months).2 = 0 ∧ (Wd.t3 Wd.months (m - 1)).size ≤ 10 := by
 have h := mon_tab ⟨(m - 1).toNat, by omega⟩
 have e : (((⟨(m - 1).toNat, by omega⟩ : Fin 12).val : Int)) + 1 = m := by show (((m - 1).toNat : Nat) : Int) + 1 = m; omega
 rw [e] at h
 exact h
theorem am_back {n : Int} (h1 : -10800 ≤ n) (h2 : n ≤ 10800) : Am.rd (Am.tx n).1 = (n, 0) := by
 unfold Am.tx
 rw [if_neg (by omega)]
 by_cases h0 : n = 0
 ·
  rw [if_pos h0, h0]; decide +kernel
 ·
  rw [if_neg h0]
  by_cases hn : n < 0
  ·
   rw [if_pos hn]
   have := (Am.back (n := -n) (by omega) (by omega)).2.1
   rw [this]
   simp
  ·
   rw [if_neg hn]
   exact (Am.back (by omega) (by omega)).1
theorem cl_back {n b : Int} (h : Cl.rB n b = true) : Cl.rd (Cl.tx n b).1 = (n, b, 0) ∧ (Cl.tx n b).1.size ≤ 300 := by
 obtain ⟨n0, n1, b0, b1⟩ := rB_iff.1 h
 have hz := (atx_size n0 n1).1
 unfold Cl.tx
 rw [if_neg (by rw [h]; decide)]
 by_cases hb : b = 0
 ·
  rw [if_pos hb, hb]
  exact ⟨Cl.rd_none n0 n1, by show (Am.tx n).1.size ≤ 300; omega⟩
 ·
  rw [if_neg hb]
  rcases (by omega : b = 1 ∨ b = 2) with rfl | rfl
  ·
   rw [show Cl.sg 1 = ⟨#[115]⟩ by decide +kernel]
   refine ⟨Cl.rd_app n0 n1 115 1 (by decide) (by decide), ?_⟩
   show ((Am.tx n).1 ++ (⟨#[115]⟩ : ByteArray)).size ≤ 300
   rw [ByteArray.size_append]
   have e : (⟨#[115]⟩ : ByteArray).size = 1 := rfl
   omega
  ·
   rw [show Cl.sg 2 = ⟨#[117]⟩ by decide +kernel]
   refine ⟨Cl.rd_app n0 n1 117 2 (by decide) (by decide), ?_⟩
   show ((Am.tx n).1 ++ (⟨#[117]⟩ : ByteArray)).size ≤ 300
   rw [ByteArray.size_append]
   have e : (⟨#[117]⟩ : ByteArray).size = 1 := rfl
   omega
theorem lt_back {l : List UInt8} (h : (Fo.ltx l).2 = 0) : Fo.lt (Fo.ltx l).1 = (l, 0) := by
 unfold Fo.ltx at h ⊢
 by_cases h0 : l = []
 ·
  rw [if_pos h0, h0]; rfl
 ·
  rw [if_neg h0] at h ⊢
  by_cases h1 : (Fo.lt l).2 ≠ 0 ∨ (Fo.lt l).1 ≠ l
  ·
   rw [if_pos h1] at h; exact absurd h (by decide : ¬ (4 : Int) = 0)
  ·
   rw [if_neg h1]
   have a : (Fo.lt l).2 = 0 := by
    by_cases x : (Fo.lt l).2 = 0
    ·
     exact x
    ·
     exact absurd (Or.inl x) h1
   have b : (Fo.lt l).1 = l := by
    by_cases x : (Fo.lt l).1 = l
    ·
     exact x
    ·
     exact absurd (Or.inr x) h1
   exact Prod.ext b a
theorem lt_right {l : List UInt8} (h : (Fo.lt l).2 = 0) : (Fo.ltx (Fo.lt l).1).2 = 0 ∧ (Fo.lt l).1.length ≤ 6 := by
 unfold Fo.lt at h ⊢
 by_cases h45 : l = [45]
 ·
  rw [if_pos h45]; exact ⟨rfl, by simp⟩
 ·
  rw [if_neg h45] at h ⊢
  by_cases h6 : 6 < l.length
  ·
   rw [if_pos h6] at h; exact absurd h (by decide : ¬ (9 : Int) = 0)
  ·
   rw [if_neg h6] at h ⊢
   cases hm : Fo.made [43, 45] l
   ·
    rw [hm, if_pos rfl] at h; exact absurd h (by decide : ¬ (4 : Int) = 0)
   ·
    rw [if_neg (by decide)]
    refine ⟨?_, by show l.length ≤ 6; omega⟩
    show (Fo.ltx l).2 = 0
    unfold Fo.ltx
    by_cases h0 : l = []
    ·
     rw [if_pos h0]
    ·
     rw [if_neg h0]
     have e : Fo.lt l = (l, 0) := by
      unfold Fo.lt
      rw [if_neg h45, if_neg h6, hm, if_neg (by decide)]
     rw [e, if_neg (by simp)]
theorem fst_all {qs : List Int} (h : ∀ q ∈ qs, q = 0) : fst qs = 0 := by
 induction qs with
 | nil => rfl
 | cons q r ih => rw [fst_yes (h q (by simp))]; exact ih fun x hx => h x (by simp [hx])
theorem all_fst {qs : List Int} (h : fst qs = 0) : ∀ q ∈ qs, q = 0 := by
 induction qs with
 | nil => intro q hq; cases hq
 | cons x r ih =>
  by_cases hx : x = 0
  ·
   rw [fst_yes hx] at h
   intro q hq
   rcases List.mem_cons.1 hq with rfl | hq
   ·
    exact hx
   ·
    exact ih h q hq
  ·
   rw [fst_no hx] at h; exact absurd h hx
theorem back {r : R} (h : r.ok = true) : rd r.ts = (r, 0) := by
 obtain ⟨h0, h1, h2, h3, h4, h5, h6, h7, h8⟩ := ok_of h
 obtain ⟨h41, m1, m2, -⟩ := Dr.onF_true.1 h4
 have eF := Yr.ft_back (ok_ft h)
 have eT := Yr.tt_back (ok_tt h)
 obtain ⟨eM, eM2, -⟩ := mon_back m1 m2
 have eD := Ds.rd_tx h41
 have eC := (cl_back h5).1
 have eA := am_back h6 h7
 have eL := lt_back h8
 have eDy : dy (Ds.tx r.k r.wk r.d).1.data.toList (mo (Wd.t3 Wd.months (r.m - 1))) = (r.k, r.wk, r.d, 0) := by
  unfold dy dyF
  rw [eD, eM, h4, if_neg (by simp)]
 have eSv : sv (Am.tx r.save).1 = (r.save, 0) := by
  unfold sv svF
  rw [eA, if_neg (by simp; omega)]
 have hl : (⟨(Fo.ltx r.t.data.toList).1.toArray⟩ : ByteArray).data.toList = (Fo.ltx r.t.data.toList).1 := rfl
 have hw : fst (ws r.s (Yr.ft r.fy).1 (Yr.tt r.fy r.ty).1 ⟨#[45]⟩ (Wd.t3 Wd.months (r.m - 1)) (Ds.tx r.k r.wk r.d).1 (Cl.tx r.sec r.base).1 (Am.tx r.save).1 ⟨(Fo.ltx r.t.data.toList).1.toArray⟩) = 0 := by
  unfold ws
  rw [eF, eDy, eSv, eC, hl, eL, eM2, h0, if_pos rfl, eT]
  rfl
 unfold R.ts
 rw [rd_nine, if_pos hw]
 unfold rl
 rw [eF, eT, eDy, eSv, eC, hl, eL, eM]
theorem ds_tab : ∀ k : Fin 4, ∀ w : Fin 7, ∀ d : Fin 32, (Ds.tx k.val w.val d.val).1.size ≤ 30 := by decide +kernel
theorem ds_sz {k w d : Int} (h : Dr.onR k w d = true) : (Ds.tx k w d).1.size ≤ 30 := by
 have hb := Dr.onR_true.1 h
 obtain ⟨k', rfl⟩ : ∃ n : Nat, k = n := ⟨k.toNat, by omega⟩
 obtain ⟨w', rfl⟩ : ∃ n : Nat, w = n := ⟨w.toNat, by omega⟩
 obtain ⟨d', rfl⟩ : ∃ n : Nat, d = n := ⟨d.toNat, by omega⟩
 exact ds_tab ⟨k', by omega⟩ ⟨w', by omega⟩ ⟨d', by omega⟩
theorem num_bd {l : List UInt8} (h : (Yr.num l).2 = 0) : -32767 ≤ (Yr.num l).1 ∧ (Yr.num l).1 ≤ 32767 := by
 unfold Yr.num at h ⊢
 by_cases h1 : (Num.rd l).2 = 0
 ·
  rw [if_pos h1] at h ⊢
  cases hi : Yr.inY (Num.rd l).1
  ·
   rw [hi] at h; exact absurd h (by decide : ¬ (1 : Int) = 0)
  ·
   rw [if_pos rfl]
   unfold Yr.inY at hi
   simp only [Bool.and_eq_true, decide_eq_true_eq] at hi
   exact hi
 ·
  rw [if_neg h1] at h; exact absurd h h1
theorem fr_bd {l : List UInt8} (h : (Yr.fr l).2 = 0) : -32767 ≤ (Yr.fr l).1 ∧ (Yr.fr l).1 ≤ 32767 := by
 unfold Yr.fr at h ⊢
 by_cases hn : Yr.isN l = true
 ·
  rw [if_pos hn] at h ⊢; exact num_bd h
 ·
  rw [if_neg hn] at h ⊢
  by_cases h1 : (Yr.word l).2 = 0
  ·
   rw [if_pos h1] at h ⊢
   by_cases h2 : (Yr.word l).1 = 0
   ·
    rw [if_pos h2]; exact ⟨by decide, by decide⟩
   ·
    rw [if_neg h2] at h; exact absurd h (by decide : ¬ (3 : Int) = 0)
  ·
   rw [if_neg h1] at h; exact absurd h h1
theorem to_bd {l : List UInt8} {f : Int} (hf : f ≤ 32767) (h : (Yr.to l f).2 = 0) : (Yr.to l f).1 ≤ 32767 := by
 have key : (Yr.la l f).2 = 0 → (Yr.la l f).1 ≤ 32767 := by
  intro h
  unfold Yr.la at h ⊢
  by_cases hn : Yr.isN l = true
  ·
   rw [if_pos hn] at h ⊢; exact (num_bd h).2
  ·
   rw [if_neg hn] at h ⊢
   by_cases h1 : (Yr.word l).2 = 0
   ·
    rw [if_pos h1] at h ⊢
    by_cases h2 : (Yr.word l).1 = 0
    ·
     rw [if_pos h2] at h; exact absurd h (by decide : ¬ (3 : Int) = 0)
    ·
     rw [if_neg h2]
     by_cases h3 : (Yr.word l).1 = 1
     ·
      rw [if_pos h3]; exact Int.le_refl _
     ·
      rw [if_neg h3]; exact hf
   ·
    rw [if_neg h1] at h; exact absurd h h1
 unfold Yr.to at h ⊢
 by_cases h1 : (Yr.la l f).2 = 0
 ·
  rw [if_pos h1] at h ⊢
  by_cases h2 : f ≤ (Yr.la l f).1
  ·
   rw [if_pos h2]; exact key h1
  ·
   rw [if_neg h2] at h; exact absurd h (by decide : ¬ (14 : Int) = 0)
 ·
  rw [if_neg h1] at h; exact absurd h h1
theorem dy_bd {l : List UInt8} {m : Int} (h : (dy l m).2.2.2 = 0) : Dr.onF (dy l m).1 (dy l m).2.1 (dy l m).2.2.1 m = true := by
 unfold dy dyF at h ⊢
 by_cases h1 : (Ds.rd l).2.2.2 = 0 ∧ Dr.onF (Ds.rd l).1 (Ds.rd l).2.1 (Ds.rd l).2.2.1 m = false
 ·
  rw [if_pos h1] at h; exact absurd h (by decide : ¬ (1 : Int) = 0)
 ·
  rw [if_neg h1] at h ⊢
  cases ho : Dr.onF (Ds.rd l).1 (Ds.rd l).2.1 (Ds.rd l).2.2.1 m
  ·
   exact absurd ⟨h, ho⟩ h1
  ·
   rfl
theorem cl_bd {s : ByteArray} (h : (Cl.rd s).2.2 = 0) : Cl.rB (Cl.rd s).1 (Cl.rd s).2.1 = true := by
 unfold Cl.rd at h ⊢
 by_cases h1 : (Am.rd (Cl.cutL s).1).2 ≠ 0
 ·
  rw [if_pos h1] at h; exact absurd h h1
 ·
  rw [if_neg h1] at h ⊢
  cases hb : Cl.rB (Am.rd (Cl.cutL s).1).1 (Cl.cutL s).2
  ·
   rw [if_pos hb] at h; exact absurd h (by decide : ¬ (1 : Int) = 0)
  ·
   rw [if_neg (by decide)]; exact hb
theorem sv_bd {s : ByteArray} (h : (sv s).2 = 0) : -10800 ≤ (sv s).1 ∧ (sv s).1 ≤ 10800 := by
 unfold sv svF at h ⊢
 by_cases h1 : (Am.rd s).2 = 0 ∧ ((Am.rd s).1 < -10800 ∨ 10800 < (Am.rd s).1)
 ·
  rw [if_pos h1] at h; exact absurd h (by decide : ¬ (1 : Int) = 0)
 ·
  rw [if_neg h1] at h ⊢
  have h2 : (Am.rd s).2 = 0 := h
  show -10800 ≤ (Am.rd s).1 ∧ (Am.rd s).1 ≤ 10800
  omega
theorem right {l : List ByteArray} (h : (rd l).2 = 0) : (rd l).1.ok = true ∧ (rd l).1.t.size ≤ 6 ∧ ((∀ x ∈ l, x.size ≤ 300) → (rd l).1.s.size ≤ 300) := by
 by_cases h9 : l.length = 9
 ·
  obtain ⟨f0, f1, f2, f3, f4, f5, f6, f7, f8, rfl⟩ := nine l h9
  rw [rd_nine] at h ⊢
  by_cases hf : fst (ws f0 f1 f2 f3 f4 f5 f6 f7 f8) = 0
  ·
   rw [if_pos hf]
   have ha := all_fst hf
   unfold ws at ha
   have a0 := ha _ (List.mem_cons_self ..)
   have a1 : (Yr.fr f1.data.toList).2 = 0 := ha _ (by simp)
   have a2 : (Yr.to f2.data.toList (Yr.fr f1.data.toList).1).2 = 0 := ha _ (by simp)
   have a5 : (dy f5.data.toList (mo f4)).2.2.2 = 0 := ha _ (by simp)
   have a6 : (Cl.rd f6).2.2 = 0 := ha _ (by simp)
   have a7 : (sv f7).2 = 0 := ha _ (by simp)
   have a8 : (Fo.lt f8.data.toList).2 = 0 := ha _ (by simp)
   have b1 := fr_bd a1
   have b2 := Yr.to_ge a2
   have b3 := to_bd b1.2 a2
   have b5 := dy_bd a5
   have b6 := cl_bd a6
   have b7 := sv_bd a7
   have b8 := lt_right a8
   refine ⟨?_, ?_, fun hz => hz f0 (by simp)⟩
   ·
    unfold R.ok rB rl
    simp only [Bool.and_eq_true, decide_eq_true_eq, beq_iff_eq]
    exact ⟨a0, b1.1, b2, b3, b5, b6, b7.1, b7.2, b8.1⟩
   ·
    show (⟨(Fo.lt f8.data.toList).1.toArray⟩ : ByteArray).size ≤ 6
    have e8 : (⟨(Fo.lt f8.data.toList).1.toArray⟩ : ByteArray).size = (Fo.lt f8.data.toList).1.length := List.size_toArray
    rw [e8]; exact b8.2
  ·
   rw [if_neg hf] at h; exact absurd h hf
 ·
  rw [rd_other (by omega)] at h
  revert h
  show (if l.length < 9 then (5 : Int) else 6) = 0 → _
  split
  ·
   intro h; exact absurd h (by decide)
  ·
   intro h; exact absurd h (by decide)
end Ru
end Go.Proofs.YtjggjkeopbcmoaaGreatDoor
