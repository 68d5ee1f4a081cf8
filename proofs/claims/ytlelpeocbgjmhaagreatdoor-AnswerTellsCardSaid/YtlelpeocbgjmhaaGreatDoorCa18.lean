/- Joined: AnE. -/
import Derived.Test.YtlelpeocbgjmhaaGreatDoorCa03
import Derived.Test.YtlelpeocbgjmhaaGreatDoorCa14
import Derived.Test.YtlelpeocbgjmhaaGreatDoorCa16
import Derived.Test.YtlelpeocbgjmhaaGreatDoorCa09
import Derived.Test.YtlelpeocbgjmhaaGreatDoorCa04
import Derived.Test.YtlelpeocbgjmhaaGreatDoorCa17
/- Answers: an info of a text, of the program: the closure. -/
set_option linter.unusedVariables false
set_option linter.unusedSimpArgs false
namespace Go.Proofs.YtlelpeocbgjmhaaGreatDoor
open Go.RowKit Go.Sort
theorem an_read (s : ByteArray) (w : World) (hs : s.size ≤ 100000000) (tp : TypeId) (p : Value) (hvar : w.var? Tryz.prog "strconv.ErrRange" = some #[.iface tp p]) :
    Calls Tryz.prog 32 #[.string s] w fun e w' => e = .returned (.tuple #[.int .i64 (Num.rd s.data.toList).1, .int .i64 (Num.rd s.data.toList).2]) ∧ Below w.heap.size w w' := by
  have hml : s.size ≤ maxLen := by unfold maxLen; omega
  unfold Num.rd
  cases ht : Num.isT s.data.toList
  · exact read_no s w hml ht
  · rcases Num.isT_read ht with h | ⟨x, h, -⟩
    · rw [h]; exact read_range s w hml ht h (by omega) tp p hvar
    · rw [h]; exact read_ok s x w hml ht h (by omega)
theorem mustl_yes (v : Value) (w : World) : Calls Tryz.prog 29 #[v, .int .i64 0] w fun e w' => e = .returned v ∧ w = w' := by
  go_enter Tryz.func29, Tryz.ntmps29
  go_wp2_with fail
  refine (for_yes _).mono ?_; rintro e w1 ⟨rfl, rfl⟩
  go_wp2_with fail
  go_ret
  exact ⟨rfl, rfl⟩
theorem mustl_no (v : Value) (why : Int) (w : World) (h : why ≠ 0) : Calls Tryz.prog 29 #[v, .int .i64 why] w fun e w' => e = .panicked (gvP why) ∧ w = w' := by
  go_enter Tryz.func29, Tryz.ntmps29
  go_wp2_with fail
  refine (for_no why _ h).mono ?_; rintro e w1 ⟨rfl, rfl⟩
  refine (show bodyPost _ _ _ (Exit.panic (gvP why)) _ _ from ?_)
  simp [bodyPost]
/-- The info, or why there is none. -/
def AnsI (I : An.I) (y : Int) (w : World) (e : Ending) (w' : World) : Prop := Below w.heap.size w w' ∧ ((y = 0 ∧ e = .returned (.agg #[.int .i64 I.1, .int .i64 I.2.1, .int .i64 I.2.2.1, .int .i64 I.2.2.2.1, .string I.2.2.2.2])) ∨ (y ≠ 0 ∧ e = .panicked (gvP y)))
theorem An.sm_mem : ∀ (l : List (List UInt8)) (x : List UInt8), x ∈ l → x.length ≤ Fd.sm l := by
  intro l
  induction l with
  | nil => intro x h; cases h
  | cons y l ih =>
    intro x h
    rw [Fd.sm_cons]
    rcases List.mem_cons.1 h with rfl | h
    · omega
    · have := ih x h; omega
theorem An.field_len (s : ByteArray) (l : List ByteArray) (h : l.map (·.data.toList) = (Fd.of s.data.toList).1) : ∀ x ∈ l, x.size ≤ s.size := by
  intro x hx
  have h1 := (Fd.of_len s.data.toList).1
  rw [← h] at h1
  have h2 := An.sm_mem _ _ (List.mem_map_of_mem hx (f := fun x : ByteArray => x.data.toList))
  have e1 : x.data.toList.length = x.size := Array.length_toList
  have e2 : s.data.toList.length = s.size := Array.length_toList
  try dsimp only at h2
  omega
set_option maxHeartbeats 4000000 in
set_option maxRecDepth 100000 in
theorem aread1_any (p : Nat) (s : ByteArray) (w : World) (hc : w.cell? ⟨p, 0, none⟩ = some (.string s)) (hs : s.size ≤ 1000000) (tp : TypeId) (pp : Value) (hvar : w.var? Tryz.prog "strconv.ErrRange" = some #[.iface tp pp]) :
    Calls Tryz.prog 28 #[.pointer (some ⟨p, 0, none⟩)] w (AnsI (An.rdi s.data.toList).1 (An.rdi s.data.toList).2 w) := by
  have FO := Lib.hid (fun W => fof_any s W (by omega))
  have FL := Lib.hid (An.field_len s)
  have HV := Lib.hid hvar
  have hr : An.rdi s.data.toList = if (Fd.of s.data.toList).2 ≠ 0 then (An.I0, (Fd.of s.data.toList).2) else An.rdL (Fd.of s.data.toList).1 := rfl
  rw [hr]
  generalize Fd.of s.data.toList = R at FO FL ⊢
  obtain ⟨P, y⟩ := R
  have hpb : p < w.heap.size := World.block_lt_of_cell? _ _ hc
  clear hr hvar
  by_cases hy : y = 0
  case neg =>
    rw [if_pos hy]
    clear FL
    go_enter Tryz.func28, Tryz.ntmps28
    go_wp2_with fail
    refine (FO.out _).mono ?_; rintro e w1 ⟨v, l, hst, hl, rfl, b1⟩
    have B1 := Lib.hid (below_step ((Below.refl w.heap.size w).alloc (Nat.le_refl _) _) b1)
    have Z1 : Hid (Bk5 w1 w.heap.size (.int .i64 0) (.int .i64 0) (.int .i64 0) (.int .i64 0) (.string ⟨#[]⟩)) := Lib.hid (Bk5.of b1 (by simp <;> omega) (by intro j; simp [go_sem]) (by simp [go_sem]) (by simp [go_sem]) (by simp [go_sem]) (by simp [go_sem]) (by simp [go_sem]))
    have S1 := Lib.hid hst
    have hl : l.map (·.data.toList) = P := hl
    have HL := Lib.hid hl
    clear b1 hst hl hc
    go_wp2_with fail
    refine (mustl_no _ y _ hy).mono ?_; rintro e u1 ⟨rfl, rfl⟩
    refine (show bodyPost _ _ _ (Exit.panic (gvP _)) _ _ from ?_)
    simp only [bodyPost]
    exact ⟨trivial, B1.out, .inr ⟨hy, by first | rfl | trivial⟩⟩
  subst hy
  rw [if_neg (by simp)]
  obtain ⟨tot, htot⟩ : ∃ t, t = An.rdL P := ⟨_, rfl⟩
  rw [← htot]
  have HT := Lib.hid htot
  clear htot
  have key : ∀ l : List ByteArray, l.map (·.data.toList) = P → P.length = l.length := by rintro l rfl; simp
  go_enter Tryz.func28, Tryz.ntmps28
  go_wp2_with fail
  refine (FO.out _).mono ?_; rintro e w1 ⟨v, l, hst, hl, rfl, b1⟩
  have B1 := Lib.hid (below_step ((Below.refl w.heap.size w).alloc (Nat.le_refl _) _) b1)
  have Z1 : Hid (Bk5 w1 w.heap.size (.int .i64 0) (.int .i64 0) (.int .i64 0) (.int .i64 0) (.string ⟨#[]⟩)) := Lib.hid (Bk5.of b1 (by simp <;> omega) (by intro j; simp [go_sem]) (by simp [go_sem]) (by simp [go_sem]) (by simp [go_sem]) (by simp [go_sem]) (by simp [go_sem]))
  have hl : l.map (·.data.toList) = P := hl
  subst hl
  have hz := FL.out l rfl
  have hn : l.length ≤ 16 ∨ True := .inr trivial
  clear FL key hn
  have T := hst
  obtain ⟨A, c, hv, -⟩ := T
  obtain ⟨N, hN⟩ : ∃ N, N = l.length := ⟨_, rfl⟩
  rw [← hN] at hv
  subst hv
  have S1 := Lib.hid hst
  clear hst
  have HN := Lib.hid hN
  clear hN
  have B0 := Lib.hid (b1.trans (Below.refl _ _))
  clear b1
  go_wp2_with fail
  refine (mustl_yes _ _).mono ?_; rintro e u1 ⟨rfl, rfl⟩
  by_cases h5 : N < 5
  case pos =>
    have er : An.rdL (l.map (·.data.toList)) = (An.I0, 5) := An.rdL_few _ (by rw [List.length_map, ← HN.out]; exact h5)
    have HE := Lib.hid (HT.out.trans er)
    have g : decide ((4 : Int) < (N : Int)) = false := decide_eq_false (by omega)
    clear er
    go_wp2_with fail
    refine (need_no 5 _).mono ?_; rintro e u2 ⟨rfl, rfl⟩
    refine (show bodyPost _ _ _ (Exit.panic (gvP _)) _ _ from ?_)
    simp only [bodyPost]
    exact ⟨trivial, B1.out, .inr ⟨by rw [HE.out]; first | decide | assumption, by rw [HE.out]⟩⟩
  by_cases h6 : 5 < N
  case pos =>
    have er : An.rdL (l.map (·.data.toList)) = (An.I0, 6) := An.rdL_many _ (by rw [List.length_map, ← HN.out]; exact h6)
    have HE := Lib.hid (HT.out.trans er)
    have g : decide ((4 : Int) < (N : Int)) = true := decide_eq_true (by omega)
    have g2 : ((N : Int) == 5) = false := by rw [beq_eq_false_iff_ne]; omega
    clear er
    go_wp2_with fail
    refine (need_yes 5 _).mono ?_; rintro e u2 ⟨rfl, rfl⟩
    go_wp2_with fail
    refine (need_no 6 _).mono ?_; rintro e u3 ⟨rfl, rfl⟩
    refine (show bodyPost _ _ _ (Exit.panic (gvP _)) _ _ from ?_)
    simp only [bodyPost]
    exact ⟨trivial, B1.out, .inr ⟨by rw [HE.out]; first | decide | assumption, by rw [HE.out]⟩⟩
  obtain rfl : N = 5 := by omega
  match l, HN.out, hz, S1, HT, HN with
  | [x0, x1, x2, x3, x4], _, hz, S1, HT, HN =>
    have s0 : x0.size ≤ 100000000 := by have := hz x0 (by simp); omega
    have s1 : x1.size ≤ 100000000 := by have := hz x1 (by simp); omega
    have s2 : x2.size ≤ 100000000 := by have := hz x2 (by simp); omega
    have s3 : x3.size ≤ 100000000 := by have := hz x3 (by simp); omega
    have s4 : x4.size ≤ 100000000 := by have := hz x4 (by simp); omega
    have e5 : An.rdL ([x0, x1, x2, x3, x4].map (·.data.toList)) = _ := An.rdL_five x0.data.toList x1.data.toList x2.data.toList x3.data.toList x4.data.toList
    have e5 := HT.out.trans e5
    rw [show (⟨x4.data.toList.toArray⟩ : ByteArray) = x4 from fd_id x4] at e5
    have R0 := Lib.hid (fun W h => an_read x0 W s0 tp pp h)
    have R1 := Lib.hid (fun W h => an_read x1 W s1 tp pp h)
    have R2 := Lib.hid (fun W h => an_read x2 W s2 tp pp h)
    have R3 := Lib.hid (fun W h => an_read x3 W s3 tp pp h)
    unfold An.w4 at e5
    generalize (Num.rd x0.data.toList).1 = n0 at *
    generalize (Num.rd x0.data.toList).2 = q0 at *
    generalize (Num.rd x1.data.toList).1 = n1 at *
    generalize (Num.rd x1.data.toList).2 = q1 at *
    generalize (Num.rd x2.data.toList).1 = n2 at *
    generalize (Num.rd x2.data.toList).2 = q2 at *
    generalize (Num.rd x3.data.toList).1 = n3 at *
    generalize (Num.rd x3.data.toList).2 = q3 at *
    have HE := Lib.hid e5
    clear e5 hz h5 h6 HN HT
    have V1 := Lib.hid (var_keep (show Below w.heap.size w w1 from B1.out) HV.out)
    go_wp2_with fail
    refine (need_yes 5 _).mono ?_; rintro e u2 ⟨rfl, rfl⟩
    go_wp2_with fail
    refine (need_yes 6 _).mono ?_; rintro e u3 ⟨rfl, rfl⟩
    go_upto_region 5 with (fail)
    refine wp_named ?_; intro w2 hw2
    have d2 : Below w1.heap.size w1 w2 := by rw [hw2]; exact (by repeat (first | exact Below.refl _ _ | refine _root_.Go.below_drewN ?_ _ | refine Below.drew ?_ | refine Below.setCell ?_ (by first | (simp; done) | (simp; omega) | omega) _ | refine Below.alloc ?_ (by first | (simp; done) | (simp; omega) | omega) _))
    have A2 : Hid (Bk4 w2 w1.heap.size (.int .i64 0) (.int .i64 0) (.int .i64 0) (.int .i64 0)) := Lib.hid (by rw [hw2]; exact ⟨by simp <;> omega, by intro j; simp [go_sem], by simp [go_sem], by simp [go_sem], by simp [go_sem], by simp [go_sem]⟩)
    have D2 := Lib.hid d2
    clear hw2 d2
    go_wp2_with fail
    go_loopw [18] (fun i wr => ∃ k : Nat, k ≤ 4 ∧ i = .int .i64 k ∧ Hid (Bk4 wr w1.heap.size (.int .i64 (if 0 < k then n0 else 0)) (.int .i64 (if 1 < k then n1 else 0)) (.int .i64 (if 2 < k then n2 else 0)) (.int .i64 (if 3 < k then n3 else 0))) ∧ Hid ((0 < k → q0 = 0) ∧ (1 < k → q1 = 0) ∧ (2 < k → q2 = 0) ∧ (3 < k → q3 = 0)) ∧ Hid (Below w1.heap.size w1 wr)) (fun i _ => 4 - (intOf i).toNat)
    case atStart => exact ⟨0, by omega, rfl, A2, Lib.hid ⟨by omega, by omega, by omega, by omega⟩, D2⟩
    case round =>
      obtain ⟨k, hk, rfl, hA, hq, hB⟩ := hrel
      clear A2 D2
      obtain rfl | rfl | rfl | rfl | rfl : k = 0 ∨ k = 1 ∨ k = 2 ∨ k = 3 ∨ k = 4 := by omega
      · have X : Bk4 wr w1.heap.size (.int .i64 0) (.int .i64 0) (.int .i64 0) (.int .i64 0) := hA.out
        obtain ⟨ad, rfl, gx⟩ := StS.get (S1.out.on hB.out) 0 (by simp)
        have gx : wr.cell? (ad.add 0) = some (.string x0) := gx
        have gx0 : wr.cell? ad = some (.string x0) := by rwa [show ad.add 0 = ad from rfl] at gx
        have Xh := X.hb; have Xf := X.fz; have X0 := X.k0; have X1 := X.k1; have X2 := X.k2; have X3 := X.k3
        go_wp2_with fail
        refine (R0.out _ (var_keep hB.out V1.out)).mono ?_; rintro e w3 ⟨rfl, b3⟩
        have B3 := Lib.hid (below_step hB.out b3)
        have X := X.keep b3
        clear Xh Xf X0 X1 X2 X3 gx b3 gx0
        have Xh := X.hb; have Xf := X.fz; have X0 := X.k0; have X1 := X.k1; have X2 := X.k2; have X3 := X.k3
        by_cases hk0 : q0 = 0
        · subst hk0
          go_wp2_with fail
          refine (must_yes _ _).mono ?_; rintro e u4 ⟨rfl, rfl⟩
          go_wp2_with fail
          go_roundw
          case rel =>
            refine ⟨1, by omega, rfl, ?_, ?_, ?_⟩
            · exact Lib.hid (show Bk4 _ w1.heap.size (.int .i64 n0) (.int .i64 0) (.int .i64 0) (.int .i64 0) from Bk4.of (Below.refl _ _) (by first | (simp; done) | (simp; omega)) (by intro j; simp [go_sem, Xf]) (by simp [go_sem, Xh, X0]) (by simp [go_sem, Xh, X1]) (by simp [go_sem, Xh, X2]) (by simp [go_sem, Xh, X3]))
            · exact Lib.hid ⟨by first | trivial | (intro _; rfl) | (intro h; omega), by first | trivial | (intro _; rfl) | (intro h; omega), by first | trivial | (intro _; rfl) | (intro h; omega), by first | trivial | (intro _; rfl) | (intro h; omega)⟩
            · exact Lib.hid (Below.setCell B3.out (Nat.le_refl _) _)
          case measure => first | (simp [intOf]; done) | (simp [intOf]; omega)
        · have HK : Hid (tot = (An.I0, q0)) := Lib.hid (by rw [HE.out]; simp [hk0])
          clear HE
          go_wp2_with fail
          refine (must_no _ _ _ hk0).mono ?_; rintro e u4 ⟨rfl, rfl⟩
          simp +zetaDelta only [Exit.then, Exit.inBlock, bodyPost]
          first | exact ⟨rfl, B1.out.trans (B3.out.mono B1.out.size), .inr ⟨by rw [HK.out]; first | decide | assumption, by rw [HK.out]⟩⟩ | exact ⟨trivial, B1.out.trans (B3.out.mono B1.out.size), .inr ⟨by rw [HK.out]; first | decide | assumption, by rw [HK.out]⟩⟩
      · have X : Bk4 wr w1.heap.size (.int .i64 n0) (.int .i64 0) (.int .i64 0) (.int .i64 0) := hA.out
        obtain rfl : q0 = 0 := hq.out.1 (by omega)
        obtain ⟨ad, rfl, gx⟩ := StS.get (S1.out.on hB.out) 1 (by simp)
        have gx : wr.cell? (ad.add 1) = some (.string x1) := gx
        have gx0 : wr.cell? ⟨ad.block, ad.off + 1, none⟩ = some (.string x1) := by rwa [show ad.add 1 = ⟨ad.block, ad.off + 1, none⟩ from rfl] at gx
        have Xh := X.hb; have Xf := X.fz; have X0 := X.k0; have X1 := X.k1; have X2 := X.k2; have X3 := X.k3
        go_wp2_with fail
        refine (R1.out _ (var_keep hB.out V1.out)).mono ?_; rintro e w3 ⟨rfl, b3⟩
        have B3 := Lib.hid (below_step hB.out b3)
        have X := X.keep b3
        clear Xh Xf X0 X1 X2 X3 gx b3 gx0
        have Xh := X.hb; have Xf := X.fz; have X0 := X.k0; have X1 := X.k1; have X2 := X.k2; have X3 := X.k3
        by_cases hk0 : q1 = 0
        · subst hk0
          go_wp2_with fail
          refine (must_yes _ _).mono ?_; rintro e u4 ⟨rfl, rfl⟩
          go_wp2_with fail
          go_roundw
          case rel =>
            refine ⟨2, by omega, rfl, ?_, ?_, ?_⟩
            · exact Lib.hid (show Bk4 _ w1.heap.size (.int .i64 n0) (.int .i64 n1) (.int .i64 0) (.int .i64 0) from Bk4.of (Below.refl _ _) (by first | (simp; done) | (simp; omega)) (by intro j; simp [go_sem, Xf]) (by simp [go_sem, Xh, X0]) (by simp [go_sem, Xh, X1]) (by simp [go_sem, Xh, X2]) (by simp [go_sem, Xh, X3]))
            · exact Lib.hid ⟨by first | trivial | (intro _; rfl) | (intro h; omega), by first | trivial | (intro _; rfl) | (intro h; omega), by first | trivial | (intro _; rfl) | (intro h; omega), by first | trivial | (intro _; rfl) | (intro h; omega)⟩
            · exact Lib.hid (Below.setCell B3.out (Nat.le_refl _) _)
          case measure => first | (simp [intOf]; done) | (simp [intOf]; omega)
        · have HK : Hid (tot = (An.I0, q1)) := Lib.hid (by rw [HE.out]; simp [hk0])
          clear HE
          go_wp2_with fail
          refine (must_no _ _ _ hk0).mono ?_; rintro e u4 ⟨rfl, rfl⟩
          simp +zetaDelta only [Exit.then, Exit.inBlock, bodyPost]
          first | exact ⟨rfl, B1.out.trans (B3.out.mono B1.out.size), .inr ⟨by rw [HK.out]; first | decide | assumption, by rw [HK.out]⟩⟩ | exact ⟨trivial, B1.out.trans (B3.out.mono B1.out.size), .inr ⟨by rw [HK.out]; first | decide | assumption, by rw [HK.out]⟩⟩
      · have X : Bk4 wr w1.heap.size (.int .i64 n0) (.int .i64 n1) (.int .i64 0) (.int .i64 0) := hA.out
        obtain rfl : q0 = 0 := hq.out.1 (by omega)
        obtain rfl : q1 = 0 := hq.out.2.1 (by omega)
        obtain ⟨ad, rfl, gx⟩ := StS.get (S1.out.on hB.out) 2 (by simp)
        have gx : wr.cell? (ad.add 2) = some (.string x2) := gx
        have gx0 : wr.cell? ⟨ad.block, ad.off + 2, none⟩ = some (.string x2) := by rwa [show ad.add 2 = ⟨ad.block, ad.off + 2, none⟩ from rfl] at gx
        have Xh := X.hb; have Xf := X.fz; have X0 := X.k0; have X1 := X.k1; have X2 := X.k2; have X3 := X.k3
        go_wp2_with fail
        refine (R2.out _ (var_keep hB.out V1.out)).mono ?_; rintro e w3 ⟨rfl, b3⟩
        have B3 := Lib.hid (below_step hB.out b3)
        have X := X.keep b3
        clear Xh Xf X0 X1 X2 X3 gx b3 gx0
        have Xh := X.hb; have Xf := X.fz; have X0 := X.k0; have X1 := X.k1; have X2 := X.k2; have X3 := X.k3
        by_cases hk0 : q2 = 0
        · subst hk0
          go_wp2_with fail
          refine (must_yes _ _).mono ?_; rintro e u4 ⟨rfl, rfl⟩
          go_wp2_with fail
          go_roundw
          case rel =>
            refine ⟨3, by omega, rfl, ?_, ?_, ?_⟩
            · exact Lib.hid (show Bk4 _ w1.heap.size (.int .i64 n0) (.int .i64 n1) (.int .i64 n2) (.int .i64 0) from Bk4.of (Below.refl _ _) (by first | (simp; done) | (simp; omega)) (by intro j; simp [go_sem, Xf]) (by simp [go_sem, Xh, X0]) (by simp [go_sem, Xh, X1]) (by simp [go_sem, Xh, X2]) (by simp [go_sem, Xh, X3]))
            · exact Lib.hid ⟨by first | trivial | (intro _; rfl) | (intro h; omega), by first | trivial | (intro _; rfl) | (intro h; omega), by first | trivial | (intro _; rfl) | (intro h; omega), by first | trivial | (intro _; rfl) | (intro h; omega)⟩
            · exact Lib.hid (Below.setCell B3.out (Nat.le_refl _) _)
          case measure => first | (simp [intOf]; done) | (simp [intOf]; omega)
        · have HK : Hid (tot = (An.I0, q2)) := Lib.hid (by rw [HE.out]; simp [hk0])
          clear HE
          go_wp2_with fail
          refine (must_no _ _ _ hk0).mono ?_; rintro e u4 ⟨rfl, rfl⟩
          simp +zetaDelta only [Exit.then, Exit.inBlock, bodyPost]
          first | exact ⟨rfl, B1.out.trans (B3.out.mono B1.out.size), .inr ⟨by rw [HK.out]; first | decide | assumption, by rw [HK.out]⟩⟩ | exact ⟨trivial, B1.out.trans (B3.out.mono B1.out.size), .inr ⟨by rw [HK.out]; first | decide | assumption, by rw [HK.out]⟩⟩
      · have X : Bk4 wr w1.heap.size (.int .i64 n0) (.int .i64 n1) (.int .i64 n2) (.int .i64 0) := hA.out
        obtain rfl : q0 = 0 := hq.out.1 (by omega)
        obtain rfl : q1 = 0 := hq.out.2.1 (by omega)
        obtain rfl : q2 = 0 := hq.out.2.2.1 (by omega)
        obtain ⟨ad, rfl, gx⟩ := StS.get (S1.out.on hB.out) 3 (by simp)
        have gx : wr.cell? (ad.add 3) = some (.string x3) := gx
        have gx0 : wr.cell? ⟨ad.block, ad.off + 3, none⟩ = some (.string x3) := by rwa [show ad.add 3 = ⟨ad.block, ad.off + 3, none⟩ from rfl] at gx
        have Xh := X.hb; have Xf := X.fz; have X0 := X.k0; have X1 := X.k1; have X2 := X.k2; have X3 := X.k3
        go_wp2_with fail
        refine (R3.out _ (var_keep hB.out V1.out)).mono ?_; rintro e w3 ⟨rfl, b3⟩
        have B3 := Lib.hid (below_step hB.out b3)
        have X := X.keep b3
        clear Xh Xf X0 X1 X2 X3 gx b3 gx0
        have Xh := X.hb; have Xf := X.fz; have X0 := X.k0; have X1 := X.k1; have X2 := X.k2; have X3 := X.k3
        by_cases hk0 : q3 = 0
        · subst hk0
          go_wp2_with fail
          refine (must_yes _ _).mono ?_; rintro e u4 ⟨rfl, rfl⟩
          go_wp2_with fail
          go_roundw
          case rel =>
            refine ⟨4, by omega, rfl, ?_, ?_, ?_⟩
            · exact Lib.hid (show Bk4 _ w1.heap.size (.int .i64 n0) (.int .i64 n1) (.int .i64 n2) (.int .i64 n3) from Bk4.of (Below.refl _ _) (by first | (simp; done) | (simp; omega)) (by intro j; simp [go_sem, Xf]) (by simp [go_sem, Xh, X0]) (by simp [go_sem, Xh, X1]) (by simp [go_sem, Xh, X2]) (by simp [go_sem, Xh, X3]))
            · exact Lib.hid ⟨by first | trivial | (intro _; rfl) | (intro h; omega), by first | trivial | (intro _; rfl) | (intro h; omega), by first | trivial | (intro _; rfl) | (intro h; omega), by first | trivial | (intro _; rfl) | (intro h; omega)⟩
            · exact Lib.hid (Below.setCell B3.out (Nat.le_refl _) _)
          case measure => first | (simp [intOf]; done) | (simp [intOf]; omega)
        · have HK : Hid (tot = (An.I0, q3)) := Lib.hid (by rw [HE.out]; simp [hk0])
          clear HE
          go_wp2_with fail
          refine (must_no _ _ _ hk0).mono ?_; rintro e u4 ⟨rfl, rfl⟩
          simp +zetaDelta only [Exit.then, Exit.inBlock, bodyPost]
          first | exact ⟨rfl, B1.out.trans (B3.out.mono B1.out.size), .inr ⟨by rw [HK.out]; first | decide | assumption, by rw [HK.out]⟩⟩ | exact ⟨trivial, B1.out.trans (B3.out.mono B1.out.size), .inr ⟨by rw [HK.out]; first | decide | assumption, by rw [HK.out]⟩⟩
      · have X : Bk4 wr w1.heap.size (.int .i64 n0) (.int .i64 n1) (.int .i64 n2) (.int .i64 n3) := hA.out
        obtain rfl : q0 = 0 := hq.out.1 (by omega)
        obtain rfl : q1 = 0 := hq.out.2.1 (by omega)
        obtain rfl : q2 = 0 := hq.out.2.2.1 (by omega)
        obtain rfl : q3 = 0 := hq.out.2.2.2 (by omega)
        have HK : Hid (tot = ((n0, n1, n2, n3, x4), 0)) := Lib.hid (by rw [HE.out]; simp)
        obtain ⟨ad, rfl, gx⟩ := StS.get (S1.out.on hB.out) 4 (by simp)
        have gx : wr.cell? (ad.add 4) = some (.string x4) := gx
        have gx0 : wr.cell? ⟨ad.block, ad.off + 4, none⟩ = some (.string x4) := by rwa [show ad.add 4 = ⟨ad.block, ad.off + 4, none⟩ from rfl] at gx
        clear HE hq
        go_upto_region 10 with (fail)
        have qA0 := cell_regrown X.k0
        have qA1 := cell_regrown X.k1
        have qA2 := cell_regrown X.k2
        have qA3 := cell_regrown X.k3
        have qx := cell_regrown gx0
        refine wp_region_qbt (w := wr) 14 (by kernel_rfl) (by kernel_rfl) (by repeat (first | exact Below.refl _ _ | refine _root_.Go.below_drewN ?_ _ | refine Below.drew ?_ | refine Below.setCell ?_ (by first | (simp; done) | (simp; omega) | omega) _ | refine Below.alloc ?_ (by first | (simp; done) | (simp; omega) | omega) _)) ?_
        simp only [List.take_succ_cons, List.take_zero, List.drop_succ_cons, List.drop_zero]
        repeat (any_goals (first | go_big_quiet_step (fail) | quiet_step (fail)))
        refine wpQuiet_nil ?_
        intro w3 b3
        have Z3 := (Z1.out.keep hB.out).keep b3
        have B3 := Lib.hid (B1.out.trans ((below_step hB.out b3).mono B1.out.size))
        clear qA0 qA1 qA2 qA3 qx gx0 gx b3 X
        have Zh := Z3.hb; have Zf := Z3.fz; have Z30 := Z3.k0; have Z31 := Z3.k1; have Z32 := Z3.k2; have Z33 := Z3.k3; have Z34 := Z3.k4
        go_wp2_with fail
        refine bodyPost_ret (v := .agg #[.int .i64 n0, .int .i64 n1, .int .i64 n2, .int .i64 n3, .string x4]) (by simp [results, Tryz.results28, go_sem, Zh, Zf, Z30, Z31, Z32, Z33, Z34]) rfl ⟨?_, .inl ⟨by rw [HK.out], by rw [HK.out]⟩⟩
        have hz := B3.out.size
        iterate 5 (refine Below.setCell ?_ (by first | omega | (simp; done) | (simp; omega)) _)
        exact B3.out
end Go.Proofs.YtlelpeocbgjmhaaGreatDoor
