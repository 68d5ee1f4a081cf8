/- Joined: StG, StH, StO, StI, StK, RsH. -/
import Derived.Test.YtlelpeocbgjmhaaGreatDoorCa19
import Derived.Test.YtlelpeocbgjmhaaGreatDoorCa26
import Derived.Test.YtlelpeocbgjmhaaGreatDoorCa04
import Derived.Lib.QuietBelow
import Derived.Test.YtlelpeocbgjmhaaGreatDoorCa25
/- Stamps that are read: the year. -/
set_option linter.unusedVariables false
set_option linter.unusedSimpArgs false
namespace Go.Proofs.YtlelpeocbgjmhaaGreatDoor
open Go.RowKit

theorem tp_len (l p : List UInt8) : (Lib.trimPrefix l p).length ≤ l.length := by
  unfold Lib.trimPrefix
  split
  · rw [List.length_drop]; omega
  · omega
theorem cut_as (s : ByteArray) (W : World) : ∃ (D : ByteArray) (b : Bool), D.data.toList = Lib.trimPrefix s.data.toList [45] ∧ b = Lib.hasPrefix s.data.toList [45] ∧ D.size ≤ s.size ∧
    ∀ W, Calls Tryz.prog 78 #[.string s, .string ⟨#[45]⟩] W fun e w' => e = .returned (.tuple #[.string D, .bool b]) ∧ W = w' := by
  refine ⟨⟨(Lib.trimPrefix s.data.toList [45]).toArray⟩, _, rfl, rfl, ?_, fun W => cutPrefix s ⟨#[45]⟩ W⟩
  show (Lib.trimPrefix s.data.toList [45]).toArray.size ≤ s.size
  rw [List.size_toArray, ← bl_len s]
  exact tp_len _ _
theorem list_bytes {D : ByteArray} {l : List UInt8} (h : D.data.toList = l) : D = ⟨l.toArray⟩ := by
  subst h; rfl
theorem head_b {D : ByteArray} (h : 0 < D.size) : D.data.toList.head? = some D[0] := by
  rw [List.head?_eq_getElem?, List.getElem?_eq_getElem (by rw [bl_len]; exact h)]
  rfl
namespace Rd
/-- What readYear answers. -/
def ya (l : List UInt8) : Int := if yl l then yv l else 0
end Rd
end Go.Proofs.YtlelpeocbgjmhaaGreatDoor

/- Stamps that are read: what stands behind the year. -/
set_option linter.unusedVariables false
set_option linter.unusedSimpArgs false
namespace Go.Proofs.YtlelpeocbgjmhaaGreatDoor
open Go.RowKit

theorem at_ix (a : ByteArray) (k : Nat) (h : k < a.size) (w : World) : Sem.run Tryz.prog (Instr.index 9 (.string a) (.int .i64 (k : Int))) w = .ok (.int .u8 a[k].toNat) w := by
  rw [run_index_string w _ _ _ _ Tryz.underlying9, dif_pos ⟨by omega, by omega⟩]
  simp
theorem cut_ab (s : ByteArray) (a b : Nat) (h : a ≤ b) (hb : b ≤ s.size) (w : World) : Sem.run Tryz.prog (Instr.slice 9 (.string s) (some (.int .i64 (a : Int))) (some (.int .i64 (b : Int))) none) w = .ok (.string (s.extract a b)) w := by
  rw [run_slice_string w 9 s .i64 .i64 (a : Int) (b : Int) Tryz.underlying9 (by omega) (by omega) (by omega)]
  simp
theorem cut_l (s : ByteArray) (a : Nat) (ha : a ≤ s.size) (w : World) : Sem.run Tryz.prog (Instr.slice 9 (.string s) (some (.int .i64 (a : Int))) none none) w = .ok (.string (s.extract a s.size)) w := by
  rw [run_slice_string_l w 9 s Tryz.underlying9 .i64 _ (by omega) (by omega)]
  simp
theorem ext_list (s : ByteArray) (a b : Nat) : (s.extract a b).data.toList = (s.data.toList.take b).drop a := by
  rw [ByteArray.data_extract, Array.toList_extract]
  simp [List.extract_eq_take_drop, List.drop_take]
/-- The part of a text at a place of three bytes, as the code cuts it. -/
theorem part3 (s : ByteArray) (hs : s.size = 15) (k : Nat) (hk : k < 5) : ∃ (P Q : ByteArray) (c g : Int), P.size = 3 ∧ Q.size = 2 ∧ Q.data.toList = (s.data.toList.drop (3 * k + 1)).take 2 ∧ Rd.pOk s.data.toList k = ((c == g) && Q.data.toList.all Num.dig) ∧
    (∀ W, Sem.run Tryz.prog (Instr.slice 9 (.string s) (some (.int .i64 ((3 * k : Nat) : Int))) (some (.int .i64 ((3 * k + 3 : Nat) : Int))) none) W = .ok (.string P) W) ∧
    (∀ W, Sem.run Tryz.prog (Instr.index 9 (.string P) (.int .i64 0)) W = .ok (.int .u8 c) W) ∧
    (∀ W, Sem.run Tryz.prog (Instr.slice 9 (.string P) (some (.int .i64 1)) none none) W = .ok (.string Q) W) ∧
    (∀ W, Sem.run Tryz.prog (Instr.index 9 (.string ⟨#[45, 45, 84, 58, 58]⟩) (.int .i64 (k : Int))) W = .ok (.int .u8 g) W) := by
  have hP : (s.extract (3 * k) (3 * k + 3)).size = 3 := by rw [ByteArray.size_extract]; omega
  have h0 : 0 < (s.extract (3 * k) (3 * k + 3)).size := by omega
  have hg : k < (⟨#[45, 45, 84, 58, 58]⟩ : ByteArray).size := hk
  refine ⟨s.extract (3 * k) (3 * k + 3), (s.extract (3 * k) (3 * k + 3)).extract 1 3, ((s.extract (3 * k) (3 * k + 3))[0].toNat : Int), (((⟨#[45, 45, 84, 58, 58]⟩ : ByteArray)[k]).toNat : Int), hP, ?_, ?_, ?_, ?_, ?_, ?_, ?_⟩
  · rw [ByteArray.size_extract, hP]; rfl
  · rw [ext_list, ext_list]
    have e : s.data.toList.length = 15 := by rw [bl_len]; exact hs
    apply List.ext_getElem
    · simp [e]; omega
    · intro i h1 h2
      simp
      congr 1
      omega
  · unfold Rd.pOk
    have e : s.data.toList.length = 15 := by rw [bl_len]; exact hs
    have e1 : s.data.toList.getD (3 * k) 0 = (s.extract (3 * k) (3 * k + 3))[0] := by
      have h1 : (s.extract (3 * k) (3 * k + 3))[0] = (s.extract (3 * k) (3 * k + 3)).data.toList[0]'(by rw [bl_len]; exact h0) := rfl
      rw [h1, List.getD_eq_getElem?_getD, List.getElem?_eq_getElem (by omega)]
      have h2 := ext_list s (3 * k) (3 * k + 3)
      simp [h2]
    have e2 : Rd.sg.getD k 0 = (⟨#[45, 45, 84, 58, 58]⟩ : ByteArray)[k] := by
      have h1 : (⟨#[45, 45, 84, 58, 58]⟩ : ByteArray)[k] = (⟨#[45, 45, 84, 58, 58]⟩ : ByteArray).data.toList[k]'hk := rfl
      rw [h1, List.getD_eq_getElem?_getD]
      unfold Rd.sg
      rw [List.getElem?_eq_getElem hk]; rfl
    have E1 : ∀ x y : UInt8, decide (x = y) = ((x.toNat : Int) == (y.toNat : Int)) := by
      intro x y
      by_cases h : x = y
      · subst h; simp
      · rw [decide_eq_false h]
        symm
        rw [beq_eq_false_iff_ne]
        intro h2
        exact h (UInt8.toNat_inj.1 (by omega))
    have E2 : (s.data.toList.drop (3 * k + 1)).take 2 = ((s.extract (3 * k) (3 * k + 3)).extract 1 3).data.toList := by
      rw [ext_list, ext_list]
      apply List.ext_getElem
      · simp [e]; omega
      · intro i h1 h2
        simp
        congr 1
        omega
    rw [e1, e2, E1, E2]
  · intro W; exact cut_ab s _ _ (by omega) (by omega) W
  · intro W; exact at_ix _ 0 h0 W
  · intro W
    have := cut_l (s.extract (3 * k) (3 * k + 3)) 1 (by omega) W
    rw [hP] at this
    exact this
  · intro W; exact at_ix _ k hg W
namespace Rd
def vk (l : List UInt8) (j k : Nat) : Int := if j < k then pV l j else 0
/-- What readBehind answers. -/
def vb (l : List UInt8) (j : Nat) : Int := if bOk l then pV l j else 0
theorem bOk_iff {l : List UInt8} : bOk l = true ↔ ∀ j, j < 5 → pOk l j = true := by
  unfold bOk
  simp only [Bool.and_eq_true]
  constructor
  · rintro ⟨a, b, c, d, e⟩ j hj
    obtain rfl | rfl | rfl | rfl | rfl : j = 0 ∨ j = 1 ∨ j = 2 ∨ j = 3 ∨ j = 4 := by omega
    all_goals assumption
  · intro h
    exact ⟨h 0 (by omega), h 1 (by omega), h 2 (by omega), h 3 (by omega), h 4 (by omega)⟩
end Rd
end Go.Proofs.YtlelpeocbgjmhaaGreatDoor

/- The contracts of stamp.Split and stamp.Of. -/
set_option linter.unusedVariables false
set_option linter.unusedSimpArgs false
namespace Go.Proofs.YtlelpeocbgjmhaaGreatDoor
open Go.RowKit Go.Sort

theorem sdiv_b (a b : Int) (w : World) (ha : -9223372036854775808 ≤ a) (ha' : a ≤ 9223372036854775807) (hb : 1 ≤ b) (hb' : b ≤ 1000000) :
    Calls Tryz.prog 85 #[.int .i64 a, .int .i64 b] w fun e w' => e = .returned (.tuple #[.int .i64 (a / b), .int .i64 (a % b), .int .i64 0]) ∧ Below w.heap.size w w' :=
  (div_pos a b w ha ha' hb hb').mono fun _ _ ⟨h, n, e⟩ => ⟨h, by rw [e]; exact below_draw _ _⟩
set_option maxHeartbeats 1000000 in
theorem split_any (t : Int) (w : World) (t0 : -9223372036854775808 ≤ t) (t1 : t ≤ 9223372036854775807) :
    Calls Tryz.prog 61 #[.int .i64 t] w fun e w' => e = .returned (.tuple #[.int .i64 (t / 86400), .int .i64 (t % 86400)]) ∧ Below w.heap.size w w' := by
  have C : Hid (∀ w, Calls Tryz.prog 85 #[.int .i64 t, .int .i64 86400] w fun e w' => e = .returned (.tuple #[.int .i64 (t / 86400), .int .i64 (t % 86400), .int .i64 0]) ∧ Below w.heap.size w w') := fun w => sdiv_b t 86400 w t0 t1 (by omega) (by omega)
  generalize t / 86400 = q at C ⊢
  generalize t % 86400 = r at C ⊢
  clear t0 t1
  go_enter Tryz.func61, Tryz.ntmps61
  go_wp2_with fail
  refine (C.out _).mono ?_; rintro e w1 ⟨rfl, b1⟩
  have d1 : Below w.heap.size w w1 := below_step (by repeat (first | exact Below.refl _ _ | refine _root_.Go.below_drewN ?_ _ | refine Below.drew ?_ | refine Below.setCell ?_ (by first | (simp; done) | (simp; omega) | omega) _ | refine Below.alloc ?_ (by first | (simp; done) | (simp; omega) | omega) _)) b1
  have B1 := Lib.hid d1
  clear b1 d1
  go_wp2_with fail
  go_ret2
  exact ⟨rfl, (by have hz := B1.out.size; repeat (first | exact B1.out | refine _root_.Go.below_drewN ?_ _ | refine Below.drew ?_ | refine Below.setCell ?_ (by first | omega | (simp; done) | (simp; omega)) _ | refine Below.alloc ?_ (by first | omega | (simp; done) | (simp; omega)) _))⟩
set_option maxHeartbeats 2000000 in
theorem sof_no (t : Int) (w : World) (t0 : -9223372036854775808 ≤ t) (t1 : t ≤ 9223372036854775807) (h : Cal.hasD (t / 86400) = false) :
    Calls Tryz.prog 39 #[.int .i64 t] w fun e w' => e = .returned (.tuple #[.agg #[.int .i64 0, .int .i64 0, .int .i64 0, .int .i64 0, .int .i64 0, .int .i64 0], .int .i64 1]) ∧ Below w.heap.size w w' := by
  have C := Lib.hid (fun w => split_any t w t0 t1)
  have D : Hid (∀ w, Calls Tryz.prog 62 #[.int .i64 (t / 86400)] w fun e w' => e = .returned (.tuple #[.agg #[.int .i64 0, .int .i64 0, .int .i64 0], .int .i64 1]) ∧ Below w.heap.size w w') := fun w => by
    have := date_any (t / 86400) w; rw [h] at this; exact this
  generalize t / 86400 = q at C D
  generalize t % 86400 = r at C
  clear h
  go_enter Tryz.func39, Tryz.ntmps39
  go_wp2_with fail
  refine (C.out _).mono ?_; rintro e w1 ⟨rfl, b1⟩
  have d1 : Below w.heap.size w w1 := below_step (by repeat (first | exact Below.refl _ _ | refine _root_.Go.below_drewN ?_ _ | refine Below.drew ?_ | refine Below.setCell ?_ (by first | (simp; done) | (simp; omega) | omega) _ | refine Below.alloc ?_ (by first | (simp; done) | (simp; omega) | omega) _)) b1
  have B1 := Lib.hid d1
  have R1 : Bk6 w1 (w.heap.size) (.int .i64 0) (.int .i64 0) (.int .i64 0) (.int .i64 0) (.int .i64 0) (.int .i64 0) := Bk6.of b1 (by simp <;> omega) (by intro j; simp [go_sem]) (by simp [go_sem]) (by simp [go_sem]) (by simp [go_sem]) (by simp [go_sem]) (by simp [go_sem]) (by simp [go_sem])
  clear b1 d1
  have cR_b := R1.hb
  have cR_f := R1.fz
  have cR_0 := R1.k0
  have cR_1 := R1.k1
  have cR_2 := R1.k2
  have cR_3 := R1.k3
  have cR_4 := R1.k4
  have cR_5 := R1.k5
  go_wp2_with fail
  clear cR_b cR_f cR_0 cR_1 cR_2 cR_3 cR_4 cR_5
  refine (D.out _).mono ?_; rintro e w2 ⟨rfl, b2⟩
  have d2 : Below w1.heap.size w1 w2 := below_step (by repeat (first | exact Below.refl _ _ | refine _root_.Go.below_drewN ?_ _ | refine Below.drew ?_ | refine Below.setCell ?_ (by first | (simp; done) | (simp; omega) | omega) _ | refine Below.alloc ?_ (by first | (simp; done) | (simp; omega) | omega) _)) b2
  have B2 := Lib.hid (below_step B1.out d2)
  have R2 := R1.keep d2
  clear R1 b2 d2 B1
  have cR_b := R2.hb
  have cR_f := R2.fz
  have cR_0 := R2.k0
  have cR_1 := R2.k1
  have cR_2 := R2.k2
  have cR_3 := R2.k3
  have cR_4 := R2.k4
  have cR_5 := R2.k5
  go_upto_region 4 with (fail)
  clear cR_b cR_f cR_0 cR_1 cR_2 cR_3 cR_4 cR_5
  refine wp_named ?_; intro w3 hw3
  have d3 : Below w2.heap.size w2 w3 := by rw [hw3]; exact (by repeat (first | exact Below.refl _ _ | refine _root_.Go.below_drewN ?_ _ | refine Below.drew ?_ | refine Below.setCell ?_ (by first | (simp; done) | (simp; omega) | omega) _ | refine Below.alloc ?_ (by first | (simp; done) | (simp; omega) | omega) _))
  have B3 := Lib.hid (below_step B2.out d3)
  have R3 := R2.keep d3
  clear R2 d3 hw3 B2
  have cR_b := R3.hb
  have cR_f := R3.fz
  have cR_0 := R3.k0
  have cR_1 := R3.k1
  have cR_2 := R3.k2
  have cR_3 := R3.k3
  have cR_4 := R3.k4
  have cR_5 := R3.k5
  go_wp2_with fail
  refine bodyPost_ret (v := .tuple #[.agg #[.int .i64 0, .int .i64 0, .int .i64 0, .int .i64 0, .int .i64 0, .int .i64 0], .int .i64 1]) (by simp [results, Tryz.results39, go_sem, cR_b, cR_f, cR_0, cR_1, cR_2, cR_3, cR_4, cR_5]) rfl ⟨rfl, ?_⟩
  clear cR_b cR_f cR_0 cR_1 cR_2 cR_3 cR_4 cR_5
  have hz := B3.out.size
  iterate 6 (refine Below.setCell ?_ (by first | omega | (simp; done) | (simp; omega)) _)
  exact B3.out
set_option maxHeartbeats 2000000 in
theorem sof_yes (t : Int) (w : World) (t0 : -9223372036854775808 ≤ t) (t1 : t ≤ 9223372036854775807) (h : Cal.hasD (t / 86400) = true) :
    Calls Tryz.prog 39 #[.int .i64 t] w fun e w' => e = .returned (.tuple #[.agg #[.int .i64 (Cal.dY (t / 86400)), .int .i64 (Cal.dM (t / 86400)), .int .i64 (Cal.dD (t / 86400)), .int .i64 (t % 86400 / 3600), .int .i64 (t % 86400 / 60 % 60), .int .i64 (t % 86400 % 60)], .int .i64 0]) ∧ Below w.heap.size w w' := by
  have C := Lib.hid (fun w => split_any t w t0 t1)
  have D : Hid (∀ w, Calls Tryz.prog 62 #[.int .i64 (t / 86400)] w fun e w' => e = .returned (.tuple #[.agg #[.int .i64 (Cal.dY (t / 86400)), .int .i64 (Cal.dM (t / 86400)), .int .i64 (Cal.dD (t / 86400))], .int .i64 0]) ∧ Below w.heap.size w w') := fun w => by
    have := date_any (t / 86400) w; rw [h] at this; exact this
  have r0 : 0 ≤ t % 86400 := by omega
  have r1 : t % 86400 < 86400 := by omega
  generalize Cal.dY (t / 86400) = a at D ⊢
  generalize Cal.dM (t / 86400) = b at D ⊢
  generalize Cal.dD (t / 86400) = c at D ⊢
  generalize t / 86400 = q at C D
  generalize t % 86400 = r at C r0 r1 ⊢
  clear h t0 t1
  go_enter Tryz.func39, Tryz.ntmps39
  go_wp2_with fail
  refine (C.out _).mono ?_; rintro e w1 ⟨rfl, b1⟩
  have d1 : Below w.heap.size w w1 := below_step (by repeat (first | exact Below.refl _ _ | refine _root_.Go.below_drewN ?_ _ | refine Below.drew ?_ | refine Below.setCell ?_ (by first | (simp; done) | (simp; omega) | omega) _ | refine Below.alloc ?_ (by first | (simp; done) | (simp; omega) | omega) _)) b1
  have B1 := Lib.hid d1
  have R1 : Bk6 w1 (w.heap.size) (.int .i64 0) (.int .i64 0) (.int .i64 0) (.int .i64 0) (.int .i64 0) (.int .i64 0) := Bk6.of b1 (by simp <;> omega) (by intro j; simp [go_sem]) (by simp [go_sem]) (by simp [go_sem]) (by simp [go_sem]) (by simp [go_sem]) (by simp [go_sem]) (by simp [go_sem])
  clear b1 d1
  have cR_b := R1.hb
  have cR_f := R1.fz
  have cR_0 := R1.k0
  have cR_1 := R1.k1
  have cR_2 := R1.k2
  have cR_3 := R1.k3
  have cR_4 := R1.k4
  have cR_5 := R1.k5
  go_wp2_with fail
  clear cR_b cR_f cR_0 cR_1 cR_2 cR_3 cR_4 cR_5
  refine (D.out _).mono ?_; rintro e w2 ⟨rfl, b2⟩
  have d2 : Below w1.heap.size w1 w2 := below_step (by repeat (first | exact Below.refl _ _ | refine _root_.Go.below_drewN ?_ _ | refine Below.drew ?_ | refine Below.setCell ?_ (by first | (simp; done) | (simp; omega) | omega) _ | refine Below.alloc ?_ (by first | (simp; done) | (simp; omega) | omega) _)) b2
  have B2 := Lib.hid (below_step B1.out d2)
  have R2 := R1.keep d2
  clear R1 b2 d2 B1
  have cR_b := R2.hb
  have cR_f := R2.fz
  have cR_0 := R2.k0
  have cR_1 := R2.k1
  have cR_2 := R2.k2
  have cR_3 := R2.k3
  have cR_4 := R2.k4
  have cR_5 := R2.k5
  go_upto_region 6 with (fail)
  clear cR_b cR_f cR_0 cR_1 cR_2 cR_3 cR_4 cR_5
  refine wp_named ?_; intro w3 hw3
  have d3 : Below w2.heap.size w2 w3 := by rw [hw3]; exact (by repeat (first | exact Below.refl _ _ | refine _root_.Go.below_drewN ?_ _ | refine Below.drew ?_ | refine Below.setCell ?_ (by first | (simp; done) | (simp; omega) | omega) _ | refine Below.alloc ?_ (by first | (simp; done) | (simp; omega) | omega) _))
  have B3 := Lib.hid (below_step B2.out d3)
  have R3 := R2.keep d3
  have aX := B2.out.size
  have nXR := Nat.ne_of_lt R2.hb
  have oXR := Nat.ne_of_gt R2.hb
  have X3 : Bk3 w3 (w2.heap.size) (.int .i64 a) (.int .i64 b) (.int .i64 c) := by rw [hw3]; exact ⟨by simp <;> omega, by intro j; simp [go_sem], by simp [go_sem], by simp [go_sem], by simp [go_sem]⟩
  clear R2 d3 hw3 B2
  have cR_b := R3.hb
  have cR_f := R3.fz
  have cR_0 := R3.k0
  have cR_1 := R3.k1
  have cR_2 := R3.k2
  have cR_3 := R3.k3
  have cR_4 := R3.k4
  have cR_5 := R3.k5
  have cX_b := X3.hb
  have cX_f := X3.fz
  have cX_0 := X3.k0
  have cX_1 := X3.k1
  have cX_2 := X3.k2
  go_wp2_with fail
  refine bodyPost_ret (v := .tuple #[.agg #[.int .i64 a, .int .i64 b, .int .i64 c, .int .i64 (r / 3600), .int .i64 (r / 60 % 60), .int .i64 (r % 60)], .int .i64 0]) (by simp [results, Tryz.results39, go_sem, cR_b, cR_f, cR_0, cR_1, cR_2, cR_3, cR_4, cR_5, cX_b, cX_f, cX_0, cX_1, cX_2]) rfl ⟨rfl, ?_⟩
  clear cR_b cR_f cR_0 cR_1 cR_2 cR_3 cR_4 cR_5 cX_b cX_f cX_0 cX_1 cX_2
  have hz := B3.out.size
  iterate 6 (refine Below.setCell ?_ (by first | omega | (simp; done) | (simp; omega)) _)
  exact B3.out
end Go.Proofs.YtlelpeocbgjmhaaGreatDoor

/- The contract of stamp.Read. -/
set_option linter.unusedVariables false
set_option linter.unusedSimpArgs false
namespace Go.Proofs.YtlelpeocbgjmhaaGreatDoor
open Go.RowKit Go.Sort

theorem hd_bytes (s : ByteArray) (h : 15 ≤ s.size) : ∃ H T : ByteArray, s.extract 0 (s.size - 15) = H ∧ s.extract (s.size - 15) s.size = T ∧ H.data.toList = Rd.hd s.data.toList ∧ T.data.toList = Rd.tl s.data.toList ∧ T.size = 15 ∧ H.size ≤ s.size := by
  refine ⟨_, _, rfl, rfl, ?_, ?_, ?_, ?_⟩
  · rw [ext_list]
    unfold Rd.hd
    rw [bl_len]; rfl
  · rw [ext_list]
    unfold Rd.tl
    rw [bl_len, List.take_of_length_le (by rw [bl_len]; omega)]
  · rw [ByteArray.size_extract]; omega
  · rw [ByteArray.size_extract]; omega
end Go.Proofs.YtlelpeocbgjmhaaGreatDoor

/- The contract of stamp.Secs; stamp.Read's in three ways. -/
set_option linter.unusedVariables false
set_option linter.unusedSimpArgs false
namespace Go.Proofs.YtlelpeocbgjmhaaGreatDoor
open Go.RowKit Go.Sort

namespace St
/-- A stamp's second. -/
def sec (y m d h i s : Int) : Int := Cal.num y m d * 86400 + h * 3600 + i * 60 + s
end St
theorem form_iff {s : ByteArray} : Rd.form s.data.toList = true ↔ 15 ≤ s.size ∧ Rd.isY (Rd.hd s.data.toList) = true ∧ Rd.bOk (Rd.tl s.data.toList) = true := by
  unfold Rd.form
  rw [bl_len, Bool.and_eq_true, Bool.and_eq_true, decide_eq_true_eq]
end Go.Proofs.YtlelpeocbgjmhaaGreatDoor

/- Stamps that are read, and their numbers: the program's and the reference's answers at any input. -/
set_option linter.unusedVariables false
set_option linter.unusedSimpArgs false
namespace Go.Proofs.YtlelpeocbgjmhaaGreatDoor
open Go.RowKit

namespace Rd
/-- A stamp that is read, and why not. -/
def rv (t : List UInt8) : Value := if form t then (if ok t then .tuple #[.agg #[.int .i64 (yv (hd t)), .int .i64 (pV (tl t) 0), .int .i64 (pV (tl t) 1), .int .i64 (pV (tl t) 2), .int .i64 (pV (tl t) 3), .int .i64 (pV (tl t) 4)], .int .i64 0] else .tuple #[.agg #[.int .i64 0, .int .i64 0, .int .i64 0, .int .i64 0, .int .i64 0, .int .i64 0], .int .i64 1]) else .tuple #[.agg #[.int .i64 0, .int .i64 0, .int .i64 0, .int .i64 0, .int .i64 0, .int .i64 0], .int .i64 4]
end Rd
end Go.Proofs.YtlelpeocbgjmhaaGreatDoor
