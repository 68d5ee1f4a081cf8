/- Joined: StH. -/
import Derived.Test.YtifgiclnofdnkaaGreatDoorBy18
import Derived.Test.YtifgiclnofdnkaaGreatDoorBy03
import Derived.Lib.QuietBelow
set_option linter.unusedVariables false
set_option linter.unusedSimpArgs false
namespace Go.Proofs.YtifgiclnofdnkaaGreatDoor
open Go.RowKit
theorem at_ix (a : ByteArray) (k : Nat) (h : k < a.size) (w : World) : Sem.run Tryz.prog (Instr.index 9 (.string a) (.int .i64 (k : Int))) w = .ok (.int .u8 a[k].toNat) w := by
 rw [run_index_string w _ _ _ _ Tryz.underlying9, dif_pos ⟨by omega, by omega⟩]
 simp
theorem cut_ab (s : ByteArray) (a b : Nat) (h : a ≤ b) (hb : b ≤ s.size) (w : World) : Sem.run Tryz.prog (Instr.slice 9 (.string s) (some (.int .i64 (a : Int))) (some (.int .i64 (b : Int))) none) w = .ok (.string (s.extract a b)) w := by
 rw [run_slice_string w 9 s .i64 .i64 (a : Int) (b : Int) Tryz.underlying9 (by omega) (by omega) (by omega)]
 simp
theorem cut_l (s : ByteArray) (a : Nat) (ha : a ≤ s.size) (w : World) : Sem.run Tryz.prog (Instr.slice 9 (.string s) (some (.int .i64 (a : Int))) none none) w = .ok (.string (s.extract a s.size)) w := by
 rw [run_slice_string_l w 9 s Tryz.underlying9 .i64 _ (by omega) (by omega)]
 simp
theorem ext_list (s : ByteArray) (a b : Nat) : (s.extract a b).data.toList = (s.data.toList.take b).drop a := by
 rw [ByteArray.data_extract, Array.toList_extract]
 simp [List.extract_eq_take_drop, List.drop_take]
theorem part3 (s : ByteArray) (hs : s.size = 15) (k : Nat) (hk : k < 5) : ∃ (P Q : ByteArray) (c g : Int), P.size = 3 ∧ Q.size = 2 ∧ Q.data.toList = (s.data.toList.drop (3 * k + 1)).take 2 ∧ Rd.pOk s.data.toList k = ((c == g) && Q.data.toList.all Num.dig) ∧
  (∀ W, Sem.run Tryz.prog (Instr.slice 9 (.string s) (some (.int .i64 ((3 * k : Nat) : Int))) (some (.int .i64 ((3 * k + 3 : Nat) : Int))) none) W = .ok (.string P) W) ∧
  (∀ W, Sem.run Tryz.prog (Instr.index 9 (.string P) (.int .i64 0)) W = .ok (.int .u8 c) W) ∧
  (∀ W, Sem.run Tryz.prog (Instr.slice 9 (.string P) (some (.int .i64 1)) none none) W = .ok (.string Q) W) ∧
  (∀ W, Sem.run Tryz.prog (Instr.index 9 (.string ⟨#[45, 45, 84, 58, 58]⟩) (.int .i64 (k : Int))) W = .ok (.int .u8 g) W) := by
 have hP : (s.extract (3 * k) (3 * k + 3)).size = 3 := by rw [ByteArray.size_extract]; omega
 have h0 : 0 < (s.extract (3 * k) (3 * k + 3)).size := by omega
 have hg : k < (⟨#[45, 45, 84, 58, 58]⟩ : ByteArray).size := hk
 refine ⟨s.extract (3 * k) (3 * k + 3), (s.extract (3 * k) (3 * k + 3)).extract 1 3, ((s.extract (3 * k) (3 * k + 3))[0].toNat : Int), (((⟨#[45, 45, 84, 58, 58]⟩ : ByteArray)[k]).toNat : Int), hP, ?_, ?_, ?_, ?_, ?_, ?_, ?_⟩
 ·
  rw [ByteArray.size_extract, hP]; rfl
 ·
  rw [ext_list, ext_list]
  have e : s.data.toList.length = 15 := by rw [bl_len]; exact hs
  apply List.ext_getElem
  ·
   simp [e]; omega
  ·
   intro i h1 h2
   simp
   congr 1
   omega
 ·
  unfold Rd.pOk
  have e : s.data.toList.length = 15 := by rw [bl_len]; exact hs
  have e1 : s.data.toList.getD (3 * k) 0 = (s.extract (3 * k) (3 * k + 3))[0] := by
   have h1 : (s.extract (3 * k) (3 * k + 3))[0] = (s.extract (3 * k) (3 * k + 3)).data.toList[0]'(by rw [bl_len]; exact h0) := rfl
   rw [h1, List.getD_eq_getElem?_getD, List.getElem?_eq_getElem (by omega)]
   have h2 := ext_list s (3 * k) (3 * k + 3)
   simp [h2]
  have e2 : Rd.sg.getD k 0 = (⟨#[45, 45, 84, 58, 58]⟩ : ByteArray)[k] := by
   have h1 : (⟨#[45, 45, 84, 58, 58]⟩ : ByteArray)[k] = (⟨#[45, 45, 84, 58, 58]⟩ : ByteArray).data.toList[k]'hk := rfl
   rw [h1, List.getD_eq_getElem?_getD]
   unfold Rd.sg
   rw [List.getElem?_eq_getElem hk]; rfl
  have E1 : ∀ x y : UInt8, decide (x = y) = ((x.toNat : Int) == (y.toNat : Int)) := by
   intro x y
   by_cases h : x = y
   ·
    subst h; simp
   ·
    rw [decide_eq_false h]
    symm
    rw [beq_eq_false_iff_ne]
    intro h2
    exact h (UInt8.toNat_inj.1 (by omega))
  have E2 : (s.data.toList.drop (3 * k + 1)).take 2 = ((s.extract (3 * k) (3 * k + 3)).extract 1 3).data.toList := by
   rw [ext_list, ext_list]
   apply List.ext_getElem
   ·
    simp [e]; omega
   ·
    intro i h1 h2
    simp
    congr 1
    omega
  rw [e1, e2, E1, E2]
 ·
  intro W; exact cut_ab s _ _ (by omega) (by omega) W
 ·
  intro W; exact at_ix _ 0 h0 W
 ·
  intro W
  have := cut_l (s.extract (3 * k) (3 * k + 3)) 1 (by omega) W
  rw [hP] at this
  exact this
 ·
  intro W; exact at_ix _ k hg W
namespace Rd
def vk (l : List UInt8) (j k : Nat) : Int := if j < k then pV l j else 0
def vb (l : List UInt8) (j : Nat) : Int := if bOk l then pV l j else 0
theorem bOk_iff {l : List UInt8} : bOk l = true ↔ ∀ j, j < 5 → pOk l j = true := by
 unfold bOk
 simp only [Bool.and_eq_true]
 constructor
 ·
  rintro ⟨a, b, c, d, e⟩ j hj
  obtain rfl | rfl | rfl | rfl | rfl : j = 0 ∨ j = 1 ∨ j = 2 ∨ j = 3 ∨ j = 4 := by omega
  all_goals assumption
 ·
  intro h
  exact ⟨h 0 (by omega), h 1 (by omega), h 2 (by omega), h 3 (by omega), h 4 (by omega)⟩
end Rd
set_option maxHeartbeats 16000000 in
set_option maxRecDepth 100000 in
theorem rbeh_any (s : ByteArray) (w : World) (hs : s.size = 15) :
  Calls Tryz.prog 93 #[.string s] w fun e w' => e = .returned (.tuple #[.agg #[.int .i64 (Rd.vb s.data.toList 0), .int .i64 (Rd.vb s.data.toList 1), .int .i64 (Rd.vb s.data.toList 2), .int .i64 (Rd.vb s.data.toList 3), .int .i64 (Rd.vb s.data.toList 4)], .bool (Rd.bOk s.data.toList)]) ∧ Below w.heap.size w w' := by
 have PT := Lib.hid (part3 s hs)
 have HS := Lib.hid hs
 have hsz : (s.size : Int) = 15 := by omega
 clear hs
 go_enter Tryz.func93, Tryz.ntmps93
 go_wp2_with fail
 go_loopw [6] (fun i wr => ∃ k : Nat, k ≤ 5 ∧ i = .int .i64 k ∧ Hid (∀ j, j < k → Rd.pOk s.data.toList j = true) ∧ Hid (Bk5 wr w.heap.size (.int .i64 (Rd.vk s.data.toList 0 k)) (.int .i64 (Rd.vk s.data.toList 1 k)) (.int .i64 (Rd.vk s.data.toList 2 k)) (.int .i64 (Rd.vk s.data.toList 3 k)) (.int .i64 (Rd.vk s.data.toList 4 k))) ∧ Hid (Below w.heap.size w wr)) (fun i _ => 5 - (intOf i).toNat)
 case atStart =>
  refine ⟨0, Nat.zero_le _, rfl, fun j hj => absurd hj (Nat.not_lt_zero _), ?_, ?_⟩
  ·
   exact Bk5.of (Below.refl _ _) (by simp) (by intro j; simp [go_sem]) (by simp [go_sem, Rd.vk]) (by simp [go_sem, Rd.vk]) (by simp [go_sem, Rd.vk]) (by simp [go_sem, Rd.vk]) (by simp [go_sem, Rd.vk])
  ·
   exact (Below.refl _ _).alloc (Nat.le_refl _) _
 case round =>
  obtain ⟨k, hk, rfl, hok, hbk, hbel⟩ := hrel
  obtain rfl | rfl | rfl | rfl | rfl | rfl : k = 0 ∨ k = 1 ∨ k = 2 ∨ k = 3 ∨ k = 4 ∨ k = 5 := by omega
  ·
   have B : Bk5 wr w.heap.size (.int .i64 0) (.int .i64 0) (.int .i64 0) (.int .i64 0) (.int .i64 0) := hbk.out
   have c_b := B.hb; have c_f := B.fz; have c_0 := B.k0; have c_1 := B.k1; have c_2 := B.k2; have c_3 := B.k3; have c_4 := B.k4
   clear B
   obtain ⟨P, Q, c, g, p3, q2, hql, hp, f1, f2, f3, f4⟩ := PT.out 0 (by omega)
   have F1 : ∀ W, Sem.run Tryz.prog (Instr.slice 9 (.string s) (some (.int .i64 0)) (some (.int .i64 3)) none) W = .ok (.string P) W := f1
   have F4 : ∀ W, Sem.run Tryz.prog (Instr.index 9 (.string ⟨#[45, 45, 84, 58, 58]⟩) (.int .i64 0)) W = .ok (.int .u8 g) W := f4
   have HP := Lib.hid hp
   have HQ := Lib.hid hql
   have p3' : (P.size : Int) = 3 := by omega
   clear f1 f4 hp hql
   by_cases hc : c = g
   ·
    have gc : (c == g) = true := by rw [beq_iff_eq]; exact hc
    have gn : (c != g) = false := by unfold bne; rw [gc]; rfl
    cases hd : Q.data.toList.all Num.dig
    ·
     have hno := Lib.hid (show Rd.bOk s.data.toList = false by
      rw [Bool.eq_false_iff]
      intro h
      have := Rd.bOk_iff.1 h 0 (by omega)
      rw [HP.out, hd] at this
      simp at this)
     have CD : Hid (∀ W, Calls Tryz.prog 118 #[.string Q] W fun e w' => e = .returned (.bool false) ∧ w' = W) := fun W => (hd ▸ sdig_any Q W (by unfold maxLen; omega)).mono fun _ _ ⟨a, b⟩ => ⟨a, b.symm⟩
     clear hd hc
     go_wp2_with fail
     go_quiet ((go_at_call 118; exact Calls.quiet_of_same (CD.out _)))
     go_wp2_with fail
     refine bodyPost_ret (v := .tuple #[.agg #[.int .i64 0, .int .i64 0, .int .i64 0, .int .i64 0, .int .i64 0], .bool false]) (by simp [results, Tryz.results93, go_sem, c_b, c_f, c_0, c_1, c_2, c_3, c_4]) rfl ⟨by unfold Rd.vb; rw [hno.out]; rfl, ?_⟩
     clear F1 f2 f3 F4
     repeat (first | refine Below.setCell ?_ (by first | (simp; done) | (simp; omega) | omega) _ | refine _root_.Go.below_drewN ?_ _ | refine Below.drew ?_)
     exact hbel.out
    ·
     have CD : Hid (∀ W, Calls Tryz.prog 118 #[.string Q] W fun e w' => e = .returned (.bool true) ∧ w' = W) := fun W => (hd ▸ sdig_any Q W (by unfold maxLen; omega)).mono fun _ _ ⟨a, b⟩ => ⟨a, b.symm⟩
     have CV : Hid (∀ W, Calls Tryz.prog 119 #[.string Q] W fun e w' => e = .returned (.int .i64 (Rd.pV s.data.toList 0)) ∧ W = w') := fun W => by
      have := sval_any Q W (by omega) hd
      rw [HQ.out] at this
      exact this
     have hok' := Lib.hid (show ∀ j, j < 1 → Rd.pOk s.data.toList j = true by
      intro j hj
      by_cases h : j = 0
      ·
       subst h; rw [HP.out, gc, hd]; rfl
      ·
       exact hok.out j (by omega))
     generalize hv : Rd.pV s.data.toList 0 = v at CV
     have HV := Lib.hid hv
     clear hd hc hv
     go_wp2_with fail
     go_quiet ((go_at_call 118; exact Calls.quiet_of_same (CD.out _)))
     go_wp2_with fail
     refine (CV.out _).mono ?_; rintro e w1 ⟨rfl, rfl⟩
     go_wp2_with fail
     go_roundw
     case rel =>
      clear F1 f2 f3 F4
      refine ⟨1, by omega, rfl, hok', ?_, ?_⟩
      ·
       exact Bk5.of (Below.refl _ _) (by simp; omega) (by intro j; simp [go_sem, c_f]) (by simp [go_sem, Rd.vk, c_b, c_0, HV.out]) (by simp [go_sem, Rd.vk, c_b, c_1, HV.out]) (by simp [go_sem, Rd.vk, c_b, c_2, HV.out]) (by simp [go_sem, Rd.vk, c_b, c_3, HV.out]) (by simp [go_sem, Rd.vk, c_b, c_4, HV.out])
      ·
       refine Lib.hid ?_
       repeat (first | refine Below.setCell ?_ (by first | (simp; done) | (simp; omega) | omega) _ | refine _root_.Go.below_drewN ?_ _ | refine Below.drew ?_)
       exact hbel.out
     case measure => simp [intOf]
   ·
    have gc : (c == g) = false := by rw [beq_eq_false_iff_ne]; exact hc
    have gn : (c != g) = true := by unfold bne; rw [gc]; rfl
    have hno := Lib.hid (show Rd.bOk s.data.toList = false by
     rw [Bool.eq_false_iff]
     intro h
     have := Rd.bOk_iff.1 h 0 (by omega)
     rw [HP.out, gc] at this
     simp at this)
    have CD : Hid (∀ W, Calls Tryz.prog 118 #[.string Q] W fun e w' => e = .returned (.bool (Q.data.toList.all Num.dig)) ∧ w' = W) := fun W => (sdig_any Q W (by unfold maxLen; omega)).mono fun _ _ ⟨a, b⟩ => ⟨a, b.symm⟩
    clear hc
    go_wp2_with fail
    go_quiet ((go_at_call 118; exact Calls.quiet_of_same (CD.out _)))
    go_wp2_with fail
    refine bodyPost_ret (v := .tuple #[.agg #[.int .i64 0, .int .i64 0, .int .i64 0, .int .i64 0, .int .i64 0], .bool false]) (by simp [results, Tryz.results93, go_sem, c_b, c_f, c_0, c_1, c_2, c_3, c_4]) rfl ⟨by unfold Rd.vb; rw [hno.out]; rfl, ?_⟩
    clear F1 f2 f3 F4
    repeat (first | refine Below.setCell ?_ (by first | (simp; done) | (simp; omega) | omega) _ | refine _root_.Go.below_drewN ?_ _ | refine Below.drew ?_)
    exact hbel.out
  ·
   have B : Bk5 wr w.heap.size (.int .i64 (Rd.pV s.data.toList 0)) (.int .i64 0) (.int .i64 0) (.int .i64 0) (.int .i64 0) := hbk.out
   have c_b := B.hb; have c_f := B.fz; have c_0 := B.k0; have c_1 := B.k1; have c_2 := B.k2; have c_3 := B.k3; have c_4 := B.k4
   clear B
   obtain ⟨P, Q, c, g, p3, q2, hql, hp, f1, f2, f3, f4⟩ := PT.out 1 (by omega)
   have F1 : ∀ W, Sem.run Tryz.prog (Instr.slice 9 (.string s) (some (.int .i64 3)) (some (.int .i64 6)) none) W = .ok (.string P) W := f1
   have F4 : ∀ W, Sem.run Tryz.prog (Instr.index 9 (.string ⟨#[45, 45, 84, 58, 58]⟩) (.int .i64 1)) W = .ok (.int .u8 g) W := f4
   have HP := Lib.hid hp
   have HQ := Lib.hid hql
   have p3' : (P.size : Int) = 3 := by omega
   clear f1 f4 hp hql
   by_cases hc : c = g
   ·
    have gc : (c == g) = true := by rw [beq_iff_eq]; exact hc
    have gn : (c != g) = false := by unfold bne; rw [gc]; rfl
    cases hd : Q.data.toList.all Num.dig
    ·
     have hno := Lib.hid (show Rd.bOk s.data.toList = false by
      rw [Bool.eq_false_iff]
      intro h
      have := Rd.bOk_iff.1 h 1 (by omega)
      rw [HP.out, hd] at this
      simp at this)
     have CD : Hid (∀ W, Calls Tryz.prog 118 #[.string Q] W fun e w' => e = .returned (.bool false) ∧ w' = W) := fun W => (hd ▸ sdig_any Q W (by unfold maxLen; omega)).mono fun _ _ ⟨a, b⟩ => ⟨a, b.symm⟩
     clear hd hc
     go_wp2_with fail
     go_quiet ((go_at_call 118; exact Calls.quiet_of_same (CD.out _)))
     go_wp2_with fail
     refine bodyPost_ret (v := .tuple #[.agg #[.int .i64 0, .int .i64 0, .int .i64 0, .int .i64 0, .int .i64 0], .bool false]) (by simp [results, Tryz.results93, go_sem, c_b, c_f, c_0, c_1, c_2, c_3, c_4]) rfl ⟨by unfold Rd.vb; rw [hno.out]; rfl, ?_⟩
     clear F1 f2 f3 F4
     repeat (first | refine Below.setCell ?_ (by first | (simp; done) | (simp; omega) | omega) _ | refine _root_.Go.below_drewN ?_ _ | refine Below.drew ?_)
     exact hbel.out
    ·
     have CD : Hid (∀ W, Calls Tryz.prog 118 #[.string Q] W fun e w' => e = .returned (.bool true) ∧ w' = W) := fun W => (hd ▸ sdig_any Q W (by unfold maxLen; omega)).mono fun _ _ ⟨a, b⟩ => ⟨a, b.symm⟩
     have CV : Hid (∀ W, Calls Tryz.prog 119 #[.string Q] W fun e w' => e = .returned (.int .i64 (Rd.pV s.data.toList 1)) ∧ W = w') := fun W => by
      have := sval_any Q W (by omega) hd
      rw [HQ.out] at this
      exact this
     have hok' := Lib.hid (show ∀ j, j < 2 → Rd.pOk s.data.toList j = true by
      intro j hj
      by_cases h : j = 1
      ·
       subst h; rw [HP.out, gc, hd]; rfl
      ·
       exact hok.out j (by omega))
     generalize hv : Rd.pV s.data.toList 1 = v at CV
     have HV := Lib.hid hv
     clear hd hc hv
     go_wp2_with fail
     go_quiet ((go_at_call 118; exact Calls.quiet_of_same (CD.out _)))
     go_wp2_with fail
     refine (CV.out _).mono ?_; rintro e w1 ⟨rfl, rfl⟩
     go_wp2_with fail
     go_roundw
     case rel =>
      clear F1 f2 f3 F4
      refine ⟨2, by omega, rfl, hok', ?_, ?_⟩
      ·
       exact Bk5.of (Below.refl _ _) (by simp; omega) (by intro j; simp [go_sem, c_f]) (by simp [go_sem, Rd.vk, c_b, c_0, HV.out]) (by simp [go_sem, Rd.vk, c_b, c_1, HV.out]) (by simp [go_sem, Rd.vk, c_b, c_2, HV.out]) (by simp [go_sem, Rd.vk, c_b, c_3, HV.out]) (by simp [go_sem, Rd.vk, c_b, c_4, HV.out])
      ·
       refine Lib.hid ?_
       repeat (first | refine Below.setCell ?_ (by first | (simp; done) | (simp; omega) | omega) _ | refine _root_.Go.below_drewN ?_ _ | refine Below.drew ?_)
       exact hbel.out
     case measure => simp [intOf]
   ·
    have gc : (c == g) = false := by rw [beq_eq_false_iff_ne]; exact hc
    have gn : (c != g) = true := by unfold bne; rw [gc]; rfl
    have hno := Lib.hid (show Rd.bOk s.data.toList = false by
     rw [Bool.eq_false_iff]
     intro h
     have := Rd.bOk_iff.1 h 1 (by omega)
     rw [HP.out, gc] at this
     simp at this)
    have CD : Hid (∀ W, Calls Tryz.prog 118 #[.string Q] W fun e w' => e = .returned (.bool (Q.data.toList.all Num.dig)) ∧ w' = W) := fun W => (sdig_any Q W (by unfold maxLen; omega)).mono fun _ _ ⟨a, b⟩ => ⟨a, b.symm⟩
    clear hc
    go_wp2_with fail
    go_quiet ((go_at_call 118; exact Calls.quiet_of_same (CD.out _)))
    go_wp2_with fail
    refine bodyPost_ret (v := .tuple #[.agg #[.int .i64 0, .int .i64 0, .int .i64 0, .int .i64 0, .int .i64 0], .bool false]) (by simp [results, Tryz.results93, go_sem, c_b, c_f, c_0, c_1, c_2, c_3, c_4]) rfl ⟨by unfold Rd.vb; rw [hno.out]; rfl, ?_⟩
    clear F1 f2 f3 F4
    repeat (first | refine Below.setCell ?_ (by first | (simp; done) | (simp; omega) | omega) _ | refine _root_.Go.below_drewN ?_ _ | refine Below.drew ?_)
    exact hbel.out
  ·
   have B : Bk5 wr w.heap.size (.int .i64 (Rd.pV s.data.toList 0)) (.int .i64 (Rd.pV s.data.toList 1)) (.int .i64 0) (.int .i64 0) (.int .i64 0) := hbk.out
   have c_b := B.hb; have c_f := B.fz; have c_0 := B.k0; have c_1 := B.k1; have c_2 := B.k2; have c_3 := B.k3; have c_4 := B.k4
   clear B
   obtain ⟨P, Q, c, g, p3, q2, hql, hp, f1, f2, f3, f4⟩ := PT.out 2 (by omega)
   have F1 : ∀ W, Sem.run Tryz.prog (Instr.slice 9 (.string s) (some (.int .i64 6)) (some (.int .i64 9)) none) W = .ok (.string P) W := f1
   have F4 : ∀ W, Sem.run Tryz.prog (Instr.index 9 (.string ⟨#[45, 45, 84, 58, 58]⟩) (.int .i64 2)) W = .ok (.int .u8 g) W := f4
   have HP := Lib.hid hp
   have HQ := Lib.hid hql
   have p3' : (P.size : Int) = 3 := by omega
   clear f1 f4 hp hql
   by_cases hc : c = g
   ·
    have gc : (c == g) = true := by rw [beq_iff_eq]; exact hc
    have gn : (c != g) = false := by unfold bne; rw [gc]; rfl
    cases hd : Q.data.toList.all Num.dig
    ·
     have hno := Lib.hid (show Rd.bOk s.data.toList = false by
      rw [Bool.eq_false_iff]
      intro h
      have := Rd.bOk_iff.1 h 2 (by omega)
      rw [HP.out, hd] at this
      simp at this)
     have CD : Hid (∀ W, Calls Tryz.prog 118 #[.string Q] W fun e w' => e = .returned (.bool false) ∧ w' = W) := fun W => (hd ▸ sdig_any Q W (by unfold maxLen; omega)).mono fun _ _ ⟨a, b⟩ => ⟨a, b.symm⟩
     clear hd hc
     go_wp2_with fail
     go_quiet ((go_at_call 118; exact Calls.quiet_of_same (CD.out _)))
     go_wp2_with fail
     refine bodyPost_ret (v := .tuple #[.agg #[.int .i64 0, .int .i64 0, .int .i64 0, .int .i64 0, .int .i64 0], .bool false]) (by simp [results, Tryz.results93, go_sem, c_b, c_f, c_0, c_1, c_2, c_3, c_4]) rfl ⟨by unfold Rd.vb; rw [hno.out]; rfl, ?_⟩
     clear F1 f2 f3 F4
     repeat (first | refine Below.setCell ?_ (by first | (simp; done) | (simp; omega) | omega) _ | refine _root_.Go.below_drewN ?_ _ | refine Below.drew ?_)
     exact hbel.out
    ·
     have CD : Hid (∀ W, Calls Tryz.prog 118 #[.string Q] W fun e w' => e = .returned (.bool true) ∧ w' = W) := fun W => (hd ▸ sdig_any Q W (by unfold maxLen; omega)).mono fun _ _ ⟨a, b⟩ => ⟨a, b.symm⟩
     have CV : Hid (∀ W, Calls Tryz.prog 119 #[.string Q] W fun e w' => e = .returned (.int .i64 (Rd.pV s.data.toList 2)) ∧ W = w') := fun W => by
      have := sval_any Q W (by omega) hd
      rw [HQ.out] at this
      exact this
     have hok' := Lib.hid (show ∀ j, j < 3 → Rd.pOk s.data.toList j = true by
      intro j hj
      by_cases h : j = 2
      ·
       subst h; rw [HP.out, gc, hd]; rfl
      ·
       exact hok.out j (by omega))
     generalize hv : Rd.pV s.data.toList 2 = v at CV
     have HV := Lib.hid hv
     clear hd hc hv
     go_wp2_with fail
     go_quiet ((go_at_call 118; exact Calls.quiet_of_same (CD.out _)))
     go_wp2_with fail
     refine (CV.out _).mono ?_; rintro e w1 ⟨rfl, rfl⟩
     go_wp2_with fail
     go_roundw
     case rel =>
      clear F1 f2 f3 F4
      refine ⟨3, by omega, rfl, hok', ?_, ?_⟩
      ·
       exact Bk5.of (Below.refl _ _) (by simp; omega) (by intro j; simp [go_sem, c_f]) (by simp [go_sem, Rd.vk, c_b, c_0, HV.out]) (by simp [go_sem, Rd.vk, c_b, c_1, HV.out]) (by simp [go_sem, Rd.vk, c_b, c_2, HV.out]) (by simp [go_sem, Rd.vk, c_b, c_3, HV.out]) (by simp [go_sem, Rd.vk, c_b, c_4, HV.out])
      ·
       refine Lib.hid ?_
       repeat (first | refine Below.setCell ?_ (by first | (simp; done) | (simp; omega) | omega) _ | refine _root_.Go.below_drewN ?_ _ | refine Below.drew ?_)
       exact hbel.out
     case measure => simp [intOf]
   ·
    have gc : (c == g) = false := by rw [beq_eq_false_iff_ne]; exact hc
    have gn : (c != g) = true := by unfold bne; rw [gc]; rfl
    have hno := Lib.hid (show Rd.bOk s.data.toList = false by
     rw [Bool.eq_false_iff]
     intro h
     have := Rd.bOk_iff.1 h 2 (by omega)
     rw [HP.out, gc] at this
     simp at this)
    have CD : Hid (∀ W, Calls Tryz.prog 118 #[.string Q] W fun e w' => e = .returned (.bool (Q.data.toList.all Num.dig)) ∧ w' = W) := fun W => (sdig_any Q W (by unfold maxLen; omega)).mono fun _ _ ⟨a, b⟩ => ⟨a, b.symm⟩
    clear hc
    go_wp2_with fail
    go_quiet ((go_at_call 118; exact Calls.quiet_of_same (CD.out _)))
    go_wp2_with fail
    refine bodyPost_ret (v := .tuple #[.agg #[.int .i64 0, .int .i64 0, .int .i64 0, .int .i64 0, .int .i64 0], .bool false]) (by simp [results, Tryz.results93, go_sem, c_b, c_f, c_0, c_1, c_2, c_3, c_4]) rfl ⟨by unfold Rd.vb; rw [hno.out]; rfl, ?_⟩
    clear F1 f2 f3 F4
    repeat (first | refine Below.setCell ?_ (by first | (simp; done) | (simp; omega) | omega) _ | refine _root_.Go.below_drewN ?_ _ | refine Below.drew ?_)
    exact hbel.out
  ·
   have B : Bk5 wr w.heap.size (.int .i64 (Rd.pV s.data.toList 0)) (.int .i64 (Rd.pV s.data.toList 1)) (.int .i64 (Rd.pV s.data.toList 2)) (.int .i64 0) (.int .i64 0) := hbk.out
   have c_b := B.hb; have c_f := B.fz; have c_0 := B.k0; have c_1 := B.k1; have c_2 := B.k2; have c_3 := B.k3; have c_4 := B.k4
   clear B
   obtain ⟨P, Q, c, g, p3, q2, hql, hp, f1, f2, f3, f4⟩ := PT.out 3 (by omega)
   have F1 : ∀ W, Sem.run Tryz.prog (Instr.slice 9 (.string s) (some (.int .i64 9)) (some (.int .i64 12)) none) W = .ok (.string P) W := f1
   have F4 : ∀ W, Sem.run Tryz.prog (Instr.index 9 (.string ⟨#[45, 45, 84, 58, 58]⟩) (.int .i64 3)) W = .ok (.int .u8 g) W := f4
   have HP := Lib.hid hp
   have HQ := Lib.hid hql
   have p3' : (P.size : Int) = 3 := by omega
   clear f1 f4 hp hql
   by_cases hc : c = g
   ·
    have gc : (c == g) = true := by rw [beq_iff_eq]; exact hc
    have gn : (c != g) = false := by unfold bne; rw [gc]; rfl
    cases hd : Q.data.toList.all Num.dig
    ·
     have hno := Lib.hid (show Rd.bOk s.data.toList = false by
      rw [Bool.eq_false_iff]
      intro h
      have := Rd.bOk_iff.1 h 3 (by omega)
      rw [HP.out, hd] at this
      simp at this)
     have CD : Hid (∀ W, Calls Tryz.prog 118 #[.string Q] W fun e w' => e = .returned (.bool false) ∧ w' = W) := fun W => (hd ▸ sdig_any Q W (by unfold maxLen; omega)).mono fun _ _ ⟨a, b⟩ => ⟨a, b.symm⟩
     clear hd hc
     go_wp2_with fail
     go_quiet ((go_at_call 118; exact Calls.quiet_of_same (CD.out _)))
     go_wp2_with fail
     refine bodyPost_ret (v := .tuple #[.agg #[.int .i64 0, .int .i64 0, .int .i64 0, .int .i64 0, .int .i64 0], .bool false]) (by simp [results, Tryz.results93, go_sem, c_b, c_f, c_0, c_1, c_2, c_3, c_4]) rfl ⟨by unfold Rd.vb; rw [hno.out]; rfl, ?_⟩
     clear F1 f2 f3 F4
     repeat (first | refine Below.setCell ?_ (by first | (simp; done) | (simp; omega) | omega) _ | refine _root_.Go.below_drewN ?_ _ | refine Below.drew ?_)
     exact hbel.out
    ·
     have CD : Hid (∀ W, Calls Tryz.prog 118 #[.string Q] W fun e w' => e = .returned (.bool true) ∧ w' = W) := fun W => (hd ▸ sdig_any Q W (by unfold maxLen; omega)).mono fun _ _ ⟨a, b⟩ => ⟨a, b.symm⟩
     have CV : Hid (∀ W, Calls Tryz.prog 119 #[.string Q] W fun e w' => e = .returned (.int .i64 (Rd.pV s.data.toList 3)) ∧ W = w') := fun W => by
      have := sval_any Q W (by omega) hd
      rw [HQ.out] at this
      exact this
     have hok' := Lib.hid (show ∀ j, j < 4 → Rd.pOk s.data.toList j = true by
      intro j hj
      by_cases h : j = 3
      ·
       subst h; rw [HP.out, gc, hd]; rfl
      ·
       exact hok.out j (by omega))
     generalize hv : Rd.pV s.data.toList 3 = v at CV
     have HV := Lib.hid hv
     clear hd hc hv
     go_wp2_with fail
     go_quiet ((go_at_call 118; exact Calls.quiet_of_same (CD.out _)))
     go_wp2_with fail
     refine (CV.out _).mono ?_; rintro e w1 ⟨rfl, rfl⟩
     go_wp2_with fail
     go_roundw
     case rel =>
      clear F1 f2 f3 F4
      refine ⟨4, by omega, rfl, hok', ?_, ?_⟩
      ·
       exact Bk5.of (Below.refl _ _) (by simp; omega) (by intro j; simp [go_sem, c_f]) (by simp [go_sem, Rd.vk, c_b, c_0, HV.out]) (by simp [go_sem, Rd.vk, c_b, c_1, HV.out]) (by simp [go_sem, Rd.vk, c_b, c_2, HV.out]) (by simp [go_sem, Rd.vk, c_b, c_3, HV.out]) (by simp [go_sem, Rd.vk, c_b, c_4, HV.out])
      ·
       refine Lib.hid ?_
       repeat (first | refine Below.setCell ?_ (by first | (simp; done) | (simp; omega) | omega) _ | refine _root_.Go.below_drewN ?_ _ | refine Below.drew ?_)
       exact hbel.out
     case measure => simp [intOf]
   ·
    have gc : (c == g) = false := by rw [beq_eq_false_iff_ne]; exact hc
    have gn : (c != g) = true := by unfold bne; rw [gc]; rfl
    have hno := Lib.hid (show Rd.bOk s.data.toList = false by
     rw [Bool.eq_false_iff]
     intro h
     have := Rd.bOk_iff.1 h 3 (by omega)
     rw [HP.out, gc] at this
     simp at this)
    have CD : Hid (∀ W, Calls Tryz.prog 118 #[.string Q] W fun e w' => e = .returned (.bool (Q.data.toList.all Num.dig)) ∧ w' = W) := fun W => (sdig_any Q W (by unfold maxLen; omega)).mono fun _ _ ⟨a, b⟩ => ⟨a, b.symm⟩
    clear hc
    go_wp2_with fail
    go_quiet ((go_at_call 118; exact Calls.quiet_of_same (CD.out _)))
    go_wp2_with fail
    refine bodyPost_ret (v := .tuple #[.agg #[.int .i64 0, .int .i64 0, .int .i64 0, .int .i64 0, .int .i64 0], .bool false]) (by simp [results, Tryz.results93, go_sem, c_b, c_f, c_0, c_1, c_2, c_3, c_4]) rfl ⟨by unfold Rd.vb; rw [hno.out]; rfl, ?_⟩
    clear F1 f2 f3 F4
    repeat (first | refine Below.setCell ?_ (by first | (simp; done) | (simp; omega) | omega) _ | refine _root_.Go.below_drewN ?_ _ | refine Below.drew ?_)
    exact hbel.out
  ·
   have B : Bk5 wr w.heap.size (.int .i64 (Rd.pV s.data.toList 0)) (.int .i64 (Rd.pV s.data.toList 1)) (.int .i64 (Rd.pV s.data.toList 2)) (.int .i64 (Rd.pV s.data.toList 3)) (.int .i64 0) := hbk.out
   have c_b := B.hb; have c_f := B.fz; have c_0 := B.k0; have c_1 := B.k1; have c_2 := B.k2; have c_3 := B.k3; have c_4 := B.k4
   clear B
   obtain ⟨P, Q, c, g, p3, q2, hql, hp, f1, f2, f3, f4⟩ := PT.out 4 (by omega)
   have F1 : ∀ W, Sem.run Tryz.prog (Instr.slice 9 (.string s) (some (.int .i64 12)) (some (.int .i64 15)) none) W = .ok (.string P) W := f1
   have F4 : ∀ W, Sem.run Tryz.prog (Instr.index 9 (.string ⟨#[45, 45, 84, 58, 58]⟩) (.int .i64 4)) W = .ok (.int .u8 g) W := f4
   have HP := Lib.hid hp
   have HQ := Lib.hid hql
   have p3' : (P.size : Int) = 3 := by omega
   clear f1 f4 hp hql
   by_cases hc : c = g
   ·
    have gc : (c == g) = true := by rw [beq_iff_eq]; exact hc
    have gn : (c != g) = false := by unfold bne; rw [gc]; rfl
    cases hd : Q.data.toList.all Num.dig
    ·
     have hno := Lib.hid (show Rd.bOk s.data.toList = false by
      rw [Bool.eq_false_iff]
      intro h
      have := Rd.bOk_iff.1 h 4 (by omega)
      rw [HP.out, hd] at this
      simp at this)
     have CD : Hid (∀ W, Calls Tryz.prog 118 #[.string Q] W fun e w' => e = .returned (.bool false) ∧ w' = W) := fun W => (hd ▸ sdig_any Q W (by unfold maxLen; omega)).mono fun _ _ ⟨a, b⟩ => ⟨a, b.symm⟩
     clear hd hc
     go_wp2_with fail
     go_quiet ((go_at_call 118; exact Calls.quiet_of_same (CD.out _)))
     go_wp2_with fail
     refine bodyPost_ret (v := .tuple #[.agg #[.int .i64 0, .int .i64 0, .int .i64 0, .int .i64 0, .int .i64 0], .bool false]) (by simp [results, Tryz.results93, go_sem, c_b, c_f, c_0, c_1, c_2, c_3, c_4]) rfl ⟨by unfold Rd.vb; rw [hno.out]; rfl, ?_⟩
     clear F1 f2 f3 F4
     repeat (first | refine Below.setCell ?_ (by first | (simp; done) | (simp; omega) | omega) _ | refine _root_.Go.below_drewN ?_ _ | refine Below.drew ?_)
     exact hbel.out
    ·
     have CD : Hid (∀ W, Calls Tryz.prog 118 #[.string Q] W fun e w' => e = .returned (.bool true) ∧ w' = W) := fun W => (hd ▸ sdig_any Q W (by unfold maxLen; omega)).mono fun _ _ ⟨a, b⟩ => ⟨a, b.symm⟩
     have CV : Hid (∀ W, Calls Tryz.prog 119 #[.string Q] W fun e w' => e = .returned (.int .i64 (Rd.pV s.data.toList 4)) ∧ W = w') := fun W => by
      have := sval_any Q W (by omega) hd
      rw [HQ.out] at this
      exact this
     have hok' := Lib.hid (show ∀ j, j < 5 → Rd.pOk s.data.toList j = true by
      intro j hj
      by_cases h : j = 4
      ·
       subst h; rw [HP.out, gc, hd]; rfl
      ·
       exact hok.out j (by omega))
     generalize hv : Rd.pV s.data.toList 4 = v at CV
     have HV := Lib.hid hv
     clear hd hc hv
     go_wp2_with fail
     go_quiet ((go_at_call 118; exact Calls.quiet_of_same (CD.out _)))
     go_wp2_with fail
     refine (CV.out _).mono ?_; rintro e w1 ⟨rfl, rfl⟩
     go_wp2_with fail
     go_roundw
     case rel =>
      clear F1 f2 f3 F4
      refine ⟨5, by omega, rfl, hok', ?_, ?_⟩
      ·
       exact Bk5.of (Below.refl _ _) (by simp; omega) (by intro j; simp [go_sem, c_f]) (by simp [go_sem, Rd.vk, c_b, c_0, HV.out]) (by simp [go_sem, Rd.vk, c_b, c_1, HV.out]) (by simp [go_sem, Rd.vk, c_b, c_2, HV.out]) (by simp [go_sem, Rd.vk, c_b, c_3, HV.out]) (by simp [go_sem, Rd.vk, c_b, c_4, HV.out])
      ·
       refine Lib.hid ?_
       repeat (first | refine Below.setCell ?_ (by first | (simp; done) | (simp; omega) | omega) _ | refine _root_.Go.below_drewN ?_ _ | refine Below.drew ?_)
       exact hbel.out
     case measure => simp [intOf]
   ·
    have gc : (c == g) = false := by rw [beq_eq_false_iff_ne]; exact hc
    have gn : (c != g) = true := by unfold bne; rw [gc]; rfl
    have hno := Lib.hid (show Rd.bOk s.data.toList = false by
     rw [Bool.eq_false_iff]
     intro h
     have := Rd.bOk_iff.1 h 4 (by omega)
     rw [HP.out, gc] at this
     simp at this)
    have CD : Hid (∀ W, Calls Tryz.prog 118 #[.string Q] W fun e w' => e = .returned (.bool (Q.data.toList.all Num.dig)) ∧ w' = W) := fun W => (sdig_any Q W (by unfold maxLen; omega)).mono fun _ _ ⟨a, b⟩ => ⟨a, b.symm⟩
    clear hc
    go_wp2_with fail
    go_quiet ((go_at_call 118; exact Calls.quiet_of_same (CD.out _)))
    go_wp2_with fail
    refine bodyPost_ret (v := .tuple #[.agg #[.int .i64 0, .int .i64 0, .int .i64 0, .int .i64 0, .int .i64 0], .bool false]) (by simp [results, Tryz.results93, go_sem, c_b, c_f, c_0, c_1, c_2, c_3, c_4]) rfl ⟨by unfold Rd.vb; rw [hno.out]; rfl, ?_⟩
    clear F1 f2 f3 F4
    repeat (first | refine Below.setCell ?_ (by first | (simp; done) | (simp; omega) | omega) _ | refine _root_.Go.below_drewN ?_ _ | refine Below.drew ?_)
    exact hbel.out
  ·
   have B : Bk5 wr w.heap.size (.int .i64 (Rd.pV s.data.toList 0)) (.int .i64 (Rd.pV s.data.toList 1)) (.int .i64 (Rd.pV s.data.toList 2)) (.int .i64 (Rd.pV s.data.toList 3)) (.int .i64 (Rd.pV s.data.toList 4)) := hbk.out
   have c_b := B.hb; have c_f := B.fz; have c_0 := B.k0; have c_1 := B.k1; have c_2 := B.k2; have c_3 := B.k3; have c_4 := B.k4
   have hyes := Lib.hid (Rd.bOk_iff.2 hok.out)
   clear B
   go_wp2_with fail
   refine bodyPost_ret (v := .tuple #[.agg #[.int .i64 (Rd.pV s.data.toList 0), .int .i64 (Rd.pV s.data.toList 1), .int .i64 (Rd.pV s.data.toList 2), .int .i64 (Rd.pV s.data.toList 3), .int .i64 (Rd.pV s.data.toList 4)], .bool true]) (by simp [results, Tryz.results93, go_sem, c_b, c_f, c_0, c_1, c_2, c_3, c_4]) rfl ⟨by unfold Rd.vb; rw [hyes.out]; rfl, ?_⟩
   repeat (first | refine Below.setCell ?_ (by first | (simp; done) | (simp; omega) | omega) _ | refine _root_.Go.below_drewN ?_ _ | refine Below.drew ?_)
   exact hbel.out
end Go.Proofs.YtifgiclnofdnkaaGreatDoor
