/- The walk of ClockBack: whatever time of day, the law answers true; nothing old turns. -/
import Derived.Test.YtafnnnbefabofaaDoorClE
import Derived.Test.YtafnnnbefabofaaDoorAmP
set_option linter.unusedVariables false
set_option linter.unusedSimpArgs false
namespace Go.Proofs.YtafnnnbefabofaaDoor
open Go.RowKit Go.Sort

namespace Cl
theorem three_tab : ∀ n : Fin 256, (Num.dig (UInt8.ofNat n.val) || decide (n.val = 58)) = true → base (UInt8.ofNat n.val) = 3 := by decide +kernel
theorem three_dig {c : UInt8} (h : Num.dig c = true) : base c = 3 := by
  have := three_tab ⟨c.toNat, c.toNat_lt⟩
  rw [show UInt8.ofNat c.toNat = c from UInt8.ofNat_toNat, h] at this
  exact this rfl
theorem three_all {l : List UInt8} (h : l.all Num.dig = true) : ∀ c ∈ l, base c = 3 := fun c hc => three_dig (List.all_eq_true.1 h c hc)
theorem three_58 : base 58 = 3 := by decide
theorem shape_three {t : ByteArray} {a : List UInt8} {m s : Int} (h : Am.Shape t a m s) (ha : a.all Num.dig = true) (m0 : 0 ≤ m) (m1 : m < 60) (s0 : 0 ≤ s) (s1 : s < 60) : ∀ c ∈ t.data.toList, base c = 3 := by
  obtain ⟨d1, _⟩ := Am.digits2 (n := m) m0 (by omega)
  obtain ⟨e1, _⟩ := Am.digits2 (n := s) s0 (by omega)
  have x := three_all ha
  have y := three_all (Am.isP_size d1).1
  have z := three_all (Am.isP_size e1).1
  intro c hc
  rcases h with ⟨e, _⟩ | e
  · rw [e] at hc
    rcases List.mem_append.1 hc with hc | hc
    · exact x c hc
    · rcases List.mem_cons.1 hc with rfl | hc
      · exact three_58
      · exact y c hc
  · rw [e] at hc
    rcases List.mem_append.1 hc with hc | hc
    · exact x c hc
    · rcases List.mem_cons.1 hc with rfl | hc
      · exact three_58
      · rcases List.mem_append.1 hc with hc | hc
        · exact y c hc
        · rcases List.mem_cons.1 hc with rfl | hc
          · exact three_58
          · exact z c hc
/-- An amount's text has no clock's letter, and means the amount. -/
theorem text_ok {n : Int} (n0 : 0 ≤ n) (n1 : n ≤ 172800) : (∀ c ∈ (Am.tx n).1.data.toList, base c = 3) ∧ 0 < (Am.tx n).1.size ∧ Am.rd (Am.tx n).1 = (n, 0) := by
  unfold Am.tx
  rw [if_neg (by omega)]
  by_cases h : n = 0
  · subst h
    rw [if_pos rfl]
    exact ⟨by decide +kernel, by decide +kernel, by decide +kernel⟩
  · rw [if_neg h, if_neg (by omega)]
    have S := Am.shape_w1 n
    obtain ⟨h1, h2, h3⟩ := Am.hours (n := n / 3600) (by omega) (by omega)
    exact ⟨shape_three S (Am.isP_size h1).1 (by omega) (by omega) (by omega) (by omega), by have := Am.shape_size S (Num.itoa_ne _); show 0 < (Am.w1 n).size; omega, (Am.back (by omega) (by omega)).1⟩
theorem cutL_none {A : ByteArray} (h : ∀ c ∈ A.data.toList, base c = 3) (hz : 0 < A.size) : cutL A = (A, 0) := by
  have hm : A[A.size - 1] ∈ A.data.toList := by
    have e : A[A.size - 1] = A.data.toList[A.size - 1]'(by rw [ab_len]; omega) := rfl
    rw [e]; exact List.getElem_mem _
  unfold cutL
  rw [dif_pos hz, if_pos (h _ hm)]
theorem cut_ext (A : ByteArray) (c : UInt8) : (A ++ ⟨#[c]⟩).extract 0 ((A ++ ⟨#[c]⟩ : ByteArray).size - 1) = A := by
  have hs : (A ++ ⟨#[c]⟩ : ByteArray).size = A.size + 1 := by rw [ByteArray.size_append]; rfl
  apply ByteArray.ext
  apply Array.toList_inj.1
  have e2 : (A ++ ⟨#[c]⟩ : ByteArray).data.toList = A.data.toList ++ [c] := by rw [ByteArray.data_append, Array.toList_append]
  rw [hs, ByteArray.data_extract, Array.toList_extract, e2, Nat.add_sub_cancel]
  show (List.drop 0 (A.data.toList ++ [c])).take (A.size - 0) = A.data.toList
  rw [List.drop_zero, Nat.sub_zero]
  have hl := ab_len A
  rw [← hl, List.take_left]
theorem cutL_app (A : ByteArray) (c : UInt8) (hc : base c ≠ 3) : cutL (A ++ ⟨#[c]⟩) = (A, (base c : Int)) := by
  have hs : (A ++ ⟨#[c]⟩ : ByteArray).size = A.size + 1 := by rw [ByteArray.size_append]; rfl
  have hl : (A ++ ⟨#[c]⟩ : ByteArray)[(A ++ ⟨#[c]⟩ : ByteArray).size - 1]'(by omega) = c := by
    have e : (A ++ ⟨#[c]⟩ : ByteArray)[(A ++ ⟨#[c]⟩ : ByteArray).size - 1]'(by omega) = (A ++ ⟨#[c]⟩ : ByteArray).data.toList[(A ++ ⟨#[c]⟩ : ByteArray).size - 1]'(by rw [ab_len]; omega) := rfl
    rw [e]
    have h1 := ab_len A
    have e2 : (A ++ ⟨#[c]⟩ : ByteArray).data.toList = A.data.toList ++ [c] := by rw [ByteArray.data_append, Array.toList_append]
    apply Option.some.inj
    rw [← List.getElem?_eq_getElem, e2, hs, Nat.add_sub_cancel, ← h1, List.getElem?_append_right (Nat.le_refl _), Nat.sub_self]
    rfl
  unfold cutL
  rw [dif_pos (by omega), hl, if_neg hc, cut_ext]
theorem rd_none {n : Int} (n0 : 0 ≤ n) (n1 : n ≤ 172800) : rd (Am.tx n).1 = (n, 0, 0) := by
  obtain ⟨h, hz, hr⟩ := text_ok n0 n1
  unfold rd
  rw [cutL_none h hz, hr, if_neg (by simp), if_neg (by rw [rB_iff.2 ⟨n0, n1, by omega, by omega⟩]; decide)]
theorem rd_app {n : Int} (n0 : 0 ≤ n) (n1 : n ≤ 172800) (c : UInt8) (b : Nat) (hb : base c = b) (h3 : b < 3) : rd ((Am.tx n).1 ++ ⟨#[c]⟩) = (n, (b : Int), 0) := by
  obtain ⟨h, hz, hr⟩ := text_ok n0 n1
  unfold rd
  rw [cutL_app _ c (by omega), hr, hb, if_neg (by simp), if_neg (by rw [rB_iff.2 ⟨n0, n1, by omega, by omega⟩]; decide)]
end Cl
theorem cut_hi1 (s c : ByteArray) (w : World) (h0 : 0 ≤ (s.size : Int) - 1) (h : s.extract 0 (s.size - 1) = c) : Sem.run Tryd.prog (Instr.slice 9 (.string s) none (some (.int .i64 ((s.size : Int) - 1))) none) w = .ok (.string c) w := by
  have h1 : (s.size : Int) - 1 ≤ (s.size : Int) := by omega
  rw [run_slice_string_h w 9 s Tryd.underlying9 .i64 _ h0 h1]
  have e : ((s.size : Int) - 1).toNat = s.size - 1 := by omega
  rw [e, h]
set_option maxHeartbeats 4000000 in
set_option maxRecDepth 100000 in
theorem clback_no (n b : Int) (w : World) (y : Int) (T : Cl.Tab w) (hm : w.cell? ⟨5, 0, none⟩ = some (.int .i64 y)) (htab : Lib.TabIs Tryd.prog w "internal/strconv.uint64pow10" .u64 Lib.pow10Tab) (hr : Cl.rB n b = false) :
    Calls Tryd.prog 3 #[.agg #[.int .i64 n, .int .i64 b]] w fun e w' => e = .returned (.bool true) ∧ Below w.heap.size w w' := by
  have T0 := Lib.hid htab; clear htab
  have M0 := Lib.hid hm; clear hm
  have L0 := Lib.hid T; clear T
  have LV := Lib.hid (fun W a b c => lives19 W y a b c)
  have X := Lib.hid (cltext_c n b ⟨#[]⟩ 4 (by unfold Cl.tx; rw [if_pos hr]))
  have G := Lib.hid (clright_c n b false hr)
  clear hr
  go_enter Tryd.func3, Tryd.ntmps3
  go_wp2_with fail
  refine (LV.out _ (L0.out.on (by repeat (first | exact Below.refl _ _ | refine below_drewN ?_ _ | refine Below.drew ?_ | refine Below.setCell ?_ (by first | (simp; done) | (simp; omega) | omega) _ | refine Below.alloc ?_ (by first | (simp; done) | (simp; omega) | omega) _))) (ckm (B := w.heap.size) (by repeat (first | exact Below.refl _ _ | refine below_drewN ?_ _ | refine Below.drew ?_ | refine Below.setCell ?_ (by first | (simp; done) | (simp; omega) | omega) _ | refine Below.alloc ?_ (by first | (simp; done) | (simp; omega) | omega) _)) M0.out) (var_keep (by repeat (first | exact Below.refl _ _ | refine below_drewN ?_ _ | refine Below.drew ?_ | refine Below.setCell ?_ (by first | (simp; done) | (simp; omega) | omega) _ | refine Below.alloc ?_ (by first | (simp; done) | (simp; omega) | omega) _)) T0.out)).mono ?_; rintro e w1 ⟨rfl, b1⟩
  have d1 : Below w.heap.size w w1 := below_step (by repeat (first | exact Below.refl _ _ | refine below_drewN ?_ _ | refine Below.drew ?_ | refine Below.setCell ?_ (by first | (simp; done) | (simp; omega) | omega) _ | refine Below.alloc ?_ (by first | (simp; done) | (simp; omega) | omega) _)) b1
  have B1 := Lib.hid d1
  have X1 : Bk2 w1 (w.heap.size) (.int .i64 n) (.int .i64 b) := Bk2.of b1 (by simp <;> omega) (by intro j; simp [go_sem]) (by simp [go_sem]) (by simp [go_sem])
  clear b1 d1
  have cX_b := X1.hb
  have cX_f := X1.fz
  have cX_0 := X1.k0
  have cX_1 := X1.k1
  go_wp2_with fail
  clear cX_b cX_f cX_0 cX_1
  refine (X.out _ (L0.out.on (below_step B1.out (by repeat (first | exact Below.refl _ _ | refine below_drewN ?_ _ | refine Below.drew ?_ | refine Below.setCell ?_ (by first | (simp; done) | (simp; omega) | omega) _ | refine Below.alloc ?_ (by first | (simp; done) | (simp; omega) | omega) _)))) (var_keep (below_step B1.out (by repeat (first | exact Below.refl _ _ | refine below_drewN ?_ _ | refine Below.drew ?_ | refine Below.setCell ?_ (by first | (simp; done) | (simp; omega) | omega) _ | refine Below.alloc ?_ (by first | (simp; done) | (simp; omega) | omega) _))) T0.out)).mono ?_; rintro e w2 ⟨rfl, b2⟩
  have d2 : Below w1.heap.size w1 w2 := below_step (by repeat (first | exact Below.refl _ _ | refine below_drewN ?_ _ | refine Below.drew ?_ | refine Below.setCell ?_ (by first | (simp; done) | (simp; omega) | omega) _ | refine Below.alloc ?_ (by first | (simp; done) | (simp; omega) | omega) _)) b2
  have B2 := Lib.hid (below_step B1.out d2)
  have X2 := X1.keep d2
  clear X1 b2 d2 B1
  have cX_b := X2.hb
  have cX_f := X2.fz
  have cX_0 := X2.k0
  have cX_1 := X2.k1
  go_wp2_with fail
  clear cX_b cX_f cX_0 cX_1
  refine (G.out _).mono ?_; rintro e w3 ⟨rfl, b3⟩
  have d3 : Below w2.heap.size w2 w3 := below_step (by repeat (first | exact Below.refl _ _ | refine below_drewN ?_ _ | refine Below.drew ?_ | refine Below.setCell ?_ (by first | (simp; done) | (simp; omega) | omega) _ | refine Below.alloc ?_ (by first | (simp; done) | (simp; omega) | omega) _)) b3
  have B3 := Lib.hid (below_step B2.out d3)
  have X3 := X2.keep d3
  clear X2 b3 d3 B2
  have cX_b := X3.hb
  have cX_f := X3.fz
  have cX_0 := X3.k0
  have cX_1 := X3.k1
  go_wp2_with fail
  clear cX_b cX_f cX_0 cX_1
  go_ret
  exact ⟨rfl, (by have hz := B3.out.size; repeat (first | exact B3.out | refine below_drewN ?_ _ | refine Below.drew ?_ | refine Below.setCell ?_ (by first | omega | (simp; done) | (simp; omega)) _ | refine Below.alloc ?_ (by first | omega | (simp; done) | (simp; omega)) _))⟩
set_option maxHeartbeats 4000000 in
set_option maxRecDepth 100000 in
theorem clback_0 (n : Int) (w : World) (y : Int) (T : Cl.Tab w) (hm : w.cell? ⟨5, 0, none⟩ = some (.int .i64 y)) (htab : Lib.TabIs Tryd.prog w "internal/strconv.uint64pow10" .u64 Lib.pow10Tab) (n0 : 0 ≤ n) (n1 : n ≤ 172800) :
    Calls Tryd.prog 3 #[.agg #[.int .i64 n, .int .i64 0]] w fun e w' => e = .returned (.bool true) ∧ Below w.heap.size w w' := by
  have T0 := Lib.hid htab; clear htab
  have M0 := Lib.hid hm; clear hm
  have L0 := Lib.hid T; clear T
  have LV := Lib.hid (fun W a b c => lives19 W y a b c)
  have hr : Cl.rB n 0 = true := rB_iff.2 ⟨n0, n1, by omega, by omega⟩
  obtain ⟨z, _⟩ := atx_size n0 n1
  have r0 := Cl.rd_none n0 n1
  have r1 := Cl.rd_app n0 n1 119 0 (by decide) (by omega)
  have X := Lib.hid (cltext_c n 0 (Am.tx n).1 0 (by unfold Cl.tx; rw [hr, if_neg (by decide), if_pos rfl]))
  generalize (Am.tx n).1 = A at *
  have R0 := Lib.hid (clread_c A n 0 0 r0 (by omega))
  have R1 := Lib.hid (clread_c (A ++ ⟨#[119]⟩) n 0 0 r1 (by rw [ByteArray.size_append]; show A.size + 1 < _; omega))
  clear r0 r1 hr
  go_enter Tryd.func3, Tryd.ntmps3
  go_wp2_with fail
  refine (LV.out _ (L0.out.on (by repeat (first | exact Below.refl _ _ | refine below_drewN ?_ _ | refine Below.drew ?_ | refine Below.setCell ?_ (by first | (simp; done) | (simp; omega) | omega) _ | refine Below.alloc ?_ (by first | (simp; done) | (simp; omega) | omega) _))) (ckm (B := w.heap.size) (by repeat (first | exact Below.refl _ _ | refine below_drewN ?_ _ | refine Below.drew ?_ | refine Below.setCell ?_ (by first | (simp; done) | (simp; omega) | omega) _ | refine Below.alloc ?_ (by first | (simp; done) | (simp; omega) | omega) _)) M0.out) (var_keep (by repeat (first | exact Below.refl _ _ | refine below_drewN ?_ _ | refine Below.drew ?_ | refine Below.setCell ?_ (by first | (simp; done) | (simp; omega) | omega) _ | refine Below.alloc ?_ (by first | (simp; done) | (simp; omega) | omega) _)) T0.out)).mono ?_; rintro e w1 ⟨rfl, b1⟩
  have d1 : Below w.heap.size w w1 := below_step (by repeat (first | exact Below.refl _ _ | refine below_drewN ?_ _ | refine Below.drew ?_ | refine Below.setCell ?_ (by first | (simp; done) | (simp; omega) | omega) _ | refine Below.alloc ?_ (by first | (simp; done) | (simp; omega) | omega) _)) b1
  have B1 := Lib.hid d1
  have X1 : Bk2 w1 (w.heap.size) (.int .i64 n) (.int .i64 0) := Bk2.of b1 (by simp <;> omega) (by intro j; simp [go_sem]) (by simp [go_sem]) (by simp [go_sem])
  clear b1 d1
  have cX_b := X1.hb
  have cX_f := X1.fz
  have cX_0 := X1.k0
  have cX_1 := X1.k1
  go_wp2_with fail
  clear cX_b cX_f cX_0 cX_1
  refine (X.out _ (L0.out.on (below_step B1.out (by repeat (first | exact Below.refl _ _ | refine below_drewN ?_ _ | refine Below.drew ?_ | refine Below.setCell ?_ (by first | (simp; done) | (simp; omega) | omega) _ | refine Below.alloc ?_ (by first | (simp; done) | (simp; omega) | omega) _)))) (var_keep (below_step B1.out (by repeat (first | exact Below.refl _ _ | refine below_drewN ?_ _ | refine Below.drew ?_ | refine Below.setCell ?_ (by first | (simp; done) | (simp; omega) | omega) _ | refine Below.alloc ?_ (by first | (simp; done) | (simp; omega) | omega) _))) T0.out)).mono ?_; rintro e w2 ⟨rfl, b2⟩
  have d2 : Below w1.heap.size w1 w2 := below_step (by repeat (first | exact Below.refl _ _ | refine below_drewN ?_ _ | refine Below.drew ?_ | refine Below.setCell ?_ (by first | (simp; done) | (simp; omega) | omega) _ | refine Below.alloc ?_ (by first | (simp; done) | (simp; omega) | omega) _)) b2
  have B2 := Lib.hid (below_step B1.out d2)
  have X2 := X1.keep d2
  clear X1 b2 d2 B1
  have cX_b := X2.hb
  have cX_f := X2.fz
  have cX_0 := X2.k0
  have cX_1 := X2.k1
  go_wp2_with fail
  clear cX_b cX_f cX_0 cX_1
  refine (R0.out _ y (L0.out.on (below_step B2.out (by repeat (first | exact Below.refl _ _ | refine below_drewN ?_ _ | refine Below.drew ?_ | refine Below.setCell ?_ (by first | (simp; done) | (simp; omega) | omega) _ | refine Below.alloc ?_ (by first | (simp; done) | (simp; omega) | omega) _)))) (ckm (below_step B2.out (by repeat (first | exact Below.refl _ _ | refine below_drewN ?_ _ | refine Below.drew ?_ | refine Below.setCell ?_ (by first | (simp; done) | (simp; omega) | omega) _ | refine Below.alloc ?_ (by first | (simp; done) | (simp; omega) | omega) _))) M0.out)).mono ?_; rintro e w3 ⟨rfl, b3⟩
  have d3 : Below w2.heap.size w2 w3 := below_step (by repeat (first | exact Below.refl _ _ | refine below_drewN ?_ _ | refine Below.drew ?_ | refine Below.setCell ?_ (by first | (simp; done) | (simp; omega) | omega) _ | refine Below.alloc ?_ (by first | (simp; done) | (simp; omega) | omega) _)) b3
  have B3 := Lib.hid (below_step B2.out d3)
  have X3 := X2.keep d3
  clear X2 b3 d3 B2
  have cX_b := X3.hb
  have cX_f := X3.fz
  have cX_0 := X3.k0
  have cX_1 := X3.k1
  go_wp2_with fail
  clear cX_b cX_f cX_0 cX_1
  refine (R1.out _ y (L0.out.on (below_step B3.out (by repeat (first | exact Below.refl _ _ | refine below_drewN ?_ _ | refine Below.drew ?_ | refine Below.setCell ?_ (by first | (simp; done) | (simp; omega) | omega) _ | refine Below.alloc ?_ (by first | (simp; done) | (simp; omega) | omega) _)))) (ckm (below_step B3.out (by repeat (first | exact Below.refl _ _ | refine below_drewN ?_ _ | refine Below.drew ?_ | refine Below.setCell ?_ (by first | (simp; done) | (simp; omega) | omega) _ | refine Below.alloc ?_ (by first | (simp; done) | (simp; omega) | omega) _))) M0.out)).mono ?_; rintro e w4 ⟨rfl, b4⟩
  have d4 : Below w3.heap.size w3 w4 := below_step (by repeat (first | exact Below.refl _ _ | refine below_drewN ?_ _ | refine Below.drew ?_ | refine Below.setCell ?_ (by first | (simp; done) | (simp; omega) | omega) _ | refine Below.alloc ?_ (by first | (simp; done) | (simp; omega) | omega) _)) b4
  have B4 := Lib.hid (below_step B3.out d4)
  have X4 := X3.keep d4
  have aQ0 := B3.out.size
  have nQ0X := Nat.ne_of_lt X3.hb
  have oQ0X := Nat.ne_of_gt X3.hb
  have Q04 : Bk2 w4 (w3.heap.size) (.int .i64 n) (.int .i64 0) := Bk2.of b4 (by simp <;> omega) (by intro j; simp [go_sem]) (by simp [go_sem]) (by simp [go_sem])
  clear X3 b4 d4 B3
  have cX_b := X4.hb
  have cX_f := X4.fz
  have cX_0 := X4.k0
  have cX_1 := X4.k1
  have cQ0_b := Q04.hb
  have cQ0_f := Q04.fz
  have cQ0_0 := Q04.k0
  have cQ0_1 := Q04.k1
  go_wp2_with fail
  clear cX_b cX_f cX_0 cX_1 cQ0_b cQ0_f cQ0_0 cQ0_1
  go_ret
  exact ⟨rfl, (by have hz := B4.out.size; repeat (first | exact B4.out | refine below_drewN ?_ _ | refine Below.drew ?_ | refine Below.setCell ?_ (by first | omega | (simp; done) | (simp; omega)) _ | refine Below.alloc ?_ (by first | omega | (simp; done) | (simp; omega)) _))⟩
end Go.Proofs.YtafnnnbefabofaaDoor

