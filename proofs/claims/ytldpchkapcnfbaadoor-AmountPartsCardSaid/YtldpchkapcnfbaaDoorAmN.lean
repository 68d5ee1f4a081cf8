/- The walks of AmountBack and AmountParts: the laws answer true; nothing old turns. -/
import Derived.Test.YtldpchkapcnfbaaDoorAmM
set_option linter.unusedVariables false
set_option linter.unusedSimpArgs false
namespace Go.Proofs.YtldpchkapcnfbaaDoor
open Go.RowKit Go.Sort

namespace Am
theorem app_l (a b : ByteArray) : (a ++ b).data.toList = a.data.toList ++ b.data.toList := by rw [ByteArray.data_append, Array.toList_append]
theorem tI_l (n : Int) : (tI n).data.toList = Lib.itoa n := rfl
/-- Hours in digits a; m minutes, s seconds as they are written. -/
def Shape (t : ByteArray) (a : List UInt8) (m s : Int) : Prop := (t.data.toList = a ++ 58 :: (dd m).data.toList ∧ s = 0) ∨ t.data.toList = a ++ 58 :: ((dd m).data.toList ++ 58 :: (dd s).data.toList)
theorem shape_w1 (n : Int) : Shape (w1 n) (Lib.itoa (n / 3600)) (n / 60 % 60) (n % 60) := by
  unfold Shape w1 wr
  by_cases h : n % 60 = 0
  · left
    rw [if_pos h, app_l, app_l, tI_l]
    exact ⟨by rw [List.append_assoc]; rfl, h⟩
  · right
    rw [if_neg h, app_l, app_l, app_l, app_l, tI_l]
    simp
theorem shape_pre {t : ByteArray} {a : List UInt8} {m s : Int} (p u : ByteArray) (h : Shape t a m s) (hu : u.data.toList = p.data.toList ++ t.data.toList) : Shape u (p.data.toList ++ a) m s := by
  unfold Shape at *
  rw [hu]
  rcases h with ⟨e, h⟩ | e
  · left; exact ⟨by rw [e, List.append_assoc], h⟩
  · right; rw [e, List.append_assoc]
theorem shape_ok {t : ByteArray} {a : List UInt8} {m s : Int} (h : Shape t a m s) (ha : isP 0 a = true) (m0 : 0 ≤ m) (m1 : m < 60) (s0 : 0 ≤ s) (s1 : s < 60) : okK t = true ∧ vK t 0 = (Num.val 0 a : Int) ∧ vK t 1 = m ∧ vK t 2 = s := by
  obtain ⟨d1, d2⟩ := digits2 (n := m) m0 (by omega)
  obtain ⟨e1, e2⟩ := digits2 (n := s) s0 (by omega)
  rcases h with ⟨e, h⟩ | e
  · have := ok2 e ha d1
    rw [d2] at this
    rw [h]; exact this
  · have := ok3 e ha d1 (by rw [isP_12]; exact e1)
    rw [d2, e2] at this
    exact this
theorem shape_no {t : ByteArray} {a : List UInt8} {m s : Int} (h : Shape t a m s) (ha : nc a) (hp : isP 0 a = false) : okK t = false := by
  rcases h with ⟨e, h⟩ | e
  · exact no1 e ha hp
  · exact no1 e ha hp
theorem shape_size {t : ByteArray} {a : List UInt8} {m s : Int} (h : Shape t a m s) (ha : a ≠ []) : 2 ≤ t.size := by
  have := List.length_pos_iff.2 ha
  rw [← ab_len t]
  rcases h with ⟨e, h⟩ | e
  · rw [e, List.length_append, List.length_cons]; omega
  · rw [e, List.length_append, List.length_cons]; omega
theorem shape_head {t : ByteArray} {a : List UInt8} {m s : Int} {c : UInt8} {r : List UInt8} (h : Shape t a m s) (ha : a = c :: r) : ∃ r', t.data.toList = c :: r' := by
  rcases h with ⟨e, h⟩ | e
  · rw [e, ha]; exact ⟨_, rfl⟩
  · rw [e, ha]; exact ⟨_, rfl⟩
theorem mk_l (l : List UInt8) : (⟨l.toArray⟩ : ByteArray).data.toList = l := rfl
/-- What is written is read as it is; with a sign ahead; with a nought ahead. -/
theorem back {n : Int} (n0 : 0 < n) (n1 : n ≤ 604799) : rd (w1 n) = (n, 0) ∧ rd (⟨#[45]⟩ ++ w1 n) = (-n, 0) ∧ rd (⟨#[48]⟩ ++ w1 n) = if n < 360000 then (n, 0) else (0, 2) := by
  have S := shape_w1 n
  obtain ⟨h1, h2, h3⟩ := hours (n := n / 3600) (by omega) (by omega)
  obtain ⟨c, r, hc, hc45⟩ := isP_head h1 (Num.itoa_ne _)
  have ne := Num.itoa_ne (n / 3600)
  have sum : n / 3600 * 3600 + n / 60 % 60 * 60 + n % 60 = n := by omega
  have ok := shape_ok S h1 (by omega) (by omega) (by omega) (by omega)
  rw [h2] at ok
  refine ⟨?_, ?_, ?_⟩
  · obtain ⟨r', hl⟩ := shape_head S hc
    obtain ⟨u1, u2⟩ := un_dig hl hc45
    rw [rd_of (shape_size S ne) u2 (by rw [u1]; exact ok), sum, if_pos (by omega)]; rfl
  · have hl : (⟨#[45]⟩ ++ w1 n : ByteArray).data.toList = 45 :: (w1 n).data.toList := by rw [app_l]; rfl
    obtain ⟨u1, u2⟩ := un_neg hl
    have S2 := shape_pre ⟨#[45]⟩ (⟨#[45]⟩ ++ w1 n) S (by rw [app_l])
    have S3 : Shape ⟨(w1 n).data.toList.toArray⟩ (Lib.itoa (n / 3600)) (n / 60 % 60) (n % 60) := S
    have ok3 := shape_ok S3 h1 (by omega) (by omega) (by omega) (by omega)
    rw [h2] at ok3
    rw [rd_of (shape_size S2 (by simp)) u2 (by rw [u1]; exact ok3), sum, if_pos (by omega)]; rfl
  · have S2 := shape_pre ⟨#[48]⟩ (⟨#[48]⟩ ++ w1 n) S (by rw [app_l])
    have e48 : (⟨#[48]⟩ : ByteArray).data.toList ++ Lib.itoa (n / 3600) = 48 :: Lib.itoa (n / 3600) := rfl
    rw [e48] at S2
    obtain ⟨r', hl⟩ := shape_head S2 rfl
    obtain ⟨u1, u2⟩ := un_dig hl (by decide)
    by_cases hn : n < 360000
    · have hp : isP 0 (48 :: Lib.itoa (n / 3600)) = true := by rw [h3]; exact decide_eq_true (by omega)
      have ok2 := shape_ok S2 hp (by omega) (by omega) (by omega) (by omega)
      have hv : Num.val 0 (48 :: Lib.itoa (n / 3600)) = Num.val 0 (Lib.itoa (n / 3600)) := by rw [Num.val_cons, show Num.stp 0 48 = 0 by rw [Num.stp_eq]; rfl]
      rw [hv, h2] at ok2
      rw [rd_of (shape_size S2 (by simp)) u2 (by rw [u1]; exact ok2), sum, if_pos (by omega), if_pos hn]; rfl
    · have hp : isP 0 (48 :: Lib.itoa (n / 3600)) = false := by rw [h3]; exact decide_eq_false (by omega)
      have hd : nc (48 :: Lib.itoa (n / 3600)) := by
        intro x hx
        rcases List.mem_cons.1 hx with rfl | hx
        · decide
        · exact nc_dig (isP_size h1).1 x hx
      rw [rd_no (shape_size S2 (by simp)) (by rw [u1]; exact shape_no S2 hd hp), if_neg hn]
/-- Hours, minutes, seconds, as AmountParts writes them. -/
def pt (h m s : Int) : ByteArray := tI h ++ ⟨#[58]⟩ ++ tI m ++ ⟨#[58]⟩ ++ tI s
theorem pt_l (h m s : Int) : (pt h m s).data.toList = Lib.itoa h ++ 58 :: (Lib.itoa m ++ 58 :: Lib.itoa s) := by
  unfold pt
  rw [app_l, app_l, app_l, app_l, tI_l, tI_l, tI_l]
  simp
theorem parts {h m s : Int} (h0 : 0 ≤ h) (h1 : h ≤ 999) (m0 : 10 ≤ m) (m1 : m ≤ 99) (s0 : 10 ≤ s) (s1 : s ≤ 99) :
    rd (pt h m s) = (if m < 60 ∧ s < 60 ∧ h * 3600 + m * 60 + s ≤ 604799 then (h * 3600 + m * 60 + s, 0) else (0, 1)) ∧
    rd (⟨#[45]⟩ ++ pt h m s) = (if m < 60 ∧ s < 60 ∧ h * 3600 + m * 60 + s ≤ 604799 then (-(h * 3600 + m * 60 + s), 0) else (0, 1)) := by
  obtain ⟨a1, a2, _⟩ := hours (n := h) h0 (by omega)
  obtain ⟨b1, b2⟩ := digits3 (n := m) m0 (by omega)
  obtain ⟨c1, c2⟩ := digits3 (n := s) s0 (by omega)
  obtain ⟨c, r, hc, hc45⟩ := isP_head a1 (Num.itoa_ne _)
  have e := pt_l h m s
  have ok := ok3 e a1 b1 (by rw [isP_12]; exact c1)
  rw [a2, b2, c2] at ok
  have hz : 2 ≤ (pt h m s).size := by
    have := List.length_pos_iff.2 (Num.itoa_ne h)
    rw [← ab_len (pt h m s), e, List.length_append, List.length_cons, List.length_append, List.length_cons]; omega
  refine ⟨?_, ?_⟩
  · have hl : (pt h m s).data.toList = c :: (r ++ 58 :: (Lib.itoa m ++ 58 :: Lib.itoa s)) := by rw [e, hc]; rfl
    obtain ⟨u1, u2⟩ := un_dig hl hc45
    rw [rd_of hz u2 (by rw [u1]; exact ok)]; rfl
  · have hl : (⟨#[45]⟩ ++ pt h m s : ByteArray).data.toList = 45 :: (pt h m s).data.toList := by rw [app_l]; rfl
    obtain ⟨u1, u2⟩ := un_neg hl
    have e3 : (⟨(pt h m s).data.toList.toArray⟩ : ByteArray).data.toList = Lib.itoa h ++ 58 :: (Lib.itoa m ++ 58 :: Lib.itoa s) := e
    have ok2 := ok3 e3 a1 b1 (by rw [isP_12]; exact c1)
    rw [a2, b2, c2] at ok2
    rw [rd_of (by rw [ByteArray.size_append]; omega) u2 (by rw [u1]; exact ok2)]; rfl
end Am
set_option maxHeartbeats 4000000 in
set_option maxRecDepth 100000 in
theorem aback_lo (n : Int) (w : World) (b0 : -9223372036854775808 ≤ n) (b1 : n ≤ 9223372036854775807) (h : n < -604799) (m : Int) (hm : w.cell? ⟨6, 0, none⟩ = some (.int .i64 m)) (htab : Lib.TabIs Tryd.prog w "internal/strconv.uint64pow10" .u64 Lib.pow10Tab) :
    Calls Tryd.prog 6 #[.int .i64 n] w fun e w' => e = .returned (.bool true) ∧ Below w.heap.size w w' := by
  have T0 := Lib.hid htab; clear htab
  have M0 := Lib.hid hm; clear hm
  have L := Lib.hid (fun W a b => lives16 W m a b)
  have X := Lib.hid (atext_c n ⟨#[]⟩ 1 (by unfold Am.tx; rw [if_pos (.inl h)]) b0 b1)
  have h' : n ≤ -604800 := by omega
  clear b0 b1
  go_enter Tryd.func6, Tryd.ntmps6
  go_wp2_with fail
  refine (L.out _ M0.out T0.out).mono ?_; rintro e w1 ⟨rfl, b1⟩
  have d1 : Below w.heap.size w w1 := below_step (by repeat (first | exact Below.refl _ _ | refine below_drewN ?_ _ | refine Below.drew ?_ | refine Below.setCell ?_ (by first | (simp; done) | (simp; omega) | omega) _ | refine Below.alloc ?_ (by first | (simp; done) | (simp; omega) | omega) _)) b1
  have B1 := Lib.hid d1
  clear b1 d1
  go_wp2_with fail
  refine (X.out _ (var_keep B1.out T0.out)).mono ?_; rintro e w2 ⟨rfl, b2⟩
  have d2 : Below w1.heap.size w1 w2 := below_step (by repeat (first | exact Below.refl _ _ | refine below_drewN ?_ _ | refine Below.drew ?_ | refine Below.setCell ?_ (by first | (simp; done) | (simp; omega) | omega) _ | refine Below.alloc ?_ (by first | (simp; done) | (simp; omega) | omega) _)) b2
  have B2 := Lib.hid (below_step B1.out d2)
  clear b2 d2 B1
  go_wp2_with fail
  go_ret
  exact ⟨rfl, (by have hz := B2.out.size; repeat (first | exact B2.out | refine below_drewN ?_ _ | refine Below.drew ?_ | refine Below.setCell ?_ (by first | omega | (simp; done) | (simp; omega)) _ | refine Below.alloc ?_ (by first | omega | (simp; done) | (simp; omega)) _))⟩
set_option maxHeartbeats 4000000 in
set_option maxRecDepth 100000 in
theorem aback_hi (n : Int) (w : World) (b0 : -9223372036854775808 ≤ n) (b1 : n ≤ 9223372036854775807) (h : 604799 < n) (m : Int) (hm : w.cell? ⟨6, 0, none⟩ = some (.int .i64 m)) (htab : Lib.TabIs Tryd.prog w "internal/strconv.uint64pow10" .u64 Lib.pow10Tab) :
    Calls Tryd.prog 6 #[.int .i64 n] w fun e w' => e = .returned (.bool true) ∧ Below w.heap.size w w' := by
  have T0 := Lib.hid htab; clear htab
  have M0 := Lib.hid hm; clear hm
  have L := Lib.hid (fun W a b => lives16 W m a b)
  have X := Lib.hid (atext_c n ⟨#[]⟩ 1 (by unfold Am.tx; rw [if_pos (.inr h)]) b0 b1)
  have h' : 604800 ≤ n := by omega
  have h'' : ¬ n ≤ -604800 := by omega
  clear b0 b1
  go_enter Tryd.func6, Tryd.ntmps6
  go_wp2_with fail
  refine (L.out _ M0.out T0.out).mono ?_; rintro e w1 ⟨rfl, b1⟩
  have d1 : Below w.heap.size w w1 := below_step (by repeat (first | exact Below.refl _ _ | refine below_drewN ?_ _ | refine Below.drew ?_ | refine Below.setCell ?_ (by first | (simp; done) | (simp; omega) | omega) _ | refine Below.alloc ?_ (by first | (simp; done) | (simp; omega) | omega) _)) b1
  have B1 := Lib.hid d1
  clear b1 d1
  go_wp2_with fail
  refine (X.out _ (var_keep B1.out T0.out)).mono ?_; rintro e w2 ⟨rfl, b2⟩
  have d2 : Below w1.heap.size w1 w2 := below_step (by repeat (first | exact Below.refl _ _ | refine below_drewN ?_ _ | refine Below.drew ?_ | refine Below.setCell ?_ (by first | (simp; done) | (simp; omega) | omega) _ | refine Below.alloc ?_ (by first | (simp; done) | (simp; omega) | omega) _)) b2
  have B2 := Lib.hid (below_step B1.out d2)
  clear b2 d2 B1
  go_wp2_with fail
  go_ret
  exact ⟨rfl, (by have hz := B2.out.size; repeat (first | exact B2.out | refine below_drewN ?_ _ | refine Below.drew ?_ | refine Below.setCell ?_ (by first | omega | (simp; done) | (simp; omega)) _ | refine Below.alloc ?_ (by first | omega | (simp; done) | (simp; omega)) _))⟩
set_option maxHeartbeats 4000000 in
set_option maxRecDepth 100000 in
theorem aback_zero (w : World) (m : Int) (hm : w.cell? ⟨6, 0, none⟩ = some (.int .i64 m)) (htab : Lib.TabIs Tryd.prog w "internal/strconv.uint64pow10" .u64 Lib.pow10Tab) :
    Calls Tryd.prog 6 #[.int .i64 0] w fun e w' => e = .returned (.bool true) ∧ Below w.heap.size w w' := by
  have T0 := Lib.hid htab; clear htab
  have M0 := Lib.hid hm; clear hm
  have L := Lib.hid (fun W a b => lives16 W m a b)
  have X := Lib.hid (atext_c 0 ⟨#[48]⟩ 0 (by decide +kernel) (by decide) (by decide))
  have R1 := Lib.hid (aread_c ⟨#[48]⟩ 0 0 (by decide +kernel) (by decide))
  have R2 := Lib.hid (aread_c ⟨#[45, 48]⟩ 0 0 (by decide +kernel) (by decide))
  have R3 := Lib.hid (aread_c ⟨#[48, 48]⟩ 0 0 (by decide +kernel) (by decide))
  go_enter Tryd.func6, Tryd.ntmps6
  go_wp2_with fail
  refine (L.out _ M0.out T0.out).mono ?_; rintro e w1 ⟨rfl, b1⟩
  have d1 : Below w.heap.size w w1 := below_step (by repeat (first | exact Below.refl _ _ | refine below_drewN ?_ _ | refine Below.drew ?_ | refine Below.setCell ?_ (by first | (simp; done) | (simp; omega) | omega) _ | refine Below.alloc ?_ (by first | (simp; done) | (simp; omega) | omega) _)) b1
  have B1 := Lib.hid d1
  clear b1 d1
  go_wp2_with fail
  refine (X.out _ (var_keep B1.out T0.out)).mono ?_; rintro e w2 ⟨rfl, b2⟩
  have d2 : Below w1.heap.size w1 w2 := below_step (by repeat (first | exact Below.refl _ _ | refine below_drewN ?_ _ | refine Below.drew ?_ | refine Below.setCell ?_ (by first | (simp; done) | (simp; omega) | omega) _ | refine Below.alloc ?_ (by first | (simp; done) | (simp; omega) | omega) _)) b2
  have B2 := Lib.hid (below_step B1.out d2)
  clear b2 d2 B1
  go_wp2_with fail
  refine (R1.out _ m (ckm B2.out M0.out)).mono ?_; rintro e w3 ⟨rfl, b3⟩
  have d3 : Below w2.heap.size w2 w3 := below_step (by repeat (first | exact Below.refl _ _ | refine below_drewN ?_ _ | refine Below.drew ?_ | refine Below.setCell ?_ (by first | (simp; done) | (simp; omega) | omega) _ | refine Below.alloc ?_ (by first | (simp; done) | (simp; omega) | omega) _)) b3
  have B3 := Lib.hid (below_step B2.out d3)
  clear b3 d3 B2
  go_wp2_with fail
  refine (R2.out _ m (ckm B3.out M0.out)).mono ?_; rintro e w4 ⟨rfl, b4⟩
  have d4 : Below w3.heap.size w3 w4 := below_step (by repeat (first | exact Below.refl _ _ | refine below_drewN ?_ _ | refine Below.drew ?_ | refine Below.setCell ?_ (by first | (simp; done) | (simp; omega) | omega) _ | refine Below.alloc ?_ (by first | (simp; done) | (simp; omega) | omega) _)) b4
  have B4 := Lib.hid (below_step B3.out d4)
  clear b4 d4 B3
  go_wp2_with fail
  refine (R3.out _ m (ckm B4.out M0.out)).mono ?_; rintro e w5 ⟨rfl, b5⟩
  have d5 : Below w4.heap.size w4 w5 := below_step (by repeat (first | exact Below.refl _ _ | refine below_drewN ?_ _ | refine Below.drew ?_ | refine Below.setCell ?_ (by first | (simp; done) | (simp; omega) | omega) _ | refine Below.alloc ?_ (by first | (simp; done) | (simp; omega) | omega) _)) b5
  have B5 := Lib.hid (below_step B4.out d5)
  clear b5 d5 B4
  go_wp2_with fail
  go_ret
  exact ⟨rfl, (by have hz := B5.out.size; repeat (first | exact B5.out | refine below_drewN ?_ _ | refine Below.drew ?_ | refine Below.setCell ?_ (by first | omega | (simp; done) | (simp; omega)) _ | refine Below.alloc ?_ (by first | omega | (simp; done) | (simp; omega)) _))⟩
set_option maxHeartbeats 4000000 in
set_option maxRecDepth 100000 in
theorem aback_pos (n : Int) (w : World) (n0 : 0 < n) (n1 : n ≤ 604799) (h : n < 360000) (m : Int) (hm : w.cell? ⟨6, 0, none⟩ = some (.int .i64 m)) (htab : Lib.TabIs Tryd.prog w "internal/strconv.uint64pow10" .u64 Lib.pow10Tab) :
    Calls Tryd.prog 6 #[.int .i64 n] w fun e w' => e = .returned (.bool true) ∧ Below w.heap.size w w' := by
  have T0 := Lib.hid htab; clear htab
  have M0 := Lib.hid hm; clear hm
  have L := Lib.hid (fun W a b => lives16 W m a b)
  obtain ⟨r1, r2, r3⟩ := Am.back n0 n1
  rw [if_pos h] at r3
  have X := Lib.hid (atext_c n (Am.w1 n) 0 (by unfold Am.tx; rw [if_neg (by omega), if_neg (by omega), if_neg (by omega)]) (by omega) (by omega))
  have z := Am.w1_size n (by omega) n1
  generalize Am.w1 n = S at *
  have R1 := Lib.hid (aread_c S n 0 r1 (by omega))
  have R2 := Lib.hid (aread_c (⟨#[45]⟩ ++ S) (-n) 0 r2 (by rw [ByteArray.size_append]; show 1 + S.size < _; omega))
  have R3 := Lib.hid (aread_c (⟨#[48]⟩ ++ S) n 0 r3 (by rw [ByteArray.size_append]; show 1 + S.size < _; omega))
  have g1 : ¬ n < 0 := by omega
  have g2 : ¬ 360000 ≤ n := by omega
  clear r1 r2 r3
  go_enter Tryd.func6, Tryd.ntmps6
  go_wp2_with fail
  refine (L.out _ M0.out T0.out).mono ?_; rintro e w1 ⟨rfl, b1⟩
  have d1 : Below w.heap.size w w1 := below_step (by repeat (first | exact Below.refl _ _ | refine below_drewN ?_ _ | refine Below.drew ?_ | refine Below.setCell ?_ (by first | (simp; done) | (simp; omega) | omega) _ | refine Below.alloc ?_ (by first | (simp; done) | (simp; omega) | omega) _)) b1
  have B1 := Lib.hid d1
  clear b1 d1
  go_wp2_with fail
  refine (X.out _ (var_keep B1.out T0.out)).mono ?_; rintro e w2 ⟨rfl, b2⟩
  have d2 : Below w1.heap.size w1 w2 := below_step (by repeat (first | exact Below.refl _ _ | refine below_drewN ?_ _ | refine Below.drew ?_ | refine Below.setCell ?_ (by first | (simp; done) | (simp; omega) | omega) _ | refine Below.alloc ?_ (by first | (simp; done) | (simp; omega) | omega) _)) b2
  have B2 := Lib.hid (below_step B1.out d2)
  clear b2 d2 B1
  go_wp2_with fail
  refine (R1.out _ m (ckm B2.out M0.out)).mono ?_; rintro e w3 ⟨rfl, b3⟩
  have d3 : Below w2.heap.size w2 w3 := below_step (by repeat (first | exact Below.refl _ _ | refine below_drewN ?_ _ | refine Below.drew ?_ | refine Below.setCell ?_ (by first | (simp; done) | (simp; omega) | omega) _ | refine Below.alloc ?_ (by first | (simp; done) | (simp; omega) | omega) _)) b3
  have B3 := Lib.hid (below_step B2.out d3)
  clear b3 d3 B2
  go_wp2_with fail
  refine (R2.out _ m (ckm B3.out M0.out)).mono ?_; rintro e w4 ⟨rfl, b4⟩
  have d4 : Below w3.heap.size w3 w4 := below_step (by repeat (first | exact Below.refl _ _ | refine below_drewN ?_ _ | refine Below.drew ?_ | refine Below.setCell ?_ (by first | (simp; done) | (simp; omega) | omega) _ | refine Below.alloc ?_ (by first | (simp; done) | (simp; omega) | omega) _)) b4
  have B4 := Lib.hid (below_step B3.out d4)
  clear b4 d4 B3
  go_wp2_with fail
  refine (R3.out _ m (ckm B4.out M0.out)).mono ?_; rintro e w5 ⟨rfl, b5⟩
  have d5 : Below w4.heap.size w4 w5 := below_step (by repeat (first | exact Below.refl _ _ | refine below_drewN ?_ _ | refine Below.drew ?_ | refine Below.setCell ?_ (by first | (simp; done) | (simp; omega) | omega) _ | refine Below.alloc ?_ (by first | (simp; done) | (simp; omega) | omega) _)) b5
  have B5 := Lib.hid (below_step B4.out d5)
  clear b5 d5 B4
  go_wp2_with fail
  go_ret
  exact ⟨rfl, (by have hz := B5.out.size; repeat (first | exact B5.out | refine below_drewN ?_ _ | refine Below.drew ?_ | refine Below.setCell ?_ (by first | omega | (simp; done) | (simp; omega)) _ | refine Below.alloc ?_ (by first | omega | (simp; done) | (simp; omega)) _))⟩
set_option maxHeartbeats 4000000 in
set_option maxRecDepth 100000 in
theorem aback_far (n : Int) (w : World) (n0 : 0 < n) (n1 : n ≤ 604799) (h : ¬ n < 360000) (m : Int) (hm : w.cell? ⟨6, 0, none⟩ = some (.int .i64 m)) (htab : Lib.TabIs Tryd.prog w "internal/strconv.uint64pow10" .u64 Lib.pow10Tab) :
    Calls Tryd.prog 6 #[.int .i64 n] w fun e w' => e = .returned (.bool true) ∧ Below w.heap.size w w' := by
  have T0 := Lib.hid htab; clear htab
  have M0 := Lib.hid hm; clear hm
  have L := Lib.hid (fun W a b => lives16 W m a b)
  obtain ⟨r1, r2, r3⟩ := Am.back n0 n1
  rw [if_neg h] at r3
  have X := Lib.hid (atext_c n (Am.w1 n) 0 (by unfold Am.tx; rw [if_neg (by omega), if_neg (by omega), if_neg (by omega)]) (by omega) (by omega))
  have z := Am.w1_size n (by omega) n1
  generalize Am.w1 n = S at *
  have R1 := Lib.hid (aread_c S n 0 r1 (by omega))
  have R2 := Lib.hid (aread_c (⟨#[45]⟩ ++ S) (-n) 0 r2 (by rw [ByteArray.size_append]; show 1 + S.size < _; omega))
  have R3 := Lib.hid (aread_c (⟨#[48]⟩ ++ S) 0 2 r3 (by rw [ByteArray.size_append]; show 1 + S.size < _; omega))
  have g1 : ¬ n < 0 := by omega
  have g2 : 360000 ≤ n := by omega
  clear r1 r2 r3
  go_enter Tryd.func6, Tryd.ntmps6
  go_wp2_with fail
  refine (L.out _ M0.out T0.out).mono ?_; rintro e w1 ⟨rfl, b1⟩
  have d1 : Below w.heap.size w w1 := below_step (by repeat (first | exact Below.refl _ _ | refine below_drewN ?_ _ | refine Below.drew ?_ | refine Below.setCell ?_ (by first | (simp; done) | (simp; omega) | omega) _ | refine Below.alloc ?_ (by first | (simp; done) | (simp; omega) | omega) _)) b1
  have B1 := Lib.hid d1
  clear b1 d1
  go_wp2_with fail
  refine (X.out _ (var_keep B1.out T0.out)).mono ?_; rintro e w2 ⟨rfl, b2⟩
  have d2 : Below w1.heap.size w1 w2 := below_step (by repeat (first | exact Below.refl _ _ | refine below_drewN ?_ _ | refine Below.drew ?_ | refine Below.setCell ?_ (by first | (simp; done) | (simp; omega) | omega) _ | refine Below.alloc ?_ (by first | (simp; done) | (simp; omega) | omega) _)) b2
  have B2 := Lib.hid (below_step B1.out d2)
  clear b2 d2 B1
  go_wp2_with fail
  refine (R1.out _ m (ckm B2.out M0.out)).mono ?_; rintro e w3 ⟨rfl, b3⟩
  have d3 : Below w2.heap.size w2 w3 := below_step (by repeat (first | exact Below.refl _ _ | refine below_drewN ?_ _ | refine Below.drew ?_ | refine Below.setCell ?_ (by first | (simp; done) | (simp; omega) | omega) _ | refine Below.alloc ?_ (by first | (simp; done) | (simp; omega) | omega) _)) b3
  have B3 := Lib.hid (below_step B2.out d3)
  clear b3 d3 B2
  go_wp2_with fail
  refine (R2.out _ m (ckm B3.out M0.out)).mono ?_; rintro e w4 ⟨rfl, b4⟩
  have d4 : Below w3.heap.size w3 w4 := below_step (by repeat (first | exact Below.refl _ _ | refine below_drewN ?_ _ | refine Below.drew ?_ | refine Below.setCell ?_ (by first | (simp; done) | (simp; omega) | omega) _ | refine Below.alloc ?_ (by first | (simp; done) | (simp; omega) | omega) _)) b4
  have B4 := Lib.hid (below_step B3.out d4)
  clear b4 d4 B3
  go_wp2_with fail
  refine (R3.out _ m (ckm B4.out M0.out)).mono ?_; rintro e w5 ⟨rfl, b5⟩
  have d5 : Below w4.heap.size w4 w5 := below_step (by repeat (first | exact Below.refl _ _ | refine below_drewN ?_ _ | refine Below.drew ?_ | refine Below.setCell ?_ (by first | (simp; done) | (simp; omega) | omega) _ | refine Below.alloc ?_ (by first | (simp; done) | (simp; omega) | omega) _)) b5
  have B5 := Lib.hid (below_step B4.out d5)
  clear b5 d5 B4
  go_wp2_with fail
  go_ret
  exact ⟨rfl, (by have hz := B5.out.size; repeat (first | exact B5.out | refine below_drewN ?_ _ | refine Below.drew ?_ | refine Below.setCell ?_ (by first | omega | (simp; done) | (simp; omega)) _ | refine Below.alloc ?_ (by first | omega | (simp; done) | (simp; omega)) _))⟩
set_option maxHeartbeats 4000000 in
set_option maxRecDepth 100000 in
theorem aback_neg (n : Int) (w : World) (n0 : n < 0) (n1 : -604799 ≤ n) (m : Int) (hm : w.cell? ⟨6, 0, none⟩ = some (.int .i64 m)) (htab : Lib.TabIs Tryd.prog w "internal/strconv.uint64pow10" .u64 Lib.pow10Tab) :
    Calls Tryd.prog 6 #[.int .i64 n] w fun e w' => e = .returned (.bool true) ∧ Below w.heap.size w w' := by
  have T0 := Lib.hid htab; clear htab
  have M0 := Lib.hid hm; clear hm
  have L := Lib.hid (fun W a b => lives16 W m a b)
  obtain ⟨r1, r2, r3⟩ := Am.back (n := -n) (by omega) (by omega)
  rw [Int.neg_neg] at r2
  have X := Lib.hid (atext_c n (⟨#[45]⟩ ++ Am.w1 (-n)) 0 (by unfold Am.tx; rw [if_neg (by omega), if_neg (by omega), if_pos n0]) (by omega) (by omega))
  have Y := Lib.hid (atext_c (-n) (Am.w1 (-n)) 0 (by unfold Am.tx; rw [if_neg (by omega), if_neg (by omega), if_neg (by omega)]) (by omega) (by omega))
  have z := Am.w1_size (-n) (by omega) (by omega)
  generalize Am.w1 (-n) = S at *
  have R2 := Lib.hid (aread_c (⟨#[45]⟩ ++ S) n 0 r2 (by rw [ByteArray.size_append]; show 1 + S.size < _; omega))
  clear r1 r2 r3
  go_enter Tryd.func6, Tryd.ntmps6
  go_wp2_with fail
  refine (L.out _ M0.out T0.out).mono ?_; rintro e w1 ⟨rfl, b1⟩
  have d1 : Below w.heap.size w w1 := below_step (by repeat (first | exact Below.refl _ _ | refine below_drewN ?_ _ | refine Below.drew ?_ | refine Below.setCell ?_ (by first | (simp; done) | (simp; omega) | omega) _ | refine Below.alloc ?_ (by first | (simp; done) | (simp; omega) | omega) _)) b1
  have B1 := Lib.hid d1
  clear b1 d1
  go_wp2_with fail
  refine (X.out _ (var_keep B1.out T0.out)).mono ?_; rintro e w2 ⟨rfl, b2⟩
  have d2 : Below w1.heap.size w1 w2 := below_step (by repeat (first | exact Below.refl _ _ | refine below_drewN ?_ _ | refine Below.drew ?_ | refine Below.setCell ?_ (by first | (simp; done) | (simp; omega) | omega) _ | refine Below.alloc ?_ (by first | (simp; done) | (simp; omega) | omega) _)) b2
  have B2 := Lib.hid (below_step B1.out d2)
  clear b2 d2 B1
  go_wp2_with fail
  refine (R2.out _ m (ckm B2.out M0.out)).mono ?_; rintro e w3 ⟨rfl, b3⟩
  have d3 : Below w2.heap.size w2 w3 := below_step (by repeat (first | exact Below.refl _ _ | refine below_drewN ?_ _ | refine Below.drew ?_ | refine Below.setCell ?_ (by first | (simp; done) | (simp; omega) | omega) _ | refine Below.alloc ?_ (by first | (simp; done) | (simp; omega) | omega) _)) b3
  have B3 := Lib.hid (below_step B2.out d3)
  clear b3 d3 B2
  go_wp2_with fail
  refine (Y.out _ (var_keep B3.out T0.out)).mono ?_; rintro e w4 ⟨rfl, b4⟩
  have d4 : Below w3.heap.size w3 w4 := below_step (by repeat (first | exact Below.refl _ _ | refine below_drewN ?_ _ | refine Below.drew ?_ | refine Below.setCell ?_ (by first | (simp; done) | (simp; omega) | omega) _ | refine Below.alloc ?_ (by first | (simp; done) | (simp; omega) | omega) _)) b4
  have B4 := Lib.hid (below_step B3.out d4)
  clear b4 d4 B3
  go_wp2_with fail
  go_ret
  exact ⟨rfl, (by have hz := B4.out.size; repeat (first | exact B4.out | refine below_drewN ?_ _ | refine Below.drew ?_ | refine Below.setCell ?_ (by first | omega | (simp; done) | (simp; omega)) _ | refine Below.alloc ?_ (by first | omega | (simp; done) | (simp; omega)) _))⟩
theorem aback_walk (n : Int) (w : World) (b0 : -9223372036854775808 ≤ n) (b1 : n ≤ 9223372036854775807) (m : Int) (hm : w.cell? ⟨6, 0, none⟩ = some (.int .i64 m)) (htab : Lib.TabIs Tryd.prog w "internal/strconv.uint64pow10" .u64 Lib.pow10Tab) :
    Calls Tryd.prog 6 #[.int .i64 n] w fun e w' => e = .returned (.bool true) ∧ Below w.heap.size w w' := by
  by_cases c1 : n < -604799
  · exact aback_lo n w b0 b1 c1 m hm htab
  by_cases c2 : 604799 < n
  · exact aback_hi n w b0 b1 c2 m hm htab
  by_cases c3 : n = 0
  · subst c3; exact aback_zero w m hm htab
  by_cases c4 : n < 0
  · exact aback_neg n w c4 (by omega) m hm htab
  by_cases c5 : n < 360000
  · exact aback_pos n w (by omega) (by omega) c5 m hm htab
  · exact aback_far n w (by omega) (by omega) c5 m hm htab
set_option maxHeartbeats 4000000 in
set_option maxRecDepth 100000 in
theorem aparts_out0 (h p s : Int) (b : Bool) (w : World) (c1 : h < 0) (m : Int) (hm : w.cell? ⟨6, 0, none⟩ = some (.int .i64 m)) (htab : Lib.TabIs Tryd.prog w "internal/strconv.uint64pow10" .u64 Lib.pow10Tab) :
    Calls Tryd.prog 7 #[.int .i64 h, .int .i64 p, .int .i64 s, .bool b] w fun e w' => e = .returned (.bool true) ∧ Below w.heap.size w w' := by
  have T0 := Lib.hid htab; clear htab
  have M0 := Lib.hid hm; clear hm
  have L := Lib.hid (fun W a b => lives16 W m a b)
  go_enter Tryd.func7, Tryd.ntmps7
  go_wp2_with fail
  refine (L.out _ M0.out T0.out).mono ?_; rintro e w1 ⟨rfl, b1⟩
  have d1 : Below w.heap.size w w1 := below_step (by repeat (first | exact Below.refl _ _ | refine below_drewN ?_ _ | refine Below.drew ?_ | refine Below.setCell ?_ (by first | (simp; done) | (simp; omega) | omega) _ | refine Below.alloc ?_ (by first | (simp; done) | (simp; omega) | omega) _)) b1
  have B1 := Lib.hid d1
  clear b1 d1
  go_wp2_with fail
  go_ret
  exact ⟨rfl, (by have hz := B1.out.size; repeat (first | exact B1.out | refine below_drewN ?_ _ | refine Below.drew ?_ | refine Below.setCell ?_ (by first | omega | (simp; done) | (simp; omega)) _ | refine Below.alloc ?_ (by first | omega | (simp; done) | (simp; omega)) _))⟩
set_option maxHeartbeats 4000000 in
set_option maxRecDepth 100000 in
theorem aparts_out1 (h p s : Int) (b : Bool) (w : World) (c1 : ¬ h < 0) (c2 : 999 < h) (m : Int) (hm : w.cell? ⟨6, 0, none⟩ = some (.int .i64 m)) (htab : Lib.TabIs Tryd.prog w "internal/strconv.uint64pow10" .u64 Lib.pow10Tab) :
    Calls Tryd.prog 7 #[.int .i64 h, .int .i64 p, .int .i64 s, .bool b] w fun e w' => e = .returned (.bool true) ∧ Below w.heap.size w w' := by
  have T0 := Lib.hid htab; clear htab
  have M0 := Lib.hid hm; clear hm
  have L := Lib.hid (fun W a b => lives16 W m a b)
  go_enter Tryd.func7, Tryd.ntmps7
  go_wp2_with fail
  refine (L.out _ M0.out T0.out).mono ?_; rintro e w1 ⟨rfl, b1⟩
  have d1 : Below w.heap.size w w1 := below_step (by repeat (first | exact Below.refl _ _ | refine below_drewN ?_ _ | refine Below.drew ?_ | refine Below.setCell ?_ (by first | (simp; done) | (simp; omega) | omega) _ | refine Below.alloc ?_ (by first | (simp; done) | (simp; omega) | omega) _)) b1
  have B1 := Lib.hid d1
  clear b1 d1
  go_wp2_with fail
  go_ret
  exact ⟨rfl, (by have hz := B1.out.size; repeat (first | exact B1.out | refine below_drewN ?_ _ | refine Below.drew ?_ | refine Below.setCell ?_ (by first | omega | (simp; done) | (simp; omega)) _ | refine Below.alloc ?_ (by first | omega | (simp; done) | (simp; omega)) _))⟩
set_option maxHeartbeats 4000000 in
set_option maxRecDepth 100000 in
theorem aparts_out2 (h p s : Int) (b : Bool) (w : World) (c1 : ¬ h < 0) (c2 : ¬ 999 < h) (c3 : p < 10) (m : Int) (hm : w.cell? ⟨6, 0, none⟩ = some (.int .i64 m)) (htab : Lib.TabIs Tryd.prog w "internal/strconv.uint64pow10" .u64 Lib.pow10Tab) :
    Calls Tryd.prog 7 #[.int .i64 h, .int .i64 p, .int .i64 s, .bool b] w fun e w' => e = .returned (.bool true) ∧ Below w.heap.size w w' := by
  have T0 := Lib.hid htab; clear htab
  have M0 := Lib.hid hm; clear hm
  have L := Lib.hid (fun W a b => lives16 W m a b)
  go_enter Tryd.func7, Tryd.ntmps7
  go_wp2_with fail
  refine (L.out _ M0.out T0.out).mono ?_; rintro e w1 ⟨rfl, b1⟩
  have d1 : Below w.heap.size w w1 := below_step (by repeat (first | exact Below.refl _ _ | refine below_drewN ?_ _ | refine Below.drew ?_ | refine Below.setCell ?_ (by first | (simp; done) | (simp; omega) | omega) _ | refine Below.alloc ?_ (by first | (simp; done) | (simp; omega) | omega) _)) b1
  have B1 := Lib.hid d1
  clear b1 d1
  go_wp2_with fail
  go_ret
  exact ⟨rfl, (by have hz := B1.out.size; repeat (first | exact B1.out | refine below_drewN ?_ _ | refine Below.drew ?_ | refine Below.setCell ?_ (by first | omega | (simp; done) | (simp; omega)) _ | refine Below.alloc ?_ (by first | omega | (simp; done) | (simp; omega)) _))⟩
set_option maxHeartbeats 4000000 in
set_option maxRecDepth 100000 in
theorem aparts_out3 (h p s : Int) (b : Bool) (w : World) (c1 : ¬ h < 0) (c2 : ¬ 999 < h) (c3 : ¬ p < 10) (c4 : 99 < p) (m : Int) (hm : w.cell? ⟨6, 0, none⟩ = some (.int .i64 m)) (htab : Lib.TabIs Tryd.prog w "internal/strconv.uint64pow10" .u64 Lib.pow10Tab) :
    Calls Tryd.prog 7 #[.int .i64 h, .int .i64 p, .int .i64 s, .bool b] w fun e w' => e = .returned (.bool true) ∧ Below w.heap.size w w' := by
  have T0 := Lib.hid htab; clear htab
  have M0 := Lib.hid hm; clear hm
  have L := Lib.hid (fun W a b => lives16 W m a b)
  go_enter Tryd.func7, Tryd.ntmps7
  go_wp2_with fail
  refine (L.out _ M0.out T0.out).mono ?_; rintro e w1 ⟨rfl, b1⟩
  have d1 : Below w.heap.size w w1 := below_step (by repeat (first | exact Below.refl _ _ | refine below_drewN ?_ _ | refine Below.drew ?_ | refine Below.setCell ?_ (by first | (simp; done) | (simp; omega) | omega) _ | refine Below.alloc ?_ (by first | (simp; done) | (simp; omega) | omega) _)) b1
  have B1 := Lib.hid d1
  clear b1 d1
  go_wp2_with fail
  go_ret
  exact ⟨rfl, (by have hz := B1.out.size; repeat (first | exact B1.out | refine below_drewN ?_ _ | refine Below.drew ?_ | refine Below.setCell ?_ (by first | omega | (simp; done) | (simp; omega)) _ | refine Below.alloc ?_ (by first | omega | (simp; done) | (simp; omega)) _))⟩
set_option maxHeartbeats 4000000 in
set_option maxRecDepth 100000 in
theorem aparts_out4 (h p s : Int) (b : Bool) (w : World) (c1 : ¬ h < 0) (c2 : ¬ 999 < h) (c3 : ¬ p < 10) (c4 : ¬ 99 < p) (c5 : s < 10) (m : Int) (hm : w.cell? ⟨6, 0, none⟩ = some (.int .i64 m)) (htab : Lib.TabIs Tryd.prog w "internal/strconv.uint64pow10" .u64 Lib.pow10Tab) :
    Calls Tryd.prog 7 #[.int .i64 h, .int .i64 p, .int .i64 s, .bool b] w fun e w' => e = .returned (.bool true) ∧ Below w.heap.size w w' := by
  have T0 := Lib.hid htab; clear htab
  have M0 := Lib.hid hm; clear hm
  have L := Lib.hid (fun W a b => lives16 W m a b)
  go_enter Tryd.func7, Tryd.ntmps7
  go_wp2_with fail
  refine (L.out _ M0.out T0.out).mono ?_; rintro e w1 ⟨rfl, b1⟩
  have d1 : Below w.heap.size w w1 := below_step (by repeat (first | exact Below.refl _ _ | refine below_drewN ?_ _ | refine Below.drew ?_ | refine Below.setCell ?_ (by first | (simp; done) | (simp; omega) | omega) _ | refine Below.alloc ?_ (by first | (simp; done) | (simp; omega) | omega) _)) b1
  have B1 := Lib.hid d1
  clear b1 d1
  go_wp2_with fail
  go_ret
  exact ⟨rfl, (by have hz := B1.out.size; repeat (first | exact B1.out | refine below_drewN ?_ _ | refine Below.drew ?_ | refine Below.setCell ?_ (by first | omega | (simp; done) | (simp; omega)) _ | refine Below.alloc ?_ (by first | omega | (simp; done) | (simp; omega)) _))⟩
set_option maxHeartbeats 4000000 in
set_option maxRecDepth 100000 in
theorem aparts_out5 (h p s : Int) (b : Bool) (w : World) (c1 : ¬ h < 0) (c2 : ¬ 999 < h) (c3 : ¬ p < 10) (c4 : ¬ 99 < p) (c5 : ¬ s < 10) (c6 : 99 < s) (m : Int) (hm : w.cell? ⟨6, 0, none⟩ = some (.int .i64 m)) (htab : Lib.TabIs Tryd.prog w "internal/strconv.uint64pow10" .u64 Lib.pow10Tab) :
    Calls Tryd.prog 7 #[.int .i64 h, .int .i64 p, .int .i64 s, .bool b] w fun e w' => e = .returned (.bool true) ∧ Below w.heap.size w w' := by
  have T0 := Lib.hid htab; clear htab
  have M0 := Lib.hid hm; clear hm
  have L := Lib.hid (fun W a b => lives16 W m a b)
  go_enter Tryd.func7, Tryd.ntmps7
  go_wp2_with fail
  refine (L.out _ M0.out T0.out).mono ?_; rintro e w1 ⟨rfl, b1⟩
  have d1 : Below w.heap.size w w1 := below_step (by repeat (first | exact Below.refl _ _ | refine below_drewN ?_ _ | refine Below.drew ?_ | refine Below.setCell ?_ (by first | (simp; done) | (simp; omega) | omega) _ | refine Below.alloc ?_ (by first | (simp; done) | (simp; omega) | omega) _)) b1
  have B1 := Lib.hid d1
  clear b1 d1
  go_wp2_with fail
  go_ret
  exact ⟨rfl, (by have hz := B1.out.size; repeat (first | exact B1.out | refine below_drewN ?_ _ | refine Below.drew ?_ | refine Below.setCell ?_ (by first | omega | (simp; done) | (simp; omega)) _ | refine Below.alloc ?_ (by first | omega | (simp; done) | (simp; omega)) _))⟩
set_option maxHeartbeats 4000000 in
set_option maxRecDepth 100000 in
theorem aparts_falser (h p s : Int) (w : World) (c1 : ¬ h < 0) (c2 : ¬ 999 < h) (c3 : ¬ p < 10) (c4 : ¬ 99 < p) (c5 : ¬ s < 10) (c6 : ¬ 99 < s) (d1 : ¬ 167 < h) (d2 : ¬ 59 < p) (d3 : ¬ 59 < s) (m : Int) (hm : w.cell? ⟨6, 0, none⟩ = some (.int .i64 m)) (htab : Lib.TabIs Tryd.prog w "internal/strconv.uint64pow10" .u64 Lib.pow10Tab) :
    Calls Tryd.prog 7 #[.int .i64 h, .int .i64 p, .int .i64 s, .bool false] w fun e w' => e = .returned (.bool true) ∧ Below w.heap.size w w' := by
  have T0 := Lib.hid htab; clear htab
  have M0 := Lib.hid hm; clear hm
  have L := Lib.hid (fun W a b => lives16 W m a b)
  obtain ⟨r1, r2⟩ := Am.parts (h := h) (m := p) (s := s) (by omega) (by omega) (by omega) (by omega) (by omega) (by omega)
  rw [if_pos (by omega)] at r1 r2
  obtain ⟨A, hA, zA, CA⟩ := atI h (by omega) (by omega)
  obtain ⟨B', hB, zB, CB⟩ := atI p (by omega) (by omega)
  obtain ⟨D, hD, zD, CD⟩ := atI s (by omega) (by omega)
  have ep : Am.pt h p s = A ++ ⟨#[58]⟩ ++ B' ++ ⟨#[58]⟩ ++ D := by unfold Am.pt; rw [hA, hB, hD]
  have e1 : (A ++ ⟨#[58]⟩ : ByteArray).size = A.size + 1 := by rw [ByteArray.size_append]; rfl
  have e2 : (A ++ ⟨#[58]⟩ ++ B' : ByteArray).size = A.size + 1 + B'.size := by rw [ByteArray.size_append, e1]
  have e3 : (A ++ ⟨#[58]⟩ ++ B' ++ ⟨#[58]⟩ : ByteArray).size = A.size + 1 + B'.size + 1 := by rw [ByteArray.size_append, e2]; rfl
  have e4 : (A ++ ⟨#[58]⟩ ++ B' ++ ⟨#[58]⟩ ++ D : ByteArray).size = A.size + 1 + B'.size + 1 + D.size := by rw [ByteArray.size_append, e3]
  rw [ep] at r1 r2
  have RR := Lib.hid (aread_c (A ++ ⟨#[58]⟩ ++ B' ++ ⟨#[58]⟩ ++ D) (h * 3600 + p * 60 + s) 0 r1 (by omega))
  clear r1 r2 ep hA hB hD
  go_enter Tryd.func7, Tryd.ntmps7
  go_wp2_with fail
  refine (L.out _ M0.out T0.out).mono ?_; rintro e w1 ⟨rfl, b1⟩
  have d1 : Below w.heap.size w w1 := below_step (by repeat (first | exact Below.refl _ _ | refine below_drewN ?_ _ | refine Below.drew ?_ | refine Below.setCell ?_ (by first | (simp; done) | (simp; omega) | omega) _ | refine Below.alloc ?_ (by first | (simp; done) | (simp; omega) | omega) _)) b1
  have B1 := Lib.hid d1
  clear b1 d1
  go_wp2_with fail
  refine (CA.out _ (var_keep B1.out T0.out)).mono ?_; rintro e w2 ⟨rfl, b2⟩
  have d2 : Below w1.heap.size w1 w2 := below_step (by repeat (first | exact Below.refl _ _ | refine below_drewN ?_ _ | refine Below.drew ?_ | refine Below.setCell ?_ (by first | (simp; done) | (simp; omega) | omega) _ | refine Below.alloc ?_ (by first | (simp; done) | (simp; omega) | omega) _)) b2
  have B2 := Lib.hid (below_step B1.out d2)
  clear b2 d2 B1
  go_wp2_with fail
  refine (CB.out _ (var_keep B2.out T0.out)).mono ?_; rintro e w3 ⟨rfl, b3⟩
  have d3 : Below w2.heap.size w2 w3 := below_step (by repeat (first | exact Below.refl _ _ | refine below_drewN ?_ _ | refine Below.drew ?_ | refine Below.setCell ?_ (by first | (simp; done) | (simp; omega) | omega) _ | refine Below.alloc ?_ (by first | (simp; done) | (simp; omega) | omega) _)) b3
  have B3 := Lib.hid (below_step B2.out d3)
  clear b3 d3 B2
  go_wp2_with fail
  refine (CD.out _ (var_keep B3.out T0.out)).mono ?_; rintro e w4 ⟨rfl, b4⟩
  have d4 : Below w3.heap.size w3 w4 := below_step (by repeat (first | exact Below.refl _ _ | refine below_drewN ?_ _ | refine Below.drew ?_ | refine Below.setCell ?_ (by first | (simp; done) | (simp; omega) | omega) _ | refine Below.alloc ?_ (by first | (simp; done) | (simp; omega) | omega) _)) b4
  have B4 := Lib.hid (below_step B3.out d4)
  clear b4 d4 B3
  go_wp2_with fail
  refine (RR.out _ m (ckm B4.out M0.out)).mono ?_; rintro e w5 ⟨rfl, b5⟩
  have d5 : Below w4.heap.size w4 w5 := below_step (by repeat (first | exact Below.refl _ _ | refine below_drewN ?_ _ | refine Below.drew ?_ | refine Below.setCell ?_ (by first | (simp; done) | (simp; omega) | omega) _ | refine Below.alloc ?_ (by first | (simp; done) | (simp; omega) | omega) _)) b5
  have B5 := Lib.hid (below_step B4.out d5)
  clear b5 d5 B4
  go_wp2_with fail
  go_ret
  exact ⟨rfl, (by have hz := B5.out.size; repeat (first | exact B5.out | refine below_drewN ?_ _ | refine Below.drew ?_ | refine Below.setCell ?_ (by first | omega | (simp; done) | (simp; omega)) _ | refine Below.alloc ?_ (by first | omega | (simp; done) | (simp; omega)) _))⟩
set_option maxHeartbeats 4000000 in
set_option maxRecDepth 100000 in
theorem aparts_falsex (h p s : Int) (w : World) (c1 : ¬ h < 0) (c2 : ¬ 999 < h) (c3 : ¬ p < 10) (c4 : ¬ 99 < p) (c5 : ¬ s < 10) (c6 : ¬ 99 < s) (d1 : 167 < h) (m : Int) (hm : w.cell? ⟨6, 0, none⟩ = some (.int .i64 m)) (htab : Lib.TabIs Tryd.prog w "internal/strconv.uint64pow10" .u64 Lib.pow10Tab) :
    Calls Tryd.prog 7 #[.int .i64 h, .int .i64 p, .int .i64 s, .bool false] w fun e w' => e = .returned (.bool true) ∧ Below w.heap.size w w' := by
  have T0 := Lib.hid htab; clear htab
  have M0 := Lib.hid hm; clear hm
  have L := Lib.hid (fun W a b => lives16 W m a b)
  obtain ⟨r1, r2⟩ := Am.parts (h := h) (m := p) (s := s) (by omega) (by omega) (by omega) (by omega) (by omega) (by omega)
  rw [if_neg (by omega)] at r1 r2
  obtain ⟨A, hA, zA, CA⟩ := atI h (by omega) (by omega)
  obtain ⟨B', hB, zB, CB⟩ := atI p (by omega) (by omega)
  obtain ⟨D, hD, zD, CD⟩ := atI s (by omega) (by omega)
  have ep : Am.pt h p s = A ++ ⟨#[58]⟩ ++ B' ++ ⟨#[58]⟩ ++ D := by unfold Am.pt; rw [hA, hB, hD]
  have e1 : (A ++ ⟨#[58]⟩ : ByteArray).size = A.size + 1 := by rw [ByteArray.size_append]; rfl
  have e2 : (A ++ ⟨#[58]⟩ ++ B' : ByteArray).size = A.size + 1 + B'.size := by rw [ByteArray.size_append, e1]
  have e3 : (A ++ ⟨#[58]⟩ ++ B' ++ ⟨#[58]⟩ : ByteArray).size = A.size + 1 + B'.size + 1 := by rw [ByteArray.size_append, e2]; rfl
  have e4 : (A ++ ⟨#[58]⟩ ++ B' ++ ⟨#[58]⟩ ++ D : ByteArray).size = A.size + 1 + B'.size + 1 + D.size := by rw [ByteArray.size_append, e3]
  rw [ep] at r1 r2
  have RR := Lib.hid (aread_c (A ++ ⟨#[58]⟩ ++ B' ++ ⟨#[58]⟩ ++ D) 0 1 r1 (by omega))
  clear r1 r2 ep hA hB hD
  go_enter Tryd.func7, Tryd.ntmps7
  go_wp2_with fail
  refine (L.out _ M0.out T0.out).mono ?_; rintro e w1 ⟨rfl, b1⟩
  have d1 : Below w.heap.size w w1 := below_step (by repeat (first | exact Below.refl _ _ | refine below_drewN ?_ _ | refine Below.drew ?_ | refine Below.setCell ?_ (by first | (simp; done) | (simp; omega) | omega) _ | refine Below.alloc ?_ (by first | (simp; done) | (simp; omega) | omega) _)) b1
  have B1 := Lib.hid d1
  clear b1 d1
  go_wp2_with fail
  refine (CA.out _ (var_keep B1.out T0.out)).mono ?_; rintro e w2 ⟨rfl, b2⟩
  have d2 : Below w1.heap.size w1 w2 := below_step (by repeat (first | exact Below.refl _ _ | refine below_drewN ?_ _ | refine Below.drew ?_ | refine Below.setCell ?_ (by first | (simp; done) | (simp; omega) | omega) _ | refine Below.alloc ?_ (by first | (simp; done) | (simp; omega) | omega) _)) b2
  have B2 := Lib.hid (below_step B1.out d2)
  clear b2 d2 B1
  go_wp2_with fail
  refine (CB.out _ (var_keep B2.out T0.out)).mono ?_; rintro e w3 ⟨rfl, b3⟩
  have d3 : Below w2.heap.size w2 w3 := below_step (by repeat (first | exact Below.refl _ _ | refine below_drewN ?_ _ | refine Below.drew ?_ | refine Below.setCell ?_ (by first | (simp; done) | (simp; omega) | omega) _ | refine Below.alloc ?_ (by first | (simp; done) | (simp; omega) | omega) _)) b3
  have B3 := Lib.hid (below_step B2.out d3)
  clear b3 d3 B2
  go_wp2_with fail
  refine (CD.out _ (var_keep B3.out T0.out)).mono ?_; rintro e w4 ⟨rfl, b4⟩
  have d4 : Below w3.heap.size w3 w4 := below_step (by repeat (first | exact Below.refl _ _ | refine below_drewN ?_ _ | refine Below.drew ?_ | refine Below.setCell ?_ (by first | (simp; done) | (simp; omega) | omega) _ | refine Below.alloc ?_ (by first | (simp; done) | (simp; omega) | omega) _)) b4
  have B4 := Lib.hid (below_step B3.out d4)
  clear b4 d4 B3
  go_wp2_with fail
  refine (RR.out _ m (ckm B4.out M0.out)).mono ?_; rintro e w5 ⟨rfl, b5⟩
  have d5 : Below w4.heap.size w4 w5 := below_step (by repeat (first | exact Below.refl _ _ | refine below_drewN ?_ _ | refine Below.drew ?_ | refine Below.setCell ?_ (by first | (simp; done) | (simp; omega) | omega) _ | refine Below.alloc ?_ (by first | (simp; done) | (simp; omega) | omega) _)) b5
  have B5 := Lib.hid (below_step B4.out d5)
  clear b5 d5 B4
  go_wp2_with fail
  go_ret
  exact ⟨rfl, (by have hz := B5.out.size; repeat (first | exact B5.out | refine below_drewN ?_ _ | refine Below.drew ?_ | refine Below.setCell ?_ (by first | omega | (simp; done) | (simp; omega)) _ | refine Below.alloc ?_ (by first | omega | (simp; done) | (simp; omega)) _))⟩
set_option maxHeartbeats 4000000 in
set_option maxRecDepth 100000 in
theorem aparts_falsey (h p s : Int) (w : World) (c1 : ¬ h < 0) (c2 : ¬ 999 < h) (c3 : ¬ p < 10) (c4 : ¬ 99 < p) (c5 : ¬ s < 10) (c6 : ¬ 99 < s) (d1 : ¬ 167 < h) (d2 : 59 < p) (m : Int) (hm : w.cell? ⟨6, 0, none⟩ = some (.int .i64 m)) (htab : Lib.TabIs Tryd.prog w "internal/strconv.uint64pow10" .u64 Lib.pow10Tab) :
    Calls Tryd.prog 7 #[.int .i64 h, .int .i64 p, .int .i64 s, .bool false] w fun e w' => e = .returned (.bool true) ∧ Below w.heap.size w w' := by
  have T0 := Lib.hid htab; clear htab
  have M0 := Lib.hid hm; clear hm
  have L := Lib.hid (fun W a b => lives16 W m a b)
  obtain ⟨r1, r2⟩ := Am.parts (h := h) (m := p) (s := s) (by omega) (by omega) (by omega) (by omega) (by omega) (by omega)
  rw [if_neg (by omega)] at r1 r2
  obtain ⟨A, hA, zA, CA⟩ := atI h (by omega) (by omega)
  obtain ⟨B', hB, zB, CB⟩ := atI p (by omega) (by omega)
  obtain ⟨D, hD, zD, CD⟩ := atI s (by omega) (by omega)
  have ep : Am.pt h p s = A ++ ⟨#[58]⟩ ++ B' ++ ⟨#[58]⟩ ++ D := by unfold Am.pt; rw [hA, hB, hD]
  have e1 : (A ++ ⟨#[58]⟩ : ByteArray).size = A.size + 1 := by rw [ByteArray.size_append]; rfl
  have e2 : (A ++ ⟨#[58]⟩ ++ B' : ByteArray).size = A.size + 1 + B'.size := by rw [ByteArray.size_append, e1]
  have e3 : (A ++ ⟨#[58]⟩ ++ B' ++ ⟨#[58]⟩ : ByteArray).size = A.size + 1 + B'.size + 1 := by rw [ByteArray.size_append, e2]; rfl
  have e4 : (A ++ ⟨#[58]⟩ ++ B' ++ ⟨#[58]⟩ ++ D : ByteArray).size = A.size + 1 + B'.size + 1 + D.size := by rw [ByteArray.size_append, e3]
  rw [ep] at r1 r2
  have RR := Lib.hid (aread_c (A ++ ⟨#[58]⟩ ++ B' ++ ⟨#[58]⟩ ++ D) 0 1 r1 (by omega))
  clear r1 r2 ep hA hB hD
  go_enter Tryd.func7, Tryd.ntmps7
  go_wp2_with fail
  refine (L.out _ M0.out T0.out).mono ?_; rintro e w1 ⟨rfl, b1⟩
  have d1 : Below w.heap.size w w1 := below_step (by repeat (first | exact Below.refl _ _ | refine below_drewN ?_ _ | refine Below.drew ?_ | refine Below.setCell ?_ (by first | (simp; done) | (simp; omega) | omega) _ | refine Below.alloc ?_ (by first | (simp; done) | (simp; omega) | omega) _)) b1
  have B1 := Lib.hid d1
  clear b1 d1
  go_wp2_with fail
  refine (CA.out _ (var_keep B1.out T0.out)).mono ?_; rintro e w2 ⟨rfl, b2⟩
  have d2 : Below w1.heap.size w1 w2 := below_step (by repeat (first | exact Below.refl _ _ | refine below_drewN ?_ _ | refine Below.drew ?_ | refine Below.setCell ?_ (by first | (simp; done) | (simp; omega) | omega) _ | refine Below.alloc ?_ (by first | (simp; done) | (simp; omega) | omega) _)) b2
  have B2 := Lib.hid (below_step B1.out d2)
  clear b2 d2 B1
  go_wp2_with fail
  refine (CB.out _ (var_keep B2.out T0.out)).mono ?_; rintro e w3 ⟨rfl, b3⟩
  have d3 : Below w2.heap.size w2 w3 := below_step (by repeat (first | exact Below.refl _ _ | refine below_drewN ?_ _ | refine Below.drew ?_ | refine Below.setCell ?_ (by first | (simp; done) | (simp; omega) | omega) _ | refine Below.alloc ?_ (by first | (simp; done) | (simp; omega) | omega) _)) b3
  have B3 := Lib.hid (below_step B2.out d3)
  clear b3 d3 B2
  go_wp2_with fail
  refine (CD.out _ (var_keep B3.out T0.out)).mono ?_; rintro e w4 ⟨rfl, b4⟩
  have d4 : Below w3.heap.size w3 w4 := below_step (by repeat (first | exact Below.refl _ _ | refine below_drewN ?_ _ | refine Below.drew ?_ | refine Below.setCell ?_ (by first | (simp; done) | (simp; omega) | omega) _ | refine Below.alloc ?_ (by first | (simp; done) | (simp; omega) | omega) _)) b4
  have B4 := Lib.hid (below_step B3.out d4)
  clear b4 d4 B3
  go_wp2_with fail
  refine (RR.out _ m (ckm B4.out M0.out)).mono ?_; rintro e w5 ⟨rfl, b5⟩
  have d5 : Below w4.heap.size w4 w5 := below_step (by repeat (first | exact Below.refl _ _ | refine below_drewN ?_ _ | refine Below.drew ?_ | refine Below.setCell ?_ (by first | (simp; done) | (simp; omega) | omega) _ | refine Below.alloc ?_ (by first | (simp; done) | (simp; omega) | omega) _)) b5
  have B5 := Lib.hid (below_step B4.out d5)
  clear b5 d5 B4
  go_wp2_with fail
  go_ret
  exact ⟨rfl, (by have hz := B5.out.size; repeat (first | exact B5.out | refine below_drewN ?_ _ | refine Below.drew ?_ | refine Below.setCell ?_ (by first | omega | (simp; done) | (simp; omega)) _ | refine Below.alloc ?_ (by first | omega | (simp; done) | (simp; omega)) _))⟩
set_option maxHeartbeats 4000000 in
set_option maxRecDepth 100000 in
theorem aparts_falsez (h p s : Int) (w : World) (c1 : ¬ h < 0) (c2 : ¬ 999 < h) (c3 : ¬ p < 10) (c4 : ¬ 99 < p) (c5 : ¬ s < 10) (c6 : ¬ 99 < s) (d1 : ¬ 167 < h) (d2 : ¬ 59 < p) (d3 : 59 < s) (m : Int) (hm : w.cell? ⟨6, 0, none⟩ = some (.int .i64 m)) (htab : Lib.TabIs Tryd.prog w "internal/strconv.uint64pow10" .u64 Lib.pow10Tab) :
    Calls Tryd.prog 7 #[.int .i64 h, .int .i64 p, .int .i64 s, .bool false] w fun e w' => e = .returned (.bool true) ∧ Below w.heap.size w w' := by
  have T0 := Lib.hid htab; clear htab
  have M0 := Lib.hid hm; clear hm
  have L := Lib.hid (fun W a b => lives16 W m a b)
  obtain ⟨r1, r2⟩ := Am.parts (h := h) (m := p) (s := s) (by omega) (by omega) (by omega) (by omega) (by omega) (by omega)
  rw [if_neg (by omega)] at r1 r2
  obtain ⟨A, hA, zA, CA⟩ := atI h (by omega) (by omega)
  obtain ⟨B', hB, zB, CB⟩ := atI p (by omega) (by omega)
  obtain ⟨D, hD, zD, CD⟩ := atI s (by omega) (by omega)
  have ep : Am.pt h p s = A ++ ⟨#[58]⟩ ++ B' ++ ⟨#[58]⟩ ++ D := by unfold Am.pt; rw [hA, hB, hD]
  have e1 : (A ++ ⟨#[58]⟩ : ByteArray).size = A.size + 1 := by rw [ByteArray.size_append]; rfl
  have e2 : (A ++ ⟨#[58]⟩ ++ B' : ByteArray).size = A.size + 1 + B'.size := by rw [ByteArray.size_append, e1]
  have e3 : (A ++ ⟨#[58]⟩ ++ B' ++ ⟨#[58]⟩ : ByteArray).size = A.size + 1 + B'.size + 1 := by rw [ByteArray.size_append, e2]; rfl
  have e4 : (A ++ ⟨#[58]⟩ ++ B' ++ ⟨#[58]⟩ ++ D : ByteArray).size = A.size + 1 + B'.size + 1 + D.size := by rw [ByteArray.size_append, e3]
  rw [ep] at r1 r2
  have RR := Lib.hid (aread_c (A ++ ⟨#[58]⟩ ++ B' ++ ⟨#[58]⟩ ++ D) 0 1 r1 (by omega))
  clear r1 r2 ep hA hB hD
  go_enter Tryd.func7, Tryd.ntmps7
  go_wp2_with fail
  refine (L.out _ M0.out T0.out).mono ?_; rintro e w1 ⟨rfl, b1⟩
  have d1 : Below w.heap.size w w1 := below_step (by repeat (first | exact Below.refl _ _ | refine below_drewN ?_ _ | refine Below.drew ?_ | refine Below.setCell ?_ (by first | (simp; done) | (simp; omega) | omega) _ | refine Below.alloc ?_ (by first | (simp; done) | (simp; omega) | omega) _)) b1
  have B1 := Lib.hid d1
  clear b1 d1
  go_wp2_with fail
  refine (CA.out _ (var_keep B1.out T0.out)).mono ?_; rintro e w2 ⟨rfl, b2⟩
  have d2 : Below w1.heap.size w1 w2 := below_step (by repeat (first | exact Below.refl _ _ | refine below_drewN ?_ _ | refine Below.drew ?_ | refine Below.setCell ?_ (by first | (simp; done) | (simp; omega) | omega) _ | refine Below.alloc ?_ (by first | (simp; done) | (simp; omega) | omega) _)) b2
  have B2 := Lib.hid (below_step B1.out d2)
  clear b2 d2 B1
  go_wp2_with fail
  refine (CB.out _ (var_keep B2.out T0.out)).mono ?_; rintro e w3 ⟨rfl, b3⟩
  have d3 : Below w2.heap.size w2 w3 := below_step (by repeat (first | exact Below.refl _ _ | refine below_drewN ?_ _ | refine Below.drew ?_ | refine Below.setCell ?_ (by first | (simp; done) | (simp; omega) | omega) _ | refine Below.alloc ?_ (by first | (simp; done) | (simp; omega) | omega) _)) b3
  have B3 := Lib.hid (below_step B2.out d3)
  clear b3 d3 B2
  go_wp2_with fail
  refine (CD.out _ (var_keep B3.out T0.out)).mono ?_; rintro e w4 ⟨rfl, b4⟩
  have d4 : Below w3.heap.size w3 w4 := below_step (by repeat (first | exact Below.refl _ _ | refine below_drewN ?_ _ | refine Below.drew ?_ | refine Below.setCell ?_ (by first | (simp; done) | (simp; omega) | omega) _ | refine Below.alloc ?_ (by first | (simp; done) | (simp; omega) | omega) _)) b4
  have B4 := Lib.hid (below_step B3.out d4)
  clear b4 d4 B3
  go_wp2_with fail
  refine (RR.out _ m (ckm B4.out M0.out)).mono ?_; rintro e w5 ⟨rfl, b5⟩
  have d5 : Below w4.heap.size w4 w5 := below_step (by repeat (first | exact Below.refl _ _ | refine below_drewN ?_ _ | refine Below.drew ?_ | refine Below.setCell ?_ (by first | (simp; done) | (simp; omega) | omega) _ | refine Below.alloc ?_ (by first | (simp; done) | (simp; omega) | omega) _)) b5
  have B5 := Lib.hid (below_step B4.out d5)
  clear b5 d5 B4
  go_wp2_with fail
  go_ret
  exact ⟨rfl, (by have hz := B5.out.size; repeat (first | exact B5.out | refine below_drewN ?_ _ | refine Below.drew ?_ | refine Below.setCell ?_ (by first | omega | (simp; done) | (simp; omega)) _ | refine Below.alloc ?_ (by first | omega | (simp; done) | (simp; omega)) _))⟩
set_option maxHeartbeats 4000000 in
set_option maxRecDepth 100000 in
theorem aparts_truer (h p s : Int) (w : World) (c1 : ¬ h < 0) (c2 : ¬ 999 < h) (c3 : ¬ p < 10) (c4 : ¬ 99 < p) (c5 : ¬ s < 10) (c6 : ¬ 99 < s) (d1 : ¬ 167 < h) (d2 : ¬ 59 < p) (d3 : ¬ 59 < s) (m : Int) (hm : w.cell? ⟨6, 0, none⟩ = some (.int .i64 m)) (htab : Lib.TabIs Tryd.prog w "internal/strconv.uint64pow10" .u64 Lib.pow10Tab) :
    Calls Tryd.prog 7 #[.int .i64 h, .int .i64 p, .int .i64 s, .bool true] w fun e w' => e = .returned (.bool true) ∧ Below w.heap.size w w' := by
  have T0 := Lib.hid htab; clear htab
  have M0 := Lib.hid hm; clear hm
  have L := Lib.hid (fun W a b => lives16 W m a b)
  obtain ⟨r1, r2⟩ := Am.parts (h := h) (m := p) (s := s) (by omega) (by omega) (by omega) (by omega) (by omega) (by omega)
  rw [if_pos (by omega)] at r1 r2
  obtain ⟨A, hA, zA, CA⟩ := atI h (by omega) (by omega)
  obtain ⟨B', hB, zB, CB⟩ := atI p (by omega) (by omega)
  obtain ⟨D, hD, zD, CD⟩ := atI s (by omega) (by omega)
  have ep : Am.pt h p s = A ++ ⟨#[58]⟩ ++ B' ++ ⟨#[58]⟩ ++ D := by unfold Am.pt; rw [hA, hB, hD]
  have e1 : (A ++ ⟨#[58]⟩ : ByteArray).size = A.size + 1 := by rw [ByteArray.size_append]; rfl
  have e2 : (A ++ ⟨#[58]⟩ ++ B' : ByteArray).size = A.size + 1 + B'.size := by rw [ByteArray.size_append, e1]
  have e3 : (A ++ ⟨#[58]⟩ ++ B' ++ ⟨#[58]⟩ : ByteArray).size = A.size + 1 + B'.size + 1 := by rw [ByteArray.size_append, e2]; rfl
  have e4 : (A ++ ⟨#[58]⟩ ++ B' ++ ⟨#[58]⟩ ++ D : ByteArray).size = A.size + 1 + B'.size + 1 + D.size := by rw [ByteArray.size_append, e3]
  rw [ep] at r1 r2
  have RR := Lib.hid (aread_c (⟨#[45]⟩ ++ (A ++ ⟨#[58]⟩ ++ B' ++ ⟨#[58]⟩ ++ D)) (-(h * 3600 + p * 60 + s)) 0 r2 (by rw [ByteArray.size_append, e4]; show 1 + _ < _; omega))
  clear r1 r2 ep hA hB hD
  go_enter Tryd.func7, Tryd.ntmps7
  go_wp2_with fail
  refine (L.out _ M0.out T0.out).mono ?_; rintro e w1 ⟨rfl, b1⟩
  have d1 : Below w.heap.size w w1 := below_step (by repeat (first | exact Below.refl _ _ | refine below_drewN ?_ _ | refine Below.drew ?_ | refine Below.setCell ?_ (by first | (simp; done) | (simp; omega) | omega) _ | refine Below.alloc ?_ (by first | (simp; done) | (simp; omega) | omega) _)) b1
  have B1 := Lib.hid d1
  clear b1 d1
  go_wp2_with fail
  refine (CA.out _ (var_keep B1.out T0.out)).mono ?_; rintro e w2 ⟨rfl, b2⟩
  have d2 : Below w1.heap.size w1 w2 := below_step (by repeat (first | exact Below.refl _ _ | refine below_drewN ?_ _ | refine Below.drew ?_ | refine Below.setCell ?_ (by first | (simp; done) | (simp; omega) | omega) _ | refine Below.alloc ?_ (by first | (simp; done) | (simp; omega) | omega) _)) b2
  have B2 := Lib.hid (below_step B1.out d2)
  clear b2 d2 B1
  go_wp2_with fail
  refine (CB.out _ (var_keep B2.out T0.out)).mono ?_; rintro e w3 ⟨rfl, b3⟩
  have d3 : Below w2.heap.size w2 w3 := below_step (by repeat (first | exact Below.refl _ _ | refine below_drewN ?_ _ | refine Below.drew ?_ | refine Below.setCell ?_ (by first | (simp; done) | (simp; omega) | omega) _ | refine Below.alloc ?_ (by first | (simp; done) | (simp; omega) | omega) _)) b3
  have B3 := Lib.hid (below_step B2.out d3)
  clear b3 d3 B2
  go_wp2_with fail
  refine (CD.out _ (var_keep B3.out T0.out)).mono ?_; rintro e w4 ⟨rfl, b4⟩
  have d4 : Below w3.heap.size w3 w4 := below_step (by repeat (first | exact Below.refl _ _ | refine below_drewN ?_ _ | refine Below.drew ?_ | refine Below.setCell ?_ (by first | (simp; done) | (simp; omega) | omega) _ | refine Below.alloc ?_ (by first | (simp; done) | (simp; omega) | omega) _)) b4
  have B4 := Lib.hid (below_step B3.out d4)
  clear b4 d4 B3
  go_wp2_with fail
  refine (RR.out _ m (ckm B4.out M0.out)).mono ?_; rintro e w5 ⟨rfl, b5⟩
  have d5 : Below w4.heap.size w4 w5 := below_step (by repeat (first | exact Below.refl _ _ | refine below_drewN ?_ _ | refine Below.drew ?_ | refine Below.setCell ?_ (by first | (simp; done) | (simp; omega) | omega) _ | refine Below.alloc ?_ (by first | (simp; done) | (simp; omega) | omega) _)) b5
  have B5 := Lib.hid (below_step B4.out d5)
  clear b5 d5 B4
  go_wp2_with fail
  go_ret
  exact ⟨rfl, (by have hz := B5.out.size; repeat (first | exact B5.out | refine below_drewN ?_ _ | refine Below.drew ?_ | refine Below.setCell ?_ (by first | omega | (simp; done) | (simp; omega)) _ | refine Below.alloc ?_ (by first | omega | (simp; done) | (simp; omega)) _))⟩
set_option maxHeartbeats 4000000 in
set_option maxRecDepth 100000 in
theorem aparts_truex (h p s : Int) (w : World) (c1 : ¬ h < 0) (c2 : ¬ 999 < h) (c3 : ¬ p < 10) (c4 : ¬ 99 < p) (c5 : ¬ s < 10) (c6 : ¬ 99 < s) (d1 : 167 < h) (m : Int) (hm : w.cell? ⟨6, 0, none⟩ = some (.int .i64 m)) (htab : Lib.TabIs Tryd.prog w "internal/strconv.uint64pow10" .u64 Lib.pow10Tab) :
    Calls Tryd.prog 7 #[.int .i64 h, .int .i64 p, .int .i64 s, .bool true] w fun e w' => e = .returned (.bool true) ∧ Below w.heap.size w w' := by
  have T0 := Lib.hid htab; clear htab
  have M0 := Lib.hid hm; clear hm
  have L := Lib.hid (fun W a b => lives16 W m a b)
  obtain ⟨r1, r2⟩ := Am.parts (h := h) (m := p) (s := s) (by omega) (by omega) (by omega) (by omega) (by omega) (by omega)
  rw [if_neg (by omega)] at r1 r2
  obtain ⟨A, hA, zA, CA⟩ := atI h (by omega) (by omega)
  obtain ⟨B', hB, zB, CB⟩ := atI p (by omega) (by omega)
  obtain ⟨D, hD, zD, CD⟩ := atI s (by omega) (by omega)
  have ep : Am.pt h p s = A ++ ⟨#[58]⟩ ++ B' ++ ⟨#[58]⟩ ++ D := by unfold Am.pt; rw [hA, hB, hD]
  have e1 : (A ++ ⟨#[58]⟩ : ByteArray).size = A.size + 1 := by rw [ByteArray.size_append]; rfl
  have e2 : (A ++ ⟨#[58]⟩ ++ B' : ByteArray).size = A.size + 1 + B'.size := by rw [ByteArray.size_append, e1]
  have e3 : (A ++ ⟨#[58]⟩ ++ B' ++ ⟨#[58]⟩ : ByteArray).size = A.size + 1 + B'.size + 1 := by rw [ByteArray.size_append, e2]; rfl
  have e4 : (A ++ ⟨#[58]⟩ ++ B' ++ ⟨#[58]⟩ ++ D : ByteArray).size = A.size + 1 + B'.size + 1 + D.size := by rw [ByteArray.size_append, e3]
  rw [ep] at r1 r2
  have RR := Lib.hid (aread_c (⟨#[45]⟩ ++ (A ++ ⟨#[58]⟩ ++ B' ++ ⟨#[58]⟩ ++ D)) 0 1 r2 (by rw [ByteArray.size_append, e4]; show 1 + _ < _; omega))
  clear r1 r2 ep hA hB hD
  go_enter Tryd.func7, Tryd.ntmps7
  go_wp2_with fail
  refine (L.out _ M0.out T0.out).mono ?_; rintro e w1 ⟨rfl, b1⟩
  have d1 : Below w.heap.size w w1 := below_step (by repeat (first | exact Below.refl _ _ | refine below_drewN ?_ _ | refine Below.drew ?_ | refine Below.setCell ?_ (by first | (simp; done) | (simp; omega) | omega) _ | refine Below.alloc ?_ (by first | (simp; done) | (simp; omega) | omega) _)) b1
  have B1 := Lib.hid d1
  clear b1 d1
  go_wp2_with fail
  refine (CA.out _ (var_keep B1.out T0.out)).mono ?_; rintro e w2 ⟨rfl, b2⟩
  have d2 : Below w1.heap.size w1 w2 := below_step (by repeat (first | exact Below.refl _ _ | refine below_drewN ?_ _ | refine Below.drew ?_ | refine Below.setCell ?_ (by first | (simp; done) | (simp; omega) | omega) _ | refine Below.alloc ?_ (by first | (simp; done) | (simp; omega) | omega) _)) b2
  have B2 := Lib.hid (below_step B1.out d2)
  clear b2 d2 B1
  go_wp2_with fail
  refine (CB.out _ (var_keep B2.out T0.out)).mono ?_; rintro e w3 ⟨rfl, b3⟩
  have d3 : Below w2.heap.size w2 w3 := below_step (by repeat (first | exact Below.refl _ _ | refine below_drewN ?_ _ | refine Below.drew ?_ | refine Below.setCell ?_ (by first | (simp; done) | (simp; omega) | omega) _ | refine Below.alloc ?_ (by first | (simp; done) | (simp; omega) | omega) _)) b3
  have B3 := Lib.hid (below_step B2.out d3)
  clear b3 d3 B2
  go_wp2_with fail
  refine (CD.out _ (var_keep B3.out T0.out)).mono ?_; rintro e w4 ⟨rfl, b4⟩
  have d4 : Below w3.heap.size w3 w4 := below_step (by repeat (first | exact Below.refl _ _ | refine below_drewN ?_ _ | refine Below.drew ?_ | refine Below.setCell ?_ (by first | (simp; done) | (simp; omega) | omega) _ | refine Below.alloc ?_ (by first | (simp; done) | (simp; omega) | omega) _)) b4
  have B4 := Lib.hid (below_step B3.out d4)
  clear b4 d4 B3
  go_wp2_with fail
  refine (RR.out _ m (ckm B4.out M0.out)).mono ?_; rintro e w5 ⟨rfl, b5⟩
  have d5 : Below w4.heap.size w4 w5 := below_step (by repeat (first | exact Below.refl _ _ | refine below_drewN ?_ _ | refine Below.drew ?_ | refine Below.setCell ?_ (by first | (simp; done) | (simp; omega) | omega) _ | refine Below.alloc ?_ (by first | (simp; done) | (simp; omega) | omega) _)) b5
  have B5 := Lib.hid (below_step B4.out d5)
  clear b5 d5 B4
  go_wp2_with fail
  go_ret
  exact ⟨rfl, (by have hz := B5.out.size; repeat (first | exact B5.out | refine below_drewN ?_ _ | refine Below.drew ?_ | refine Below.setCell ?_ (by first | omega | (simp; done) | (simp; omega)) _ | refine Below.alloc ?_ (by first | omega | (simp; done) | (simp; omega)) _))⟩
set_option maxHeartbeats 4000000 in
set_option maxRecDepth 100000 in
theorem aparts_truey (h p s : Int) (w : World) (c1 : ¬ h < 0) (c2 : ¬ 999 < h) (c3 : ¬ p < 10) (c4 : ¬ 99 < p) (c5 : ¬ s < 10) (c6 : ¬ 99 < s) (d1 : ¬ 167 < h) (d2 : 59 < p) (m : Int) (hm : w.cell? ⟨6, 0, none⟩ = some (.int .i64 m)) (htab : Lib.TabIs Tryd.prog w "internal/strconv.uint64pow10" .u64 Lib.pow10Tab) :
    Calls Tryd.prog 7 #[.int .i64 h, .int .i64 p, .int .i64 s, .bool true] w fun e w' => e = .returned (.bool true) ∧ Below w.heap.size w w' := by
  have T0 := Lib.hid htab; clear htab
  have M0 := Lib.hid hm; clear hm
  have L := Lib.hid (fun W a b => lives16 W m a b)
  obtain ⟨r1, r2⟩ := Am.parts (h := h) (m := p) (s := s) (by omega) (by omega) (by omega) (by omega) (by omega) (by omega)
  rw [if_neg (by omega)] at r1 r2
  obtain ⟨A, hA, zA, CA⟩ := atI h (by omega) (by omega)
  obtain ⟨B', hB, zB, CB⟩ := atI p (by omega) (by omega)
  obtain ⟨D, hD, zD, CD⟩ := atI s (by omega) (by omega)
  have ep : Am.pt h p s = A ++ ⟨#[58]⟩ ++ B' ++ ⟨#[58]⟩ ++ D := by unfold Am.pt; rw [hA, hB, hD]
  have e1 : (A ++ ⟨#[58]⟩ : ByteArray).size = A.size + 1 := by rw [ByteArray.size_append]; rfl
  have e2 : (A ++ ⟨#[58]⟩ ++ B' : ByteArray).size = A.size + 1 + B'.size := by rw [ByteArray.size_append, e1]
  have e3 : (A ++ ⟨#[58]⟩ ++ B' ++ ⟨#[58]⟩ : ByteArray).size = A.size + 1 + B'.size + 1 := by rw [ByteArray.size_append, e2]; rfl
  have e4 : (A ++ ⟨#[58]⟩ ++ B' ++ ⟨#[58]⟩ ++ D : ByteArray).size = A.size + 1 + B'.size + 1 + D.size := by rw [ByteArray.size_append, e3]
  rw [ep] at r1 r2
  have RR := Lib.hid (aread_c (⟨#[45]⟩ ++ (A ++ ⟨#[58]⟩ ++ B' ++ ⟨#[58]⟩ ++ D)) 0 1 r2 (by rw [ByteArray.size_append, e4]; show 1 + _ < _; omega))
  clear r1 r2 ep hA hB hD
  go_enter Tryd.func7, Tryd.ntmps7
  go_wp2_with fail
  refine (L.out _ M0.out T0.out).mono ?_; rintro e w1 ⟨rfl, b1⟩
  have d1 : Below w.heap.size w w1 := below_step (by repeat (first | exact Below.refl _ _ | refine below_drewN ?_ _ | refine Below.drew ?_ | refine Below.setCell ?_ (by first | (simp; done) | (simp; omega) | omega) _ | refine Below.alloc ?_ (by first | (simp; done) | (simp; omega) | omega) _)) b1
  have B1 := Lib.hid d1
  clear b1 d1
  go_wp2_with fail
  refine (CA.out _ (var_keep B1.out T0.out)).mono ?_; rintro e w2 ⟨rfl, b2⟩
  have d2 : Below w1.heap.size w1 w2 := below_step (by repeat (first | exact Below.refl _ _ | refine below_drewN ?_ _ | refine Below.drew ?_ | refine Below.setCell ?_ (by first | (simp; done) | (simp; omega) | omega) _ | refine Below.alloc ?_ (by first | (simp; done) | (simp; omega) | omega) _)) b2
  have B2 := Lib.hid (below_step B1.out d2)
  clear b2 d2 B1
  go_wp2_with fail
  refine (CB.out _ (var_keep B2.out T0.out)).mono ?_; rintro e w3 ⟨rfl, b3⟩
  have d3 : Below w2.heap.size w2 w3 := below_step (by repeat (first | exact Below.refl _ _ | refine below_drewN ?_ _ | refine Below.drew ?_ | refine Below.setCell ?_ (by first | (simp; done) | (simp; omega) | omega) _ | refine Below.alloc ?_ (by first | (simp; done) | (simp; omega) | omega) _)) b3
  have B3 := Lib.hid (below_step B2.out d3)
  clear b3 d3 B2
  go_wp2_with fail
  refine (CD.out _ (var_keep B3.out T0.out)).mono ?_; rintro e w4 ⟨rfl, b4⟩
  have d4 : Below w3.heap.size w3 w4 := below_step (by repeat (first | exact Below.refl _ _ | refine below_drewN ?_ _ | refine Below.drew ?_ | refine Below.setCell ?_ (by first | (simp; done) | (simp; omega) | omega) _ | refine Below.alloc ?_ (by first | (simp; done) | (simp; omega) | omega) _)) b4
  have B4 := Lib.hid (below_step B3.out d4)
  clear b4 d4 B3
  go_wp2_with fail
  refine (RR.out _ m (ckm B4.out M0.out)).mono ?_; rintro e w5 ⟨rfl, b5⟩
  have d5 : Below w4.heap.size w4 w5 := below_step (by repeat (first | exact Below.refl _ _ | refine below_drewN ?_ _ | refine Below.drew ?_ | refine Below.setCell ?_ (by first | (simp; done) | (simp; omega) | omega) _ | refine Below.alloc ?_ (by first | (simp; done) | (simp; omega) | omega) _)) b5
  have B5 := Lib.hid (below_step B4.out d5)
  clear b5 d5 B4
  go_wp2_with fail
  go_ret
  exact ⟨rfl, (by have hz := B5.out.size; repeat (first | exact B5.out | refine below_drewN ?_ _ | refine Below.drew ?_ | refine Below.setCell ?_ (by first | omega | (simp; done) | (simp; omega)) _ | refine Below.alloc ?_ (by first | omega | (simp; done) | (simp; omega)) _))⟩
set_option maxHeartbeats 4000000 in
set_option maxRecDepth 100000 in
theorem aparts_truez (h p s : Int) (w : World) (c1 : ¬ h < 0) (c2 : ¬ 999 < h) (c3 : ¬ p < 10) (c4 : ¬ 99 < p) (c5 : ¬ s < 10) (c6 : ¬ 99 < s) (d1 : ¬ 167 < h) (d2 : ¬ 59 < p) (d3 : 59 < s) (m : Int) (hm : w.cell? ⟨6, 0, none⟩ = some (.int .i64 m)) (htab : Lib.TabIs Tryd.prog w "internal/strconv.uint64pow10" .u64 Lib.pow10Tab) :
    Calls Tryd.prog 7 #[.int .i64 h, .int .i64 p, .int .i64 s, .bool true] w fun e w' => e = .returned (.bool true) ∧ Below w.heap.size w w' := by
  have T0 := Lib.hid htab; clear htab
  have M0 := Lib.hid hm; clear hm
  have L := Lib.hid (fun W a b => lives16 W m a b)
  obtain ⟨r1, r2⟩ := Am.parts (h := h) (m := p) (s := s) (by omega) (by omega) (by omega) (by omega) (by omega) (by omega)
  rw [if_neg (by omega)] at r1 r2
  obtain ⟨A, hA, zA, CA⟩ := atI h (by omega) (by omega)
  obtain ⟨B', hB, zB, CB⟩ := atI p (by omega) (by omega)
  obtain ⟨D, hD, zD, CD⟩ := atI s (by omega) (by omega)
  have ep : Am.pt h p s = A ++ ⟨#[58]⟩ ++ B' ++ ⟨#[58]⟩ ++ D := by unfold Am.pt; rw [hA, hB, hD]
  have e1 : (A ++ ⟨#[58]⟩ : ByteArray).size = A.size + 1 := by rw [ByteArray.size_append]; rfl
  have e2 : (A ++ ⟨#[58]⟩ ++ B' : ByteArray).size = A.size + 1 + B'.size := by rw [ByteArray.size_append, e1]
  have e3 : (A ++ ⟨#[58]⟩ ++ B' ++ ⟨#[58]⟩ : ByteArray).size = A.size + 1 + B'.size + 1 := by rw [ByteArray.size_append, e2]; rfl
  have e4 : (A ++ ⟨#[58]⟩ ++ B' ++ ⟨#[58]⟩ ++ D : ByteArray).size = A.size + 1 + B'.size + 1 + D.size := by rw [ByteArray.size_append, e3]
  rw [ep] at r1 r2
  have RR := Lib.hid (aread_c (⟨#[45]⟩ ++ (A ++ ⟨#[58]⟩ ++ B' ++ ⟨#[58]⟩ ++ D)) 0 1 r2 (by rw [ByteArray.size_append, e4]; show 1 + _ < _; omega))
  clear r1 r2 ep hA hB hD
  go_enter Tryd.func7, Tryd.ntmps7
  go_wp2_with fail
  refine (L.out _ M0.out T0.out).mono ?_; rintro e w1 ⟨rfl, b1⟩
  have d1 : Below w.heap.size w w1 := below_step (by repeat (first | exact Below.refl _ _ | refine below_drewN ?_ _ | refine Below.drew ?_ | refine Below.setCell ?_ (by first | (simp; done) | (simp; omega) | omega) _ | refine Below.alloc ?_ (by first | (simp; done) | (simp; omega) | omega) _)) b1
  have B1 := Lib.hid d1
  clear b1 d1
  go_wp2_with fail
  refine (CA.out _ (var_keep B1.out T0.out)).mono ?_; rintro e w2 ⟨rfl, b2⟩
  have d2 : Below w1.heap.size w1 w2 := below_step (by repeat (first | exact Below.refl _ _ | refine below_drewN ?_ _ | refine Below.drew ?_ | refine Below.setCell ?_ (by first | (simp; done) | (simp; omega) | omega) _ | refine Below.alloc ?_ (by first | (simp; done) | (simp; omega) | omega) _)) b2
  have B2 := Lib.hid (below_step B1.out d2)
  clear b2 d2 B1
  go_wp2_with fail
  refine (CB.out _ (var_keep B2.out T0.out)).mono ?_; rintro e w3 ⟨rfl, b3⟩
  have d3 : Below w2.heap.size w2 w3 := below_step (by repeat (first | exact Below.refl _ _ | refine below_drewN ?_ _ | refine Below.drew ?_ | refine Below.setCell ?_ (by first | (simp; done) | (simp; omega) | omega) _ | refine Below.alloc ?_ (by first | (simp; done) | (simp; omega) | omega) _)) b3
  have B3 := Lib.hid (below_step B2.out d3)
  clear b3 d3 B2
  go_wp2_with fail
  refine (CD.out _ (var_keep B3.out T0.out)).mono ?_; rintro e w4 ⟨rfl, b4⟩
  have d4 : Below w3.heap.size w3 w4 := below_step (by repeat (first | exact Below.refl _ _ | refine below_drewN ?_ _ | refine Below.drew ?_ | refine Below.setCell ?_ (by first | (simp; done) | (simp; omega) | omega) _ | refine Below.alloc ?_ (by first | (simp; done) | (simp; omega) | omega) _)) b4
  have B4 := Lib.hid (below_step B3.out d4)
  clear b4 d4 B3
  go_wp2_with fail
  refine (RR.out _ m (ckm B4.out M0.out)).mono ?_; rintro e w5 ⟨rfl, b5⟩
  have d5 : Below w4.heap.size w4 w5 := below_step (by repeat (first | exact Below.refl _ _ | refine below_drewN ?_ _ | refine Below.drew ?_ | refine Below.setCell ?_ (by first | (simp; done) | (simp; omega) | omega) _ | refine Below.alloc ?_ (by first | (simp; done) | (simp; omega) | omega) _)) b5
  have B5 := Lib.hid (below_step B4.out d5)
  clear b5 d5 B4
  go_wp2_with fail
  go_ret
  exact ⟨rfl, (by have hz := B5.out.size; repeat (first | exact B5.out | refine below_drewN ?_ _ | refine Below.drew ?_ | refine Below.setCell ?_ (by first | omega | (simp; done) | (simp; omega)) _ | refine Below.alloc ?_ (by first | omega | (simp; done) | (simp; omega)) _))⟩
theorem aparts_walk (h p s : Int) (b : Bool) (w : World) (m : Int) (hm : w.cell? ⟨6, 0, none⟩ = some (.int .i64 m)) (htab : Lib.TabIs Tryd.prog w "internal/strconv.uint64pow10" .u64 Lib.pow10Tab) :
    Calls Tryd.prog 7 #[.int .i64 h, .int .i64 p, .int .i64 s, .bool b] w fun e w' => e = .returned (.bool true) ∧ Below w.heap.size w w' := by
  by_cases c1 : h < 0
  · exact aparts_out0 h p s b w c1 m hm htab
  by_cases c2 : 999 < h
  · exact aparts_out1 h p s b w c1 c2 m hm htab
  by_cases c3 : p < 10
  · exact aparts_out2 h p s b w c1 c2 c3 m hm htab
  by_cases c4 : 99 < p
  · exact aparts_out3 h p s b w c1 c2 c3 c4 m hm htab
  by_cases c5 : s < 10
  · exact aparts_out4 h p s b w c1 c2 c3 c4 c5 m hm htab
  by_cases c6 : 99 < s
  · exact aparts_out5 h p s b w c1 c2 c3 c4 c5 c6 m hm htab
  by_cases d1 : 167 < h
  · cases b
    · exact aparts_falsex h p s w c1 c2 c3 c4 c5 c6 d1 m hm htab
    · exact aparts_truex h p s w c1 c2 c3 c4 c5 c6 d1 m hm htab
  by_cases d2 : 59 < p
  · cases b
    · exact aparts_falsey h p s w c1 c2 c3 c4 c5 c6 d1 d2 m hm htab
    · exact aparts_truey h p s w c1 c2 c3 c4 c5 c6 d1 d2 m hm htab
  by_cases d3 : 59 < s
  · cases b
    · exact aparts_falsez h p s w c1 c2 c3 c4 c5 c6 d1 d2 d3 m hm htab
    · exact aparts_truez h p s w c1 c2 c3 c4 c5 c6 d1 d2 d3 m hm htab
  cases b
  · exact aparts_falser h p s w c1 c2 c3 c4 c5 c6 d1 d2 d3 m hm htab
  · exact aparts_truer h p s w c1 c2 c3 c4 c5 c6 d1 d2 d3 m hm htab
end Go.Proofs.YtldpchkapcnfbaaDoor

