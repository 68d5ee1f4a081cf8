/- Amounts that are written, in plain lists: they are read as they are. -/
import Derived.Test.YtafnnnbefabofaaDoorAmM
set_option linter.unusedVariables false
set_option linter.unusedSimpArgs false
namespace Go.Proofs.YtafnnnbefabofaaDoor
open Go.RowKit Go.Sort

namespace Am
theorem app_l (a b : ByteArray) : (a ++ b).data.toList = a.data.toList ++ b.data.toList := by rw [ByteArray.data_append, Array.toList_append]
theorem tI_l (n : Int) : (tI n).data.toList = Lib.itoa n := rfl
/-- Hours in digits a; m minutes, s seconds as they are written. -/
def Shape (t : ByteArray) (a : List UInt8) (m s : Int) : Prop := (t.data.toList = a ++ 58 :: (dd m).data.toList ∧ s = 0) ∨ t.data.toList = a ++ 58 :: ((dd m).data.toList ++ 58 :: (dd s).data.toList)
theorem shape_w1 (n : Int) : Shape (w1 n) (Lib.itoa (n / 3600)) (n / 60 % 60) (n % 60) := by
  unfold Shape w1 wr
  by_cases h : n % 60 = 0
  · left
    rw [if_pos h, app_l, app_l, tI_l]
    exact ⟨by rw [List.append_assoc]; rfl, h⟩
  · right
    rw [if_neg h, app_l, app_l, app_l, app_l, tI_l]
    simp
theorem shape_pre {t : ByteArray} {a : List UInt8} {m s : Int} (p u : ByteArray) (h : Shape t a m s) (hu : u.data.toList = p.data.toList ++ t.data.toList) : Shape u (p.data.toList ++ a) m s := by
  unfold Shape at *
  rw [hu]
  rcases h with ⟨e, h⟩ | e
  · left; exact ⟨by rw [e, List.append_assoc], h⟩
  · right; rw [e, List.append_assoc]
theorem shape_ok {t : ByteArray} {a : List UInt8} {m s : Int} (h : Shape t a m s) (ha : isP 0 a = true) (m0 : 0 ≤ m) (m1 : m < 60) (s0 : 0 ≤ s) (s1 : s < 60) : okK t = true ∧ vK t 0 = (Num.val 0 a : Int) ∧ vK t 1 = m ∧ vK t 2 = s := by
  obtain ⟨d1, d2⟩ := digits2 (n := m) m0 (by omega)
  obtain ⟨e1, e2⟩ := digits2 (n := s) s0 (by omega)
  rcases h with ⟨e, h⟩ | e
  · have := ok2 e ha d1
    rw [d2] at this
    rw [h]; exact this
  · have := ok3 e ha d1 (by rw [isP_12]; exact e1)
    rw [d2, e2] at this
    exact this
theorem shape_no {t : ByteArray} {a : List UInt8} {m s : Int} (h : Shape t a m s) (ha : nc a) (hp : isP 0 a = false) : okK t = false := by
  rcases h with ⟨e, h⟩ | e
  · exact no1 e ha hp
  · exact no1 e ha hp
theorem shape_size {t : ByteArray} {a : List UInt8} {m s : Int} (h : Shape t a m s) (ha : a ≠ []) : 2 ≤ t.size := by
  have := List.length_pos_iff.2 ha
  rw [← ab_len t]
  rcases h with ⟨e, h⟩ | e
  · rw [e, List.length_append, List.length_cons]; omega
  · rw [e, List.length_append, List.length_cons]; omega
theorem shape_head {t : ByteArray} {a : List UInt8} {m s : Int} {c : UInt8} {r : List UInt8} (h : Shape t a m s) (ha : a = c :: r) : ∃ r', t.data.toList = c :: r' := by
  rcases h with ⟨e, h⟩ | e
  · rw [e, ha]; exact ⟨_, rfl⟩
  · rw [e, ha]; exact ⟨_, rfl⟩
theorem mk_l (l : List UInt8) : (⟨l.toArray⟩ : ByteArray).data.toList = l := rfl
/-- What is written is read as it is; with a sign ahead; with a nought ahead. -/
theorem back {n : Int} (n0 : 0 < n) (n1 : n ≤ 604799) : rd (w1 n) = (n, 0) ∧ rd (⟨#[45]⟩ ++ w1 n) = (-n, 0) ∧ rd (⟨#[48]⟩ ++ w1 n) = if n < 360000 then (n, 0) else (0, 2) := by
  have S := shape_w1 n
  obtain ⟨h1, h2, h3⟩ := hours (n := n / 3600) (by omega) (by omega)
  obtain ⟨c, r, hc, hc45⟩ := isP_head h1 (Num.itoa_ne _)
  have ne := Num.itoa_ne (n / 3600)
  have sum : n / 3600 * 3600 + n / 60 % 60 * 60 + n % 60 = n := by omega
  have ok := shape_ok S h1 (by omega) (by omega) (by omega) (by omega)
  rw [h2] at ok
  refine ⟨?_, ?_, ?_⟩
  · obtain ⟨r', hl⟩ := shape_head S hc
    obtain ⟨u1, u2⟩ := un_dig hl hc45
    rw [rd_of (shape_size S ne) u2 (by rw [u1]; exact ok), sum, if_pos (by omega)]; rfl
  · have hl : (⟨#[45]⟩ ++ w1 n : ByteArray).data.toList = 45 :: (w1 n).data.toList := by rw [app_l]; rfl
    obtain ⟨u1, u2⟩ := un_neg hl
    have S2 := shape_pre ⟨#[45]⟩ (⟨#[45]⟩ ++ w1 n) S (by rw [app_l])
    have S3 : Shape ⟨(w1 n).data.toList.toArray⟩ (Lib.itoa (n / 3600)) (n / 60 % 60) (n % 60) := S
    have ok3 := shape_ok S3 h1 (by omega) (by omega) (by omega) (by omega)
    rw [h2] at ok3
    rw [rd_of (shape_size S2 (by simp)) u2 (by rw [u1]; exact ok3), sum, if_pos (by omega)]; rfl
  · have S2 := shape_pre ⟨#[48]⟩ (⟨#[48]⟩ ++ w1 n) S (by rw [app_l])
    have e48 : (⟨#[48]⟩ : ByteArray).data.toList ++ Lib.itoa (n / 3600) = 48 :: Lib.itoa (n / 3600) := rfl
    rw [e48] at S2
    obtain ⟨r', hl⟩ := shape_head S2 rfl
    obtain ⟨u1, u2⟩ := un_dig hl (by decide)
    by_cases hn : n < 360000
    · have hp : isP 0 (48 :: Lib.itoa (n / 3600)) = true := by rw [h3]; exact decide_eq_true (by omega)
      have ok2 := shape_ok S2 hp (by omega) (by omega) (by omega) (by omega)
      have hv : Num.val 0 (48 :: Lib.itoa (n / 3600)) = Num.val 0 (Lib.itoa (n / 3600)) := by rw [Num.val_cons, show Num.stp 0 48 = 0 by rw [Num.stp_eq]; rfl]
      rw [hv, h2] at ok2
      rw [rd_of (shape_size S2 (by simp)) u2 (by rw [u1]; exact ok2), sum, if_pos (by omega), if_pos hn]; rfl
    · have hp : isP 0 (48 :: Lib.itoa (n / 3600)) = false := by rw [h3]; exact decide_eq_false (by omega)
      have hd : nc (48 :: Lib.itoa (n / 3600)) := by
        intro x hx
        rcases List.mem_cons.1 hx with rfl | hx
        · decide
        · exact nc_dig (isP_size h1).1 x hx
      rw [rd_no (shape_size S2 (by simp)) (by rw [u1]; exact shape_no S2 hd hp), if_neg hn]
/-- Hours, minutes, seconds, as AmountParts writes them. -/
def pt (h m s : Int) : ByteArray := tI h ++ ⟨#[58]⟩ ++ tI m ++ ⟨#[58]⟩ ++ tI s
theorem pt_l (h m s : Int) : (pt h m s).data.toList = Lib.itoa h ++ 58 :: (Lib.itoa m ++ 58 :: Lib.itoa s) := by
  unfold pt
  rw [app_l, app_l, app_l, app_l, tI_l, tI_l, tI_l]
  simp
theorem parts {h m s : Int} (h0 : 0 ≤ h) (h1 : h ≤ 999) (m0 : 10 ≤ m) (m1 : m ≤ 99) (s0 : 10 ≤ s) (s1 : s ≤ 99) :
    rd (pt h m s) = (if m < 60 ∧ s < 60 ∧ h * 3600 + m * 60 + s ≤ 604799 then (h * 3600 + m * 60 + s, 0) else (0, 1)) ∧
    rd (⟨#[45]⟩ ++ pt h m s) = (if m < 60 ∧ s < 60 ∧ h * 3600 + m * 60 + s ≤ 604799 then (-(h * 3600 + m * 60 + s), 0) else (0, 1)) := by
  obtain ⟨a1, a2, _⟩ := hours (n := h) h0 (by omega)
  obtain ⟨b1, b2⟩ := digits3 (n := m) m0 (by omega)
  obtain ⟨c1, c2⟩ := digits3 (n := s) s0 (by omega)
  obtain ⟨c, r, hc, hc45⟩ := isP_head a1 (Num.itoa_ne _)
  have e := pt_l h m s
  have ok := ok3 e a1 b1 (by rw [isP_12]; exact c1)
  rw [a2, b2, c2] at ok
  have hz : 2 ≤ (pt h m s).size := by
    have := List.length_pos_iff.2 (Num.itoa_ne h)
    rw [← ab_len (pt h m s), e, List.length_append, List.length_cons, List.length_append, List.length_cons]; omega
  refine ⟨?_, ?_⟩
  · have hl : (pt h m s).data.toList = c :: (r ++ 58 :: (Lib.itoa m ++ 58 :: Lib.itoa s)) := by rw [e, hc]; rfl
    obtain ⟨u1, u2⟩ := un_dig hl hc45
    rw [rd_of hz u2 (by rw [u1]; exact ok)]; rfl
  · have hl : (⟨#[45]⟩ ++ pt h m s : ByteArray).data.toList = 45 :: (pt h m s).data.toList := by rw [app_l]; rfl
    obtain ⟨u1, u2⟩ := un_neg hl
    have e3 : (⟨(pt h m s).data.toList.toArray⟩ : ByteArray).data.toList = Lib.itoa h ++ 58 :: (Lib.itoa m ++ 58 :: Lib.itoa s) := e
    have ok2 := ok3 e3 a1 b1 (by rw [isP_12]; exact c1)
    rw [a2, b2, c2] at ok2
    rw [rd_of (by rw [ByteArray.size_append]; omega) u2 (by rw [u1]; exact ok2)]; rfl
end Am
end Go.Proofs.YtafnnnbefabofaaDoor
