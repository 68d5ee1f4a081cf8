/- The walk of RealOrder: whatever is handed in, the law answers true; nothing old turns. -/
import Derived.Test.YtpjddkcoolggaabLiv2
set_option linter.unusedVariables false
set_option linter.unusedSimpArgs false
namespace Go.Proofs.Ytpjddkcoolggaab
open Go.RowKit Go.Sort

set_option maxHeartbeats 4000000 in
set_option maxRecDepth 100000 in
theorem rord_x1_a (a b c m : Nat) (w : World) (ha : a < 18446744073709551616) (hb : b < 18446744073709551616) (hc : c < 18446744073709551616) (hm : m < 18446744073709551616) (em : Fl.mn [a, b, c] = m) (la : Fl.lessB a m = false ∧ Fl.lessB b m = false ∧ Fl.lessB c m = false) (hx : Fl.lessB a b = true) (hy : Fl.lessB b a = false) (hz : Fl.sameB a b = false) (h1 : Fl.lessB b c = true) (h2 : Fl.lessB a c = true) (ja : Fl.sameB m a = true) (jb : True) (jc : True) :
    Calls Try.prog 4 #[.float .f64 a, .float .f64 b, .float .f64 c] w fun e w' => e = .returned (.bool true) ∧ Below w.heap.size w w' := by
  have HA := Lib.hid ha; have HB := Lib.hid hb; have HC := Lib.hid hc; have HM := Lib.hid hm
  have EM := Lib.hid em
  have LA := Lib.hid la
  have H := Lib.hid (And.intro hx (And.intro hy (And.intro hz (And.intro h1 h2))))
  have J := Lib.hid (And.intro ja (And.intro jb jc))
  obtain ⟨lac, hlac⟩ : ∃ q, Fl.lessB a c = q := ⟨_, rfl⟩
  have HLAC := Lib.hid hlac
  clear ha hb hc hm em la hx hy hz h1 h2 ja jb jc hlac
  go_enter Try.func4, Try.ntmps4
  go_wp2_with fail
  refine (lives2 _).mono ?_; rintro e w1 ⟨rfl, b1⟩
  have B1 := Lib.hid b1
  clear b1
  go_wp2_with fail
  refine (less_any a b HA.out HB.out _).mono ?_; rintro e v ⟨rfl, rfl⟩
  rw [H.out.1]
  go_wp2_with fail
  refine (less_any b a HB.out HA.out _).mono ?_; rintro e v ⟨rfl, rfl⟩
  rw [H.out.2.1]
  go_wp2_with fail
  refine (same_any a b HA.out HB.out _).mono ?_; rintro e v ⟨rfl, rfl⟩
  rw [H.out.2.2.1]
  go_wp2_with fail; refine (less_any b c HB.out HC.out _).mono ?_; rintro e v ⟨rfl, rfl⟩; rw [H.out.2.2.2.1]; go_wp2_with fail; refine (less_any a c HA.out HC.out _).mono ?_; rintro e v ⟨rfl, rfl⟩; rw [H.out.2.2.2.2]
  go_wp2_with fail
  refine (least_any _ 3 3 [a, b, c] _ ⟨_, _, rfl, fun _ => ⟨_, rfl, by simp, three_cells (by simp [go_sem]) (by simp [go_sem]) (by simp [go_sem])⟩⟩ (by decide) (by unfold maxLen; decide) (by intro x hx; simp at hx; rcases hx with rfl | rfl | rfl; exact HA.out; exact HB.out; exact HC.out)).mono ?_; rintro e v ⟨rfl, rfl⟩
  rw [EM.out]
  go_wp2_with fail
  refine (same_any m a HM.out HA.out _).mono ?_; rintro e v ⟨rfl, rfl⟩
  rw [J.out.1]
  skip
  go_wp2_with fail
  refine (less_any a m HA.out HM.out _).mono ?_; rintro e v ⟨rfl, rfl⟩
  rw [LA.out.1]
  go_wp2_with fail
  refine (less_any b m HB.out HM.out _).mono ?_; rintro e v ⟨rfl, rfl⟩
  rw [LA.out.2.1]
  go_wp2_with fail
  refine (less_any c m HC.out HM.out _).mono ?_; rintro e v ⟨rfl, rfl⟩
  rw [LA.out.2.2]
  go_wp2
  go_ret
  exact ⟨rfl, by repeat (first | exact B1.out | refine Below.alloc ?_ (by have := B1.out.size; simp; omega) _ | refine Below.alloc ?_ (by have := B1.out.size; omega) _)⟩
set_option maxHeartbeats 4000000 in
set_option maxRecDepth 100000 in
theorem rord_x1_b (a b c m : Nat) (w : World) (ha : a < 18446744073709551616) (hb : b < 18446744073709551616) (hc : c < 18446744073709551616) (hm : m < 18446744073709551616) (em : Fl.mn [a, b, c] = m) (la : Fl.lessB a m = false ∧ Fl.lessB b m = false ∧ Fl.lessB c m = false) (hx : Fl.lessB a b = true) (hy : Fl.lessB b a = false) (hz : Fl.sameB a b = false) (h1 : Fl.lessB b c = true) (h2 : Fl.lessB a c = true) (ja : Fl.sameB m a = false) (jb : Fl.sameB m b = true) (jc : True) :
    Calls Try.prog 4 #[.float .f64 a, .float .f64 b, .float .f64 c] w fun e w' => e = .returned (.bool true) ∧ Below w.heap.size w w' := by
  have HA := Lib.hid ha; have HB := Lib.hid hb; have HC := Lib.hid hc; have HM := Lib.hid hm
  have EM := Lib.hid em
  have LA := Lib.hid la
  have H := Lib.hid (And.intro hx (And.intro hy (And.intro hz (And.intro h1 h2))))
  have J := Lib.hid (And.intro ja (And.intro jb jc))
  obtain ⟨lac, hlac⟩ : ∃ q, Fl.lessB a c = q := ⟨_, rfl⟩
  have HLAC := Lib.hid hlac
  clear ha hb hc hm em la hx hy hz h1 h2 ja jb jc hlac
  go_enter Try.func4, Try.ntmps4
  go_wp2_with fail
  refine (lives2 _).mono ?_; rintro e w1 ⟨rfl, b1⟩
  have B1 := Lib.hid b1
  clear b1
  go_wp2_with fail
  refine (less_any a b HA.out HB.out _).mono ?_; rintro e v ⟨rfl, rfl⟩
  rw [H.out.1]
  go_wp2_with fail
  refine (less_any b a HB.out HA.out _).mono ?_; rintro e v ⟨rfl, rfl⟩
  rw [H.out.2.1]
  go_wp2_with fail
  refine (same_any a b HA.out HB.out _).mono ?_; rintro e v ⟨rfl, rfl⟩
  rw [H.out.2.2.1]
  go_wp2_with fail; refine (less_any b c HB.out HC.out _).mono ?_; rintro e v ⟨rfl, rfl⟩; rw [H.out.2.2.2.1]; go_wp2_with fail; refine (less_any a c HA.out HC.out _).mono ?_; rintro e v ⟨rfl, rfl⟩; rw [H.out.2.2.2.2]
  go_wp2_with fail
  refine (least_any _ 3 3 [a, b, c] _ ⟨_, _, rfl, fun _ => ⟨_, rfl, by simp, three_cells (by simp [go_sem]) (by simp [go_sem]) (by simp [go_sem])⟩⟩ (by decide) (by unfold maxLen; decide) (by intro x hx; simp at hx; rcases hx with rfl | rfl | rfl; exact HA.out; exact HB.out; exact HC.out)).mono ?_; rintro e v ⟨rfl, rfl⟩
  rw [EM.out]
  go_wp2_with fail
  refine (same_any m a HM.out HA.out _).mono ?_; rintro e v ⟨rfl, rfl⟩
  rw [J.out.1]
  go_wp2_with fail; refine (same_any m b HM.out HB.out _).mono ?_; rintro e v ⟨rfl, rfl⟩; rw [J.out.2.1]
  go_wp2_with fail
  refine (less_any a m HA.out HM.out _).mono ?_; rintro e v ⟨rfl, rfl⟩
  rw [LA.out.1]
  go_wp2_with fail
  refine (less_any b m HB.out HM.out _).mono ?_; rintro e v ⟨rfl, rfl⟩
  rw [LA.out.2.1]
  go_wp2_with fail
  refine (less_any c m HC.out HM.out _).mono ?_; rintro e v ⟨rfl, rfl⟩
  rw [LA.out.2.2]
  go_wp2
  go_ret
  exact ⟨rfl, by repeat (first | exact B1.out | refine Below.alloc ?_ (by have := B1.out.size; simp; omega) _ | refine Below.alloc ?_ (by have := B1.out.size; omega) _)⟩
set_option maxHeartbeats 4000000 in
set_option maxRecDepth 100000 in
theorem rord_x1_c (a b c m : Nat) (w : World) (ha : a < 18446744073709551616) (hb : b < 18446744073709551616) (hc : c < 18446744073709551616) (hm : m < 18446744073709551616) (em : Fl.mn [a, b, c] = m) (la : Fl.lessB a m = false ∧ Fl.lessB b m = false ∧ Fl.lessB c m = false) (hx : Fl.lessB a b = true) (hy : Fl.lessB b a = false) (hz : Fl.sameB a b = false) (h1 : Fl.lessB b c = true) (h2 : Fl.lessB a c = true) (ja : Fl.sameB m a = false) (jb : Fl.sameB m b = false) (jc : Fl.sameB m c = true) :
    Calls Try.prog 4 #[.float .f64 a, .float .f64 b, .float .f64 c] w fun e w' => e = .returned (.bool true) ∧ Below w.heap.size w w' := by
  have HA := Lib.hid ha; have HB := Lib.hid hb; have HC := Lib.hid hc; have HM := Lib.hid hm
  have EM := Lib.hid em
  have LA := Lib.hid la
  have H := Lib.hid (And.intro hx (And.intro hy (And.intro hz (And.intro h1 h2))))
  have J := Lib.hid (And.intro ja (And.intro jb jc))
  obtain ⟨lac, hlac⟩ : ∃ q, Fl.lessB a c = q := ⟨_, rfl⟩
  have HLAC := Lib.hid hlac
  clear ha hb hc hm em la hx hy hz h1 h2 ja jb jc hlac
  go_enter Try.func4, Try.ntmps4
  go_wp2_with fail
  refine (lives2 _).mono ?_; rintro e w1 ⟨rfl, b1⟩
  have B1 := Lib.hid b1
  clear b1
  go_wp2_with fail
  refine (less_any a b HA.out HB.out _).mono ?_; rintro e v ⟨rfl, rfl⟩
  rw [H.out.1]
  go_wp2_with fail
  refine (less_any b a HB.out HA.out _).mono ?_; rintro e v ⟨rfl, rfl⟩
  rw [H.out.2.1]
  go_wp2_with fail
  refine (same_any a b HA.out HB.out _).mono ?_; rintro e v ⟨rfl, rfl⟩
  rw [H.out.2.2.1]
  go_wp2_with fail; refine (less_any b c HB.out HC.out _).mono ?_; rintro e v ⟨rfl, rfl⟩; rw [H.out.2.2.2.1]; go_wp2_with fail; refine (less_any a c HA.out HC.out _).mono ?_; rintro e v ⟨rfl, rfl⟩; rw [H.out.2.2.2.2]
  go_wp2_with fail
  refine (least_any _ 3 3 [a, b, c] _ ⟨_, _, rfl, fun _ => ⟨_, rfl, by simp, three_cells (by simp [go_sem]) (by simp [go_sem]) (by simp [go_sem])⟩⟩ (by decide) (by unfold maxLen; decide) (by intro x hx; simp at hx; rcases hx with rfl | rfl | rfl; exact HA.out; exact HB.out; exact HC.out)).mono ?_; rintro e v ⟨rfl, rfl⟩
  rw [EM.out]
  go_wp2_with fail
  refine (same_any m a HM.out HA.out _).mono ?_; rintro e v ⟨rfl, rfl⟩
  rw [J.out.1]
  go_wp2_with fail; refine (same_any m b HM.out HB.out _).mono ?_; rintro e v ⟨rfl, rfl⟩; rw [J.out.2.1]; go_wp2_with fail; refine (same_any m c HM.out HC.out _).mono ?_; rintro e v ⟨rfl, rfl⟩; rw [J.out.2.2]
  go_wp2_with fail
  refine (less_any a m HA.out HM.out _).mono ?_; rintro e v ⟨rfl, rfl⟩
  rw [LA.out.1]
  go_wp2_with fail
  refine (less_any b m HB.out HM.out _).mono ?_; rintro e v ⟨rfl, rfl⟩
  rw [LA.out.2.1]
  go_wp2_with fail
  refine (less_any c m HC.out HM.out _).mono ?_; rintro e v ⟨rfl, rfl⟩
  rw [LA.out.2.2]
  go_wp2
  go_ret
  exact ⟨rfl, by repeat (first | exact B1.out | refine Below.alloc ?_ (by have := B1.out.size; simp; omega) _ | refine Below.alloc ?_ (by have := B1.out.size; omega) _)⟩
set_option maxHeartbeats 4000000 in
set_option maxRecDepth 100000 in
theorem rord_x0_a (a b c m : Nat) (w : World) (ha : a < 18446744073709551616) (hb : b < 18446744073709551616) (hc : c < 18446744073709551616) (hm : m < 18446744073709551616) (em : Fl.mn [a, b, c] = m) (la : Fl.lessB a m = false ∧ Fl.lessB b m = false ∧ Fl.lessB c m = false) (hx : Fl.lessB a b = true) (hy : Fl.lessB b a = false) (hz : Fl.sameB a b = false) (h1 : Fl.lessB b c = false) (h2 : True) (ja : Fl.sameB m a = true) (jb : True) (jc : True) :
    Calls Try.prog 4 #[.float .f64 a, .float .f64 b, .float .f64 c] w fun e w' => e = .returned (.bool true) ∧ Below w.heap.size w w' := by
  have HA := Lib.hid ha; have HB := Lib.hid hb; have HC := Lib.hid hc; have HM := Lib.hid hm
  have EM := Lib.hid em
  have LA := Lib.hid la
  have H := Lib.hid (And.intro hx (And.intro hy (And.intro hz (And.intro h1 h2))))
  have J := Lib.hid (And.intro ja (And.intro jb jc))
  obtain ⟨lac, hlac⟩ : ∃ q, Fl.lessB a c = q := ⟨_, rfl⟩
  have HLAC := Lib.hid hlac
  clear ha hb hc hm em la hx hy hz h1 h2 ja jb jc hlac
  go_enter Try.func4, Try.ntmps4
  go_wp2_with fail
  refine (lives2 _).mono ?_; rintro e w1 ⟨rfl, b1⟩
  have B1 := Lib.hid b1
  clear b1
  go_wp2_with fail
  refine (less_any a b HA.out HB.out _).mono ?_; rintro e v ⟨rfl, rfl⟩
  rw [H.out.1]
  go_wp2_with fail
  refine (less_any b a HB.out HA.out _).mono ?_; rintro e v ⟨rfl, rfl⟩
  rw [H.out.2.1]
  go_wp2_with fail
  refine (same_any a b HA.out HB.out _).mono ?_; rintro e v ⟨rfl, rfl⟩
  rw [H.out.2.2.1]
  go_wp2_with fail; refine (less_any b c HB.out HC.out _).mono ?_; rintro e v ⟨rfl, rfl⟩; rw [H.out.2.2.2.1]
  go_wp2_with fail
  refine (least_any _ 3 3 [a, b, c] _ ⟨_, _, rfl, fun _ => ⟨_, rfl, by simp, three_cells (by simp [go_sem]) (by simp [go_sem]) (by simp [go_sem])⟩⟩ (by decide) (by unfold maxLen; decide) (by intro x hx; simp at hx; rcases hx with rfl | rfl | rfl; exact HA.out; exact HB.out; exact HC.out)).mono ?_; rintro e v ⟨rfl, rfl⟩
  rw [EM.out]
  go_wp2_with fail
  refine (same_any m a HM.out HA.out _).mono ?_; rintro e v ⟨rfl, rfl⟩
  rw [J.out.1]
  skip
  go_wp2_with fail
  refine (less_any a m HA.out HM.out _).mono ?_; rintro e v ⟨rfl, rfl⟩
  rw [LA.out.1]
  go_wp2_with fail
  refine (less_any b m HB.out HM.out _).mono ?_; rintro e v ⟨rfl, rfl⟩
  rw [LA.out.2.1]
  go_wp2_with fail
  refine (less_any c m HC.out HM.out _).mono ?_; rintro e v ⟨rfl, rfl⟩
  rw [LA.out.2.2]
  go_wp2
  go_ret
  exact ⟨rfl, by repeat (first | exact B1.out | refine Below.alloc ?_ (by have := B1.out.size; simp; omega) _ | refine Below.alloc ?_ (by have := B1.out.size; omega) _)⟩
set_option maxHeartbeats 4000000 in
set_option maxRecDepth 100000 in
theorem rord_x0_b (a b c m : Nat) (w : World) (ha : a < 18446744073709551616) (hb : b < 18446744073709551616) (hc : c < 18446744073709551616) (hm : m < 18446744073709551616) (em : Fl.mn [a, b, c] = m) (la : Fl.lessB a m = false ∧ Fl.lessB b m = false ∧ Fl.lessB c m = false) (hx : Fl.lessB a b = true) (hy : Fl.lessB b a = false) (hz : Fl.sameB a b = false) (h1 : Fl.lessB b c = false) (h2 : True) (ja : Fl.sameB m a = false) (jb : Fl.sameB m b = true) (jc : True) :
    Calls Try.prog 4 #[.float .f64 a, .float .f64 b, .float .f64 c] w fun e w' => e = .returned (.bool true) ∧ Below w.heap.size w w' := by
  have HA := Lib.hid ha; have HB := Lib.hid hb; have HC := Lib.hid hc; have HM := Lib.hid hm
  have EM := Lib.hid em
  have LA := Lib.hid la
  have H := Lib.hid (And.intro hx (And.intro hy (And.intro hz (And.intro h1 h2))))
  have J := Lib.hid (And.intro ja (And.intro jb jc))
  obtain ⟨lac, hlac⟩ : ∃ q, Fl.lessB a c = q := ⟨_, rfl⟩
  have HLAC := Lib.hid hlac
  clear ha hb hc hm em la hx hy hz h1 h2 ja jb jc hlac
  go_enter Try.func4, Try.ntmps4
  go_wp2_with fail
  refine (lives2 _).mono ?_; rintro e w1 ⟨rfl, b1⟩
  have B1 := Lib.hid b1
  clear b1
  go_wp2_with fail
  refine (less_any a b HA.out HB.out _).mono ?_; rintro e v ⟨rfl, rfl⟩
  rw [H.out.1]
  go_wp2_with fail
  refine (less_any b a HB.out HA.out _).mono ?_; rintro e v ⟨rfl, rfl⟩
  rw [H.out.2.1]
  go_wp2_with fail
  refine (same_any a b HA.out HB.out _).mono ?_; rintro e v ⟨rfl, rfl⟩
  rw [H.out.2.2.1]
  go_wp2_with fail; refine (less_any b c HB.out HC.out _).mono ?_; rintro e v ⟨rfl, rfl⟩; rw [H.out.2.2.2.1]
  go_wp2_with fail
  refine (least_any _ 3 3 [a, b, c] _ ⟨_, _, rfl, fun _ => ⟨_, rfl, by simp, three_cells (by simp [go_sem]) (by simp [go_sem]) (by simp [go_sem])⟩⟩ (by decide) (by unfold maxLen; decide) (by intro x hx; simp at hx; rcases hx with rfl | rfl | rfl; exact HA.out; exact HB.out; exact HC.out)).mono ?_; rintro e v ⟨rfl, rfl⟩
  rw [EM.out]
  go_wp2_with fail
  refine (same_any m a HM.out HA.out _).mono ?_; rintro e v ⟨rfl, rfl⟩
  rw [J.out.1]
  go_wp2_with fail; refine (same_any m b HM.out HB.out _).mono ?_; rintro e v ⟨rfl, rfl⟩; rw [J.out.2.1]
  go_wp2_with fail
  refine (less_any a m HA.out HM.out _).mono ?_; rintro e v ⟨rfl, rfl⟩
  rw [LA.out.1]
  go_wp2_with fail
  refine (less_any b m HB.out HM.out _).mono ?_; rintro e v ⟨rfl, rfl⟩
  rw [LA.out.2.1]
  go_wp2_with fail
  refine (less_any c m HC.out HM.out _).mono ?_; rintro e v ⟨rfl, rfl⟩
  rw [LA.out.2.2]
  go_wp2
  go_ret
  exact ⟨rfl, by repeat (first | exact B1.out | refine Below.alloc ?_ (by have := B1.out.size; simp; omega) _ | refine Below.alloc ?_ (by have := B1.out.size; omega) _)⟩
set_option maxHeartbeats 4000000 in
set_option maxRecDepth 100000 in
theorem rord_x0_c (a b c m : Nat) (w : World) (ha : a < 18446744073709551616) (hb : b < 18446744073709551616) (hc : c < 18446744073709551616) (hm : m < 18446744073709551616) (em : Fl.mn [a, b, c] = m) (la : Fl.lessB a m = false ∧ Fl.lessB b m = false ∧ Fl.lessB c m = false) (hx : Fl.lessB a b = true) (hy : Fl.lessB b a = false) (hz : Fl.sameB a b = false) (h1 : Fl.lessB b c = false) (h2 : True) (ja : Fl.sameB m a = false) (jb : Fl.sameB m b = false) (jc : Fl.sameB m c = true) :
    Calls Try.prog 4 #[.float .f64 a, .float .f64 b, .float .f64 c] w fun e w' => e = .returned (.bool true) ∧ Below w.heap.size w w' := by
  have HA := Lib.hid ha; have HB := Lib.hid hb; have HC := Lib.hid hc; have HM := Lib.hid hm
  have EM := Lib.hid em
  have LA := Lib.hid la
  have H := Lib.hid (And.intro hx (And.intro hy (And.intro hz (And.intro h1 h2))))
  have J := Lib.hid (And.intro ja (And.intro jb jc))
  obtain ⟨lac, hlac⟩ : ∃ q, Fl.lessB a c = q := ⟨_, rfl⟩
  have HLAC := Lib.hid hlac
  clear ha hb hc hm em la hx hy hz h1 h2 ja jb jc hlac
  go_enter Try.func4, Try.ntmps4
  go_wp2_with fail
  refine (lives2 _).mono ?_; rintro e w1 ⟨rfl, b1⟩
  have B1 := Lib.hid b1
  clear b1
  go_wp2_with fail
  refine (less_any a b HA.out HB.out _).mono ?_; rintro e v ⟨rfl, rfl⟩
  rw [H.out.1]
  go_wp2_with fail
  refine (less_any b a HB.out HA.out _).mono ?_; rintro e v ⟨rfl, rfl⟩
  rw [H.out.2.1]
  go_wp2_with fail
  refine (same_any a b HA.out HB.out _).mono ?_; rintro e v ⟨rfl, rfl⟩
  rw [H.out.2.2.1]
  go_wp2_with fail; refine (less_any b c HB.out HC.out _).mono ?_; rintro e v ⟨rfl, rfl⟩; rw [H.out.2.2.2.1]
  go_wp2_with fail
  refine (least_any _ 3 3 [a, b, c] _ ⟨_, _, rfl, fun _ => ⟨_, rfl, by simp, three_cells (by simp [go_sem]) (by simp [go_sem]) (by simp [go_sem])⟩⟩ (by decide) (by unfold maxLen; decide) (by intro x hx; simp at hx; rcases hx with rfl | rfl | rfl; exact HA.out; exact HB.out; exact HC.out)).mono ?_; rintro e v ⟨rfl, rfl⟩
  rw [EM.out]
  go_wp2_with fail
  refine (same_any m a HM.out HA.out _).mono ?_; rintro e v ⟨rfl, rfl⟩
  rw [J.out.1]
  go_wp2_with fail; refine (same_any m b HM.out HB.out _).mono ?_; rintro e v ⟨rfl, rfl⟩; rw [J.out.2.1]; go_wp2_with fail; refine (same_any m c HM.out HC.out _).mono ?_; rintro e v ⟨rfl, rfl⟩; rw [J.out.2.2]
  go_wp2_with fail
  refine (less_any a m HA.out HM.out _).mono ?_; rintro e v ⟨rfl, rfl⟩
  rw [LA.out.1]
  go_wp2_with fail
  refine (less_any b m HB.out HM.out _).mono ?_; rintro e v ⟨rfl, rfl⟩
  rw [LA.out.2.1]
  go_wp2_with fail
  refine (less_any c m HC.out HM.out _).mono ?_; rintro e v ⟨rfl, rfl⟩
  rw [LA.out.2.2]
  go_wp2
  go_ret
  exact ⟨rfl, by repeat (first | exact B1.out | refine Below.alloc ?_ (by have := B1.out.size; simp; omega) _ | refine Below.alloc ?_ (by have := B1.out.size; omega) _)⟩
set_option maxHeartbeats 4000000 in
set_option maxRecDepth 100000 in
theorem rord_y_a (a b c m : Nat) (w : World) (ha : a < 18446744073709551616) (hb : b < 18446744073709551616) (hc : c < 18446744073709551616) (hm : m < 18446744073709551616) (em : Fl.mn [a, b, c] = m) (la : Fl.lessB a m = false ∧ Fl.lessB b m = false ∧ Fl.lessB c m = false) (hx : Fl.lessB a b = false) (hy : Fl.lessB b a = true) (hz : Fl.sameB a b = false) (h1 : True) (h2 : True) (ja : Fl.sameB m a = true) (jb : True) (jc : True) :
    Calls Try.prog 4 #[.float .f64 a, .float .f64 b, .float .f64 c] w fun e w' => e = .returned (.bool true) ∧ Below w.heap.size w w' := by
  have HA := Lib.hid ha; have HB := Lib.hid hb; have HC := Lib.hid hc; have HM := Lib.hid hm
  have EM := Lib.hid em
  have LA := Lib.hid la
  have H := Lib.hid (And.intro hx (And.intro hy (And.intro hz (And.intro h1 h2))))
  have J := Lib.hid (And.intro ja (And.intro jb jc))
  obtain ⟨lac, hlac⟩ : ∃ q, Fl.lessB a c = q := ⟨_, rfl⟩
  have HLAC := Lib.hid hlac
  clear ha hb hc hm em la hx hy hz h1 h2 ja jb jc hlac
  go_enter Try.func4, Try.ntmps4
  go_wp2_with fail
  refine (lives2 _).mono ?_; rintro e w1 ⟨rfl, b1⟩
  have B1 := Lib.hid b1
  clear b1
  go_wp2_with fail
  refine (less_any a b HA.out HB.out _).mono ?_; rintro e v ⟨rfl, rfl⟩
  rw [H.out.1]
  go_wp2_with fail
  refine (less_any b a HB.out HA.out _).mono ?_; rintro e v ⟨rfl, rfl⟩
  rw [H.out.2.1]
  go_wp2_with fail
  refine (same_any a b HA.out HB.out _).mono ?_; rintro e v ⟨rfl, rfl⟩
  rw [H.out.2.2.1]
  skip
  go_wp2_with fail
  refine (least_any _ 3 3 [a, b, c] _ ⟨_, _, rfl, fun _ => ⟨_, rfl, by simp, three_cells (by simp [go_sem]) (by simp [go_sem]) (by simp [go_sem])⟩⟩ (by decide) (by unfold maxLen; decide) (by intro x hx; simp at hx; rcases hx with rfl | rfl | rfl; exact HA.out; exact HB.out; exact HC.out)).mono ?_; rintro e v ⟨rfl, rfl⟩
  rw [EM.out]
  go_wp2_with fail
  refine (same_any m a HM.out HA.out _).mono ?_; rintro e v ⟨rfl, rfl⟩
  rw [J.out.1]
  skip
  go_wp2_with fail
  refine (less_any a m HA.out HM.out _).mono ?_; rintro e v ⟨rfl, rfl⟩
  rw [LA.out.1]
  go_wp2_with fail
  refine (less_any b m HB.out HM.out _).mono ?_; rintro e v ⟨rfl, rfl⟩
  rw [LA.out.2.1]
  go_wp2_with fail
  refine (less_any c m HC.out HM.out _).mono ?_; rintro e v ⟨rfl, rfl⟩
  rw [LA.out.2.2]
  go_wp2
  go_ret
  exact ⟨rfl, by repeat (first | exact B1.out | refine Below.alloc ?_ (by have := B1.out.size; simp; omega) _ | refine Below.alloc ?_ (by have := B1.out.size; omega) _)⟩
set_option maxHeartbeats 4000000 in
set_option maxRecDepth 100000 in
theorem rord_y_b (a b c m : Nat) (w : World) (ha : a < 18446744073709551616) (hb : b < 18446744073709551616) (hc : c < 18446744073709551616) (hm : m < 18446744073709551616) (em : Fl.mn [a, b, c] = m) (la : Fl.lessB a m = false ∧ Fl.lessB b m = false ∧ Fl.lessB c m = false) (hx : Fl.lessB a b = false) (hy : Fl.lessB b a = true) (hz : Fl.sameB a b = false) (h1 : True) (h2 : True) (ja : Fl.sameB m a = false) (jb : Fl.sameB m b = true) (jc : True) :
    Calls Try.prog 4 #[.float .f64 a, .float .f64 b, .float .f64 c] w fun e w' => e = .returned (.bool true) ∧ Below w.heap.size w w' := by
  have HA := Lib.hid ha; have HB := Lib.hid hb; have HC := Lib.hid hc; have HM := Lib.hid hm
  have EM := Lib.hid em
  have LA := Lib.hid la
  have H := Lib.hid (And.intro hx (And.intro hy (And.intro hz (And.intro h1 h2))))
  have J := Lib.hid (And.intro ja (And.intro jb jc))
  obtain ⟨lac, hlac⟩ : ∃ q, Fl.lessB a c = q := ⟨_, rfl⟩
  have HLAC := Lib.hid hlac
  clear ha hb hc hm em la hx hy hz h1 h2 ja jb jc hlac
  go_enter Try.func4, Try.ntmps4
  go_wp2_with fail
  refine (lives2 _).mono ?_; rintro e w1 ⟨rfl, b1⟩
  have B1 := Lib.hid b1
  clear b1
  go_wp2_with fail
  refine (less_any a b HA.out HB.out _).mono ?_; rintro e v ⟨rfl, rfl⟩
  rw [H.out.1]
  go_wp2_with fail
  refine (less_any b a HB.out HA.out _).mono ?_; rintro e v ⟨rfl, rfl⟩
  rw [H.out.2.1]
  go_wp2_with fail
  refine (same_any a b HA.out HB.out _).mono ?_; rintro e v ⟨rfl, rfl⟩
  rw [H.out.2.2.1]
  skip
  go_wp2_with fail
  refine (least_any _ 3 3 [a, b, c] _ ⟨_, _, rfl, fun _ => ⟨_, rfl, by simp, three_cells (by simp [go_sem]) (by simp [go_sem]) (by simp [go_sem])⟩⟩ (by decide) (by unfold maxLen; decide) (by intro x hx; simp at hx; rcases hx with rfl | rfl | rfl; exact HA.out; exact HB.out; exact HC.out)).mono ?_; rintro e v ⟨rfl, rfl⟩
  rw [EM.out]
  go_wp2_with fail
  refine (same_any m a HM.out HA.out _).mono ?_; rintro e v ⟨rfl, rfl⟩
  rw [J.out.1]
  go_wp2_with fail; refine (same_any m b HM.out HB.out _).mono ?_; rintro e v ⟨rfl, rfl⟩; rw [J.out.2.1]
  go_wp2_with fail
  refine (less_any a m HA.out HM.out _).mono ?_; rintro e v ⟨rfl, rfl⟩
  rw [LA.out.1]
  go_wp2_with fail
  refine (less_any b m HB.out HM.out _).mono ?_; rintro e v ⟨rfl, rfl⟩
  rw [LA.out.2.1]
  go_wp2_with fail
  refine (less_any c m HC.out HM.out _).mono ?_; rintro e v ⟨rfl, rfl⟩
  rw [LA.out.2.2]
  go_wp2
  go_ret
  exact ⟨rfl, by repeat (first | exact B1.out | refine Below.alloc ?_ (by have := B1.out.size; simp; omega) _ | refine Below.alloc ?_ (by have := B1.out.size; omega) _)⟩
set_option maxHeartbeats 4000000 in
set_option maxRecDepth 100000 in
theorem rord_y_c (a b c m : Nat) (w : World) (ha : a < 18446744073709551616) (hb : b < 18446744073709551616) (hc : c < 18446744073709551616) (hm : m < 18446744073709551616) (em : Fl.mn [a, b, c] = m) (la : Fl.lessB a m = false ∧ Fl.lessB b m = false ∧ Fl.lessB c m = false) (hx : Fl.lessB a b = false) (hy : Fl.lessB b a = true) (hz : Fl.sameB a b = false) (h1 : True) (h2 : True) (ja : Fl.sameB m a = false) (jb : Fl.sameB m b = false) (jc : Fl.sameB m c = true) :
    Calls Try.prog 4 #[.float .f64 a, .float .f64 b, .float .f64 c] w fun e w' => e = .returned (.bool true) ∧ Below w.heap.size w w' := by
  have HA := Lib.hid ha; have HB := Lib.hid hb; have HC := Lib.hid hc; have HM := Lib.hid hm
  have EM := Lib.hid em
  have LA := Lib.hid la
  have H := Lib.hid (And.intro hx (And.intro hy (And.intro hz (And.intro h1 h2))))
  have J := Lib.hid (And.intro ja (And.intro jb jc))
  obtain ⟨lac, hlac⟩ : ∃ q, Fl.lessB a c = q := ⟨_, rfl⟩
  have HLAC := Lib.hid hlac
  clear ha hb hc hm em la hx hy hz h1 h2 ja jb jc hlac
  go_enter Try.func4, Try.ntmps4
  go_wp2_with fail
  refine (lives2 _).mono ?_; rintro e w1 ⟨rfl, b1⟩
  have B1 := Lib.hid b1
  clear b1
  go_wp2_with fail
  refine (less_any a b HA.out HB.out _).mono ?_; rintro e v ⟨rfl, rfl⟩
  rw [H.out.1]
  go_wp2_with fail
  refine (less_any b a HB.out HA.out _).mono ?_; rintro e v ⟨rfl, rfl⟩
  rw [H.out.2.1]
  go_wp2_with fail
  refine (same_any a b HA.out HB.out _).mono ?_; rintro e v ⟨rfl, rfl⟩
  rw [H.out.2.2.1]
  skip
  go_wp2_with fail
  refine (least_any _ 3 3 [a, b, c] _ ⟨_, _, rfl, fun _ => ⟨_, rfl, by simp, three_cells (by simp [go_sem]) (by simp [go_sem]) (by simp [go_sem])⟩⟩ (by decide) (by unfold maxLen; decide) (by intro x hx; simp at hx; rcases hx with rfl | rfl | rfl; exact HA.out; exact HB.out; exact HC.out)).mono ?_; rintro e v ⟨rfl, rfl⟩
  rw [EM.out]
  go_wp2_with fail
  refine (same_any m a HM.out HA.out _).mono ?_; rintro e v ⟨rfl, rfl⟩
  rw [J.out.1]
  go_wp2_with fail; refine (same_any m b HM.out HB.out _).mono ?_; rintro e v ⟨rfl, rfl⟩; rw [J.out.2.1]; go_wp2_with fail; refine (same_any m c HM.out HC.out _).mono ?_; rintro e v ⟨rfl, rfl⟩; rw [J.out.2.2]
  go_wp2_with fail
  refine (less_any a m HA.out HM.out _).mono ?_; rintro e v ⟨rfl, rfl⟩
  rw [LA.out.1]
  go_wp2_with fail
  refine (less_any b m HB.out HM.out _).mono ?_; rintro e v ⟨rfl, rfl⟩
  rw [LA.out.2.1]
  go_wp2_with fail
  refine (less_any c m HC.out HM.out _).mono ?_; rintro e v ⟨rfl, rfl⟩
  rw [LA.out.2.2]
  go_wp2
  go_ret
  exact ⟨rfl, by repeat (first | exact B1.out | refine Below.alloc ?_ (by have := B1.out.size; simp; omega) _ | refine Below.alloc ?_ (by have := B1.out.size; omega) _)⟩
set_option maxHeartbeats 4000000 in
set_option maxRecDepth 100000 in
theorem rord_z_a (a b c m : Nat) (w : World) (ha : a < 18446744073709551616) (hb : b < 18446744073709551616) (hc : c < 18446744073709551616) (hm : m < 18446744073709551616) (em : Fl.mn [a, b, c] = m) (la : Fl.lessB a m = false ∧ Fl.lessB b m = false ∧ Fl.lessB c m = false) (hx : Fl.lessB a b = false) (hy : Fl.lessB b a = false) (hz : Fl.sameB a b = true) (h1 : Fl.lessB b c = Fl.lessB a c) (h2 : True) (ja : Fl.sameB m a = true) (jb : True) (jc : True) :
    Calls Try.prog 4 #[.float .f64 a, .float .f64 b, .float .f64 c] w fun e w' => e = .returned (.bool true) ∧ Below w.heap.size w w' := by
  have HA := Lib.hid ha; have HB := Lib.hid hb; have HC := Lib.hid hc; have HM := Lib.hid hm
  have EM := Lib.hid em
  have LA := Lib.hid la
  have H := Lib.hid (And.intro hx (And.intro hy (And.intro hz (And.intro h1 h2))))
  have J := Lib.hid (And.intro ja (And.intro jb jc))
  obtain ⟨lac, hlac⟩ : ∃ q, Fl.lessB a c = q := ⟨_, rfl⟩
  have HLAC := Lib.hid hlac
  clear ha hb hc hm em la hx hy hz h1 h2 ja jb jc hlac
  go_enter Try.func4, Try.ntmps4
  go_wp2_with fail
  refine (lives2 _).mono ?_; rintro e w1 ⟨rfl, b1⟩
  have B1 := Lib.hid b1
  clear b1
  go_wp2_with fail
  refine (less_any a b HA.out HB.out _).mono ?_; rintro e v ⟨rfl, rfl⟩
  rw [H.out.1]
  go_wp2_with fail
  refine (less_any b a HB.out HA.out _).mono ?_; rintro e v ⟨rfl, rfl⟩
  rw [H.out.2.1]
  go_wp2_with fail
  refine (same_any a b HA.out HB.out _).mono ?_; rintro e v ⟨rfl, rfl⟩
  rw [H.out.2.2.1]
  go_wp2_with fail; refine (less_any b c HB.out HC.out _).mono ?_; rintro e v ⟨rfl, rfl⟩; rw [H.out.2.2.2.1, HLAC.out]; go_wp2_with fail; refine (less_any a c HA.out HC.out _).mono ?_; rintro e v ⟨rfl, rfl⟩; rw [HLAC.out]
  go_wp2_with fail
  refine (least_any _ 3 3 [a, b, c] _ ⟨_, _, rfl, fun _ => ⟨_, rfl, by simp, three_cells (by simp [go_sem]) (by simp [go_sem]) (by simp [go_sem])⟩⟩ (by decide) (by unfold maxLen; decide) (by intro x hx; simp at hx; rcases hx with rfl | rfl | rfl; exact HA.out; exact HB.out; exact HC.out)).mono ?_; rintro e v ⟨rfl, rfl⟩
  rw [EM.out]
  go_wp2_with fail
  refine (same_any m a HM.out HA.out _).mono ?_; rintro e v ⟨rfl, rfl⟩
  rw [J.out.1]
  skip
  go_wp2_with fail
  refine (less_any a m HA.out HM.out _).mono ?_; rintro e v ⟨rfl, rfl⟩
  rw [LA.out.1]
  go_wp2_with fail
  refine (less_any b m HB.out HM.out _).mono ?_; rintro e v ⟨rfl, rfl⟩
  rw [LA.out.2.1]
  go_wp2_with fail
  refine (less_any c m HC.out HM.out _).mono ?_; rintro e v ⟨rfl, rfl⟩
  rw [LA.out.2.2]
  go_wp2
  go_ret
  exact ⟨rfl, by repeat (first | exact B1.out | refine Below.alloc ?_ (by have := B1.out.size; simp; omega) _ | refine Below.alloc ?_ (by have := B1.out.size; omega) _)⟩
set_option maxHeartbeats 4000000 in
set_option maxRecDepth 100000 in
theorem rord_z_b (a b c m : Nat) (w : World) (ha : a < 18446744073709551616) (hb : b < 18446744073709551616) (hc : c < 18446744073709551616) (hm : m < 18446744073709551616) (em : Fl.mn [a, b, c] = m) (la : Fl.lessB a m = false ∧ Fl.lessB b m = false ∧ Fl.lessB c m = false) (hx : Fl.lessB a b = false) (hy : Fl.lessB b a = false) (hz : Fl.sameB a b = true) (h1 : Fl.lessB b c = Fl.lessB a c) (h2 : True) (ja : Fl.sameB m a = false) (jb : Fl.sameB m b = true) (jc : True) :
    Calls Try.prog 4 #[.float .f64 a, .float .f64 b, .float .f64 c] w fun e w' => e = .returned (.bool true) ∧ Below w.heap.size w w' := by
  have HA := Lib.hid ha; have HB := Lib.hid hb; have HC := Lib.hid hc; have HM := Lib.hid hm
  have EM := Lib.hid em
  have LA := Lib.hid la
  have H := Lib.hid (And.intro hx (And.intro hy (And.intro hz (And.intro h1 h2))))
  have J := Lib.hid (And.intro ja (And.intro jb jc))
  obtain ⟨lac, hlac⟩ : ∃ q, Fl.lessB a c = q := ⟨_, rfl⟩
  have HLAC := Lib.hid hlac
  clear ha hb hc hm em la hx hy hz h1 h2 ja jb jc hlac
  go_enter Try.func4, Try.ntmps4
  go_wp2_with fail
  refine (lives2 _).mono ?_; rintro e w1 ⟨rfl, b1⟩
  have B1 := Lib.hid b1
  clear b1
  go_wp2_with fail
  refine (less_any a b HA.out HB.out _).mono ?_; rintro e v ⟨rfl, rfl⟩
  rw [H.out.1]
  go_wp2_with fail
  refine (less_any b a HB.out HA.out _).mono ?_; rintro e v ⟨rfl, rfl⟩
  rw [H.out.2.1]
  go_wp2_with fail
  refine (same_any a b HA.out HB.out _).mono ?_; rintro e v ⟨rfl, rfl⟩
  rw [H.out.2.2.1]
  go_wp2_with fail; refine (less_any b c HB.out HC.out _).mono ?_; rintro e v ⟨rfl, rfl⟩; rw [H.out.2.2.2.1, HLAC.out]; go_wp2_with fail; refine (less_any a c HA.out HC.out _).mono ?_; rintro e v ⟨rfl, rfl⟩; rw [HLAC.out]
  go_wp2_with fail
  refine (least_any _ 3 3 [a, b, c] _ ⟨_, _, rfl, fun _ => ⟨_, rfl, by simp, three_cells (by simp [go_sem]) (by simp [go_sem]) (by simp [go_sem])⟩⟩ (by decide) (by unfold maxLen; decide) (by intro x hx; simp at hx; rcases hx with rfl | rfl | rfl; exact HA.out; exact HB.out; exact HC.out)).mono ?_; rintro e v ⟨rfl, rfl⟩
  rw [EM.out]
  go_wp2_with fail
  refine (same_any m a HM.out HA.out _).mono ?_; rintro e v ⟨rfl, rfl⟩
  rw [J.out.1]
  go_wp2_with fail; refine (same_any m b HM.out HB.out _).mono ?_; rintro e v ⟨rfl, rfl⟩; rw [J.out.2.1]
  go_wp2_with fail
  refine (less_any a m HA.out HM.out _).mono ?_; rintro e v ⟨rfl, rfl⟩
  rw [LA.out.1]
  go_wp2_with fail
  refine (less_any b m HB.out HM.out _).mono ?_; rintro e v ⟨rfl, rfl⟩
  rw [LA.out.2.1]
  go_wp2_with fail
  refine (less_any c m HC.out HM.out _).mono ?_; rintro e v ⟨rfl, rfl⟩
  rw [LA.out.2.2]
  go_wp2
  go_ret
  exact ⟨rfl, by repeat (first | exact B1.out | refine Below.alloc ?_ (by have := B1.out.size; simp; omega) _ | refine Below.alloc ?_ (by have := B1.out.size; omega) _)⟩
set_option maxHeartbeats 4000000 in
set_option maxRecDepth 100000 in
theorem rord_z_c (a b c m : Nat) (w : World) (ha : a < 18446744073709551616) (hb : b < 18446744073709551616) (hc : c < 18446744073709551616) (hm : m < 18446744073709551616) (em : Fl.mn [a, b, c] = m) (la : Fl.lessB a m = false ∧ Fl.lessB b m = false ∧ Fl.lessB c m = false) (hx : Fl.lessB a b = false) (hy : Fl.lessB b a = false) (hz : Fl.sameB a b = true) (h1 : Fl.lessB b c = Fl.lessB a c) (h2 : True) (ja : Fl.sameB m a = false) (jb : Fl.sameB m b = false) (jc : Fl.sameB m c = true) :
    Calls Try.prog 4 #[.float .f64 a, .float .f64 b, .float .f64 c] w fun e w' => e = .returned (.bool true) ∧ Below w.heap.size w w' := by
  have HA := Lib.hid ha; have HB := Lib.hid hb; have HC := Lib.hid hc; have HM := Lib.hid hm
  have EM := Lib.hid em
  have LA := Lib.hid la
  have H := Lib.hid (And.intro hx (And.intro hy (And.intro hz (And.intro h1 h2))))
  have J := Lib.hid (And.intro ja (And.intro jb jc))
  obtain ⟨lac, hlac⟩ : ∃ q, Fl.lessB a c = q := ⟨_, rfl⟩
  have HLAC := Lib.hid hlac
  clear ha hb hc hm em la hx hy hz h1 h2 ja jb jc hlac
  go_enter Try.func4, Try.ntmps4
  go_wp2_with fail
  refine (lives2 _).mono ?_; rintro e w1 ⟨rfl, b1⟩
  have B1 := Lib.hid b1
  clear b1
  go_wp2_with fail
  refine (less_any a b HA.out HB.out _).mono ?_; rintro e v ⟨rfl, rfl⟩
  rw [H.out.1]
  go_wp2_with fail
  refine (less_any b a HB.out HA.out _).mono ?_; rintro e v ⟨rfl, rfl⟩
  rw [H.out.2.1]
  go_wp2_with fail
  refine (same_any a b HA.out HB.out _).mono ?_; rintro e v ⟨rfl, rfl⟩
  rw [H.out.2.2.1]
  go_wp2_with fail; refine (less_any b c HB.out HC.out _).mono ?_; rintro e v ⟨rfl, rfl⟩; rw [H.out.2.2.2.1, HLAC.out]; go_wp2_with fail; refine (less_any a c HA.out HC.out _).mono ?_; rintro e v ⟨rfl, rfl⟩; rw [HLAC.out]
  go_wp2_with fail
  refine (least_any _ 3 3 [a, b, c] _ ⟨_, _, rfl, fun _ => ⟨_, rfl, by simp, three_cells (by simp [go_sem]) (by simp [go_sem]) (by simp [go_sem])⟩⟩ (by decide) (by unfold maxLen; decide) (by intro x hx; simp at hx; rcases hx with rfl | rfl | rfl; exact HA.out; exact HB.out; exact HC.out)).mono ?_; rintro e v ⟨rfl, rfl⟩
  rw [EM.out]
  go_wp2_with fail
  refine (same_any m a HM.out HA.out _).mono ?_; rintro e v ⟨rfl, rfl⟩
  rw [J.out.1]
  go_wp2_with fail; refine (same_any m b HM.out HB.out _).mono ?_; rintro e v ⟨rfl, rfl⟩; rw [J.out.2.1]; go_wp2_with fail; refine (same_any m c HM.out HC.out _).mono ?_; rintro e v ⟨rfl, rfl⟩; rw [J.out.2.2]
  go_wp2_with fail
  refine (less_any a m HA.out HM.out _).mono ?_; rintro e v ⟨rfl, rfl⟩
  rw [LA.out.1]
  go_wp2_with fail
  refine (less_any b m HB.out HM.out _).mono ?_; rintro e v ⟨rfl, rfl⟩
  rw [LA.out.2.1]
  go_wp2_with fail
  refine (less_any c m HC.out HM.out _).mono ?_; rintro e v ⟨rfl, rfl⟩
  rw [LA.out.2.2]
  go_wp2
  go_ret
  exact ⟨rfl, by repeat (first | exact B1.out | refine Below.alloc ?_ (by have := B1.out.size; simp; omega) _ | refine Below.alloc ?_ (by have := B1.out.size; omega) _)⟩
theorem rord_walk (a b c : Nat) (w : World) (ha : a < 18446744073709551616) (hb : b < 18446744073709551616) (hc : c < 18446744073709551616) :
    Calls Try.prog 4 #[.float .f64 a, .float .f64 b, .float .f64 c] w fun e w' => e = .returned (.bool true) ∧ Below w.heap.size w w' := by
  obtain ⟨hmem, hmin⟩ := Fl.mn_mem [a, b, c] (by simp)
  generalize em : Fl.mn [a, b, c] = m at *
  have l1 := hmin a (by simp)
  have l2 := hmin b (by simp)
  have l3 := hmin c (by simp)
  have hm : m < 18446744073709551616 := by
    simp at hmem
    rcases hmem with rfl | rfl | rfl <;> assumption
  have la : Fl.lessB a m = false ∧ Fl.lessB b m = false ∧ Fl.lessB c m = false := ⟨decide_eq_false (by omega), decide_eq_false (by omega), decide_eq_false (by omega)⟩
  have hj : Fl.sameB m a = true ∨ (Fl.sameB m a = false ∧ Fl.sameB m b = true) ∨ (Fl.sameB m a = false ∧ Fl.sameB m b = false ∧ Fl.sameB m c = true) := by
    have hs : Fl.sameB m a = true ∨ Fl.sameB m b = true ∨ Fl.sameB m c = true := by
      simp at hmem
      unfold Fl.sameB
      rcases hmem with rfl | rfl | rfl
      · left; simp
      · right; left; simp
      · right; right; simp
    cases h1 : Fl.sameB m a
    · cases h2 : Fl.sameB m b
      · rw [h1, h2] at hs; simp at hs; exact .inr (.inr ⟨rfl, rfl, hs⟩)
      · exact .inr (.inl ⟨rfl, rfl⟩)
    · exact .inl rfl
  have lt : ∀ {x y : Nat}, Fl.rk x < Fl.rk y → Fl.lessB x y = true := fun h => decide_eq_true h
  have nlt : ∀ {x y : Nat}, ¬ Fl.rk x < Fl.rk y → Fl.lessB x y = false := fun h => decide_eq_false h
  have eqt : ∀ {x y : Nat}, Fl.rk x = Fl.rk y → Fl.sameB x y = true := fun h => by unfold Fl.sameB; rw [h]; simp
  have neq : ∀ {x y : Nat}, ¬ Fl.rk x = Fl.rk y → Fl.sameB x y = false := fun h => by unfold Fl.sameB; rw [beq_eq_false_iff_ne]; exact h
  rcases Nat.lt_trichotomy (Fl.rk a) (Fl.rk b) with h | h | h
  · by_cases h1 : Fl.rk b < Fl.rk c
    · rcases hj with ja | ⟨ja, jb⟩ | ⟨ja, jb, jc⟩
      · exact rord_x1_a a b c m w ha hb hc hm em la (lt h) (nlt (by omega)) (neq (by omega)) (lt h1) (lt (by omega)) ja trivial trivial
      · exact rord_x1_b a b c m w ha hb hc hm em la (lt h) (nlt (by omega)) (neq (by omega)) (lt h1) (lt (by omega)) ja jb trivial
      · exact rord_x1_c a b c m w ha hb hc hm em la (lt h) (nlt (by omega)) (neq (by omega)) (lt h1) (lt (by omega)) ja jb jc
    · rcases hj with ja | ⟨ja, jb⟩ | ⟨ja, jb, jc⟩
      · exact rord_x0_a a b c m w ha hb hc hm em la (lt h) (nlt (by omega)) (neq (by omega)) (nlt h1) trivial ja trivial trivial
      · exact rord_x0_b a b c m w ha hb hc hm em la (lt h) (nlt (by omega)) (neq (by omega)) (nlt h1) trivial ja jb trivial
      · exact rord_x0_c a b c m w ha hb hc hm em la (lt h) (nlt (by omega)) (neq (by omega)) (nlt h1) trivial ja jb jc
  · have h1 : Fl.lessB b c = Fl.lessB a c := by unfold Fl.lessB; rw [h]
    rcases hj with ja | ⟨ja, jb⟩ | ⟨ja, jb, jc⟩
    · exact rord_z_a a b c m w ha hb hc hm em la (nlt (by omega)) (nlt (by omega)) (eqt h) h1 trivial ja trivial trivial
    · exact rord_z_b a b c m w ha hb hc hm em la (nlt (by omega)) (nlt (by omega)) (eqt h) h1 trivial ja jb trivial
    · exact rord_z_c a b c m w ha hb hc hm em la (nlt (by omega)) (nlt (by omega)) (eqt h) h1 trivial ja jb jc
  · rcases hj with ja | ⟨ja, jb⟩ | ⟨ja, jb, jc⟩
    · exact rord_y_a a b c m w ha hb hc hm em la (nlt (by omega)) (lt h) (neq (by omega)) trivial trivial ja trivial trivial
    · exact rord_y_b a b c m w ha hb hc hm em la (nlt (by omega)) (lt h) (neq (by omega)) trivial trivial ja jb trivial
    · exact rord_y_c a b c m w ha hb hc hm em la (nlt (by omega)) (lt h) (neq (by omega)) trivial trivial ja jb jc
end Go.Proofs.Ytpjddkcoolggaab

