/- The walk of JulianBack: whatever second, the law answers true; nothing old turns. -/
import Derived.Test.YtlehbnfocilcmaaLiv8
set_option linter.unusedVariables false
set_option linter.unusedSimpArgs false
namespace Go.Proofs.Ytlehbnfocilcmaa
open Go.RowKit

namespace Fl
/-- The second of a second's day number is the second. -/
theorem jd_back {t : Int} (h0 : -1096193779200 ≤ t) (h1 : t ≤ 971890963199) : ∃ c d, floatBits .sub .f64 (jdB t) zero = some c ∧ floatBits .mul .f64 c day = some d ∧ wv .even d = t ∧ ww .even d = 0 := by
  obtain ⟨a, b, ea, eb, fb, b1, b2⟩ := jd_steps h0 h1
  obtain ⟨a', ea', eb'⟩ := jd_some (t := t) (by omega) (by omega)
  rw [ea] at ea'
  obtain rfl := Option.some.inj ea'
  rw [eb] at eb'
  obtain rfl := Option.some.inj eb'
  obtain ⟨c, d, ec, ed, fd, d1, d2⟩ := back_steps h0 h1 fb b1 b2
  have hw := wn_near fd d1 d2
  have hn : nan d = false := nan_false.2 (Nat.le_of_lt fd)
  have e0 : ww .even d = 0 := by unfold ww; rw [hn, if_neg (by decide), if_pos ⟨fd, by omega, by omega⟩]
  exact ⟨c, d, ec, ed, by unfold wv; rw [if_pos e0, hw], e0⟩
end Fl
set_option maxHeartbeats 2000000 in
set_option maxRecDepth 100000 in
theorem jback_out (t : Int) (w : World) (h : t < -1096193779200 ∨ 971890963199 < t) :
    Calls Try.prog 7 #[.int .i64 t] w fun e w' => e = .returned (.bool true) ∧ Below w.heap.size w w' := by
  have h' : t < -1096193779200 ∨ (¬ t < -1096193779200 ∧ 971890963199 < t) := by omega
  clear h
  rcases h' with h | ⟨h, h2⟩
  all_goals
    go_enter Try.func7, Try.ntmps7
    go_wp2_with fail
    refine (lives8 _).mono ?_; rintro e w1 ⟨rfl, b1⟩
    have d1 : Below w.heap.size w w1 := below_step (by repeat (first | exact Below.refl _ _ | refine below_drewN ?_ _ | refine Below.drew ?_ | refine Below.setCell ?_ (by simp) _ | refine Below.alloc ?_ (by simp) _)) b1
    have B1 := Lib.hid d1
    clear b1 d1
    go_wp2_with fail
    go_ret
    exact ⟨rfl, below_step B1.out (by repeat (first | exact Below.refl _ _ | refine below_drewN ?_ _ | refine Below.drew ?_ | refine Below.setCell ?_ (by simp) _ | refine Below.alloc ?_ (by simp) _))⟩
set_option maxHeartbeats 2000000 in
set_option maxRecDepth 100000 in
theorem jback_in (t : Int) (w : World) (h0 : -1096193779200 ≤ t) (h1 : t ≤ 971890963199) :
    Calls Try.prog 7 #[.int .i64 t] w fun e w' => e = .returned (.bool true) ∧ Below w.heap.size w w' := by
  obtain ⟨c, d, ec, ed, ev, ew⟩ := Fl.jd_back h0 h1
  have EC := Lib.hid ec; have ED := Lib.hid ed; have EV := Lib.hid ev; have EW := Lib.hid ew
  clear ec ed ev ew
  go_enter Try.func7, Try.ntmps7
  go_wp2_with fail
  refine (lives8 _).mono ?_; rintro e w1 ⟨rfl, b1⟩
  have d1 : Below w.heap.size w w1 := below_step (by repeat (first | exact Below.refl _ _ | refine below_drewN ?_ _ | refine Below.drew ?_ | refine Below.setCell ?_ (by simp) _ | refine Below.alloc ?_ (by simp) _)) b1
  have B1 := Lib.hid d1
  clear b1 d1
  go_wp2_with fail
  refine (jul_of t (by omega) (by omega) _).mono ?_; rintro e v1 ⟨rfl, rfl⟩
  go_wp2_with fail
  refine (jul_secs (Fl.jdB t) 4 (by decide) (by decide) _).mono ?_; rintro e w2 ⟨s, p, n, hs, hp, rfl, rfl⟩
  obtain rfl := hs.eq EC.out
  obtain rfl := hp.eq ED.out
  clear hs hp
  rw [show Fl.wayOf 4 = .even from rfl, EV.out, EW.out]
  go_wp2_with fail
  go_ret
  exact ⟨rfl, below_step B1.out (by repeat (first | exact Below.refl _ _ | refine below_drewN ?_ _ | refine Below.drew ?_ | refine Below.setCell ?_ (by simp) _ | refine Below.alloc ?_ (by simp) _))⟩
theorem jback_walk (t : Int) (w : World) :
    Calls Try.prog 7 #[.int .i64 t] w fun e w' => e = .returned (.bool true) ∧ Below w.heap.size w w' := by
  by_cases h : t < -1096193779200 ∨ 971890963199 < t
  · exact jback_out t w h
  · exact jback_in t w (by omega) (by omega)
end Go.Proofs.Ytlehbnfocilcmaa

