/- The contracts of dayrule's functions: Fits, behind. -/
import Derived.Test.YtjnhaabbnbcaeaaDrAo
import Derived.Test.YtjnhaabbnbcaeaaCivA
import Derived.Test.YtjnhaabbnbcaeaaDrM
import Derived.Test.YtjnhaabbnbcaeaaOne
set_option linter.unusedVariables false
set_option linter.unusedSimpArgs false
namespace Go.Proofs.Ytjnhaabbnbcaeaa
open Go.RowKit

theorem fits_br {k wk d m : Int} {b : Bool} (h : (Dr.onF k wk d m = true) ↔ b = true) : Ending.returned (.bool b) = .returned (.bool (Dr.onF k wk d m)) := by
  congr 2; rw [Bool.eq_iff_iff, h]

set_option maxHeartbeats 1000000 in
theorem ofits_any (k wk d m : Int) (w : World) :
    Calls Try.prog 20 #[.agg #[.int .i64 k, .int .i64 wk, .int .i64 d], .int .i64 m] w fun e w' => e = .returned (.bool (Dr.onF k wk d m)) ∧ Below w.heap.size w w' := by
  have O0 := One.new (t := 23) (v0 := .int .i64 k) (v1 := .int .i64 wk) (v2 := .int .i64 d) (Below.refl w.heap.size w)
  have hlen : 0 < Cal.len 2001 m ↔ 1 ≤ m ∧ m ≤ 12 := by
    constructor
    · intro h
      unfold Cal.len at h; omega
    · intro h; have := (Dr.len_2001 2001 m h.1 h.2).2.2.1; omega
  have HL := Lib.hid hlen; clear hlen
  cases hr : Dr.onR k wk d
  · go_enter Try.func20, Try.ntmps20
    go_wp2_with fail
    refine (len_any _ _ _).mono ?_; rintro e w1 ⟨rfl, rfl⟩
    go_wp2_with fail
    refine (oright_any _ _ _ _).mono ?_; rintro e w1 ⟨rfl, b1⟩
    rw [hr]
    go_wp2_with fail
    go_ret
    refine ⟨?_, below_step O0.bel b1⟩
    exact fits_br (by rw [Dr.onF_true]; simp [hr])
  · go_enter Try.func20, Try.ntmps20
    go_wp2_with fail
    refine (len_any _ _ _).mono ?_; rintro e w1 ⟨rfl, rfl⟩
    go_wp2_with fail
    refine (oright_any _ _ _ _).mono ?_; rintro e w1 ⟨rfl, b1⟩
    rw [hr]
    have O1 := O0.keep b1
    have k2 := O1.k2
    by_cases hp : 0 < Cal.len 2001 m
    · go_wp2_with fail
      go_ret
      refine ⟨?_, O1.bel⟩
      exact fits_br (by rw [Dr.onF_true]; have := HL.out.1 hp; simp [hr]; omega)
    · have hp' : decide (0 < Cal.len 2001 m) = false := by simpa using hp
      go_wp2_with fail
      go_ret
      refine ⟨?_, O1.bel⟩
      exact fits_br (by rw [Dr.onF_true]; have := mt HL.out.2 (by omega); simp [hr]; omega)

end Go.Proofs.Ytjnhaabbnbcaeaa
