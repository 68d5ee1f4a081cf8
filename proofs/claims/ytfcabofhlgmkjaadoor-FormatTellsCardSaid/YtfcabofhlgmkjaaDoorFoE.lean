/- The answers that noontidelaw20.lives asks for: it is true. -/
import Derived.Test.YtfcabofhlgmkjaaDoorFoD
set_option linter.unusedVariables false
set_option linter.unusedSimpArgs false
namespace Go.Proofs.YtfcabofhlgmkjaaDoor
open Go.RowKit

theorem abbr_at (s L : ByteArray) (off save : Int) (r : ByteArray) (e : Int) (m : Int) (h : Fo.ab s.data.toList off save L.data.toList = (r.data.toList, e)) (hs : s.size ≤ 100000) (hL : L.size ≤ 100000) (w : World) (hm : w.cell? ⟨1, 0, none⟩ = some (.int .i64 m)) (htab : Lib.TabIs Tryd.prog w "internal/strconv.uint64pow10" .u64 Lib.pow10Tab) :
    Calls Tryd.prog 50 #[.string s, .int .i64 off, .int .i64 save, .string L] w fun e' w' => e' = .returned (.tuple #[.string r, .int .i64 e]) ∧ Below w.heap.size w w' := by
  have := abbr_any s L off save w m hs hL hm htab
  rw [h] at this
  rw [show (⟨((r.data.toList, e) : List UInt8 × Int).1.toArray⟩ : ByteArray) = r from bz_id r] at this
  exact this
theorem letter_at (s r : ByteArray) (e : Int) (h : Fo.lt s.data.toList = (r.data.toList, e)) (hs : s.size ≤ 100000) (w : World) :
    Calls Tryd.prog 52 #[.string s] w fun e' w' => e' = .returned (.tuple #[.string r, .int .i64 e]) ∧ w = w' := by
  have := letter_any s w hs
  rw [h] at this
  rw [show (⟨((r.data.toList, e) : List UInt8 × Int).1.toArray⟩ : ByteArray) = r from bz_id r] at this
  exact this
theorem ltext_at (s r : ByteArray) (e : Int) (h : Fo.ltx s.data.toList = (r.data.toList, e)) (hs : s.size ≤ 100000) (w : World) :
    Calls Tryd.prog 54 #[.string s] w fun e' w' => e' = .returned (.tuple #[.string r, .int .i64 e]) ∧ w = w' := by
  have := lettertext_any s w hs
  rw [h] at this
  rw [show (⟨((r.data.toList, e) : List UInt8 × Int).1.toArray⟩ : ByteArray) = r from bz_id r] at this
  exact this
theorem fcheck_at (s : ByteArray) (e m : Int) (h : (Fo.kd s.data.toList).2 = e) (hs : s.size ≤ 100000) (w : World) (hm : w.cell? ⟨1, 0, none⟩ = some (.int .i64 m)) :
    Calls Tryd.prog 56 #[.string s] w fun e' w' => e' = .returned (.int .i64 e) ∧ w = w' := by
  have := fcheck_any s w m hs hm
  rw [h] at this
  exact this
set_option maxHeartbeats 4000000 in
set_option maxRecDepth 100000 in
theorem lives20 (w : World) (m : Int) (hm : w.cell? ⟨1, 0, none⟩ = some (.int .i64 m)) (htab : Lib.TabIs Tryd.prog w "internal/strconv.uint64pow10" .u64 Lib.pow10Tab) :
    Calls Tryd.prog 49 #[] w fun e w' => e = .returned (.bool true) ∧ Below w.heap.size w w' := by
  have M0 := Lib.hid hm; have T0 := Lib.hid htab; clear hm htab
  have A0 := Lib.hid (abbr_at ⟨#[69, 37, 115, 84]⟩ ⟨#[68]⟩ (-14400) (3600) ⟨#[69, 68, 84]⟩ 0 m (by decide +kernel) (by decide) (by decide))
  have A1 := Lib.hid (abbr_at ⟨#[69, 37, 115, 84]⟩ ⟨#[]⟩ (-18000) (0) ⟨#[69, 84]⟩ 0 m (by decide +kernel) (by decide) (by decide))
  have A2 := Lib.hid (abbr_at ⟨#[71, 77, 84, 47, 66, 83, 84]⟩ ⟨#[120]⟩ (0) (0) ⟨#[71, 77, 84]⟩ 0 m (by decide +kernel) (by decide) (by decide))
  have A3 := Lib.hid (abbr_at ⟨#[71, 77, 84, 47, 66, 83, 84]⟩ ⟨#[120]⟩ (3600) (-1) ⟨#[66, 83, 84]⟩ 0 m (by decide +kernel) (by decide) (by decide))
  have A4 := Lib.hid (abbr_at ⟨#[37, 122]⟩ ⟨#[]⟩ (-12600) (0) ⟨#[45, 48, 51, 51, 48]⟩ 0 m (by decide +kernel) (by decide) (by decide))
  have A5 := Lib.hid (abbr_at ⟨#[37, 122]⟩ ⟨#[]⟩ (1172) (0) ⟨#[43, 48, 48, 49, 57, 51, 50]⟩ 0 m (by decide +kernel) (by decide) (by decide))
  have A6 := Lib.hid (abbr_at ⟨#[37, 122]⟩ ⟨#[]⟩ (0) (0) ⟨#[43, 48, 48]⟩ 0 m (by decide +kernel) (by decide) (by decide))
  have A7 := Lib.hid (abbr_at ⟨#[85, 84, 67]⟩ ⟨#[]⟩ (360000) (0) ⟨#[]⟩ 1 m (by decide +kernel) (by decide) (by decide))
  have A8 := Lib.hid (abbr_at ⟨#[97, 47, 98, 47, 99]⟩ ⟨#[]⟩ (360000) (0) ⟨#[]⟩ 4 m (by decide +kernel) (by decide) (by decide))
  have L0 := Lib.hid (letter_at ⟨#[45]⟩ ⟨#[]⟩ 0 (by decide +kernel) (by decide))
  have L1 := Lib.hid (letter_at ⟨#[83, 43, 49]⟩ ⟨#[83, 43, 49]⟩ 0 (by decide +kernel) (by decide))
  have L2 := Lib.hid (letter_at ⟨#[116, 111, 111, 108, 111, 110, 103]⟩ ⟨#[]⟩ 9 (by decide +kernel) (by decide))
  have L3 := Lib.hid (letter_at ⟨#[97, 32, 98]⟩ ⟨#[]⟩ 4 (by decide +kernel) (by decide))
  have L4 := Lib.hid (letter_at ⟨#[]⟩ ⟨#[]⟩ 4 (by decide +kernel) (by decide))
  have X0 := Lib.hid (ltext_at ⟨#[]⟩ ⟨#[45]⟩ 0 (by decide +kernel) (by decide))
  have X1 := Lib.hid (ltext_at ⟨#[45]⟩ ⟨#[]⟩ 4 (by decide +kernel) (by decide))
  have X2 := Lib.hid (ltext_at ⟨#[116, 111, 111, 108, 111, 110, 103]⟩ ⟨#[]⟩ 4 (by decide +kernel) (by decide))
  have K0 := Lib.hid (fcheck_at ⟨#[85, 84, 67]⟩ 0 m (by decide +kernel) (by decide))
  have K1 := Lib.hid (fcheck_at ⟨#[37, 115]⟩ 0 m (by decide +kernel) (by decide))
  have K2 := Lib.hid (fcheck_at ⟨#[37, 122, 120]⟩ 4 m (by decide +kernel) (by decide))
  have K3 := Lib.hid (fcheck_at ⟨#[37]⟩ 4 m (by decide +kernel) (by decide))
  have K4 := Lib.hid (fcheck_at ⟨#[65, 47]⟩ 4 m (by decide +kernel) (by decide))
  have K5 := Lib.hid (fcheck_at ⟨#[37, 115, 37, 115]⟩ 4 m (by decide +kernel) (by decide))
  have K6 := Lib.hid (fcheck_at ⟨#[]⟩ 4 m (by decide +kernel) (by decide))
  have K7 := Lib.hid (fcheck_at ⟨#[49, 50, 51, 52, 53, 54, 55, 56, 57, 48, 49, 50, 51, 52, 53, 54, 55]⟩ 9 m (by decide +kernel) (by decide))
  have K8 := Lib.hid (fcheck_at ⟨#[97, 95, 98]⟩ 4 m (by decide +kernel) (by decide))
  go_enter Tryd.func49, Tryd.ntmps49
  go_wp2_with fail
  refine (A0.out _ M0.out T0.out).mono ?_; rintro e w1 ⟨rfl, b1⟩
  have B1 := Lib.hid b1; clear b1
  go_wp2_with fail
  refine (A1.out _ (cell_keep0 M0.out B1.out) (var_keep B1.out T0.out)).mono ?_; rintro e w2 ⟨rfl, b2⟩
  have B2 := Lib.hid (below_step B1.out b2); clear b2 B1
  go_wp2_with fail
  refine (A2.out _ (cell_keep0 M0.out B2.out) (var_keep B2.out T0.out)).mono ?_; rintro e w3 ⟨rfl, b3⟩
  have B3 := Lib.hid (below_step B2.out b3); clear b3 B2
  go_wp2_with fail
  refine (A3.out _ (cell_keep0 M0.out B3.out) (var_keep B3.out T0.out)).mono ?_; rintro e w4 ⟨rfl, b4⟩
  have B4 := Lib.hid (below_step B3.out b4); clear b4 B3
  go_wp2_with fail
  refine (A4.out _ (cell_keep0 M0.out B4.out) (var_keep B4.out T0.out)).mono ?_; rintro e w5 ⟨rfl, b5⟩
  have B5 := Lib.hid (below_step B4.out b5); clear b5 B4
  go_wp2_with fail
  refine (A5.out _ (cell_keep0 M0.out B5.out) (var_keep B5.out T0.out)).mono ?_; rintro e w6 ⟨rfl, b6⟩
  have B6 := Lib.hid (below_step B5.out b6); clear b6 B5
  go_wp2_with fail
  refine (A6.out _ (cell_keep0 M0.out B6.out) (var_keep B6.out T0.out)).mono ?_; rintro e w7 ⟨rfl, b7⟩
  have B7 := Lib.hid (below_step B6.out b7); clear b7 B6
  go_wp2_with fail
  refine (A7.out _ (cell_keep0 M0.out B7.out) (var_keep B7.out T0.out)).mono ?_; rintro e w8 ⟨rfl, b8⟩
  have B8 := Lib.hid (below_step B7.out b8); clear b8 B7
  go_wp2_with fail
  refine (A8.out _ (cell_keep0 M0.out B8.out) (var_keep B8.out T0.out)).mono ?_; rintro e w9 ⟨rfl, b9⟩
  have B9 := Lib.hid (below_step B8.out b9); clear b9 B8
  go_wp2_with fail
  refine (L0.out _).mono ?_; rintro e v0 ⟨rfl, rfl⟩
  go_wp2_with fail
  refine (L1.out _).mono ?_; rintro e v1 ⟨rfl, rfl⟩
  go_wp2_with fail
  refine (L2.out _).mono ?_; rintro e v2 ⟨rfl, rfl⟩
  go_wp2_with fail
  refine (L3.out _).mono ?_; rintro e v3 ⟨rfl, rfl⟩
  go_wp2_with fail
  refine (L4.out _).mono ?_; rintro e v4 ⟨rfl, rfl⟩
  go_wp2_with fail
  refine (X0.out _).mono ?_; rintro e u0 ⟨rfl, rfl⟩
  go_wp2_with fail
  refine (X1.out _).mono ?_; rintro e u1 ⟨rfl, rfl⟩
  go_wp2_with fail
  refine (X2.out _).mono ?_; rintro e u2 ⟨rfl, rfl⟩
  go_wp2_with fail
  refine (K0.out _ (cell_keep0 M0.out B9.out)).mono ?_; rintro e y0 ⟨rfl, rfl⟩
  go_wp2_with fail
  refine (K1.out _ (cell_keep0 M0.out B9.out)).mono ?_; rintro e y1 ⟨rfl, rfl⟩
  go_wp2_with fail
  refine (K2.out _ (cell_keep0 M0.out B9.out)).mono ?_; rintro e y2 ⟨rfl, rfl⟩
  go_wp2_with fail
  refine (K3.out _ (cell_keep0 M0.out B9.out)).mono ?_; rintro e y3 ⟨rfl, rfl⟩
  go_wp2_with fail
  refine (K4.out _ (cell_keep0 M0.out B9.out)).mono ?_; rintro e y4 ⟨rfl, rfl⟩
  go_wp2_with fail
  refine (K5.out _ (cell_keep0 M0.out B9.out)).mono ?_; rintro e y5 ⟨rfl, rfl⟩
  go_wp2_with fail
  refine (K6.out _ (cell_keep0 M0.out B9.out)).mono ?_; rintro e y6 ⟨rfl, rfl⟩
  go_wp2_with fail
  refine (K7.out _ (cell_keep0 M0.out B9.out)).mono ?_; rintro e y7 ⟨rfl, rfl⟩
  go_wp2_with fail
  refine (K8.out _ (cell_keep0 M0.out B9.out)).mono ?_; rintro e y8 ⟨rfl, rfl⟩
  go_wp2_with fail
  go_ret
  exact ⟨rfl, B9.out⟩
end Go.Proofs.YtfcabofhlgmkjaaDoor

