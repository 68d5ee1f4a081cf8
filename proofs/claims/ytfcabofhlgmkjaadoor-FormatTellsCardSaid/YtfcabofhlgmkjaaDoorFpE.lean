/- The walk of FormatTells. -/
import Derived.Test.YtfcabofhlgmkjaaDoorFpD
import Derived.Test.YtfcabofhlgmkjaaDoorFoE
set_option linter.unusedVariables false
set_option linter.unusedSimpArgs false
namespace Go.Proofs.YtfcabofhlgmkjaaDoor
open Go.RowKit

set_option maxHeartbeats 8000000 in
set_option maxRecDepth 100000 in
theorem ft_walk (s : ByteArray) (off save : Int) (L : ByteArray) (w : World) (hs : s.size ≤ maxLen) (hL : L.size ≤ maxLen) (m : Int) (hm : w.cell? ⟨1, 0, none⟩ = some (.int .i64 m)) (htab : Lib.TabIs Tryd.prog w "internal/strconv.uint64pow10" .u64 Lib.pow10Tab) :
    Calls Tryd.prog 9 #[.string s, .int .i64 off, .int .i64 save, .string L] w fun e w' => e = .returned (.bool true) ∧ Below w.heap.size w w' := by
  unfold maxLen at hs hL
  by_cases h1 : 500 < (s.size : Int)
  · have LV := Lib.hid (lives20 w m hm htab)
    clear hm htab
    go_enter Tryd.func9, Tryd.ntmps9
    go_wp2_with fail
    refine LV.out.mono ?_; rintro e w1 ⟨rfl, b1⟩
    go_wp2_with fail
    go_ret
    exact ⟨rfl, b1⟩
  · by_cases h2 : 500 < (L.size : Int)
    · have LV := Lib.hid (lives20 w m hm htab)
      clear hm htab
      go_enter Tryd.func9, Tryd.ntmps9
      go_wp2_with fail
      refine LV.out.mono ?_; rintro e w1 ⟨rfl, b1⟩
      go_wp2_with fail
      go_ret
      exact ⟨rfl, b1⟩
    · have M0 := Lib.hid hm; have T0 := Lib.hid htab; clear hm htab
      have LV := Lib.hid (fun W (h : W.cell? ⟨1, 0, none⟩ = some (.int .i64 m)) (T : Lib.TabIs Tryd.prog W "internal/strconv.uint64pow10" .u64 Lib.pow10Tab) => lives20 W m h T)
      have CA := Lib.hid (fun W (h : W.cell? ⟨1, 0, none⟩ = some (.int .i64 m)) (T : Lib.TabIs Tryd.prog W "internal/strconv.uint64pow10" .u64 Lib.pow10Tab) => abbr_any s L off save W m (by omega) (by omega) h T)
      have CB := Lib.hid (fun W => rabbr_any s L off save W (by omega) (by omega))
      have CC := Lib.hid (fun W => letter_any L W (by omega))
      have CD := Lib.hid (fun W => rfLetter_any L W (by omega))
      have CE := Lib.hid (fun W => lettertext_any L W (by omega))
      have CF := Lib.hid (fun W => rfltext_any L W (by omega))
      have CG := Lib.hid (fun W (h : W.cell? ⟨1, 0, none⟩ = some (.int .i64 m)) => fcheck_at s _ m rfl (by omega) W h)
      have CH := Lib.hid (fun W => rcheck_any s W (by omega))
      generalize (⟨(Fo.ab s.data.toList off save L.data.toList).1.toArray⟩ : ByteArray) = A at CA CB
      generalize (Fo.ab s.data.toList off save L.data.toList).2 = A2 at CA CB
      generalize (⟨(Fo.lt L.data.toList).1.toArray⟩ : ByteArray) = B at CC CD
      generalize (Fo.lt L.data.toList).2 = B2 at CC CD
      generalize (⟨(Fo.ltx L.data.toList).1.toArray⟩ : ByteArray) = D at CE CF
      generalize (Fo.ltx L.data.toList).2 = D2 at CE CF
      generalize (Fo.kd s.data.toList).2 = E at CG CH
      go_enter Tryd.func9, Tryd.ntmps9
      go_wp2_with fail
      refine (CA.out _ M0.out T0.out).mono ?_; rintro e w1 ⟨rfl, b1⟩
      have B1 := Lib.hid b1; clear b1
      go_wp2_with fail
      refine (CB.out _).mono ?_; rintro e w2 ⟨rfl, b2⟩
      have BB2 := Lib.hid (below_step B1.out b2); clear b2 B1
      go_wp2_with fail
      refine (CC.out _).mono ?_; rintro e w3 ⟨rfl, rfl⟩
      go_wp2_with fail
      refine (CD.out _).mono ?_; rintro e w3 ⟨rfl, rfl⟩
      go_wp2_with fail
      refine (CE.out _).mono ?_; rintro e w3 ⟨rfl, rfl⟩
      go_wp2_with fail
      refine (CF.out _).mono ?_; rintro e w3 ⟨rfl, rfl⟩
      go_wp2_with fail
      refine (CG.out _ (cell_keep0 M0.out BB2.out)).mono ?_; rintro e w3 ⟨rfl, rfl⟩
      go_wp2_with fail
      refine (CH.out _).mono ?_; rintro e w3 ⟨rfl, rfl⟩
      go_wp2_with fail
      refine (LV.out _ (cell_keep0 M0.out BB2.out) (var_keep BB2.out T0.out)).mono ?_; rintro e w4 ⟨rfl, b4⟩
      have B4 := Lib.hid (below_step BB2.out b4); clear b4
      go_wp2_with fail
      go_ret
      exact ⟨rfl, B4.out⟩
end Go.Proofs.YtfcabofhlgmkjaaDoor

