/- Links: Read. -/
import Derived.Test.YtndophkojnfcaaaLkC
import Derived.Test.YtndophkojnfcaaaGvL
import Derived.Test.YtndophkojnfcaaaGvN
import Derived.BigRegion
set_option linter.unusedVariables false
set_option linter.unusedSimpArgs false
namespace Go.Proofs.Ytndophkojnfcaaa
open Go.RowKit Go.Sort

namespace Lk
/-- What the fields of a link tell: the link, and why not. -/
def rd : List ByteArray → (ByteArray × ByteArray) × Int
  | [] => ((⟨#[]⟩, ⟨#[]⟩), 5)
  | [_] => ((⟨#[]⟩, ⟨#[]⟩), 5)
  | [a, b] => if nm a.data.toList ≠ 0 then ((⟨#[]⟩, ⟨#[]⟩), nm a.data.toList) else if nm b.data.toList ≠ 0 then ((⟨#[]⟩, ⟨#[]⟩), nm b.data.toList) else if a = b then ((⟨#[]⟩, ⟨#[]⟩), 13) else ((a, b), 0)
  | _ => ((⟨#[]⟩, ⟨#[]⟩), 6)
theorem rd_two (a b : ByteArray) : rd [a, b] = if nm a.data.toList ≠ 0 then ((⟨#[]⟩, ⟨#[]⟩), nm a.data.toList) else if nm b.data.toList ≠ 0 then ((⟨#[]⟩, ⟨#[]⟩), nm b.data.toList) else if a = b then ((⟨#[]⟩, ⟨#[]⟩), 13) else ((a, b), 0) := rfl
theorem nm_cases (l : List UInt8) : nm l = 0 ∨ nm l = 9 ∨ nm l = 10 := by
  unfold nm
  split
  · exact .inr (.inl rfl)
  · split
    · exact .inl rfl
    · exact .inr (.inr rfl)
end Lk
set_option maxHeartbeats 4000000 in
set_option maxRecDepth 100000 in
theorem read1_two (p : Nat) (v : Value) (a b : ByteArray) (w : World) (hc : w.cell? ⟨p, 0, none⟩ = some v) (S : StS w v [a, b]) (ha : a.size ≤ maxLen) (hb : b.size ≤ maxLen) :
    Calls Try.prog 65 #[.pointer (some ⟨p, 0, none⟩)] w fun e w' => Below w.heap.size w w' ∧ (((Lk.rd [a, b]).2 = 0 ∧ e = .returned (.agg #[.string (Lk.rd [a, b]).1.1, .string (Lk.rd [a, b]).1.2])) ∨ ((Lk.rd [a, b]).2 ≠ 0 ∧ e = .panicked (gvP (Lk.rd [a, b]).2))) := by
  have T := S
  obtain ⟨A, c, rfl, hA⟩ := T
  obtain ⟨q, rfl, hq, hcell⟩ := hA (by simp)
  have g0 : w.cell? (q.add 0) = some (.string a) := hcell 0 _ rfl
  have g1 : w.cell? (q.add 1) = some (.string b) := hcell 1 _ rfl
  rw [Addr.add_zero'] at g0
  rw [Addr.add_succ'] at g1
  have NA := Lib.hid (fun W => rname_any a W ha)
  have NB := Lib.hid (fun W => rname_any b W hb)
  have hp : p < w.heap.size := World.block_lt_of_cell? _ _ hc
  have n1 : p ≠ w.heap.size := Nat.ne_of_lt hp
  have n2 : q.block ≠ w.heap.size := Nat.ne_of_lt hq
  clear hcell S ha hb
  obtain ⟨R, hR⟩ : ∃ R, R = Lk.rd [a, b] := ⟨_, rfl⟩
  have HR := Lib.hid hR
  rw [← hR]
  obtain ⟨x, hx0⟩ : ∃ x, x = Lk.nm a.data.toList := ⟨_, rfl⟩
  obtain ⟨y, hy0⟩ : ∃ y, y = Lk.nm b.data.toList := ⟨_, rfl⟩
  have HX := Lib.hid hx0; have HY := Lib.hid hy0
  rw [← hx0] at NA
  rw [← hy0] at NB
  clear hR hx0 hy0
  go_enter Try.func65, Try.ntmps65
  go_wp2_with fail
  refine (need_yes 5 _).mono ?_; rintro e w1 ⟨rfl, rfl⟩
  go_wp2_with fail
  refine (need_yes 6 _).mono ?_; rintro e w1 ⟨rfl, rfl⟩
  go_wp2_with fail
  go_cut [2] from 11 (fun x wx => x = .pointer (some ⟨w.heap.size + 1, 0, none⟩) ∧ wx = ((w.alloc (.cells #[.string ⟨#[]⟩, .string ⟨#[]⟩] 47)).alloc (.cells #[.string a, .string b] 47)).drew)
  case first =>
    go_region_with (fail)
    all_goals (go_wp2_with fail; go_meet; exact ⟨rfl, rfl⟩)
  case rest =>
    obtain ⟨rfl, hwc⟩ := hcut
    have b0 : Below w.heap.size w wc := by rw [hwc]; exact (((Below.refl _ _).alloc (Nat.le_refl _) _).alloc (by simp) _).drew
    have B0 := Lib.hid b0
    have Q1 : Bk2 wc (w.heap.size + 1) (.string a) (.string b) := by rw [hwc]; exact ⟨by simp, fun j => by simp [go_sem], by simp [go_sem], by simp [go_sem]⟩
    have Q0 : Bk2 wc w.heap.size (.string ⟨#[]⟩) (.string ⟨#[]⟩) := by rw [hwc]; exact ⟨by simp <;> omega, fun j => by simp [go_sem], by simp [go_sem], by simp [go_sem]⟩
    have c_b := Q1.hb; have c_f := Q1.fz; have c_0 := Q1.k0; have c_1 := Q1.k1
    have e_b := Q0.hb; have e_f := Q0.fz; have e_0 := Q0.k0; have e_1 := Q0.k1
    clear hwc b0 Q1 Q0 hc hp n1 n2 g0 g1 hq hA
    by_cases hx : x = 0
    · by_cases hy : y = 0
      · by_cases hab : a = b
        · have e0 := Lib.hid (show R = ((⟨#[]⟩, ⟨#[]⟩), 13) by rw [HR.out]; rw [Lk.rd_two, ← HX.out, ← HY.out, if_neg (by simp [hx]), if_neg (by simp [hy]), if_pos hab])
          clear HR HX HY
          subst hx; subst hy; subst hab
          go_wp2_with fail
          refine (NA.out _).mono ?_; rintro e w1 ⟨rfl, rfl⟩
          go_wp2_with fail
          refine (for_yes _).mono ?_; rintro e w1 ⟨rfl, rfl⟩
          go_wp2_with fail
          refine (NB.out _).mono ?_; rintro e w1 ⟨rfl, rfl⟩
          go_wp2_with fail
          refine (for_yes _).mono ?_; rintro e w1 ⟨rfl, rfl⟩
          go_wp2_with fail
          refine (need_no 13 _).mono ?_; rintro e w1 ⟨rfl, rfl⟩
          refine (show bodyPost _ _ _ (Exit.panic (gvP 13)) _ _ from ?_)
          simp only [bodyPost]
          exact ⟨trivial, B0.out, .inr ⟨by rw [e0.out]; simp, by rw [e0.out]⟩⟩
        · have e0 := Lib.hid (show R = ((a, b), 0) by rw [HR.out]; rw [Lk.rd_two, ← HX.out, ← HY.out, if_neg (by simp [hx]), if_neg (by simp [hy]), if_neg hab])
          clear HR HX HY
          subst hx; subst hy
          obtain ⟨m1, m2⟩ := str_ne hab
          clear hab
          go_wp2_with fail
          refine (NA.out _).mono ?_; rintro e w1 ⟨rfl, rfl⟩
          go_wp2_with fail
          refine (for_yes _).mono ?_; rintro e w1 ⟨rfl, rfl⟩
          go_wp2_with fail
          refine (NB.out _).mono ?_; rintro e w1 ⟨rfl, rfl⟩
          go_wp2_with fail
          refine (for_yes _).mono ?_; rintro e w1 ⟨rfl, rfl⟩
          go_wp2_with fail
          refine (need_yes 13 _).mono ?_; rintro e w1 ⟨rfl, rfl⟩
          go_wp2_with fail
          refine bodyPost_ret (v := .agg #[.string a, .string b]) (by simp [results, Try.results65, go_sem, e_b, e_f, e_0, e_1]) rfl ?_
          refine ⟨?_, .inl ⟨by rw [e0.out], by rw [e0.out]⟩⟩
          repeat (refine Below.setCell ?_ (by first | omega | (simp; done) | (simp; omega)) _)
          exact B0.out
      · have e0 := Lib.hid (show R = ((⟨#[]⟩, ⟨#[]⟩), y) by rw [HR.out]; rw [Lk.rd_two, ← HX.out, ← HY.out, if_neg (by simp [hx]), if_pos hy])
        clear HR HX HY
        subst hx
        go_wp2_with fail
        refine (NA.out _).mono ?_; rintro e w1 ⟨rfl, rfl⟩
        go_wp2_with fail
        refine (for_yes _).mono ?_; rintro e w1 ⟨rfl, rfl⟩
        go_wp2_with fail
        refine (NB.out _).mono ?_; rintro e w1 ⟨rfl, rfl⟩
        go_wp2_with fail
        refine (for_no _ _ hy).mono ?_; rintro e w1 ⟨rfl, rfl⟩
        refine (show bodyPost _ _ _ (Exit.panic (gvP y)) _ _ from ?_)
        simp only [bodyPost]
        exact ⟨trivial, B0.out, .inr ⟨by rw [e0.out]; exact hy, by rw [e0.out]⟩⟩
    · have e0 := Lib.hid (show R = ((⟨#[]⟩, ⟨#[]⟩), x) by rw [HR.out]; rw [Lk.rd_two, ← HX.out, if_pos hx])
      clear HR HX HY
      go_wp2_with fail
      refine (NA.out _).mono ?_; rintro e w1 ⟨rfl, rfl⟩
      go_wp2_with fail
      refine (for_no _ _ hx).mono ?_; rintro e w1 ⟨rfl, rfl⟩
      refine (show bodyPost _ _ _ (Exit.panic (gvP x)) _ _ from ?_)
      simp only [bodyPost]
      exact ⟨trivial, B0.out, .inr ⟨by rw [e0.out]; exact hx, by rw [e0.out]⟩⟩
end Go.Proofs.Ytndophkojnfcaaa

