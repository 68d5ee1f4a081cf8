/- Parts: the reference's Ends and Same. -/
import Derived.Test.YtckcmhnhmobadaaMnF
import Derived.Test.YtckcmhnhmobadaaMnS
import Derived.Test.YtckcmhnhmobadaaSpS
set_option linter.unusedVariables false
set_option linter.unusedSimpArgs false
namespace Go.Proofs.Ytckcmhnhmobadaa
open Go.RowKit Go.Sort Go.Shelf

namespace Mn
/-- The walk's own reckoning of one part more. -/
theorem eb_lt {is : Bool} {a b v : Int} (p : P) (hv : p.2.2 = v) : eb (is, a, b) p = (true, if (!is || decide (v < a)) then v else a, if (!is || decide (b < v)) then v else b) := by
  subst hv
  unfold eb
  cases is
  · rfl
  · simp only [if_true, Bool.not_true, Bool.false_or]
    congr 2
    · by_cases h : p.2.2 < a
      · rw [if_pos (by simpa using h), Int.min_eq_right (by omega)]
      · rw [if_neg (by simpa using h), Int.min_eq_left (by omega)]
    · by_cases h : b < p.2.2
      · rw [if_pos (by simpa using h), Int.max_eq_right (by omega)]
      · rw [if_neg (by simpa using h), Int.max_eq_left (by omega)]
end Mn
set_option maxRecDepth 100000 in
set_option maxHeartbeats 4000000 in
theorem rends_any (v : Value) (l : List Mn.P) (s0 s1 : Int) (w : World) (h : PtV w v l) (hm : l.length ≤ 1000000) :
    Calls Try.prog 36 #[v, .agg #[.int .i64 s0, .int .i64 s1]] w fun e w' => e = .returned (Mn.end3 (if Mn.rt none l then Mn.cnt s0 s1 l else [])) ∧ Below w.heap.size w w' := by
  have H := Lib.hid h
  obtain ⟨A, c, rfl, -⟩ := h
  obtain ⟨n, hn⟩ : ∃ n, l.length = n := ⟨_, rfl⟩
  rw [hn] at hm H ⊢
  have HN := Lib.hid hn
  clear hn
  have b0 : Below w.heap.size w (w.alloc (.cells #[.int .i64 s0, .int .i64 s1] 24)) := (Below.refl _ _).alloc (Nat.le_refl _) _
  have C := Lib.hid (noontideref12_right (.slice A n c) l _ (H.out.on b0) (by rw [HN.out]; exact hm))
  have S0 := Blk.new w 24 #[.int .i64 s0, .int .i64 s1]
  cases hr : Mn.rt none l
  · rw [hr] at C
    clear hr
    simp only [Bool.false_eq_true, if_false]
    go_enter Try.func36, Try.ntmps36
    go_wp2_with fail
    refine C.out.mono ?_
    rintro e w1 ⟨rfl, b1⟩
    go_wp2
    refine bodyPost_ret (v := Mn.end3 []) (by simp [results, Try.results36, go_sem, Mn.end3, Mn.ends]) rfl ⟨rfl, below_step b0 b1⟩
  · rw [hr] at C
    clear hr
    simp only [if_true]
    go_enter Try.func36, Try.ntmps36
    go_wp2_with fail
    refine C.out.mono ?_
    rintro e w1 ⟨rfl, b1⟩
    have S1 := Lib.hid (S0.on b1)
    have B1 := Lib.hid (below_step b0 b1)
    clear b0 b1 C S0
    go_wp2
    go_loopw [7, 8, 9, 17] (fun a b c i wr => ∃ (k : Nat), k ≤ n ∧ i = .int .i64 k ∧ (∃ is lo hi, a = .int .i64 lo ∧ b = .int .i64 hi ∧ c = .bool is ∧ Hid (Mn.ends (Mn.cnt s0 s1 (l.take k)) = (is, lo, hi))) ∧ Hid (Blk wr w.heap.size 24 #[.int .i64 s0, .int .i64 s1]) ∧ Hid (Below w.heap.size w wr)) (fun _ _ _ i _ => n - (intOf i).toNat)
    case atStart => exact ⟨0, Nat.zero_le _, rfl, ⟨false, 0, 0, rfl, rfl, rfl, Lib.hid rfl⟩, S1, B1⟩
    case round =>
      rename World => w2
      obtain ⟨k, hk, rfl, ⟨is, lo, hi, rfl, rfl, rfl, HE⟩, S, B⟩ := hrel
      by_cases hlt : k < n
      · have hkl : k < l.length := by rw [HN.out]; exact hlt
        obtain ⟨a, rfl, hab, g1, g2, g3⟩ := (H.out.on B.out).get k hkl
        have c0 := S.out.c0
        have c1 := S.out.c1
        have CY := Lib.hid (fun hm => Mn.cnt_snoc_yes (s0 := s0) (s1 := s1) hkl hm)
        have CN := Lib.hid (fun hm => Mn.cnt_snoc_no (s0 := s0) (s1 := s1) hkl hm)
        generalize l[k].1 = x at *
        generalize l[k].2.1 = y at *
        generalize l[k].2.2 = z at *
        have i1 : (k : Int) < n := by omega
        have c0' := ((S.out.alloc (.cells #[.int .i64 x, .int .i64 y, .int .i64 z] 52))).c0
        have c1' := ((S.out.alloc (.cells #[.int .i64 x, .int .i64 y, .int .i64 z] 52))).c1
        go_wp2_with fail
        refine (noontideref10_meet x y s0 s1 _).mono ?_
        rintro e w3 ⟨rfl, b2⟩
        have D2 : Below w2.heap.size w2 w3 := below_step ((Below.refl _ _).alloc (Nat.le_refl _) _) b2
        have P2 : Blk w3 w2.heap.size 52 #[.int .i64 x, .int .i64 y, .int .i64 z] := (Blk.new w2 _ _).on b2
        have S2 := Lib.hid (S.out.on D2)
        have B2 := Lib.hid (below_step B.out D2)
        have z2 := P2.c2
        clear g1 g2 g3 c0 c1 c0' c1' b2 D2 S B hab
        cases hm : Sp.mt x y s0 s1
        · have C := Lib.hid (CN.out hm)
          clear CY CN hm
          go_wp2
          go_roundw
          case rel => exact ⟨k + 1, by omega, by go_num, ⟨is, lo, hi, rfl, rfl, rfl, by rw [C.out]; exact HE⟩, S2, B2⟩
          case measure => simp [intOf]; omega
        · have C := Lib.hid (CY.out hm)
          have E2 := Lib.hid (show Mn.ends (Mn.cnt s0 s1 (l.take (k + 1))) = (true, if (!is || decide (z < lo)) then z else lo, if (!is || decide (hi < z)) then z else hi) from by rw [C.out, Mn.ends_snoc, HE.out]; exact Mn.eb_lt (v := z) _ rfl)
          clear CY CN hm C HE
          cases is
          · go_wp2
            go_roundw
            case rel => exact ⟨k + 1, by omega, by go_num, ⟨true, z, z, rfl, rfl, rfl, E2⟩, S2, B2⟩
            case measure => simp [intOf]; omega
          · simp only [Bool.not_true, Bool.false_or] at E2
            by_cases h1 : z < lo
            · have h1' : decide (z < lo) = true := decide_eq_true h1
              by_cases h2 : hi < z
              · have h2' : decide (hi < z) = true := decide_eq_true h2
                rw [h1', h2'] at E2
                go_wp2
                go_roundw
                case rel => exact ⟨k + 1, by omega, by go_num, ⟨true, z, z, rfl, rfl, rfl, E2⟩, S2, B2⟩
                case measure => simp [intOf]; omega
              · have h2' : decide (hi < z) = false := decide_eq_false h2
                rw [h1', h2'] at E2
                clear h2
                go_wp2
                go_roundw
                case rel => exact ⟨k + 1, by omega, by go_num, ⟨true, z, hi, rfl, rfl, rfl, E2⟩, S2, B2⟩
                case measure => simp [intOf]; omega
            · have h1' : decide (z < lo) = false := decide_eq_false h1
              clear h1
              by_cases h2 : hi < z
              · have h2' : decide (hi < z) = true := decide_eq_true h2
                rw [h1', h2'] at E2
                go_wp2
                go_roundw
                case rel => exact ⟨k + 1, by omega, by go_num, ⟨true, lo, z, rfl, rfl, rfl, E2⟩, S2, B2⟩
                case measure => simp [intOf]; omega
              · have h2' : decide (hi < z) = false := decide_eq_false h2
                rw [h1', h2'] at E2
                clear h2
                go_wp2
                go_roundw
                case rel => exact ⟨k + 1, by omega, by go_num, ⟨true, lo, hi, rfl, rfl, rfl, E2⟩, S2, B2⟩
                case measure => simp [intOf]; omega
      · have E := Lib.hid (show l.take k = l from List.take_of_length_le (by rw [HN.out]; omega))
        rw [E.out] at HE
        go_wp2
        refine bodyPost_ret (v := .tuple #[.int .i64 lo, .int .i64 hi, .bool is]) (by simp [results, Try.results36, go_sem]) rfl ⟨?_, B.out⟩
        unfold Mn.end3; rw [HE.out]
set_option maxHeartbeats 4000000 in
theorem psame_yes (v1 v2 : Value) (l : List Mn.P) (w : World) (h1 : PtV w v1 l) (h2 : PtV w v2 l) (hm : l.length ≤ maxLen) :
    Calls Try.prog 40 #[v1, v2] w (Yes w) := by
  unfold maxLen at hm
  have H1 := Lib.hid h1
  have H2 := Lib.hid h2
  obtain ⟨A1, c1, rfl, -⟩ := h1
  obtain ⟨A2, c2, rfl, -⟩ := h2
  generalize hn : l.length = n at *
  have HN := Lib.hid hn
  clear hn
  go_enter Try.func40, Try.ntmps40
  go_wp2
  go_loopw [13] (fun i wr => ∃ k : Nat, k ≤ n ∧ i = .int .i64 k ∧ ∃ m, wr = w.drewN m) (fun i _ => n - (intOf i).toNat)
  case atStart => exact ⟨0, Nat.zero_le _, rfl, 0, rfl⟩
  case round =>
    obtain ⟨k, hk, rfl, m, rfl⟩ := hrel
    by_cases hlt : k < n
    · obtain ⟨a1, rfl, -, g1, g2, g3⟩ := H1.out.get k (by rw [HN.out]; exact hlt)
      obtain ⟨a2, rfl, -, g4, g5, g6⟩ := H2.out.get k (by rw [HN.out]; exact hlt)
      generalize (l[k]'(by rw [HN.out]; exact hlt)).1 = x at *
      generalize (l[k]'(by rw [HN.out]; exact hlt)).2.1 = y at *
      generalize (l[k]'(by rw [HN.out]; exact hlt)).2.2 = z at *
      have i0 : (0 : Int) ≤ k := by omega
      have i1 : (k : Int) < n := by omega
      go_wp2
      go_quiet (fail)
      go_wp2
      go_roundw
      case rel => exact ⟨k + 1, by omega, by go_num, _, rfl⟩
      case measure => simp [intOf]; omega
    · go_wp2
      go_ret
      exact ⟨rfl, m, rfl⟩
end Go.Proofs.Ytckcmhnhmobadaa
