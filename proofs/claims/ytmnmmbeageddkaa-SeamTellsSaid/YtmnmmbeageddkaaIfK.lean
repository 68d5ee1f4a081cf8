/- Infos: sorted and made compact where there are none. -/
import Derived.Test.YtmnmmbeageddkaaIfJ
set_option linter.unusedVariables false
set_option linter.unusedSimpArgs false
namespace Go.Proofs.Ytmnmmbeageddkaa
open Go.RowKit Go.Sort Go.Shelf

theorem ins_inf0 (fv : Value) (w : World) : Calls Try.prog 74 #[.slice none 0 0, .int .i64 0, .int .i64 0, fv] w fun e w' => e = .returned (.tuple #[]) ∧ w' = w := by
  go_enter Try.func74, Try.ntmps74
  go_wp2_with fail
  refine wp_loop_rounds 1 ?_
  rw [rounds_succ]
  go_wp2
  go_end0
  exact ⟨rfl, rfl⟩
set_option maxRecDepth 100000 in
set_option maxHeartbeats 4000000 in
theorem pdq_inf0 (lim : Int) (fv : Value) (w : World) : Calls Try.prog 66 #[.slice none 0 0, .int .i64 0, .int .i64 0, .int .i64 lim, fv] w fun e w' => e = .returned (.tuple #[]) ∧ w' = w := by
  go_enter Try.func66, Try.ntmps66
  go_wp2_with fail
  refine wp_loop_rounds 1 ?_
  rw [rounds_succ]
  go_wp2_with (go_at_call 74; refine (ins_inf0 _ _).mono ?_; rintro e w' ⟨rfl, rfl⟩)
  (try simp only [Exit.inBlock, Exit.then]); refine bodyPost_ret (results_none rfl _ _ _) rfl ?_
  exact ⟨rfl, rfl⟩
theorem len_0 (w : World) : Calls Try.prog 67 #[.int .u64 0] w fun e w' => e = .returned (.int .i64 (Lib.bitLen 0 : Nat)) ∧ w' = w := by
  have h := Any.bits_Len (SlLaysF0.n15.bits (P := Try.prog) (ρ := Try.sortInfo_ren) { Try.sortInfo with }) 0 w (by omega) (by omega)
  exact h
theorem sort_inf0 (w : World) : Calls Try.prog 48 #[.slice none 0 0, .func (.func 49) #[] #[]] w fun e w' => e = .returned (.tuple #[]) ∧ w' = w := by
  go_enter Try.func48, Try.ntmps48
  go_wp2_with (first | (go_at_call 67; refine (len_0 _).mono ?_; rintro e w' ⟨rfl, rfl⟩) | (go_at_call 66; refine (pdq_inf0 _ _ _).mono ?_; rintro e w' ⟨rfl, rfl⟩))
  go_end0
  exact ⟨rfl, rfl⟩
theorem compact_inf0 (w : World) : Calls Try.prog 51 #[.slice none 0 0] w fun e w' => e = .returned (.slice none 0 0) ∧ w' = w := by
  go_enter Try.func51, Try.ntmps51
  go_wp2
  go_ret
  exact ⟨rfl, rfl⟩
/-- A row sorted by where its infos begin. -/
def If.Ord (l : List If.I) : Prop := l.Pairwise fun x y => x.1 ≤ y.1
/-- Of an own row: sorted, and made compact. -/
theorem inf_sorted {base n c : Nat} {A : Option Addr} (l : List If.I) (hl : l.length = n) (w : World) (h : w.ownsRow base 36 5 (.slice A n c) n (If.ifc l)) (hn : n ≤ 200) (hb : base ≤ w.heap.size) :
    Calls Try.prog 48 #[.slice A n c, .func (.func 49) #[] #[]] w fun e w' => e = .returned (.tuple #[]) ∧ Below base w w' ∧ ∃ d, d.Perm l ∧ If.Ord d ∧
      Calls Try.prog 51 #[.slice A n c] w' fun e w'' => ∃ v, e = .returned v ∧ InV w'' v (If.dd d) ∧ Below base w' w'' := by
  rcases id h.2 with ⟨e, h0⟩ | ⟨g, cap', cur, e, hbg, hg, h1, h2, h3, h4⟩
  · cases e
    refine (sort_inf0 w).mono ?_
    rintro e w' ⟨rfl, rfl⟩
    obtain rfl : l = [] := List.eq_nil_of_length_eq_zero hl
    exact ⟨rfl, Below.refl _ _, [], List.Perm.refl _, List.Pairwise.nil, (compact_inf0 _).mono fun _ _ ⟨a, b⟩ => ⟨_, a, by rw [b]; exact InV.nil _, by rw [b]; exact Below.refl _ _⟩⟩
  · cases e
    subst hl
    obtain ⟨hH, hgs, hbg'⟩ := inf_holds rfl h
    have hcon := inf_sort g 0 c l.toArray w hH hgs (by simp; omega)
    rw [List.size_toArray] at hcon
    refine hcon.mono ?_
    rintro e w' ⟨rfl, d', n', os, hp, hs, rfl⟩
    have hsz : d'.size = l.length := by have := hp.1; simpa using this
    have hdl : d'.toList.length = l.length := (Array.length_toList (xs := d')).trans hsz
    have h1 := holdsK_sortWorldK_c (enc := If.enc) (k := 5) (w := w) (blk := g) (off := 0) l.toArray d' n' os hH hgs (by simpa using hsz)
    have hR := holds_row (d := d'.toList) (Nat.lt_of_lt_of_le hgs (size_sortWorldK_c (enc := If.enc) (k := 5) (w := w) (blk := g) (off := 0) n' d' os)) (by simpa using h1)
    refine ⟨rfl, sort_below hbg hgs, d'.toList, ?_, ?_, ?_⟩
    · have := hp.2.2
      have e1 : d'.extract 0 l.length = d' := by rw [← hsz]; exact Array.extract_size
      have e2 : l.toArray.extract 0 l.length = l.toArray := by
        have := Array.extract_size (xs := l.toArray); rwa [List.size_toArray] at this
      rw [e1, e2] at this
      simpa using this
    · unfold If.Ord
      rw [List.pairwise_iff_getElem]
      intro i j hi hj hij
      have := hs i j (Nat.zero_le _) hij (by rw [← hsz]; simpa using hj)
      rw [If.ltE] at this
      rw [Array.length_toList] at hi hj
      simp [hi, hj] at this
      simpa using this
    · have hc := compact_inf g c d'.toList _ hR (by rw [hdl]; omega) (by rw [hdl]; exact hn)
      rw [hdl] at hc
      exact hc.mono fun _ _ ⟨B, c', e, i, b⟩ => ⟨_, e, i, b.mono hbg⟩
end Go.Proofs.Ytmnmmbeageddkaa
