/- Infos: two lists merged. -/
import Derived.Test.YtmnmmbeageddkaaIfK
import Derived.Test.YtmnmmbeageddkaaIfB
set_option linter.unusedVariables false
set_option linter.unusedSimpArgs false
namespace Go.Proofs.Ytmnmmbeageddkaa
open Go.RowKit Go.Sort Go.Shelf

/-- What two lists become: refused; or one of the orders that they have sorted, made compact, if that is sound. -/
def AnsMg (a b : List If.I) (w : World) (e : Ending) (w' : World) : Prop :=
  Below w.heap.size w w' ∧ (((If.so none a && If.so none b) = false ∧ e = .returned (.tuple #[.slice none 0 0, .int .i64 4])) ∨
    ((If.so none a && If.so none b) = true ∧ ∃ d : List If.I, d.Perm (a ++ b) ∧ If.Ord d ∧
      ((If.so none (If.dd d) = false ∧ e = .returned (.tuple #[.slice none 0 0, .int .i64 21])) ∨
       (If.so none (If.dd d) = true ∧ ∃ v, e = .returned (.tuple #[v, .int .i64 0]) ∧ InV w' v (If.dd d)))))
theorem dd2_len (p : If.I) (l : List If.I) : (If.dd2 p l).length ≤ l.length := by
  induction l generalizing p with
  | nil => exact Nat.le_refl _
  | cons y l ih =>
    rw [If.dd2]
    split
    · have := ih y; simp; omega
    · have := ih y; simp; omega
theorem dd_len (l : List If.I) : (If.dd l).length ≤ l.length := by
  match l with
  | [] => exact Nat.le_refl _
  | x :: l => have := dd2_len x l; simp [If.dd]; omega
set_option maxRecDepth 100000 in
set_option maxHeartbeats 4000000 in
theorem seam_merge (va vb : Value) (a b : List If.I) (w : World) (h : InV w va a) (k : InV w vb b) (ha : a.length ≤ 100) (hb : b.length ≤ 100) :
    Calls Try.prog 23 #[va, vb] w (AnsMg a b w) := by
  obtain ⟨A, c, rfl, -⟩ := id h
  obtain ⟨B, c', rfl, -⟩ := id k
  have H := Lib.hid h; have K := Lib.hid k
  have HA := Lib.hid ha; have HB := Lib.hid hb
  clear h k ha hb
  unfold AnsMg
  go_enter Try.func23, Try.ntmps23
  go_wp2_with fail
  refine (seam_sound _ a _ H.out (by have := HA.out; omega)).mono ?_
  rintro e w1 ⟨rfl, b1⟩
  have B1 := Lib.hid b1
  have H1 := Lib.hid (H.out.on b1); have K1 := Lib.hid (K.out.on b1)
  clear b1 H K
  rcases hsa : If.so none a with _ | _
  · go_wp2
    go_ret2
    exact ⟨B1.out, .inl ⟨by rw [hsa]; rfl, rfl⟩⟩
  · go_wp2_with fail
    refine (seam_sound _ b _ K1.out (by have := HB.out; omega)).mono ?_
    rintro e w2 ⟨rfl, b2⟩
    have B2 := Lib.hid (below_step B1.out b2)
    have H2 := Lib.hid (H1.out.on b2); have K2 := Lib.hid (K1.out.on b2)
    clear b2 H1 K1 B1
    rcases hsb : If.so none b with _ | _
    · go_wp2
      go_ret2
      exact ⟨B2.out, .inl ⟨by rw [hsa, hsb]; rfl, rfl⟩⟩
    · go_wp2_with fail
      have HS := Lib.hid (show (If.so none a && If.so none b) = true by rw [hsa, hsb]; rfl)
      clear hsa hsb
      have bn : Below w2.heap.size w2 (w2.alloc (.cells #[.slice A a.length c, .slice B b.length c'] 46)) := (Below.refl _ _).alloc (Nat.le_refl _) _
      have H3 := Lib.hid (H2.out.on bn); have K3 := Lib.hid (K2.out.on bn)
      have BN := Lib.hid bn
      clear H2 K2 bn
      refine (concat_inf _ _ a b w2.heap.size _ H3.out K3.out HA.out HB.out (Blk.new w2 _ _)).mono ?_
      rintro e w4 ⟨v4, rfl, o4, b4⟩
      obtain ⟨A4, c4, rfl⟩ := po_form o4
      have B4 := Lib.hid (below_step B2.out (below_step BN.out b4))
      have O4 := Lib.hid o4
      have S4 := Lib.hid (And.intro (Nat.le_trans B2.out.size BN.out.size) b4.size)
      clear H3 K3 BN B2 o4 b4
      obtain ⟨n4, hn4⟩ : ∃ n, (a ++ b).length = n := ⟨_, rfl⟩
      rw [hn4] at O4 ⊢
      have N4 := Lib.hid (And.intro hn4 (show n4 ≤ 200 by rw [← hn4, List.length_append]; have := HA.out; have := HB.out; omega))
      clear hn4
      go_wp2_with fail
      refine (inf_sorted (a ++ b) N4.out.1 _ O4.out N4.out.2 S4.out.2).mono ?_
      rintro e w5 ⟨rfl, b5, d, hp, ho, hc⟩
      have P5 := Lib.hid (And.intro hp ho)
      have B5 := Lib.hid (B4.out.trans (b5.mono S4.out.1))
      have C5 := Lib.hid hc
      clear hp ho b5 hc B4
      go_wp2_with fail
      refine C5.out.mono ?_
      rintro e w6 ⟨v6, rfl, i6, b6⟩
      have I6 := Lib.hid i6
      have B6 := Lib.hid (B5.out.trans (b6.mono S4.out.1))
      clear i6 b6 B5 C5
      go_wp2_with fail
      refine (seam_sound _ _ _ I6.out (by have := dd_len d; have := P5.out.1.length_eq; have := N4.out; omega)).mono ?_
      rintro e w7 ⟨rfl, b7⟩
      have I7 := Lib.hid (I6.out.on b7)
      have B7 := Lib.hid (below_step B6.out b7)
      clear b7 I6 B6 O4 S4
      rcases hsd : If.so none (If.dd d) with _ | _
      · go_wp2
        go_ret2
        exact ⟨B7.out, .inr ⟨HS.out, d, P5.out.1, P5.out.2, .inl ⟨hsd, rfl⟩⟩⟩
      · go_wp2
        go_ret2
        exact ⟨B7.out, .inr ⟨HS.out, d, P5.out.1, P5.out.2, .inr ⟨hsd, _, rfl, I7.out⟩⟩⟩
end Go.Proofs.Ytmnmmbeageddkaa
