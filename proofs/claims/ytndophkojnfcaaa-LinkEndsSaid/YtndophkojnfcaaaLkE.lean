/- Links: Read, of the program. -/
import Derived.Test.YtndophkojnfcaaaLkD
set_option linter.unusedVariables false
set_option linter.unusedSimpArgs false
namespace Go.Proofs.Ytndophkojnfcaaa
open Go.RowKit Go.Sort

set_option maxRecDepth 100000 in
theorem read1_other (p : Nat) (v : Value) (l : List ByteArray) (w : World) (hc : w.cell? ⟨p, 0, none⟩ = some v) (S : StS w v l) (hl : l.length < 2 ∨ (2 < l.length ∧ l.length ≤ 1000000)) :
    Calls Try.prog 65 #[.pointer (some ⟨p, 0, none⟩)] w fun e w' => Below w.heap.size w w' ∧ (Lk.rd l).2 ≠ 0 ∧ e = .panicked (gvP (Lk.rd l).2) := by
  obtain ⟨A, c, rfl, -⟩ := S
  have hp : p < w.heap.size := World.block_lt_of_cell? _ _ hc
  have n1 : p ≠ w.heap.size := Nat.ne_of_lt hp
  have hR : (Lk.rd l).2 = if l.length < 2 then 5 else 6 := by
    match l, hl with
    | [], _ => rfl
    | [_], _ => rfl
    | [_, _], h => simp at h
    | _ :: _ :: _ :: _, _ => rw [if_neg (by simp)]; rfl
  rw [hR]
  obtain ⟨N, hN⟩ : ∃ N, N = l.length := ⟨_, rfl⟩
  rw [← hN] at hl hc ⊢
  clear hR hN
  by_cases h : N < 2
  · rw [if_pos h]
    have g : ¬ 2 ≤ (N : Int) := by omega
    clear h hl
    go_enter Try.func65, Try.ntmps65
    go_wp2_with fail
    try rw [show decide ((2 : Int) ≤ (N : Int)) = false from decide_eq_false (by omega)]
    refine (need_no 5 _).mono ?_; rintro e w1 ⟨rfl, rfl⟩
    refine (show bodyPost _ _ _ (Exit.panic (gvP 5)) _ _ from ?_)
    simp only [bodyPost]
    exact ⟨trivial, (Below.refl _ _).alloc (Nat.le_refl _) _, by decide, by first | rfl | trivial⟩
  · rw [if_neg h]
    have h2 : 2 < N ∧ N ≤ 1000000 := by omega
    have g : 2 ≤ (N : Int) := by omega
    have g2 : ¬ (N : Int) ≤ 2 := by omega
    clear h hl
    go_enter Try.func65, Try.ntmps65
    go_wp2_with fail
    try rw [show decide ((2 : Int) ≤ (N : Int)) = true from decide_eq_true (by omega)]
    refine (need_yes 5 _).mono ?_; rintro e w1 ⟨rfl, rfl⟩
    go_wp2_with fail
    try rw [show decide ((N : Int) ≤ 2) = false from decide_eq_false (by omega)]
    refine (need_no 6 _).mono ?_; rintro e w1 ⟨rfl, rfl⟩
    refine (show bodyPost _ _ _ (Exit.panic (gvP 6)) _ _ from ?_)
    simp only [bodyPost]
    exact ⟨trivial, (Below.refl _ _).alloc (Nat.le_refl _) _, by decide, by first | rfl | trivial⟩
set_option maxRecDepth 100000 in
theorem lk_callFn (qs : Array Value) (W : World) : Sem.run Try.prog (callFunc 65 qs) W = .ok (.enter 65 qs) W := rfl
namespace Lk
theorem rd_no (l : List ByteArray) (h : (rd l).2 ≠ 0) : (rd l).1 = (⟨#[]⟩, ⟨#[]⟩) := by
  match l with
  | [] => rfl
  | [_] => rfl
  | [a, b] =>
    rw [rd_two] at h ⊢
    by_cases h1 : nm a.data.toList ≠ 0
    · rw [if_pos h1]
    · rw [if_neg h1] at h ⊢
      by_cases h2 : nm b.data.toList ≠ 0
      · rw [if_pos h2]
      · rw [if_neg h2] at h ⊢
        by_cases h3 : a = b
        · rw [if_pos h3]
        · rw [if_neg h3] at h; exact absurd rfl h
  | _ :: _ :: _ :: _ => rfl
end Lk
set_option maxHeartbeats 1000000 in
set_option maxRecDepth 100000 in
theorem lread_any (v : Value) (l : List ByteArray) (w : World) (S : StS w v l) (hl : l.length ≤ 1000000) (hz : ∀ y ∈ l, y.size ≤ maxLen) :
    Calls Try.prog 34 #[v] w fun e w' => e = .returned (.tuple #[.agg #[.string (Lk.rd l).1.1, .string (Lk.rd l).1.2], .int .i64 (Lk.rd l).2]) ∧ Below w.heap.size w w' := by
  have C : ∀ p W, W.cell? ⟨p, 0, none⟩ = some v → StS W v l → Calls Try.prog 65 #[.pointer (some ⟨p, 0, none⟩)] W fun e w' => Below W.heap.size W w' ∧ (((Lk.rd l).2 = 0 ∧ e = .returned (.agg #[.string (Lk.rd l).1.1, .string (Lk.rd l).1.2])) ∨ ((Lk.rd l).2 ≠ 0 ∧ e = .panicked (gvP (Lk.rd l).2))) := fun p W hc hS => by
    by_cases h : l.length < 2 ∨ (2 < l.length ∧ l.length ≤ 1000000)
    · exact (read1_other p v l W hc hS h).mono fun e w' ⟨h1, h2, h3⟩ => ⟨h1, .inr ⟨h2, h3⟩⟩
    · match l, h, hl, hz, hS with
      | [a, b], _, _, hz, hS => exact read1_two p v a b W hc hS (hz a (by simp)) (hz b (by simp))
      | [], h, _, _, _ => exact absurd (Or.inl (by simp)) h
      | [_], h, _, _, _ => exact absurd (Or.inl (by simp)) h
      | _ :: _ :: _ :: _, h, hl, _, _ => exact absurd (Or.inr ⟨by simp, hl⟩) h
  have C := Lib.hid C
  have hno := Lk.rd_no l
  have HS := Lib.hid S
  have hv : ∃ A n c, v = .slice A n c := by obtain ⟨A, c, rfl, -⟩ := S; exact ⟨A, _, c, rfl⟩
  obtain ⟨A, n, c, rfl⟩ := hv
  clear S hz hl
  generalize Lk.rd l = R at C hno ⊢
  obtain ⟨⟨x, y⟩, why⟩ := R
  by_cases h0 : why = 0
  · subst h0
    have T := Lib.hid (fun b W (hc : W.cell? ⟨b, 0, none⟩ = some (.slice A n c)) (hS : StS W (.slice A n c) l) => lcaught_yes 65 #[.pointer (some ⟨b, 0, none⟩)] (lk_callFn _) x y W (Lib.hid fun W' hB => (C.out b W' (fd_keep hc hB) (hS.on hB)).mono (by
      rintro e w' ⟨h1, ⟨-, h2⟩ | ⟨h2, -⟩⟩
      · exact ⟨h2, h1⟩
      · exact absurd rfl h2)))
    clear C hno
    go_enter Try.func34, Try.ntmps34
    go_wp2_with fail
    have b0 : Below w.heap.size w ((w.alloc (.cells #[.slice A n c] 37)).alloc (.cells #[.string ⟨#[]⟩, .string ⟨#[]⟩] 47)) := ((Below.refl _ _).alloc (Nat.le_refl _) _).alloc (by simp) _
    refine (T.out w.heap.size _ (by simp [go_sem]) (HS.out.on b0)).mono ?_; rintro e w1 ⟨rfl, b1⟩
    have B1 := Lib.hid (below_step b0 b1)
    have Q1 : Bk2 w1 (w.heap.size + 1) (.string ⟨#[]⟩) (.string ⟨#[]⟩) := Bk2.of b1 (by simp) (by intro j; simp [go_sem]) (by simp [go_sem]) (by simp [go_sem])
    have c_b := Q1.hb; have c_f := Q1.fz; have c_0 := Q1.k0; have c_1 := Q1.k1
    clear b1 Q1 b0
    go_wp2_with fail
    refine bodyPost_ret (v := .tuple #[.agg #[.string x, .string y], .int .i64 0]) (by simp [results, Try.results34, go_sem, c_b, c_f, c_0, c_1]) rfl ?_
    refine ⟨rfl, ?_⟩
    repeat (refine Below.setCell ?_ (by first | omega | (simp; done) | (simp; omega)) _)
    exact B1.out
  · have hxy := hno h0
    injection hxy with hx hy
    subst hx; subst hy
    have T := Lib.hid (fun b W (hc : W.cell? ⟨b, 0, none⟩ = some (.slice A n c)) (hS : StS W (.slice A n c) l) => lcaught_no 65 #[.pointer (some ⟨b, 0, none⟩)] (lk_callFn _) 0 why W (Lib.hid fun W' hB => (C.out b W' (fd_keep hc hB) (hS.on hB)).mono (by
      rintro e w' ⟨h1, ⟨h2, -⟩ | ⟨-, h2⟩⟩
      · exact absurd h2 h0
      · exact ⟨h2, h1⟩)))
    clear C hno
    go_enter Try.func34, Try.ntmps34
    go_wp2_with fail
    have b0 : Below w.heap.size w ((w.alloc (.cells #[.slice A n c] 37)).alloc (.cells #[.string ⟨#[]⟩, .string ⟨#[]⟩] 47)) := ((Below.refl _ _).alloc (Nat.le_refl _) _).alloc (by simp) _
    refine (T.out w.heap.size _ (by simp [go_sem]) (HS.out.on b0)).mono ?_; rintro e w1 ⟨rfl, b1⟩
    have B1 := Lib.hid (below_step b0 b1)
    have Q1 : Bk2 w1 (w.heap.size + 1) (.string ⟨#[]⟩) (.string ⟨#[]⟩) := Bk2.of b1 (by simp) (by intro j; simp [go_sem]) (by simp [go_sem]) (by simp [go_sem])
    have c_b := Q1.hb; have c_f := Q1.fz; have c_0 := Q1.k0; have c_1 := Q1.k1
    clear b1 Q1 b0
    go_wp2_with fail
    refine bodyPost_ret (v := .tuple #[.agg #[.string ⟨#[]⟩, .string ⟨#[]⟩], .int .i64 why]) (by simp [results, Try.results34, go_sem, c_b, c_f, c_0, c_1]) rfl ?_
    refine ⟨rfl, ?_⟩
    repeat (refine Below.setCell ?_ (by first | omega | (simp; done) | (simp; omega)) _)
    exact B1.out
end Go.Proofs.Ytndophkojnfcaaa

