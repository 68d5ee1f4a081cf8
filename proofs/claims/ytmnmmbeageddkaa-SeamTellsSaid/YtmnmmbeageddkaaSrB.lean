/- The reference's sets: the contracts of Of, Or, Find. -/
import Derived.Test.YtmnmmbeageddkaaSrA
set_option linter.unusedVariables false
set_option linter.unusedSimpArgs false
namespace Go.Proofs.Ytmnmmbeageddkaa
open Go.RowKit Go.Sort Go.Shelf

namespace Ss
theorem rof_drop (l : List S) (out : List S) (k : Nat) (h : k < l.length) : rof out (l.drop k) = rof (pt out l[k]) (l.drop (k + 1)) := by
  rw [List.drop_eq_getElem_cons h]; rfl
theorem pt_len (l : List S) (s : S) : (pt l s).length ≤ 2 * l.length + 1 := by
  unfold pt
  split
  · have h := p2_len (p1 l s []).1.2 l ((p1 l s []).2 ++ [(p1 l s []).1])
    have e : ∀ (l : List S) (s : S) (out : List S), (p1 l s out).2.length ≤ out.length + l.length := by
      intro l
      induction l with
      | nil => intro s out; simp [p1]
      | cons x l ih =>
        intro s out
        rw [p1]
        split
        · have := ih (min x.1 s.1, max x.2 s.2) out; simp; omega
        · split
          · have := ih s (out ++ [x]); simp at *; omega
          · have := ih s out; simp; omega
    have := e l s []
    simp at *
    omega
  · omega
/-- A set that lies in the seconds of a list has no more spans than that list: each right one's end is an end of one there. -/
theorem rs_len {l k : List S} (h : Rs l) (hi : ∀ t, inl l t = inl k t) : l.length ≤ k.length := by
  have hend : ∀ s ∈ l, ∃ x ∈ k, x.2 = s.2 := by
    intro s hs
    have h0 := h.2 s hs
    have a1 : inl k (s.2 - 1) = true := by rw [← hi]; exact inl_mem hs (by omega) (by omega)
    obtain ⟨x, hx, b1, b2⟩ := inl_lt a1
    refine ⟨x, hx, ?_⟩
    rcases Int.lt_or_eq_of_le (show s.2 ≤ x.2 by omega) with g | g
    · have : inl k s.2 = true := inl_mem hx (by omega) g
      rw [← hi] at this
      obtain ⟨v, hv, c1, c2⟩ := inl_lt this
      exfalso
      have key : ∀ l : List S, Rs l → s ∈ l → v ∈ l → v.1 ≤ s.2 → s.2 < v.2 → s.1 < s.2 → False := by
        intro l hl
        induction l with
        | nil => intro hs; cases hs
        | cons y l ih =>
          intro hs hv c1 c2 h0
          obtain ⟨p1, p2⟩ := List.pairwise_cons.1 hl.1
          have hr : Rs l := ⟨p2, fun s hs => hl.2 s (List.mem_cons_of_mem _ hs)⟩
          rcases List.mem_cons.1 hs with rfl | hs' <;> rcases List.mem_cons.1 hv with rfl | hv'
          · omega
          · have := p1 v hv'; omega
          · have := p1 s hs'; omega
          · exact ih hr hs' hv' c1 c2 h0
      exact key l h hs hv c1 c2 h0
    · exact g.symm
  have hnd : (l.map (·.2)).Nodup := by
    refine List.pairwise_map.2 ?_
    have : ∀ l : List S, Rs l → l.Pairwise fun x y => x.2 ≠ y.2 := by
      intro l hl
      induction l with
      | nil => exact List.Pairwise.nil
      | cons y l ih =>
        obtain ⟨p1, p2⟩ := List.pairwise_cons.1 hl.1
        refine List.pairwise_cons.2 ⟨fun x hx => ?_, ih ⟨p2, fun s hs => hl.2 s (List.mem_cons_of_mem _ hs)⟩⟩
        have := p1 x hx
        have := hl.2 x (List.mem_cons_of_mem _ hx)
        omega
    exact this l h
  have hsub : ∀ e ∈ l.map (·.2), e ∈ k.map (·.2) := by
    intro e he
    obtain ⟨s, hs, rfl⟩ := List.mem_map.1 he
    obtain ⟨x, hx, e2⟩ := hend s hs
    exact List.mem_map.2 ⟨x, hx, e2⟩
  have key : ∀ (a b : List Int), a.Nodup → (∀ e ∈ a, e ∈ b) → a.length ≤ b.length := by
    intro a
    induction a with
    | nil => intro b _ _; simp
    | cons x a ih =>
      intro b hn hs
      obtain ⟨n1, n2⟩ := List.nodup_cons.1 hn
      have hx := hs x (List.mem_cons_self ..)
      have := ih (b.erase x) n2 (fun e he => (List.mem_erase_of_ne (show e ≠ x from fun h => n1 (by rw [← h]; exact he))).2 (hs e (List.mem_cons_of_mem _ he)))
      rw [List.length_erase_of_mem hx] at this
      have : 0 < b.length := List.length_pos_of_mem hx
      simp; omega
  have := key _ _ hnd hsub
  simpa using this
theorem rof_len (l : List S) : (rof [] l).length ≤ l.length := rs_len (rof_nil l).1 (rof_nil l).2
end Ss
set_option maxRecDepth 100000 in
set_option maxHeartbeats 4000000 in
theorem rof_any (va : Value) (l : List Ss.S) (w : World) (h : SpV w va l) (hm : l.length ≤ 100000) :
    Calls Try.prog 56 #[va] w (AnsS (Ss.rof [] l) w) := by
  have HV := Lib.hid h
  obtain ⟨A, c, rfl, -⟩ := id h
  obtain ⟨n, hn⟩ : ∃ n, l.length = n := ⟨_, rfl⟩
  rw [hn] at hm HV ⊢
  have HN := Lib.hid hn
  obtain ⟨P, hP⟩ : ∃ P, Ss.rof [] l = P := ⟨_, rfl⟩
  rw [hP]
  have HP := Lib.hid hP
  clear h hn hP
  go_enter Try.func56, Try.ntmps56
  go_wp2
  go_loopw [3, 8] (fun u i wr => ∃ (k : Nat) (ou : List Ss.S), k ≤ n ∧ i = .int .i64 k ∧ Hid (ou = Ss.rof [] (l.take k)) ∧ Hid (Ss.rof ou (l.drop k) = P) ∧ Hid (SpV wr u ou) ∧ Hid (Below w.heap.size w wr)) (fun _ i _ => n - (intOf i).toNat)
  case atStart => exact ⟨0, [], Nat.zero_le _, rfl, Lib.hid rfl, HP, Lib.hid (Lst.nil _ _), Lib.hid (Below.refl _ _)⟩
  case round =>
    rename World => w2
    obtain ⟨k, ou, hk, rfl, T, E, O, B⟩ := hrel
    by_cases hlt : k < n
    · have hkl : k < l.length := by rw [HN.out]; exact hlt
      obtain ⟨ad, rfl, hab, g1, g2⟩ := (HV.out.on B.out).get k hkl
      have EQ := Lib.hid ((Ss.rof_drop l ou k hkl).symm.trans E.out)
      have HL := Lib.hid (show ou.length ≤ 100000 by have := Ss.rof_len (l.take k); rw [← T.out, List.length_take] at this; omega)
      have T2 := Lib.hid (show Ss.pt ou l[k] = Ss.rof [] (l.take (k + 1)) by
        rw [T.out]
        have e : ∀ (a : List Ss.S) (o : List Ss.S) (x : Ss.S), Ss.rof o (a ++ [x]) = Ss.pt (Ss.rof o a) x := by
          intro a; induction a with
          | nil => intro o x; rfl
          | cons y a ih => intro o x; exact ih _ x
        rw [List.take_succ_eq_append_getElem hkl, e])
      generalize hp : l[k] = p at *
      obtain ⟨x, y⟩ := p
      simp only at g1 g2
      clear hp E T
      have i1 : (k : Int) < n := by omega
      have bb : Below w2.heap.size w2 (w2.alloc (.cells #[.int .i64 x, .int .i64 y] 32)) := (Below.refl _ _).alloc (Nat.le_refl _) _
      have O2 := Lib.hid (O.out.on bb); have B2 := Lib.hid (below_step B.out bb)
      clear O B bb
      go_wp2_with fail
      refine (put_any _ ou x y _ O2.out HL.out).mono ?_
      rintro e w3 ⟨v3, s3, rfl, b3⟩
      have O3 := Lib.hid s3; have B3 := Lib.hid (below_step B2.out b3)
      clear s3 b3 O2 B2
      go_wp2
      go_roundw
      case rel => exact ⟨k + 1, _, by omega, by go_num, T2, EQ, O3, B3⟩
      case measure => simp [intOf]; omega
    · have E2 := Lib.hid (show ou = P by have := E.out; rw [List.drop_of_length_le (by rw [HN.out]; omega)] at this; exact this)
      obtain ⟨A2, c2, hv, -⟩ := id O.out
      subst hv
      go_wp2
      go_ret
      exact ⟨.slice A2 ou.length c2, E2.out ▸ O.out, rfl, B.out⟩
end Go.Proofs.Ytmnmmbeageddkaa
