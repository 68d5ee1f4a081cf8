/- Infos: SeamEither's walk. -/
import Derived.Test.YtmnmmbeageddkaaIfV
set_option linter.unusedVariables false
set_option linter.unusedSimpArgs false
namespace Go.Proofs.Ytmnmmbeageddkaa
open Go.RowKit Go.Sort Go.Shelf

theorem inv_take {w : World} {A : Option Addr} {n c : Nat} {l : List If.I} (k : Nat) (hk : k ≤ l.length) (h : InV w (.slice A n c) l) (c' : Nat) : InV w (.slice A k c') (l.take k) := by
  obtain ⟨B, d, hv, ha⟩ := h
  cases hv
  have hl : (l.take k).length = k := by rw [List.length_take]; omega
  refine ⟨A, c', by rw [hl], fun h0 => ?_⟩
  obtain ⟨a, e, h1, h2⟩ := ha (by omega)
  refine ⟨a, e, h1, fun j u hu => h2 j u ?_⟩
  have hj := (List.getElem?_eq_some_iff.1 hu).1
  rw [If.ifc_len, hl] at hj
  rw [ifc_at' _ j (by rw [hl]; exact hj)] at hu
  rw [ifc_at' l j (by omega), ← hu, List.getElem_take]
/-- What two lists become: a number, and a list. -/
def MgR (a b : List If.I) (q : Int) (l : List If.I) : Prop :=
  ((If.so none a && If.so none b) = false ∧ q = 4 ∧ l = []) ∨
    ((If.so none a && If.so none b) = true ∧ ∃ d : List If.I, d.Perm (a ++ b) ∧ If.Ord d ∧ ((If.so none (If.dd d) = false ∧ q = 21 ∧ l = []) ∨ (If.so none (If.dd d) = true ∧ q = 0 ∧ l = If.dd d)))
theorem mg_res {a b : List If.I} {w w' : World} {e : Ending} (A : AnsMg a b w e w') :
    Below w.heap.size w w' ∧ ∃ (q : Int) (u : Option Addr × Nat) (l : List If.I), e = .returned (.tuple #[.slice u.1 l.length u.2, .int .i64 q]) ∧ InV w' (.slice u.1 l.length u.2) l ∧ MgR a b q l := by
  obtain ⟨k, ⟨h1, rfl⟩ | ⟨h1, d, hp, ho, ⟨h2, rfl⟩ | ⟨h2, v, rfl, hv⟩⟩⟩ := A
  · exact ⟨k, 4, (none, 0), [], rfl, InV.nil _, .inl ⟨h1, rfl, rfl⟩⟩
  · exact ⟨k, 21, (none, 0), [], rfl, InV.nil _, .inr ⟨h1, d, hp, ho, .inl ⟨h2, rfl, rfl⟩⟩⟩
  · obtain ⟨u, rfl, hu⟩ := hv.form
    exact ⟨k, 0, u, If.dd d, rfl, hu, .inr ⟨h1, d, hp, ho, .inr ⟨h2, rfl, rfl⟩⟩⟩
theorem mgr_comm {a b l l' : List If.I} {q q' : Int} (h : MgR a b q l) (k : MgR b a q' l') : q' = q ∧ l' = l := by
  rcases h with ⟨h1, rfl, rfl⟩ | ⟨h1, d, hp, ho, h2⟩
  · rcases k with ⟨k1, rfl, rfl⟩ | ⟨k1, _⟩
    · exact ⟨rfl, rfl⟩
    · rw [Bool.and_comm, h1] at k1; cases k1
  · rcases k with ⟨k1, _⟩ | ⟨k1, d', kp, ko, k2⟩
    · rw [Bool.and_comm, h1] at k1; cases k1
    · obtain ⟨e1, e2⟩ := If.dd_both (d := d) (d' := d') (fun x => by rw [hp.mem_iff, kp.mem_iff, List.mem_append, List.mem_append]; exact Or.comm) ho ko
      rcases h2 with ⟨h2, rfl, rfl⟩ | ⟨h2, rfl, rfl⟩ <;> rcases k2 with ⟨k2, rfl, rfl⟩ | ⟨k2, rfl, rfl⟩
      · exact ⟨rfl, rfl⟩
      · rw [h2, k2] at e1; cases e1
      · rw [h2, k2] at e1; cases e1
      · exact ⟨rfl, (e2 h2).symm⟩
theorem mgr_len {a b l : List If.I} {q : Int} (h : MgR a b q l) : l.length ≤ a.length + b.length := by
  rcases h with ⟨_, _, rfl⟩ | ⟨_, d, hp, _, ⟨_, _, rfl⟩ | ⟨_, _, rfl⟩⟩
  · exact Nat.zero_le _
  · exact Nat.zero_le _
  · have := dd_len d; have := hp.length_eq; rw [List.length_append] at this; omega
theorem mgr_form {a b l : List If.I} {q : Int} (ha : If.so none a = false) (h : MgR a b q l) : q = 4 := by
  rcases h with ⟨_, e, _⟩ | ⟨h1, _⟩
  · exact e
  · rw [ha] at h1; cases h1
theorem mgr_own {a b m l : List If.I} {q : Int} (ha : If.so none a = true) (hb : If.so none b = true) (hm : If.so none m = true) (hx : ∀ x, (x ∈ a ∨ x ∈ b) ↔ x ∈ m) (h : MgR a b q l) : q = 0 ∧ l = m := by
  rcases h with ⟨h1, _⟩ | ⟨_, d, hp, ho, h2⟩
  · rw [ha, hb] at h1; cases h1
  · have e := If.dd_own hm (d := d) (fun x => by rw [hp.mem_iff, List.mem_append]; exact hx x) ho
    rw [e] at h2
    rcases h2 with ⟨h2, _⟩ | ⟨_, h3, h4⟩
    · rw [hm] at h2; cases h2
    · exact ⟨h3, h4⟩
set_option maxRecDepth 100000 in
set_option maxHeartbeats 8000000 in
theorem seam_either (va vb : Value) (a b : List If.I) (n : Int) (w : World) (h : InV w va a) (k : InV w vb b) (hc : Cap va) :
    Calls Try.prog 7 #[va, vb, .int .i64 n] w fun e w' => e = .returned (.bool true) ∧ Below w.heap.size w w' := by
  obtain ⟨A, c, rfl, -⟩ := id h
  obtain ⟨B, d, rfl, -⟩ := id k
  have H := Lib.hid h; have K := Lib.hid k
  have HC := Lib.hid (hc A _ c rfl)
  clear h k hc
  go_enter Try.func7, Try.ntmps7
  go_wp2_with fail
  refine (lives39 _).mono ?_
  rintro e w1 ⟨rfl, b1⟩
  have H1 := Lib.hid (H.out.on b1); have K1 := Lib.hid (K.out.on b1)
  have B1 := Lib.hid b1
  clear b1 H K
  by_cases ha : (40 : Int) < a.length
  · go_wp2
    go_ret
    exact ⟨rfl, B1.out⟩
  · by_cases hb : (40 : Int) < b.length
    · go_wp2
      go_ret
      exact ⟨rfl, B1.out⟩
    · by_cases h0 : n < 0
      · go_wp2
        go_ret
        exact ⟨rfl, B1.out⟩
      · by_cases h1 : (a.length : Int) < n
        · go_wp2
          go_ret
          exact ⟨rfl, B1.out⟩
        · have HA := Lib.hid (show a.length ≤ 40 by omega)
          have HB := Lib.hid (show b.length ≤ 40 by omega)
          obtain ⟨m, rfl⟩ : ∃ m : Nat, n = m := ⟨n.toNat, by omega⟩
          have HM := Lib.hid (show m ≤ a.length by omega)
          go_wp2_with fail
          refine (seam_merge _ _ _ _ _ H1.out K1.out (by have := HA.out; omega) (by have := HB.out; omega)).mono ?_
          intro e w2 h2
          obtain ⟨b2, q, ⟨X, cx⟩, l, rfl, i2, r2⟩ := mg_res h2
          have H2 := Lib.hid (H1.out.on b2); have K2 := Lib.hid (K1.out.on b2); have I2 := Lib.hid i2; have R2 := Lib.hid r2
          have B2 := Lib.hid (below_step B1.out b2)
          clear H1 K1 B1 b2 h2 i2 r2
          go_wp2_with fail
          refine (seam_merge _ _ _ _ _ K2.out H2.out (by have := HB.out; omega) (by have := HA.out; omega)).mono ?_
          intro e w3 h3
          obtain ⟨b3, q', ⟨Y, cy⟩, l', rfl, i3, r3⟩ := mg_res h3
          obtain ⟨eq1, el1⟩ := mgr_comm R2.out r3
          subst eq1; subst el1
          have H3 := Lib.hid (H2.out.on b3); have I3 := Lib.hid (I2.out.on b3); have J3 := Lib.hid i3
          have B3 := Lib.hid (below_step B2.out b3)
          clear H2 K2 B2 b3 h3 i3 r3 I2
          go_wp2_with fail
          refine (if_same _ _ l' _ I3.out J3.out (by have := mgr_len R2.out; have := HA.out; have := HB.out; omega)).mono ?_
          rintro e w4 ⟨rfl, n4, hw4⟩
          have b4 : Below w3.heap.size w3 w4 := by rw [hw4]; exact below_draw _ _
          have H4 := Lib.hid (H3.out.on b4)
          have B4 := Lib.hid (below_step B3.out b4)
          clear hw4 b4 H3 I3 J3 B3
          go_wp2_with fail
          refine (seam_sound _ _ _ H4.out (by have := HA.out; omega)).mono ?_
          rintro e w5 ⟨rfl, b5⟩
          have H5 := Lib.hid (H4.out.on b5)
          have B5 := Lib.hid (below_step B4.out b5)
          clear b5 H4 B4
          rcases hsa : If.so none a with _ | _
          · obtain rfl := mgr_form hsa R2.out
            go_wp2
            go_ret
            exact ⟨rfl, B5.out⟩
          · have SA := Lib.hid hsa
            clear hsa R2
            go_wp2_with fail
            refine (seam_merge _ _ _ _ _ H5.out H5.out (by have := HA.out; omega) (by have := HA.out; omega)).mono ?_
            intro e w6 h6
            obtain ⟨b6, q6, ⟨X6, c6⟩, l6, rfl, i6, r6⟩ := mg_res h6
            obtain ⟨rfl, e6⟩ := mgr_own SA.out SA.out SA.out (fun x => or_self_iff) r6
            obtain rfl := e6.symm
            have H6 := Lib.hid (H5.out.on b6); have I6 := Lib.hid i6
            have B6 := Lib.hid (below_step B5.out b6)
            clear b6 h6 i6 r6 H5 B5
            go_wp2_with fail
            refine (seam_merge _ _ _ _ _ H6.out (InV.nil _) (by have := HA.out; omega) (by decide)).mono ?_
            intro e w7 h7
            obtain ⟨b7, q7, ⟨X7, c7⟩, l7, rfl, i7, r7⟩ := mg_res h7
            obtain ⟨rfl, e7⟩ := mgr_own SA.out rfl SA.out (fun x => by simp) r7
            obtain rfl := e7.symm
            have H7 := Lib.hid (H6.out.on b7); have I7 := Lib.hid (I6.out.on b7); have J7 := Lib.hid i7
            have B7 := Lib.hid (below_step B6.out b7)
            clear b7 h7 i7 r7 H6 I6 B6
            have mc : (m : Int) ≤ c := by have := HM.out; have := HC.out; omega
            go_wp2_with fail
            refine (seam_merge _ _ _ _ _ (inv_take m HM.out H7.out c) H7.out (by rw [List.length_take]; have := HA.out; omega) (by have := HA.out; omega)).mono ?_
            intro e w8 h8
            obtain ⟨b8, q8, ⟨X8, c8⟩, l8, rfl, i8, r8⟩ := mg_res h8
            obtain ⟨rfl, e8⟩ := mgr_own (If.so_take none a m SA.out) SA.out SA.out (fun x => ⟨fun h => h.elim List.mem_of_mem_take id, .inr⟩) r8
            obtain rfl := e8.symm
            have H8 := Lib.hid (H7.out.on b8); have I8 := Lib.hid (I7.out.on b8); have J8 := Lib.hid (J7.out.on b8); have L8 := Lib.hid i8
            have B8 := Lib.hid (below_step B7.out b8)
            clear b8 h8 i8 r8 H7 I7 J7 B7
            have LA := Lib.hid (show a.length ≤ 100000 by have := HA.out; omega)
            go_wp2_with fail
            refine (if_same _ _ a _ I8.out H8.out LA.out).mono ?_
            rintro e w9 ⟨rfl, n9, hw9⟩
            have b9 : Below w8.heap.size w8 w9 := by rw [hw9]; exact below_draw _ _
            have H9 := Lib.hid (H8.out.on b9); have J9 := Lib.hid (J8.out.on b9); have L9 := Lib.hid (L8.out.on b9)
            have B9 := Lib.hid (below_step B8.out b9)
            clear hw9 b9 H8 I8 J8 L8 B8
            go_wp2_with fail
            refine (if_same _ _ a _ J9.out H9.out LA.out).mono ?_
            rintro e wa ⟨rfl, na, hwa⟩
            have ba : Below w9.heap.size w9 wa := by rw [hwa]; exact below_draw _ _
            have Ha := Lib.hid (H9.out.on ba); have La := Lib.hid (L9.out.on ba)
            have Ba := Lib.hid (below_step B9.out ba)
            clear hwa ba H9 J9 L9 B9
            go_wp2_with fail
            refine (if_same _ _ a _ La.out Ha.out LA.out).mono ?_
            rintro e wb ⟨rfl, nb, hwb⟩
            have bb : Below wa.heap.size wa wb := by rw [hwb]; exact below_draw _ _
            have Bb := Lib.hid (below_step Ba.out bb)
            clear hwb bb Ha La Ba
            go_wp2
            go_ret
            exact ⟨rfl, Bb.out⟩
theorem seamEither_any (va : Value) (a : List If.I) (vb : Value) (b : List If.I) (n : Int) (w : World) (h : InV w va a) (hc : Cap va) (k : InV w vb b) (hd : Cap vb) :
    Calls Try.prog 7 #[va, vb, .int .i64 n] w fun e w' => e = .returned (.bool true) ∧ Below w.heap.size w w' :=
  seam_either va vb a b n w h k hc
end Go.Proofs.Ytmnmmbeageddkaa
