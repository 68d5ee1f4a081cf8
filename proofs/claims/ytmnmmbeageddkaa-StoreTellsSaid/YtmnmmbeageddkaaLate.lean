/- A region that draws its order, and one of whose operations waits for all that are taken first: S need not hold behind that one. -/
import Derived.Deep.RegionHeld3
set_option linter.unusedVariables false
namespace Go.Proofs.Ytmnmmbeageddkaa

section
variable {P : Program} {ops : Array Oper} {Q : Exit → Act → World → Prop} {md : Region.Mode} {S : World → Prop} {z : Nat}

/-- In whatever order: S holds behind all but number z. -/
def anyL (P : Program) (md : Region.Mode) (ops : Array Oper) (Q : Exit → Act → World → Prop) (S : World → Prop) (z : Nat) : Nat → Array Bool → Act → World → Prop
  | 0, d, a, w => Region.ready md ops d = [] ∧ Q .normal a w
  | f + 1, d, a, w => (Region.ready md ops d = [] → Q .normal a w) ∧
      ∀ i ∈ Region.ready md ops d, wpOp P ops Q i (fun a' w' => (i ≠ z → S w') ∧ anyL P md ops Q S z f (d.setIfInBounds i true) a' w') a w

theorem anyL_any : ∀ (f : Nat) (d : Array Bool) (a : Act) (w : World), anyL P md ops Q S z f d a w → wpAny P md ops Q f d a w
  | 0, _, _, _, h => h
  | f + 1, _, _, _, h => ⟨h.1, fun i hi => wpOp_mono (fun a' w' h' => anyL_any f _ a' w' h'.2) (h.2 i hi)⟩

/-- All of D but i wait for another one of D. -/
def waits (md : Region.Mode) (ops : Array Oper) (i : Nat) (D : List Nat) : Bool :=
  D.all fun j => j == i || match ops[j]? with
    | some o => o.after.any fun e => Region.binds md e && D.contains e.on
    | none => false
theorem waits_not {i : Nat} {D : List Nat} (hw : waits md ops i D = true) {d : Array Bool} (hd : ∀ k ∈ D, d.getD k false = false) {j : Nat} (hj : j ∈ Region.ready md ops d) (hne : j ≠ i) : j ∉ D := by
  intro hm
  have h1 := List.all_eq_true.1 hw j hm
  obtain ⟨_, o, ho, hall⟩ := mem_ready.1 hj
  simp only [ho, Bool.or_eq_true, beq_iff_eq, hne, false_or, Array.any_eq_true', Bool.and_eq_true, List.contains_iff_mem] at h1
  obtain ⟨e, he, hb, hin⟩ := h1
  have h2 := hall e he hb
  rw [hd _ hin] at h2
  cases h2

theorem anyL_first {i : Nat} {oi : Oper} {v : Value} (hi : ops[i]? = some oi) (hsel : ∀ (j : Nat) (o : Oper) cs b, ops[j]? = some o → o.op ≠ .select cs b)
    (hQ : ∀ c a w, Q (.panic c) (a.put oi.dst v) w → Q (.panic c) a w) (D : List Nat) (hw : waits md ops i D = true) (hz : z ∈ D) :
    ∀ (f : Nat) (d : Array Bool) (a : Act) (w : World),
      (∀ j oj, ops[j]? = some oj → j ≠ i → d.getD j true = false → (∀ e ∈ oj.after, Region.binds md e = true → e.on ≠ i) → oi.apart ops oj = true) →
      (∀ k ∈ D, d.getD k false = false) → i ∈ Region.ready md ops d → YieldsIf P ops S oi v a → S w →
      anyL P md ops Q S z f (d.setIfInBounds i true) (a.put oi.dst v) w → anyL P md ops Q S z (f + 1) d a w := by
  intro f
  induction f with
  | zero =>
    intro d a w _ _ hr hy hS H
    refine ⟨fun h => (by rw [h] at hr; cases hr), fun j hj => ?_⟩
    by_cases e : j = i
    · subst e; exact hy.wpOp hi hS ⟨fun _ => hS, H⟩
    · have h0 := ready_mono hj e
      rw [H.1] at h0
      cases h0
  | succ f ih =>
    intro d a w hfree hd hr hy hS H
    refine ⟨fun h => (by rw [h] at hr; cases hr), fun j hj => ?_⟩
    by_cases e : j = i
    · subst e; exact hy.wpOp hi hS ⟨fun _ => hS, H⟩
    · have hjD := waits_not hw hd hj e
      have hjz : j ≠ z := fun h => hjD (h ▸ hz)
      obtain ⟨hun, oj, hoj, hall⟩ := mem_ready.1 hj
      have hnot : ∀ x ∈ oj.after, Region.binds md x = true → x.on ≠ i := fun x hx hb hq => by
        have h1 := hall x hx hb
        have h0 := (mem_ready.1 hr).1
        rw [hq] at h1
        rcases Nat.lt_or_ge i d.size with h' | h'
        · simp [h'] at h0 h1; rw [h0] at h1; cases h1
        · simp [Array.getElem?_eq_none h'] at h1
      have h2 := wpOp_putIf hoj (hfree j oj hoj e hun hnot) (fun cs b => hsel i oi cs b hi) (fun cs b => hsel j oj cs b hoj) hQ hy (H.2 j (ready_mono hj e))
      refine wpOp_mono (fun a' w' h3 => ⟨fun _ => h3.2.1 hjz, ih (d.setIfInBounds j true) a' w' (fun k ok hk hki hu hno => hfree k ok hk hki ?_ hno) (fun k hk => ?_) (ready_mono hr (Ne.symm e)) h3.1 (h3.2.1 hjz) ?_⟩) h2
      · by_cases hjk : j = k
        · subst hjk; exact hun
        · rwa [getD_set_ne true hjk] at hu
      · rw [getD_set_ne false (show j ≠ k from fun h => hjD (h ▸ hk))]; exact hd k hk
      · rw [Array.setIfInBounds_comm _ _ e]; exact h3.2.2

/-- Take number i first. -/
theorem anyL_take {i : Nat} {oi : Oper} {v : Value} {f : Nat} {d : Array Bool} {a : Act} {w : World} (D : List Nat) (hi : ops.toList[i]? = some oi) (hs : Region.noSelect ops = true)
    (hf : Region.free md ops d i = true) (hr : (Region.ready md ops d).contains i = true) (hw : (waits md ops i D && D.contains z && D.all fun k => !d.getD k false) = true)
    (hQ : ∀ c a w, Q (.panic c) (a.put oi.dst v) w → Q (.panic c) a w) (hS : S w) (hy : YieldsIf P ops S oi v a)
    (h : anyL P md ops Q S z f (d.setIfInBounds i true) (a.put oi.dst v) w) : anyL P md ops Q S z (f + 1) d a w := by
  simp only [Bool.and_eq_true, List.contains_iff_mem, List.all_eq_true, Bool.not_eq_true'] at hw
  have hi' : ops[i]? = some oi := by rwa [Array.getElem?_toList] at hi
  exact anyL_first hi' (Region.noSelect_spec hs) hQ D hw.1.1 hw.1.2 f d a w (Region.free_spec hi' hf) hw.2 (by simpa using hr) hy hS h

/-- Number i comes up next: a way back is handed over. -/
theorem anyL_step {i f : Nat} {o : Oper} {d : Array Bool} {a : Act} {w : World} (ho : ops.toList[i]? = some o)
    (h : ∀ K' : Act → World → Prop, Shut (∀ a w, (i ≠ z → S w) → anyL P md ops Q S z f (d.setIfInBounds i true) a w → K' a w) → if Region.wanted o (yielded ops a.tmps) = true then Oper.wp P o a w K' Q else K' (a.put o.dst undef) w) :
    wpOp P ops Q i (fun a' w' => (i ≠ z → S w') ∧ anyL P md ops Q S z f (d.setIfInBounds i true) a' w') a w := by
  have ho' : ops[i]? = some o := by rwa [Array.getElem?_toList] at ho
  exact wpOp_step ho' (fun K' hK => h K' (fun a w hS hW => hK a w ⟨hS, hW⟩))
theorem anyL_one {i f : Nat} {d : Array Bool} {a : Act} {w : World} (hr : Region.ready md ops d = [i])
    (h : wpOp P ops Q i (fun a' w' => (i ≠ z → S w') ∧ anyL P md ops Q S z f (d.setIfInBounds i true) a' w') a w) : anyL P md ops Q S z (f + 1) d a w :=
  ⟨fun h0 => (by rw [h0] at hr; cases hr), fun j hj => by rw [hr] at hj; cases List.mem_singleton.1 hj; exact h⟩
theorem anyL_two {i j f : Nat} {d : Array Bool} {a : Act} {w : World} (hr : Region.ready md ops d = [i, j])
    (h : wpOp P ops Q i (fun a' w' => (i ≠ z → S w') ∧ anyL P md ops Q S z f (d.setIfInBounds i true) a' w') a w)
    (h' : wpOp P ops Q j (fun a' w' => (j ≠ z → S w') ∧ anyL P md ops Q S z f (d.setIfInBounds j true) a' w') a w) : anyL P md ops Q S z (f + 1) d a w :=
  ⟨fun h0 => (by rw [h0] at hr; cases hr), fun k hk => by
    rw [hr] at hk
    rcases List.mem_cons.1 hk with rfl | hk
    · exact h
    · cases List.mem_singleton.1 hk; exact h'⟩
theorem anyL_done {d : Array Bool} {a : Act} {w : World} (hr : Region.ready md ops d = []) (h : Q .normal a w) : ∀ f, anyL P md ops Q S z f d a w
  | 0 => ⟨hr, h⟩
  | _ + 1 => ⟨fun _ => h, by rw [hr]; simp⟩
/-- The beginning: from the world behind the draw. -/
theorem wp_region_late {id : Nat} {a : Act} {w : World} (S : World → Prop) (z : Nat) (hm : P.follows .mixedOrders = true)
    (h : anyL P .any ops Q S z ops.size (Array.replicate ops.size false) a w.drew) : (Code.region id ops true).wp P Q a w :=
  wp_region_any hm (anyL_any _ _ _ _ h)
end
end Go.Proofs.Ytmnmmbeageddkaa
