/- A row of rules that grows out of an empty slice; and one that is added to. -/
import Derived.Test.YtjnhaabbnbcaeaaAwR
set_option linter.unusedVariables false
set_option linter.unusedSimpArgs false
namespace Go.Proofs.Ytjnhaabbnbcaeaa
open Go.RowKit Go.Sort
theorem aw_info : (Try.prog.info? 27).map (fun i => (i.zero, i.size, i.bytes)) = some (some (.agg #[.string ⟨#[]⟩, .int .i64 0, .int .i64 0, .int .i64 0, .int .i64 0, .int .i64 0, .int .i64 0, .int .i64 0, .int .i64 0, .int .i64 0, .string ⟨#[]⟩]), 11, 104) := by kernel_rfl
theorem aw_info_parts {i : Option TypeInfo} {z : Option Value} {s b : Nat} (h : i.map (fun i => (i.zero, i.size, i.bytes)) = some (z, s, b)) : ∃ j, i = some j ∧ j.zero = z ∧ j.size = s ∧ j.bytes = b := by
  cases i with
  | none => cases h
  | some j => simp at h; exact ⟨j, rfl, h.1, h.2.1, h.2.2⟩
theorem rcs_len (l : List Aw.R) : (Aw.rcs l).length = l.length * 11 := by
  induction l with
  | nil => rfl
  | cons r l ih => rw [Aw.rcs_cons, List.length_append, Aw.enc_len, ih]; simp; omega
theorem step_rules_grow {ops : Array Oper} {o : Oper} {a : Act} {w : World} {K : Act → World → Prop} {Q : Exit → Act → World → Prop} {E : Prop} (hg : o.guard = none) (s x : Operand)
    (ho : o.op = .call { callee := .builtin .append, args := #[s, x], argTypes := #[30, 30] })
    (base g : Nat) (hs : a.eval s = .slice (some ⟨g, 0, none⟩) 0 0) (ad : Addr) (m c : Nat) (l : List Aw.R) (hm : l.length = m) (h0 : 0 < m) (hx : a.eval x = .slice (some ad) m c)
    (hnews : ∀ j u, (Aw.rcs l)[j]? = some u → w.cell? (ad.add j) = some u) (h63 : m ≤ 1000000) (hbase : base ≤ w.heap.size)
    (h : ∀ v' w', w'.ownsRow base 27 11 v' m (Aw.rcs l) → Below w.heap.size w w' → K (a.put o.dst v') w') : if Region.wanted o (yielded ops a.tmps) = true then Oper.wp Try.prog o a w K Q else E := by
  rw [if_pos (by simp [Region.wanted, hg])]
  obtain ⟨i0, hi, hz0, hz1, hz2⟩ := aw_info_parts aw_info
  have hl : (Aw.rcs l).length = m * i0.size := by rw [hz1, ← hm, rcs_len]
  have hr := run_append_grow (P := Try.prog) w 30 o.type 27 i0 _ Try.underlying30 hi hz0 ⟨g, 0, none⟩ 0 0 [] (by simp) (by intro j v h; cases h) ad m c (Aw.rcs l) hl hnews (by omega) (by omega)
    (growslice_fits (by omega) (by rw [hz2]; omega))
  unfold Oper.wp execOp
  simp only [ho, resolve, invoke, builtin, Sem.run_bind, Sem.run_pure, Result.andThen_ok, List.map_toArray, List.map_cons, List.map_nil, hs, hx, hr]
  have hge := grownCap_ge w (0 + m) 0 27
  have hcm : grownCap w (0 + m) 0 27 ≤ maxLen := grownCap_le_maxLen w (0 + m) 0 27 (by unfold maxLen; omega)
  refine h _ _ ?_ ((Below.refl _ _).drew.alloc (Nat.le_refl _) _)
  rw [hz1] at hl
  refine ⟨hl, .inr ⟨w.heap.size, _, _, by rw [Nat.zero_add], hbase, heap_alloc_new w.drew _, by omega, hcm, ?_, ?_⟩⟩
  · simp only [Array.size_append, List.size_toArray, size_zeroCells, List.length_nil, hl]
    show 0 + m * 11 + (grownCap w (0 + m) 0 _ - (0 + m)) * 11 = _
    rw [Nat.zero_add, ← Nat.add_mul]
    congr 1
    omega
  · simp only [Array.toList_append, List.nil_append]
    rw [← hl]
    exact List.take_left
theorem rcs_app (l k : List Aw.R) : Aw.rcs (l ++ k) = Aw.rcs l ++ Aw.rcs k := List.flatMap_append
theorem step_rules_add {ops : Array Oper} {o : Oper} {a : Act} {w : World} {K : Act → World → Prop} {Q : Exit → Act → World → Prop} {E : Prop} (hg : o.guard = none) (s x : Operand)
    (ho : o.op = .call { callee := .builtin .append, args := #[s, x], argTypes := #[30, 30] })
    (base : Nat) (v : Value) (n : Nat) (l : List Aw.R) (hs : a.eval s = v) (hown : w.ownsRow base 27 11 v n (Aw.rcs l))
    (ad : Addr) (m c : Nat) (k : List Aw.R) (hm : k.length = m) (hn : l.length = n) (hx : a.eval x = .slice (some ad) m c)
    (hnews : ∀ j u, (Aw.rcs k)[j]? = some u → w.cell? (ad.add j) = some u) (h63 : n + m ≤ 1000000) (hbase : base ≤ w.heap.size)
    (h : ∀ v' w', RuV w' v' (l ++ k) → Below base w w' → K (a.put o.dst v') w') : if Region.wanted o (yielded ops a.tmps) = true then Oper.wp Try.prog o a w K Q else E := by
  rw [if_pos (by simp [Region.wanted, hg])]
  obtain ⟨i0, hi, hz0, hz1, hz2⟩ := aw_info_parts aw_info
  have hl := rcs_len
  have h1 : ∀ (k : List Aw.R) (u : Value), u ∈ Aw.rcs k → u.oneCell' = true := by
    intro k u hu
    obtain ⟨r, -, hr⟩ := List.mem_flatMap.1 hu
    obtain ⟨s, fy, ty, m, k, wk, d, sec, base, save, t⟩ := r
    simp [Aw.enc] at hr
    rcases hr with rfl | rfl | rfl | rfl | rfl | rfl | rfl | rfl | rfl | rfl | rfl <;> rfl
  refine wp_append_own w s x 30 ho base 27 i0 _ 11 104 Try.underlying30 hi hz0 hz1 hz2 rfl (by decide) v n (Aw.rcs l) hs hown ad m c (Aw.rcs k) hx (by rw [hl, hm]) hnews (h1 k) (by unfold maxLen; omega) (by omega) hbase fun v' w' h2 h3 _ => h v' w' ?_ (below_grown h3 hbase (own_row hown))
  show Lst w' w'.heap.size v' (l ++ k).length (Aw.rcs (l ++ k))
  rw [rcs_app, List.length_append, hn, hm]
  exact Lst.own h2
end Go.Proofs.Ytjnhaabbnbcaeaa
