/- Years: From, To, FromText, ToText. -/
import Derived.Test.YtafnnnbefabofaaDoorYrA
set_option linter.unusedVariables false
set_option linter.unusedSimpArgs false
namespace Go.Proofs.YtafnnnbefabofaaDoor
open Go.RowKit Go.Sort

namespace Yr
theorem num_bd {l : List UInt8} : (num l).2 = 0 → -32767 ≤ (num l).1 ∧ (num l).1 ≤ 32767 := by
  unfold num
  split
  · cases hi : inY (Num.rd l).1
    · intro h; exact absurd h (by simp)
    · intro _
      unfold inY at hi
      rw [Bool.and_eq_true, decide_eq_true_eq, decide_eq_true_eq] at hi
      exact hi
  · rename_i h; intro h2; exact absurd h2 h
theorem num_zero {l : List UInt8} (h : (num l).2 ≠ 0) : (num l).1 = 0 := by
  revert h
  unfold num
  split
  · cases hi : inY (Num.rd l).1
    · intro _; rfl
    · intro h; exact absurd rfl h
  · intro _; rfl
theorem fr_zero {l : List UInt8} (h : (fr l).2 ≠ 0) : (fr l).1 = 0 := by
  revert h
  unfold fr
  cases hn : isN l
  · simp only [Bool.false_eq_true, if_false]
    split
    · split
      · intro h; exact absurd rfl h
      · intro _; rfl
    · intro _; rfl
  · simp only [if_true]
    exact num_zero
theorem to_zero {l : List UInt8} {f : Int} (h : (to l f).2 ≠ 0) : (to l f).1 = 0 := by
  revert h
  unfold to
  split
  · split
    · intro h; exact absurd rfl h
    · intro _; rfl
  · intro _; rfl
end Yr
set_option maxHeartbeats 1000000 in
theorem yfrom1_yes (s : ByteArray) (v : Int) (W : World) (b : Nat) (hc : W.cell? ⟨b, 0, none⟩ = some (.string s)) (hs : s.size ≤ 1000) (tp : TypeId) (p : Value) (hv : W.var? Tryd.prog "strconv.ErrRange" = some #[.iface tp p]) (h : Yr.fr s.data.toList = (v, 0)) :
    Calls Tryd.prog 87 #[.pointer (some ⟨b, 0, none⟩)] W fun e w' => e = .returned (.int .i64 v) ∧ Below W.heap.size W w' := by
  have CN := Lib.hid (fun W => yisn_any s W hs)
  have HV := Lib.hid hv; clear hv
  unfold Yr.fr at h
  cases hn : Yr.isN s.data.toList
  · rw [hn] at h CN
    simp only [Bool.false_eq_true, if_false] at h
    have hq : (Yr.word s.data.toList).2 = 0 := by
      by_cases hq : (Yr.word s.data.toList).2 = 0
      · exact hq
      · rw [if_neg hq] at h; exact congrArg Prod.snd h
    rw [if_pos hq] at h
    have hk : (Yr.word s.data.toList).1 = 0 := by
      by_cases hk : (Yr.word s.data.toList).1 = 0
      · exact hk
      · rw [if_neg hk] at h; exact absurd (congrArg Prod.snd h) (by simp)
    rw [if_pos hk] at h
    obtain rfl : -32767 = v := congrArg Prod.fst h
    have CW := Lib.hid (fun W => yword_yes s 0 W hs (Prod.ext hk hq))
    clear h hq hk
    go_enter Tryd.func87, Tryd.ntmps87
    go_wp2_with fail
    refine (CN.out _).mono ?_; rintro e w1 ⟨rfl, b1⟩
    have hc1 := (b1.cell (World.block_lt_of_cell? _ _ hc)).trans hc
    go_wp2_with fail
    refine (CW.out _).mono ?_; rintro e w2 ⟨rfl, b2⟩
    have B2 := Lib.hid (b1.trans (b2.mono b1.size))
    clear b1 b2
    go_wp2_with fail
    refine (need_yes 3 _).mono ?_; rintro e w3 ⟨rfl, rfl⟩
    go_wp2_with fail
    go_ret
    exact ⟨rfl, B2.out⟩
  · rw [hn] at h CN
    simp only [if_true] at h
    have CR := Lib.hid (fun W hv => ynum_yes s v W hs tp p hv h)
    clear h
    go_enter Tryd.func87, Tryd.ntmps87
    go_wp2_with fail
    refine (CN.out _).mono ?_; rintro e w1 ⟨rfl, b1⟩
    have hc1 := (b1.cell (World.block_lt_of_cell? _ _ hc)).trans hc
    have hv1 := Lib.hid (var_keep b1 HV.out)
    go_wp2_with fail
    refine (CR.out _ hv1.out).mono ?_; rintro e w2 ⟨rfl, b2⟩
    have B2 := Lib.hid (b1.trans (b2.mono b1.size))
    clear b1 b2
    go_wp2_with fail
    go_ret
    exact ⟨rfl, B2.out⟩
set_option maxHeartbeats 1000000 in
theorem yfrom1_no (s : ByteArray) (q : Int) (W : World) (b : Nat) (hc : W.cell? ⟨b, 0, none⟩ = some (.string s)) (hs : s.size ≤ 1000) (tp : TypeId) (p : Value) (hv : W.var? Tryd.prog "strconv.ErrRange" = some #[.iface tp p]) (h : (Yr.fr s.data.toList).2 = q) (hq0 : q ≠ 0) :
    Calls Tryd.prog 87 #[.pointer (some ⟨b, 0, none⟩)] W fun e w' => e = .panicked (gvP q) ∧ Below W.heap.size W w' := by
  have CN := Lib.hid (fun W => yisn_any s W hs)
  have HV := Lib.hid hv; clear hv
  unfold Yr.fr at h
  cases hn : Yr.isN s.data.toList
  · rw [hn] at h CN
    simp only [Bool.false_eq_true, if_false] at h
    by_cases hq : (Yr.word s.data.toList).2 = 0
    · rw [if_pos hq] at h
      have hk : (Yr.word s.data.toList).1 ≠ 0 := by
        intro hk; rw [if_pos hk] at h; exact hq0 h.symm
      rw [if_neg hk] at h
      obtain rfl : 3 = q := h
      have CW := Lib.hid (fun W => yword_yes s (Yr.word s.data.toList).1 W hs (Prod.ext rfl hq))
      generalize (Yr.word s.data.toList).1 = k at CW hk
      have gk : (k == 0) = false := beq_eq_false_iff_ne.2 hk
      clear hq hk
      go_enter Tryd.func87, Tryd.ntmps87
      go_wp2_with fail
      refine (CN.out _).mono ?_; rintro e w1 ⟨rfl, b1⟩
      have hc1 := (b1.cell (World.block_lt_of_cell? _ _ hc)).trans hc
      go_wp2_with fail
      refine (CW.out _).mono ?_; rintro e w2 ⟨rfl, b2⟩
      have B2 := Lib.hid (b1.trans (b2.mono b1.size))
      clear b1 b2
      go_wp2_with fail
      refine (need_no 3 _).mono ?_; rintro e w3 ⟨rfl, rfl⟩
      refine (show bodyPost _ _ _ (Exit.panic (gvP 3)) _ _ from ?_)
      exact ⟨rfl, rfl, B2.out⟩
    · rw [if_neg hq] at h
      have CW := Lib.hid (fun W => yword_no s q W hs h hq0)
      clear h hq
      go_enter Tryd.func87, Tryd.ntmps87
      go_wp2_with fail
      refine (CN.out _).mono ?_; rintro e w1 ⟨rfl, b1⟩
      have hc1 := (b1.cell (World.block_lt_of_cell? _ _ hc)).trans hc
      go_wp2_with fail
      refine (CW.out _).mono ?_; rintro e w2 ⟨rfl, b2⟩
      refine (show bodyPost _ _ _ (Exit.panic (gvP q)) _ _ from ?_)
      exact ⟨rfl, rfl, b1.trans (b2.mono b1.size)⟩
  · rw [hn] at h CN
    simp only [if_true] at h
    have CR := Lib.hid (fun W hv => ynum_no s q W hs tp p hv h hq0)
    clear h
    go_enter Tryd.func87, Tryd.ntmps87
    go_wp2_with fail
    refine (CN.out _).mono ?_; rintro e w1 ⟨rfl, b1⟩
    have hc1 := (b1.cell (World.block_lt_of_cell? _ _ hc)).trans hc
    have hv1 := Lib.hid (var_keep b1 HV.out)
    go_wp2_with fail
    refine (CR.out _ hv1.out).mono ?_; rintro e w2 ⟨rfl, b2⟩
    refine (show bodyPost _ _ _ (Exit.panic (gvP q)) _ _ from ?_)
    exact ⟨rfl, rfl, b1.trans (b2.mono b1.size)⟩
set_option maxHeartbeats 1000000 in
set_option maxRecDepth 100000 in
theorem yfrom_any (s : ByteArray) (w : World) (hs : s.size ≤ 1000) (tp : TypeId) (p : Value) (hv : w.var? Tryd.prog "strconv.ErrRange" = some #[.iface tp p]) :
    Calls Tryd.prog 19 #[.string s] w fun e w' => e = .returned (.tuple #[.int .i64 (Yr.fr s.data.toList).1, .int .i64 (Yr.fr s.data.toList).2]) ∧ Below w.heap.size w w' := by
  have hmf : ∀ (fn : Fn) (first cap : Array Value) (w : World), (Instr.makeFunc fn first cap).run Tryd.prog w = .ok (.func fn first cap) w := fun _ _ _ _ => rfl
  have b0 : Below w.heap.size w (w.alloc (.cells #[.string s] 9)) := (Below.refl _ _).alloc (Nat.le_refl _) _
  have hcell : (w.alloc (.cells #[.string s] 9)).cell? ⟨w.heap.size, 0, none⟩ = some (.string s) := by simp [go_sem]
  have hlt : w.heap.size < (w.alloc (.cells #[.string s] 9)).heap.size := by simp
  have hv0 := var_keep b0 hv
  have C : Hid (Calls Tryd.prog 86 #[.func (Fn.func 87) #[] #[.pointer (some ⟨w.heap.size, 0, none⟩)]] (w.alloc (.cells #[.string s] 9)) fun e w' => e = .returned (.tuple #[.int .i64 (Yr.fr s.data.toList).1, .int .i64 (Yr.fr s.data.toList).2]) ∧ Below (w.alloc (.cells #[.string s] 9)).heap.size (w.alloc (.cells #[.string s] 9)) w') := by
    by_cases hq : (Yr.fr s.data.toList).2 = 0
    · rw [hq]
      exact icaught_yes 87 #[.pointer (some ⟨w.heap.size, 0, none⟩)] (fun _ => rfl) _ _ (fun W hW => yfrom1_yes s _ W w.heap.size ((hW.cell hlt).trans hcell) hs tp p (var_keep hW hv0) (Prod.ext rfl hq))
    · have e1 : (Yr.fr s.data.toList).1 = 0 := Yr.fr_zero hq
      rw [e1]
      exact icaught_no 87 #[.pointer (some ⟨w.heap.size, 0, none⟩)] (fun _ => rfl) 0 _ _ (fun W hW => yfrom1_no s _ W w.heap.size ((hW.cell hlt).trans hcell) hs tp p (var_keep hW hv0) rfl hq)
  generalize (Yr.fr s.data.toList).1 = x at C ⊢
  generalize (Yr.fr s.data.toList).2 = q at C ⊢
  clear hv0 hcell hlt hv
  go_enter Tryd.func19, Tryd.ntmps19
  go_wp2_with fail
  refine C.out.mono ?_; rintro e w1 ⟨rfl, b1⟩
  have B1 := Lib.hid (below_step b0 (b1.mono (Nat.le_refl _)))
  clear b0 b1
  go_wp2_with fail
  go_ret2
  exact ⟨rfl, B1.out⟩
end Go.Proofs.YtafnnnbefabofaaDoor

