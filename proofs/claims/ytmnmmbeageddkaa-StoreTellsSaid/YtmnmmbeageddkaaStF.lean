/- Stores: slices.Delete of one pointer, and Drop. -/
import Derived.Test.YtmnmmbeageddkaaStE
import Derived.Deep.DeepAppendRoom
import Derived.Lib.SliceRun
import Derived.Deep.RegionLaw
set_option linter.unusedVariables false
set_option linter.unusedSimpArgs false
namespace Go.Proofs.Ytmnmmbeageddkaa
open Go.RowKit Go.Sort Go.Shelf Go.Lib

theorem own_trunc {w : World} {base g n cap i : Nat} {e : TypeId} {xs : List Value} (h : w.ownsRow base e 1 (.slice (some ⟨g, 0, none⟩) n cap) n xs) (hi : i ≤ n) : w.ownsRow base e 1 (.slice (some ⟨g, 0, none⟩) i cap) i (xs.take i) := by
  rcases h.2 with ⟨h', _⟩ | ⟨g', cap', cur, h', hb, hg, hnc, hcm, hcs, htake⟩
  · cases h'
  · cases h'
    refine ⟨by rw [List.length_take, h.1]; omega, .inr ⟨g, cap, cur, rfl, hb, hg, by omega, hcm, hcs, ?_⟩⟩
    rw [← htake, List.take_take]
    congr 1
    omega
theorem step_append_spare {P : Program} {w : World} {ops : Array Oper} {o : Oper} {a : Act} {K : Act → World → Prop} {Q : Exit → Act → World → Prop} {E : Prop} (hg : o.guard = none) (s x : Operand) (t : TypeId)
    (ho : o.op = .call { callee := .builtin .append, args := #[s, x], argTypes := #[t, t] })
    (base : Nat) (e : TypeId) (i : TypeInfo) (size : Nat) (ht : P.underlying t = some (.slice e)) (hi : P.info? e = some i) (hsize : i.size = size)
    (g n cap : Nat) (xs : List Value) (hs : a.eval s = .slice (some ⟨g, 0, none⟩) n cap) (hown : w.ownsRow base e size (.slice (some ⟨g, 0, none⟩) n cap) n xs)
    (ad : Addr) (m c : Nat) (news : List Value) (hx : a.eval x = .slice (some ad) m c) (hl : news.length = m * size) (hnews : ∀ j u, news[j]? = some u → w.cell? (ad.add j) = some u) (h1 : ∀ u ∈ news, u.oneCell' = true)
    (hroom : n + m ≤ cap)
    (h : ∀ w', w'.ownsRow base e size (.slice (some ⟨g, 0, none⟩) (n + m) cap) (n + m) (xs ++ news) → w.grownBy w' (some g) → K (a.put o.dst (.slice (some ⟨g, 0, none⟩) (n + m) cap)) w') : if Region.wanted o (yielded ops a.tmps) = true then Oper.wp P o a w K Q else E := by
  rw [if_pos (by simp [Region.wanted, hg])]
  exact wp_append_own_spare w s x t ho base e i size ht hi hsize g n cap xs hs hown ad m c news hx hl hnews h1 hroom h
/-- What Delete answers. -/
def AnsDe (N : Nat) (V : Value) (n i : Nat) (xs : List Value) (w : World) (e : Ending) (w' : World) : Prop :=
  ∃ V', e = .returned V' ∧ w'.ownsRow N 74 1 V' (n - 1) (xs.take i ++ xs.drop (i + 1)) ∧ w.grownBy w' V.ownBlock
set_option maxHeartbeats 8000000 in
set_option maxRecDepth 100000 in
theorem delete_mid (g n c i : Nat) (xs : List Value) (N : Nat) (w : World) (h : w.ownsRow N 74 1 (.slice (some ⟨g, 0, none⟩) n c) n xs) (hxs : ∀ u ∈ xs, u.oneCell' = true) (hi : i < n) (hci : ¬ c = i + 1) :
    Calls Try.prog 44 #[.slice (some ⟨g, 0, none⟩) n c, .int .i64 i, .int .i64 (i + 1)] w (AnsDe N (.slice (some ⟨g, 0, none⟩) n c) n i xs w) := by
  obtain ⟨i0, hi0, hz0, hz1, hz2⟩ := info_parts info_ptr
  have hl : xs.length = n := by have := h.1; omega
  have hnc := own_cap1 h
  have hcap : c ≤ maxLen := by
    rcases h.2 with ⟨e, h0⟩ | ⟨g', cap, cur, e, _, _, h1, h2, _⟩
    · cases e
    · cases e; exact h2
  have h63 : c ≤ 9223372036854775807 := by unfold maxLen at hcap; omega
  have mixed : Try.prog.follows Departure.mixedOrders = true := by kernel_rfl
  have hT := Lib.hid (own_trunc h (show i ≤ n by omega))
  have hnew := Lib.hid (show ∀ j u, (xs.drop (i + 1))[j]? = some u → w.cell? ((⟨g, i + 1, none⟩ : Addr).add j) = some u from fun j u hj => by
    have hj2 := (List.getElem?_eq_some_iff.1 hj).1
    rw [List.length_drop] at hj2
    rw [List.getElem?_drop] at hj
    rw [Addr.add_lit, ← hj]
    exact h.cellAt _ (by omega))
  have hb1 : (0 : Int) ≤ (i : Int) + 1 := by omega
  have hb2 : (i : Int) ≤ (i : Int) + 1 := by omega
  have hb3 : (i : Int) + 1 ≤ n := by omega
  have hb4 : (n : Int) ≤ c := by omega
  have hb5 : ¬ ((i : Int) = (i : Int) + 1) := by omega
  have hb6 : (i : Int) ≤ c := by omega
  have hb7 : (i : Int) ≤ n := by omega
  have htn : ((i : Int) + 1).toNat = i + 1 := by omega
  have hHX := Lib.hid (show ∀ u ∈ xs.drop (i + 1), u.oneCell' = true from fun v hv => hxs v (List.mem_of_mem_drop hv))
  have hDL := Lib.hid (show (xs.drop (i + 1)).length = (n - (i + 1)) * 1 by rw [List.length_drop, hl]; omega)
  clear h
  go_enter Try.func44, Try.ntmps44
  go_upto_region 5 with (fail)
  go_region_law (first
    | (
       refine step_append_spare rfl (.tmp 22) (.tmp 25) 69 rfl N 74 i0 1 Try.underlying69 hi0 hz1 g i c (xs.take i) ?_ ?_ ⟨g, i + 1, none⟩ (n - (i + 1)) (c - (i + 1)) (xs.drop (i + 1)) ?_ ?_ ?_ ?_ ?_ ?_
       · simp [Act.eval, Act.put]; done
       · exact hT.out
       · simp [Act.eval, Act.put]; done
       · exact hDL.out
       · exact hnew.out
       · exact hHX.out
       · omega
       intro w1 own1 gr1))
  all_goals (
    obtain ⟨m, hm⟩ : ∃ m, i + (n - (i + 1)) = m := ⟨_, rfl⟩
    have hnm : n = m + 1 := by omega
    rw [hm] at own1 ⊢
    have O1 := Lib.hid own1; have G1 := Lib.hid gr1
    have hcl : ∀ ty sc, (Builtin.clear_ #[69] ty #[.slice (some ⟨g, m, none⟩) 1 sc]).run Try.prog w1 = .ok (.tuple #[]) (w1.setCells g m (List.replicate 1 (.pointer none))) := fun ty sc =>
      run_clear_slice w1 69 74 ty (.pointer none) Try.underlying69 Try.zeroValue74 rfl rfl g m 1 sc (by omega) (fun j hj => row_some own1 _ (by omega)) (fun j hj => own1.frozenAt _)
    have hc1 : ¬ (c = m) := by omega
    have hc2 : (m : Int) ≤ c := by omega
    have hc3 : (m : Int) ≤ n := by omega
    have hc4 : n - m = 1 := by omega
    have hc5 : (n : Int) ≤ c := by omega
    have Q := Lib.hid (show (w1.setCells g m (List.replicate 1 (.pointer none))).ownsRow N 74 1 (.slice (some ⟨g, 0, none⟩) m c) m (xs.take i ++ xs.drop (i + 1)) ∧ w.grownBy (w1.setCells g m (List.replicate 1 (.pointer none))) (some g) from by
      obtain ⟨z, hz⟩ := own_ext own1 (by omega)
      obtain ⟨q1, q2⟩ := own_sets (List.replicate 1 (.pointer none)) m w1 _ hz
      have q3 := own_trunc q1 (show m ≤ m + 1 by omega)
      have hlen : (xs.take i ++ xs.drop (i + 1)).length = m := by have := own1.1; omega
      rw [sets_eq _ _ _ (by rw [List.length_append, hlen]; simp), List.append_assoc, List.take_append_of_le_length (by rw [List.length_take, List.length_append, hlen]; simp), List.take_take, Nat.min_self, List.take_append_of_le_length (by omega), List.take_of_length_le (by omega)] at q3
      exact ⟨q3, gr_trans (gr_trans (gr_drew w _) gr1) q2⟩)
    clear own1 gr1 hT hnew hHX hDL
    go_wp2_with (simp only [hcl])
    all_goals (
      go_ret
      exact ⟨_, rfl, by (have e : n - 1 = m := by omega); rw [e]; exact Q.out.1, by exact Q.out.2⟩))
set_option maxHeartbeats 8000000 in
set_option maxRecDepth 100000 in
theorem delete_last (g i : Nat) (xs : List Value) (N : Nat) (w : World) (h : w.ownsRow N 74 1 (.slice (some ⟨g, 0, none⟩) (i + 1) (i + 1)) (i + 1) xs) (hxs : ∀ u ∈ xs, u.oneCell' = true) :
    Calls Try.prog 44 #[.slice (some ⟨g, 0, none⟩) (i + 1) (i + 1), .int .i64 i, .int .i64 (i + 1)] w (AnsDe N (.slice (some ⟨g, 0, none⟩) (i + 1) (i + 1)) (i + 1) i xs w) := by
  obtain ⟨i0, hi0, hz0, hz1, hz2⟩ := info_parts info_ptr
  have hl : xs.length = i + 1 := by have := h.1; omega
  have hcap : i + 1 ≤ maxLen := by
    rcases h.2 with ⟨e, h0⟩ | ⟨g', cap, cur, e, _, _, h1, h2, _⟩
    · cases e
    · cases e; exact h2
  have h63 : i + 1 ≤ 9223372036854775807 := by unfold maxLen at hcap; omega
  have mixed : Try.prog.follows Departure.mixedOrders = true := by kernel_rfl
  have hT := Lib.hid (own_trunc h (show i ≤ i + 1 by omega))
  have hE := Lib.hid (show xs.drop (i + 1) = [] from List.drop_of_length_le (by omega))
  have hb1 : (0 : Int) ≤ (i : Int) + 1 := by omega
  have hb2 : (i : Int) ≤ (i : Int) + 1 := by omega
  have hb5 : ¬ ((i : Int) = (i : Int) + 1) := by omega
  have htn : ((i : Int) + 1).toNat = i + 1 := by omega
  have hmx : ¬ i + 1 = i := by omega
  clear h
  go_enter Try.func44, Try.ntmps44
  go_upto_region 5 with (fail)
  go_region_law (first
    | (
       refine step_append_spare rfl (.tmp 22) (.tmp 25) 69 rfl N 74 i0 1 Try.underlying69 hi0 hz1 g i (i + 1) (xs.take i) ?_ ?_ ⟨g, 0, none⟩ 0 0 [] ?_ ?_ ?_ ?_ ?_ ?_
       · simp [Act.eval, Act.put]; done
       · exact hT.out
       · simp [Act.eval, Act.put]; done
       · rfl
       · intro j u hu; simp at hu
       · intro u hu; cases hu
       · omega
       intro w1 own1 gr1))
  all_goals (
    rw [Nat.add_zero, List.append_nil] at own1
    have hcl : ∀ ty sc, (Builtin.clear_ #[69] ty #[.slice (some ⟨g, i, none⟩) 1 sc]).run Try.prog w1 = .ok (.tuple #[]) (w1.setCells g i (List.replicate 1 (.pointer none))) := fun ty sc =>
      run_clear_slice w1 69 74 ty (.pointer none) Try.underlying69 Try.zeroValue74 rfl rfl g i 1 sc (by omega) (fun j hj => row_some own1 _ (by omega)) (fun j hj => own1.frozenAt _)
    have Q := Lib.hid (show (w1.setCells g i (List.replicate 1 (.pointer none))).ownsRow N 74 1 (.slice (some ⟨g, 0, none⟩) i (i + 1)) i (xs.take i ++ xs.drop (i + 1)) ∧ w.grownBy (w1.setCells g i (List.replicate 1 (.pointer none))) (some g) from by
      rw [hE.out, List.append_nil]
      obtain ⟨z, hz⟩ := own_ext own1 (by omega)
      obtain ⟨q1, q2⟩ := own_sets (List.replicate 1 (.pointer none)) i w1 _ hz
      have q3 := own_trunc q1 (show i ≤ i + 1 by omega)
      have hlen : (xs.take i).length = i := by have := own1.1; omega
      rw [sets_eq _ _ _ (by rw [List.length_append, hlen]; simp), List.append_assoc, List.take_append_of_le_length (by rw [List.length_take, List.length_append, hlen]; simp), List.take_take, Nat.min_self, List.take_append_of_le_length (by omega), List.take_of_length_le (by omega)] at q3
      exact ⟨q3, gr_trans (gr_trans (gr_drew w _) gr1) q2⟩)
    clear own1 gr1 hT
    go_wp2_with (simp only [hcl])
    all_goals (
      go_ret
      exact ⟨_, rfl, by exact Q.out.1, by exact Q.out.2⟩))
theorem delete_any (g n c i : Nat) (xs : List Value) (N : Nat) (w : World) (h : w.ownsRow N 74 1 (.slice (some ⟨g, 0, none⟩) n c) n xs) (hxs : ∀ u ∈ xs, u.oneCell' = true) (hi : i < n) :
    Calls Try.prog 44 #[.slice (some ⟨g, 0, none⟩) n c, .int .i64 i, .int .i64 (i + 1)] w (AnsDe N (.slice (some ⟨g, 0, none⟩) n c) n i xs w) := by
  by_cases hci : c = i + 1
  · have := own_cap1 h
    obtain rfl : n = i + 1 := by omega
    subst hci
    have := delete_last g i xs N w h hxs
    exact this
  · exact delete_mid g n c i xs N w h hxs hi hci
namespace Sk
/-- What Drop tells, and keeps. -/
def drop (t : Int) (l : List If.I) : Int × List If.I := if has t l then (0, l.take (pl t l) ++ l.drop (pl t l + 1)) else (12, l)
end Sk
theorem del_get {α : Type} (xs : List α) (k : Nat) (hk : k ≤ xs.length) (j : Nat) : (xs.take k ++ xs.drop (k + 1))[j]? = if j < k then xs[j]? else xs[j + 1]? := by
  have hl : (xs.take k).length = k := by rw [List.length_take]; omega
  by_cases h1 : j < k
  · rw [if_pos h1, List.getElem?_append_left (by omega), List.getElem?_take, if_pos h1]
  · rw [if_neg h1, List.getElem?_append_right (by omega), hl, List.getElem?_drop]
    congr 1; omega
theorem drop_done {W w11 : World} {N p : Nat} {room : Int} {V V' : Value} {qs : List Nat} {l : List If.I} {k : Nat} (h : StM W N p room V qs l) (hk : k < l.length)
    (own : w11.ownsRow N 74 1 V' (l.length - 1) ((Sk.ptc qs).take k ++ (Sk.ptc qs).drop (k + 1))) (gr : W.grownBy w11 V.ownBlock) :
    Fr W (w11.setCell ⟨p, 1, none⟩ V') p V.ownBlock ∧ ∃ V'' qs', StM (w11.setCell ⟨p, 1, none⟩ V') N p room V'' qs' (l.take k ++ l.drop (k + 1)) := by
  have D := h.blk.kept gr (h.blk.not_row (by decide) h.row)
  have old : ∀ b vs, Blk W b 36 vs → Blk (w11.setCell ⟨p, 1, none⟩ V') b 36 vs := fun b vs hb => by
    have h1 := hb.kept gr (hb.not_row (by decide) h.row)
    exact h1.kept (gr_set w11 p 1 V') (fun e => blk_ne h1 D (by decide) (Option.some.inj e))
  have hq : k ≤ qs.length := by rw [h.len]; omega
  refine ⟨⟨gr.os, gr.tape, gr.output, Nat.le_trans gr.size (by simp), fun b hb h1 h2 => ?_⟩, V', qs.take k ++ qs.drop (k + 1), ⟨h.base, blk_set D V', ?_, ?_, ?_⟩⟩
  · exact ((gr_set w11 p 1 V').block b (Nat.lt_of_lt_of_le hb gr.size) (fun e => h1 (Option.some.inj e))).trans (gr.block b hb h2)
  · have e1 : Sk.ptc (qs.take k ++ qs.drop (k + 1)) = (Sk.ptc qs).take k ++ (Sk.ptc qs).drop (k + 1) := by
      unfold Sk.ptc
      rw [List.map_append, List.map_take, List.map_drop]
    have e2 : (l.take k ++ l.drop (k + 1)).length = l.length - 1 := by rw [List.length_append, List.length_take, List.length_drop]; omega
    rw [e1, e2]
    exact own.kept (gr_set w11 p 1 V') (.inr (D.not_row (by decide) own).symm)
  · rw [List.length_append, List.length_append, List.length_take, List.length_take, List.length_drop, List.length_drop, h.len]
  · intro j hj hj2
    have g1 : (qs.take k ++ qs.drop (k + 1))[j]? = some (qs.take k ++ qs.drop (k + 1))[j] := List.getElem?_eq_getElem hj2
    have g2 : (l.take k ++ l.drop (k + 1))[j]? = some (l.take k ++ l.drop (k + 1))[j] := List.getElem?_eq_getElem hj
    generalize (qs.take k ++ qs.drop (k + 1))[j] = b at *
    generalize (l.take k ++ l.drop (k + 1))[j] = z at *
    rw [del_get _ _ hq] at g1
    rw [del_get _ _ (by omega)] at g2
    refine old _ _ ?_
    have at' : ∀ i, qs[i]? = some b → l[i]? = some z → Blk W b 36 (If.enc z).toArray := fun i h1 h2 => by
      obtain ⟨a1, rfl⟩ := List.getElem?_eq_some_iff.1 h1
      obtain ⟨a2, rfl⟩ := List.getElem?_eq_some_iff.1 h2
      exact h.at_ i a2 a1
    split at g1
    · rename_i c1
      rw [if_pos c1] at g2
      exact at' j g1 g2
    · rename_i c1
      rw [if_neg c1] at g2
      exact at' (j + 1) g1 g2
theorem Fr.pre {W W1 W2 : World} {p : Nat} {row : Option Nat} (b : Below W.heap.size W W1) (h : Fr W1 W2 p row) : Fr W W2 p row :=
  ⟨h.os.trans b.os, h.tape.trans b.tape, h.output.trans b.output, Nat.le_trans b.size h.size, fun k hk h1 h2 => (h.block k (Nat.lt_of_lt_of_le hk b.size) h1 h2).trans (b.block k hk)⟩
set_option maxRecDepth 100000 in
set_option maxHeartbeats 8000000 in
theorem st_drop {W : World} {N p : Nat} {room : Int} {V : Value} {qs : List Nat} {l : List If.I} (h : StM W N p room V qs l) (hk : Sk.Kept l) (hn : l.length ≤ 90000) (t : Int) :
    Calls Try.prog 13 #[.pointer (some ⟨p, 0, none⟩), .int .i64 t] W (AnsP N p room V (Sk.drop t l) W) := by
  obtain ⟨A, c, rfl⟩ := h.form
  have H := Lib.hid h
  have HK := Lib.hid hk
  have HN := Lib.hid hn
  clear h hk hn
  obtain ⟨k, hk⟩ : ∃ k, Sk.pl t l = k := ⟨_, rfl⟩
  have PK := Lib.hid hk
  clear hk
  obtain ⟨b, hb⟩ : ∃ b, Sk.has t l = b := ⟨_, rfl⟩
  have PB := Lib.hid hb
  clear hb
  obtain ⟨⟨q1, q2⟩, hq⟩ : ∃ q, Sk.drop t l = q := ⟨_, rfl⟩
  have PQ := Lib.hid hq
  rw [hq]
  clear hq
  go_enter Try.func13, Try.ntmps13
  go_wp2_with fail
  refine (st_at H.out HK.out (by have := HN.out; omega) t).mono ?_
  rw [PK.out, PB.out]
  rintro e w1 ⟨rfl, b1⟩
  have B1 := Lib.hid b1; have H1 := Lib.hid (H.out.on b1)
  clear b1
  cases b
  · have Q := Lib.hid (show q1 = 12 ∧ q2 = l by have := PQ.out; unfold Sk.drop at this; rw [PB.out] at this; simpa [eq_comm] using this)
    go_wp2
    go_ret
    exact ⟨by rw [Q.out.1]; rfl, Fr.of B1.out, _, _, by rw [Q.out.2]; exact H1.out⟩
  · have Q := Lib.hid (show q1 = 0 ∧ q2 = l.take k ++ l.drop (k + 1) by have := PQ.out; unfold Sk.drop at this; rw [PB.out, PK.out] at this; simpa [eq_comm] using this)
    have hlt : k < l.length := by have := Sk.has_lt PB.out; rw [PK.out] at this; exact this
    have LT := Lib.hid hlt
    obtain ⟨g, hg⟩ : ∃ g, A = some ⟨g, 0, none⟩ := by
      rcases H1.out.row.2 with ⟨e, h0⟩ | ⟨g, cap, cur, e, _⟩
      · omega
      · cases e; exact ⟨g, rfl⟩
    subst hg
    have k1 : (k : Int) ≤ 90000 := by have := HN.out; omega
    have d1 := H1.out.blk.c1
    clear hlt
    go_wp2_with fail
    refine (delete_any g l.length c k (Sk.ptc qs) N _ H1.out.row (Sk.ptc_one qs) LT.out).mono ?_
    rintro e w8 ⟨V', rfl, own8, gr8⟩
    obtain ⟨A8, c8, rfl⟩ := po_form own8
    have PD := Lib.hid (drop_done H1.out LT.out own8 gr8)
    have D8 := Lib.hid (H1.out.blk.kept gr8 (H1.out.blk.not_row (by decide) H1.out.row))
    clear own8 gr8 d1
    have d1 := D8.out.c1; have df := D8.out.frozen 1; have dl := D8.out.lt
    go_wp2
    go_ret
    exact ⟨by rw [Q.out.1]; rfl, Fr.pre B1.out PD.out.1, by rw [Q.out.2]; exact PD.out.2⟩
end Go.Proofs.Ytmnmmbeageddkaa
