/- Joined: LpE, LpB, LpF, FdC0, StL, FdS, FdE0, WdM. -/
import Derived.Test.YtifgiclnofdnkaaGreatDoorBx05
import Derived.Test.YtifgiclnofdnkaaGreatDoorBx04
import Derived.Lib.MinMax
import Derived.Test.YtifgiclnofdnkaaGreatDoorBx01
import Derived.Test.YtifgiclnofdnkaaGreatDoorProg
set_option linter.unusedVariables false
set_option linter.unusedSimpArgs false
namespace Go.Proofs.YtifgiclnofdnkaaGreatDoor
open Go.RowKit Go.Sort Go.Shelf
set_option maxRecDepth 100000 in
set_option maxHeartbeats 8000000 in
theorem leUtc_any (A : Option Addr) (n c : Nat) (l : List Lp.X) (w : World) (h : SpV w (.slice A n c) l) (hc : n ≤ c) (hcb : c ≤ 9223372036854775807) (hm : l.length ≤ 1000000) (t : Int) :
  Calls Tryz.prog 8 #[.slice A n c, .int .i64 t] w fun e w' => e = .returned (.tuple #[.int .i64 (Lp.ut l t).1, .bool (Lp.ut l t).2.1, .int .i64 (Lp.ut l t).2.2]) ∧ Below w.heap.size w w' := by
 have hn := h.len
 obtain ⟨u, hu⟩ : ∃ u, u = Lp.ut l t := ⟨_, rfl⟩
 rw [← hu]
 have HU := Lib.hid hu
 have HN := Lib.hid hn
 have CR := Lib.hid (fun W (S : SpV W (.slice A n c) l) => leright_any (.slice A n c) l W S hm)
 have b0 : Below w.heap.size w ((w.alloc (.cells #[.slice A n c] 22)).alloc (.cells #[.int .i64 t] 2)) := by repeat (first | exact Below.refl _ _ | refine Below.alloc ?_ (by first | omega | (simp; done) | (simp; omega)) _)
 have H1 := Lib.hid (h.on b0)
 have B1 := Lib.hid b0
 clear b0 h hn hu
 go_enter Tryz.func8, Tryz.ntmps8
 go_upto_region 1 with (fail)
 have X1 : Hid (((w.alloc (.cells #[.slice A n c] 22)).alloc (.cells #[.int .i64 t] 2)).cell? ⟨w.heap.size, 0, none⟩ = some (.slice A n c)) := Lib.hid (by simp [go_sem])
 have Y1 : Hid (((w.alloc (.cells #[.slice A n c] 22)).alloc (.cells #[.int .i64 t] 2)).cell? ⟨w.heap.size + 1, 0, none⟩ = some (.int .i64 t)) := Lib.hid (by simp [go_sem])
 generalize (w.alloc (.cells #[.slice A n c] 22)).alloc (.cells #[.int .i64 t] 2) = w1 at *
 obtain ⟨g, hgz⟩ : ∃ g, g = w.heap.size := ⟨_, rfl⟩
 rw [← hgz] at X1 Y1 ⊢
 clear hgz
 by_cases hr : Lp.right l = true
 case neg =>
  have EU := Lib.hid (show u = (0, false, 4) by rw [HU.out]; unfold Lp.ut; rw [if_neg hr])
  have hr : Lp.right l = false := by simpa using hr
  rw [hr] at CR
  clear hr
  have c0 := X1.out; have c1 := Y1.out
  go_wp2_with fail
  refine (CR.out _ H1.out).mono ?_; rintro e w2 ⟨rfl, b2⟩
  have B2 := Lib.hid (show Below w.heap.size w w2 from B1.out.trans (b2.mono B1.out.size))
  clear c0 c1 b2
  go_wp2
  go_ret3
  exact ⟨by rw [EU.out]; rfl, B2.out⟩
 have HR := Lib.hid hr
 rw [hr] at CR
 obtain ⟨hl1, hok, hf⟩ := Lp.right_of hr
 have HOK := Lib.hid hok
 have GR : Hid (∀ W t, SpV W (.slice A n c) l → -2000000000000 ≤ t → t ≤ 2000000000000 → Calls Tryz.prog 18 #[.slice A n c, .int .i64 t] W fun e w' => e = .returned (.int .i64 (Lp.gone l t)) ∧ Below W.heap.size W w') := Lib.hid (fun W t S t0 t1 => lgone_any A n c l W S hc hcb hr t t0 t1)
 have lo := Lp.gone_bd hr (-1096193779200)
 have hi := Lp.gone_bd hr 971890963199
 have lo0 : -1096193780200 ≤ Lp.gone l (-1096193779200) := by omega
 have lo1 : Lp.gone l (-1096193779200) ≤ -1096193778200 := by omega
 have hi0 : 971890962199 ≤ Lp.gone l 971890963199 := by omega
 have hi1 : Lp.gone l 971890963199 ≤ 971890964199 := by omega
 clear hr hok hf lo hi
 have c0 := X1.out; have c1 := Y1.out
 go_wp2_with fail
 refine (CR.out _ H1.out).mono ?_; rintro e w2 ⟨rfl, b2⟩
 have H2 := Lib.hid (H1.out.on b2)
 have X2 := Lib.hid ((b2.cell (World.block_lt_of_cell? _ _ X1.out)).trans X1.out)
 have Y2 := Lib.hid ((b2.cell (World.block_lt_of_cell? _ _ Y1.out)).trans Y1.out)
 have B2 := Lib.hid (show Below w.heap.size w w2 from B1.out.trans (b2.mono B1.out.size))
 clear c0 c1 b2 B1 X1 Y1 H1 CR
 go_upto_region 3 with (fail)
 have q0 := cell_regrown X2.out
 have q1 := cell_regrown Y2.out
 by_cases f1 : t < Lp.gone l (-1096193779200)
 case pos =>
  have g1 : decide (t < Lp.gone l (-1096193779200)) = true := decide_eq_true f1
  have EU := Lib.hid (show u = (0, false, 1) by rw [HU.out]; unfold Lp.ut; rw [if_pos HR.out, if_neg (by unfold Lp.inR; omega)])
  clear f1
  refine wp_region_qb (w := w2) (by kernel_rfl) (by kernel_rfl) (Below.refl _ _) ?_
  repeat (any_goals (first | go_big_quiet_step (first | (go_at_call 18; exact Calls.regrown_of (GR.out _ _ (H2.out.on (below_regrown _ _ _)) (by omega) (by omega)))) | quiet_step (first | (go_at_call 18; exact Calls.regrown_of (GR.out _ _ (H2.out.on (below_regrown _ _ _)) (by omega) (by omega))))))
  refine wpQuiet_nil ?_
  intro w3 hq
  have b3 : Below w2.heap.size w2 w3 := by obtain ⟨p, hq⟩ := hq; rw [hq]; exact below_regrown _ _ _
  have H3 := Lib.hid (H2.out.on b3)
  have X3 := Lib.hid ((b3.cell (World.block_lt_of_cell? _ _ X2.out)).trans X2.out)
  have Y3 := Lib.hid ((b3.cell (World.block_lt_of_cell? _ _ Y2.out)).trans Y2.out)
  have B3 := Lib.hid (show Below w.heap.size w w3 from B2.out.trans (b3.mono B2.out.size))
  clear hq q0 q1 b3 H2 X2 Y2 B2 GR
  clear lo0 lo1 hi0 hi1
  go_wp2
  go_ret3
  exact ⟨by rw [EU.out]; rfl, B3.out⟩
 have g1 : decide (t < Lp.gone l (-1096193779200)) = false := decide_eq_false f1
 by_cases f2 : Lp.gone l 971890963199 + 1 < t
 case pos =>
  have g2 : decide (Lp.gone l 971890963199 + 1 < t) = true := decide_eq_true f2
  have EU := Lib.hid (show u = (0, false, 1) by rw [HU.out]; unfold Lp.ut; rw [if_pos HR.out, if_neg (by unfold Lp.inR; omega)])
  clear f1 f2
  refine wp_region_qb (w := w2) (by kernel_rfl) (by kernel_rfl) (Below.refl _ _) ?_
  repeat (any_goals (first | go_big_quiet_step (first | (go_at_call 18; exact Calls.regrown_of (GR.out _ _ (H2.out.on (below_regrown _ _ _)) (by omega) (by omega)))) | quiet_step (first | (go_at_call 18; exact Calls.regrown_of (GR.out _ _ (H2.out.on (below_regrown _ _ _)) (by omega) (by omega))))))
  refine wpQuiet_nil ?_
  intro w3 hq
  have b3 : Below w2.heap.size w2 w3 := by obtain ⟨p, hq⟩ := hq; rw [hq]; exact below_regrown _ _ _
  have H3 := Lib.hid (H2.out.on b3)
  have X3 := Lib.hid ((b3.cell (World.block_lt_of_cell? _ _ X2.out)).trans X2.out)
  have Y3 := Lib.hid ((b3.cell (World.block_lt_of_cell? _ _ Y2.out)).trans Y2.out)
  have B3 := Lib.hid (show Below w.heap.size w w3 from B2.out.trans (b3.mono B2.out.size))
  clear hq q0 q1 b3 H2 X2 Y2 B2 GR
  clear lo0 lo1 hi0 hi1
  go_wp2
  go_ret3
  exact ⟨by rw [EU.out]; rfl, B3.out⟩
 have g2 : decide (Lp.gone l 971890963199 + 1 < t) = false := decide_eq_false f2
 have hin : Lp.inR l t := by unfold Lp.inR; omega
 obtain ⟨m, hmm⟩ : ∃ m, m = Lp.uT l t := ⟨_, rfl⟩
 obtain ⟨iu, gu⟩ := Lp.uT_is (n := t) HR.out
 rw [← hmm] at iu gu
 have m1 : m ≤ 971890963199 := iu.top
 have m0 : -1096193779200 ≤ m := by
  by_cases hlt : m < -1096193779200
  ·
   have := iu.next (-1096193779200) hlt (by omega); have := hin.1; omega
  ·
   omega
 have t0 : -2000000000000 ≤ t := by have := hin.1; omega
 have t1 : t ≤ 2000000000000 := by have := hin.2; omega
 obtain ⟨k, hk⟩ : ∃ k, k = Lp.uk l t := ⟨_, rfl⟩
 obtain ⟨s, hs⟩ : ∃ s, s = Lp.cnt (l.take k) := ⟨_, rfl⟩
 obtain ⟨bb, hbb⟩ : ∃ b, b = decide (m + s < t) := ⟨_, rfl⟩
 have EU := Lib.hid (show u = (m, bb, 0) by rw [HU.out]; unfold Lp.ut; rw [if_pos HR.out, if_pos hin, ← hmm, gu, hbb, hs, hk])
 have cut := Lp.uk_cut (n := t) HR.out
 have k9 : k ≤ l.length := by rw [hk]; exact cut.1
 have HM := Lib.hid (show m = min (t - s) (match l[k]? with | some x => x.1 - 1 | none => 971890963199) by rw [hmm, hs, hk]; rfl)
 have HK := Lib.hid hk
 have HB := Lib.hid hbb
 have hst : ∀ x ∈ l, x.2 = 1 ∨ x.2 = -1 := fun x hx => (HOK.out x hx).2.2
 have CC := Lib.hid (fun W (S : SpV W (.slice A n c) l) => (lcount_any (.slice A k c) (l.take k) W (spv_take S k k9 c) (by rw [List.length_take]; omega) (fun x hx => hst x (List.mem_of_mem_take hx))).mono (fun _ _ h => (⟨h.1, h.2.1⟩ : _ ∧ _)))
 have hb := Lp.cnt_bd (l.take k) (fun x hx => hst x (List.mem_of_mem_take hx))
 have hb2 : (l.take k).length ≤ 1000 := by rw [List.length_take]; omega
 rw [← hs] at hb CC
 have s0 : -1000 ≤ s := by omega
 have s1 : s ≤ 1000 := by omega
 clear f1 f2 hin hmm iu gu hk hs hbb cut hst hb hb2
 refine wp_region_qb (w := w2) (by kernel_rfl) (by kernel_rfl) (Below.refl _ _) ?_
 repeat (any_goals (first | go_big_quiet_step (first | (go_at_call 18; exact Calls.regrown_of (GR.out _ _ (H2.out.on (below_regrown _ _ _)) (by omega) (by omega)))) | quiet_step (first | (go_at_call 18; exact Calls.regrown_of (GR.out _ _ (H2.out.on (below_regrown _ _ _)) (by omega) (by omega))))))
 refine wpQuiet_nil ?_
 intro w3 hq
 have b3 : Below w2.heap.size w2 w3 := by obtain ⟨p, hq⟩ := hq; rw [hq]; exact below_regrown _ _ _
 have H3 := Lib.hid (H2.out.on b3)
 have X3 := Lib.hid ((b3.cell (World.block_lt_of_cell? _ _ X2.out)).trans X2.out)
 have Y3 := Lib.hid ((b3.cell (World.block_lt_of_cell? _ _ Y2.out)).trans Y2.out)
 have B3 := Lib.hid (show Below w.heap.size w w3 from B2.out.trans (b3.mono B2.out.size))
 clear hq q0 q1 b3 H2 X2 Y2 B2 GR
 clear g1 g2 lo0 lo1 hi0 hi1
 go_upto_region 5 with (fail)
 have hs := Any.sort_Search Tryz.search39 21 #[.pointer (some ⟨g, 0, none⟩), .pointer (some ⟨g + 1, 0, none⟩)] l.length (Lp.ub l t) w3
  (enters_of Tryz.func21 (by kernel_rfl) rfl) (by omega)
  (fun m os i hi => by
   have bg : Below w3.heap.size w3 (grow (w3.drewN m) os) := below_grownN w3 m os
   exact lutc1_any (H3.out.on bg) hc hcb hl1 HOK.out g (g + 1) t (cell_grownN X3.out m os) (cell_grownN Y3.out m os) i hi)
  (Lp.ub_mono HR.out)
 rw [← HN.out, show (List.range n).countP (fun i => !Lp.ub l t i) = k from by rw [HN.out]; exact HK.out.symm] at hs
 have HC := Lib.hid hs
 have n9 : n ≤ 1000 := by have := HN.out; omega
 have k8 : k ≤ n := by have := HN.out; omega
 have k7 : (k : Int) ≤ c := by omega
 have k6 : k ≤ c := by omega
 clear hs HU HR k9 hl1
 have c0 := X3.out
 go_wp2_with fail
 refine HC.out.mono ?_
 rintro e w4 ⟨rfl, q, os, rfl⟩
 have b4 := below_grownN w3 q os
 have H4 := Lib.hid (H3.out.on b4)
 have X4 := Lib.hid (cell_grownN X3.out q os)
 have Y4 := Lib.hid (cell_grownN Y3.out q os)
 have B4 := Lib.hid (show Below w.heap.size w (grow (w3.drewN q) os) from B3.out.trans (b4.mono B3.out.size))
 clear c0 b4 HC H3 X3 Y3 B3
 generalize grow (w3.drewN q) os = w4 at *
 have c0 := X4.out
 have c1 := Y4.out
 by_cases hkn : k < n
 ·
  have hkl : k < l.length := by rw [← HN.out]; exact hkn
  have j1 : (k : Int) < n := by omega
  obtain ⟨a, rfl, hab, p1, -⟩ := H4.out.get k hkl
  have x9 := HM.out
  rw [List.getElem?_eq_getElem hkl] at x9
  replace x9 : m = min (t - s) (l[k].1 - 1) := x9
  have HM2 := Lib.hid x9
  have x8 : -1096193779200 ≤ l[k].1 ∧ l[k].1 ≤ 971890963199 := ⟨(HOK.out _ (List.getElem_mem hkl)).1, (HOK.out _ (List.getElem_mem hkl)).2.1⟩
  clear x9
  generalize l[k].1 = x at *
  have x0 := x8.1
  have x1 := x8.2
  clear x8
  go_wp2_with fail
  refine (CC.out _ H4.out).mono ?_; rintro e w5 ⟨rfl, b5⟩
  have Y5 := Lib.hid ((b5.cell (World.block_lt_of_cell? _ _ Y4.out)).trans Y4.out)
  have B5 := Lib.hid (show Below w.heap.size w w5 from B4.out.trans (b5.mono B4.out.size))
  clear c0 c1 b5
  have c1 := Y5.out
  go_upto_region 11 with (fail)
  rw [← HM2.out]
  have f3 : decide (m + s < t) = bb := HB.out.symm
  go_quiet (fail)
  go_wp2
  go_ret3
  exact ⟨by rw [EU.out]; rfl, _root_.Go.below_drewN B5.out _⟩
 ·
  have j1 : ¬ (k : Int) < n := by omega
  have x9 := HM.out
  rw [List.getElem?_eq_none (by rw [← HN.out]; omega)] at x9
  replace x9 : m = min (t - s) 971890963199 := x9
  have HM2 := Lib.hid x9
  clear x9
  go_wp2_with fail
  refine (CC.out _ H4.out).mono ?_; rintro e w5 ⟨rfl, b5⟩
  have Y5 := Lib.hid ((b5.cell (World.block_lt_of_cell? _ _ Y4.out)).trans Y4.out)
  have B5 := Lib.hid (show Below w.heap.size w w5 from B4.out.trans (b5.mono B4.out.size))
  clear c0 c1 b5
  have c1 := Y5.out
  go_upto_region 11 with (fail)
  rw [← HM2.out]
  have f3 : decide (m + s < t) = bb := HB.out.symm
  go_quiet (fail)
  go_wp2
  go_ret3
  exact ⟨by rw [EU.out]; rfl, _root_.Go.below_drewN B5.out _⟩
end Go.Proofs.YtifgiclnofdnkaaGreatDoor
set_option linter.unusedVariables false
set_option linter.unusedSimpArgs false
namespace Go.Proofs.YtifgiclnofdnkaaGreatDoor
open Go.RowKit Go.Sort
set_option maxHeartbeats 4000000 in
theorem lesame_yes (v1 v2 : Value) (l : List Lp.X) (w : World) (h1 : SpV w v1 l) (h2 : SpV w v2 l) (hm : l.length ≤ 1000000) :
  Calls Tryz.prog 14 #[v1, v2] w fun e w' => e = .returned (.bool true) ∧ Below w.heap.size w w' := by
 have H1 := Lib.hid h1
 have H2 := Lib.hid h2
 obtain ⟨A1, c1, rfl, -⟩ := h1
 obtain ⟨A2, c2, rfl, -⟩ := h2
 generalize hn : l.length = n at *
 have HN := Lib.hid hn
 clear hn
 go_enter Tryz.func14, Tryz.ntmps14
 go_wp2
 go_loopw [13] (fun i wr => ∃ k : Nat, k ≤ n ∧ i = .int .i64 k ∧ ∃ m, wr = w.drewN m) (fun i _ => n - (intOf i).toNat)
 case atStart => exact ⟨0, Nat.zero_le _, rfl, 0, rfl⟩
 case round =>
  obtain ⟨k, hk, rfl, m, rfl⟩ := hrel
  by_cases hlt : k < n
  ·
   obtain ⟨a1, rfl, -, g1, g2⟩ := H1.out.get k (by rw [HN.out]; exact hlt)
   obtain ⟨a2, rfl, -, g3, g4⟩ := H2.out.get k (by rw [HN.out]; exact hlt)
   generalize (l[k]'(by rw [HN.out]; exact hlt)).1 = x at *
   generalize (l[k]'(by rw [HN.out]; exact hlt)).2 = y at *
   have i0 : (0 : Int) ≤ k := by omega
   have i1 : (k : Int) < n := by omega
   go_wp2
   go_quiet (fail)
   go_wp2
   go_roundw
   case rel => exact ⟨k + 1, by omega, by go_num, _, rfl⟩
   case measure => simp [intOf]; omega
  ·
   go_wp2
   go_ret
   exact ⟨rfl, below_draw _ _⟩
namespace Lp
end Lp
end Go.Proofs.YtifgiclnofdnkaaGreatDoor
set_option linter.unusedVariables false
set_option linter.unusedSimpArgs false
namespace Go.Proofs.YtifgiclnofdnkaaGreatDoor
open Go.RowKit
theorem fd_len (a : ByteArray) : a.data.toList.length = a.size := Array.length_toList
theorem fd_drop (a : ByteArray) (k : Nat) (h : k < a.size) : a.data.toList.drop k = a[k] :: a.data.toList.drop (k + 1) := by
 rw [List.drop_eq_getElem_cons (by rw [fd_len]; exact h)]
 rfl
theorem fd_id (s : ByteArray) : (⟨s.data.toList.toArray⟩ : ByteArray) = s := by apply ByteArray.ext; apply Array.toList_inj.1; simp
theorem fd_ne {ds : ByteArray} (h : 0 < ds.size) : ds.toList.isEmpty = false ∧ ¬ ds.toList = [] := by
 have : ds.toList ≠ [] := by
  intro e
  have hl := fd_len ds
  rw [← ByteArray.toList_eq] at hl
  rw [e] at hl; simp at hl; omega
 exact ⟨by simpa using this, this⟩
theorem fd_ix (a : ByteArray) (k : Nat) (h : k < a.size) (w : World) : Sem.run Tryz.prog (Instr.index 9 (.string a) (.int .i64 (k : Int))) w = .ok (.int .u8 a[k].toNat) w := by
 rw [run_index_string w _ _ _ _ Tryz.underlying9, dif_pos ⟨by omega, by omega⟩]
 simp
end Go.Proofs.YtifgiclnofdnkaaGreatDoor
set_option linter.unusedVariables false
set_option linter.unusedSimpArgs false
namespace Go.Proofs.YtifgiclnofdnkaaGreatDoor
open Go.RowKit Go.Sort
def StS (w : World) (v : Value) (l : List ByteArray) : Prop := Lst w w.heap.size v l.length (l.map Value.string)
theorem StS.on {w w' : World} {v : Value} {l : List ByteArray} (h : StS w v l) (k : Below w.heap.size w w') : StS w' v l := Lst.on h k
theorem StS.get {w : World} {A : Option Addr} {n c : Nat} {l : List ByteArray} (h : StS w (.slice A n c) l) (k : Nat) (hk : k < l.length) : ∃ a, A = some a ∧ w.cell? (a.add k) = some (.string l[k]) := by
 obtain ⟨A', c', hv, ha⟩ := h
 cases hv
 obtain ⟨a, e, hb, hc⟩ := ha (by omega)
 refine ⟨a, e, hc k _ ?_⟩
 rw [List.getElem?_map, List.getElem?_eq_getElem hk]; rfl
theorem StS.len {w : World} {A : Option Addr} {n c : Nat} {l : List ByteArray} (h : StS w (.slice A n c) l) : n = l.length := by
 obtain ⟨A', c', hv, _⟩ := h
 cases hv; rfl
def AnsF (P : List (List UInt8) × Int) (w : World) (e : Ending) (w' : World) : Prop := ∃ (v : Value) (l : List ByteArray), StS w' v l ∧ l.map (·.data.toList) = P.1 ∧ e = .returned (.tuple #[v, .int .i64 P.2]) ∧ Below w.heap.size w w'
theorem fd_ext (s : ByteArray) (a b : Nat) : (s.extract a b).data.toList = (s.data.toList.take b).drop a := by
 rw [ByteArray.data_extract, Array.toList_extract, List.drop_take]
theorem fd_parts {i0 : Option TypeInfo} {z : Value} {n b : Nat} (h : i0.map (fun i => (i.zero, i.size, i.bytes)) = some (some z, n, b)) : ∃ i, i0 = some i ∧ i.zero = some z ∧ i.size = n ∧ i.bytes = b := by
 cases i0 with
 | none => cases h
 | some i => simp at h; exact ⟨i, rfl, h.1, h.2.1, h.2.2⟩
theorem fd_info : (Tryz.prog.info? 9).map (fun i => (i.zero, i.size, i.bytes)) = some (some (.string ⟨#[]⟩), 1, 16) := by kernel_rfl
theorem StS.nil (w : World) : StS w (.slice none 0 0) [] := Lst.nil w _
theorem fd_keep {P : Addr} {v : Value} {w W : World} (hm : w.cell? P = some v) (k : Below w.heap.size w W) : W.cell? P = some v :=
 (k.cell (World.block_lt_of_cell? _ _ hm)).trans hm
namespace Fd
def bl (l : List ByteArray) : List (List UInt8) := l.map (·.data.toList)
def tot (l : List ByteArray) : Nat := (l.map (·.size)).foldr (· + ·) 0
theorem tot_cons (x : ByteArray) (l : List ByteArray) : tot (x :: l) = x.size + tot l := rfl
theorem tot_drop (l : List ByteArray) (k : Nat) (h : k < l.length) : tot (l.drop k) = l[k].size + tot (l.drop (k + 1)) := by
 rw [List.drop_eq_getElem_cons h, tot_cons]
theorem jr_next (acc : List UInt8) (k : Nat) (x : List UInt8) (r : List (List UInt8)) (h : (tx x).2 = 0) : jr acc k (x :: r) = jr (acc ++ ((if k = 0 then [] else [32]) ++ (tx x).1)) (k + 1) r := by
 conv => lhs; unfold jr
 rw [if_pos h]
theorem jr_stop (acc : List UInt8) (k : Nat) (x : List UInt8) (r : List (List UInt8)) (h : (tx x).2 ≠ 0) : jr acc k (x :: r) = ([], (tx x).2) := by
 conv => lhs; unfold jr
 rw [if_neg h]
theorem bl_drop (l : List ByteArray) (k : Nat) (h : k < l.length) : (bl l).drop k = l[k].data.toList :: (bl l).drop (k + 1) := by
 unfold bl
 rw [List.drop_eq_getElem_cons (by simpa using h), List.getElem_map]
theorem arr_len (l : List UInt8) : (⟨l.toArray⟩ : ByteArray).size = l.length := List.size_toArray
end Fd
end Go.Proofs.YtifgiclnofdnkaaGreatDoor
set_option linter.unusedVariables false
set_option linter.unusedSimpArgs false
namespace Go.Proofs.YtifgiclnofdnkaaGreatDoor.Wd
open Go
def sm (b : UInt8) : Int := if 65 ≤ (b.toNat : Int) ∧ (b.toNat : Int) ≤ 90 then (b.toNat : Int) + 32 else b.toNat
def beg : List UInt8 → List UInt8 → Bool
 | _, [] => true
 | [], _ :: _ => false
 | w :: ws, s :: ss => decide (sm w = sm s) && beg ws ss
def same (a b : List UInt8) : Bool := decide (a.length = b.length) && beg a b
def exact : List (List UInt8) → Nat → List UInt8 → Option Nat
 | [], _, _ => none
 | w :: ws, i, s => if same w s then some i else exact ws (i + 1) s
def first : List (List UInt8) → Nat → List UInt8 → Option Nat
 | [], _, _ => none
 | w :: ws, i, s => if beg w s then some i else first ws (i + 1) s
end Go.Proofs.YtifgiclnofdnkaaGreatDoor.Wd
