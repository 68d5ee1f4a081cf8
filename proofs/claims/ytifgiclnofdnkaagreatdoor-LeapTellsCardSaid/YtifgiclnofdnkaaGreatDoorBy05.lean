/- Joined: LpU, LpC, LpD. -/
import Derived.Test.YtifgiclnofdnkaaGreatDoorBy04
import Derived.Test.YtifgiclnofdnkaaGreatDoorLaidO
import Derived.Shelf.SlSorted.Search
import Derived.Lib.MinMax
set_option linter.unusedVariables false
set_option linter.unusedSimpArgs false
namespace Go.Proofs.YtifgiclnofdnkaaGreatDoor
namespace Lp
def gn (l : List X) (t : Int) : Int × Int := if right l = true then (if -1096193779200 ≤ t ∧ t ≤ 971890963199 then (gone l t, 0) else (0, 1)) else (0, 4)
def ub (l : List X) (n : Int) (i : Nat) : Bool := if h : i < l.length then decide (n < l[i].1 + cnt (l.take (i + 1))) else true
def uk (l : List X) (n : Int) : Nat := (List.range l.length).countP (fun i => !ub l n i)
def uT (l : List X) (n : Int) : Int := min (n - cnt (l.take (uk l n))) (match l[uk l n]? with | some x => x.1 - 1 | none => 971890963199)
def inR (l : List X) (n : Int) : Prop := gone l (-1096193779200) ≤ n ∧ n ≤ gone l 971890963199 + 1
instance (l : List X) (n : Int) : Decidable (inR l n) := by unfold inR; infer_instance
def ut (l : List X) (n : Int) : Int × Bool × Int := if right l = true then (if inR l n then (uT l n, decide (gone l (uT l n) < n), 0) else (0, false, 1)) else (0, false, 4)
theorem countP_cut (n : Nat) (p : Nat → Bool) (hm : ∀ a b, a ≤ b → b < n → p a = true → p b = true) :
  (List.range n).countP (fun i => !p i) ≤ n ∧ (∀ j, j < (List.range n).countP (fun i => !p i) → p j = false) ∧ ((List.range n).countP (fun i => !p i) < n → p ((List.range n).countP (fun i => !p i)) = true) := by
 induction n with
 | zero => exact ⟨Nat.le_refl _, fun j hj => absurd hj (by simp), fun h => absurd h (by simp)⟩
 | succ n ih =>
  obtain ⟨i1, i2, i3⟩ := ih (fun a b h1 h2 => hm a b h1 (by omega))
  rw [List.range_succ, List.countP_append, List.countP_singleton]
  generalize (List.range n).countP (fun i => !p i) = k at *
  cases hp : p n
  ·
   have hk : k = n := by
    by_cases h : k < n
    ·
     have := hm k n (by omega) (by omega) (i3 h); rw [hp] at this; cases this
    ·
     omega
   subst hk
   rw [if_pos (by simp)]
   refine ⟨Nat.le_refl _, fun j hj => ?_, fun h => absurd h (by omega)⟩
   by_cases h : j < k
   ·
    exact i2 j h
   ·
    have : j = k := by omega
    subst this; exact hp
  ·
   rw [if_neg (by simp), Nat.add_zero]
   refine ⟨by omega, i2, fun _ => ?_⟩
   by_cases h : k < n
   ·
    exact i3 h
   ·
    have : k = n := by omega
    subst this; exact hp
theorem ub_mono {l : List X} {n : Int} (hr : right l = true) : ∀ a b, a ≤ b → b < l.length → ub l n a = true → ub l n b = true := by
 obtain ⟨h1, h2, h3⟩ := right_of hr
 intro a b hab hb ha
 unfold ub at ha ⊢
 rw [dif_pos hb]
 rw [dif_pos (by omega), decide_eq_true_eq] at ha
 by_cases e : a = b
 ·
  subst e; exact decide_eq_true ha
 ·
  exact decide_eq_true (halves h3 (fun x hx => (h2 x hx).2.2) (by omega) (List.getElem?_eq_getElem (by omega)) (List.getElem?_eq_getElem hb) ha)
theorem uk_cut {l : List X} {n : Int} (hr : right l = true) : uk l n ≤ l.length ∧ (∀ j, j < uk l n → ub l n j = false) ∧ (uk l n < l.length → ub l n (uk l n) = true) :=
 countP_cut l.length (ub l n) (ub_mono hr)
theorem uT_is {l : List X} {n : Int} (hr : right l = true) : IsU l n (uT l n) ∧ gone l (uT l n) = uT l n + cnt (l.take (uk l n)) := by
 obtain ⟨h1, h2, h3⟩ := right_of hr
 obtain ⟨c1, c2, c3⟩ := uk_cut (n := n) hr
 refine isU_of h3 h2 c1 (fun j x hj hx => ?_) (fun x hx => ?_) rfl
 ·
  have hl : j < l.length := (List.getElem?_eq_some_iff.1 hx).1
  have := c2 j hj
  unfold ub at this
  rw [dif_pos hl, decide_eq_false_iff_not] at this
  rw [List.getElem?_eq_getElem hl] at hx; cases hx; omega
 ·
  have hl : uk l n < l.length := (List.getElem?_eq_some_iff.1 hx).1
  have := c3 hl
  unfold ub at this
  rw [dif_pos hl, decide_eq_true_eq] at this
  rw [List.getElem?_eq_getElem hl] at hx; cases hx; exact this
theorem gone_bd {l : List X} (hr : right l = true) (t : Int) : t - 1000 ≤ gone l t ∧ gone l t ≤ t + 1000 := by
 obtain ⟨h1, h2, h3⟩ := right_of hr
 have := at_bd l t (fun x hx => (h2 x hx).2.2) h1
 unfold gone
 omega
end Lp
end Go.Proofs.YtifgiclnofdnkaaGreatDoor
set_option linter.unusedVariables false
set_option linter.unusedSimpArgs false
namespace Go.Proofs.YtifgiclnofdnkaaGreatDoor
open Go.RowKit Go.Sort Go.Shelf
theorem lgrow_below {B : Nat} (w : World) (q : Nat) (os : Array Obj) (hB : B ≤ w.heap.size) : Below B w (grow (w.drewN q) os) := below_grown_sl B w q os hB
theorem lgrow0 (X : World) : grow X #[] = X := by cases X; simp [grow]
set_option maxHeartbeats 1000000 in
theorem lcount_any (v : Value) (l : List Lp.X) (w : World) (h : SpV w v l) (hm : l.length ≤ 1000) (hs : ∀ x ∈ l, x.2 = 1 ∨ x.2 = -1) :
  Calls Tryz.prog 22 #[v] w fun e w' => e = .returned (.int .i64 (Lp.cnt l)) ∧ Below w.heap.size w w' ∧ w'.drawn = w.drawn := by
 have H := Lib.hid h
 obtain ⟨A, c, rfl, -⟩ := h
 obtain ⟨n, hn⟩ : ∃ n, l.length = n := ⟨_, rfl⟩
 rw [hn] at hm H ⊢
 have HN := Lib.hid hn
 have HS := Lib.hid hs
 clear hn hs
 obtain ⟨ans, hans⟩ : ∃ ans, ans = Lp.cnt l := ⟨_, rfl⟩
 rw [← hans]
 have HA := Lib.hid hans
 clear hans
 go_enter Tryz.func22, Tryz.ntmps22
 go_wp2
 go_loopw [3, 8] (fun sv i wr => ∃ (k : Nat) (s : Int), k ≤ n ∧ sv = .int .i64 s ∧ i = .int .i64 k ∧ Hid (s = Lp.cnt (l.take k)) ∧ Hid (Below w.heap.size w wr) ∧ Hid (wr.drawn = w.drawn)) (fun _ i _ => n - (intOf i).toNat)
 case atStart => exact ⟨0, 0, Nat.zero_le _, rfl, rfl, Lib.hid rfl, Lib.hid (Below.refl _ _), Lib.hid rfl⟩
 case round =>
  rename World => w1
  obtain ⟨k, s, hk, rfl, rfl, hs1, hB, hD⟩ := hrel
  by_cases hlt : k < n
  ·
   have hkl : k < l.length := by rw [HN.out]; exact hlt
   obtain ⟨a, rfl, hab, g1, g2⟩ := (H.out.on hB.out).get k hkl
   have hy := HS.out l[k] (List.getElem_mem hkl)
   have NX := Lib.hid (show s + l[k].2 = Lp.cnt (l.take (k + 1)) from by rw [hs1.out, Lp.cnt_take_succ l k l[k] (List.getElem?_eq_getElem hkl)])
   have hb := Lp.cnt_bd (l.take k) (fun x hx => HS.out x (List.mem_of_mem_take hx))
   have hb2 : (l.take k).length ≤ 1000 := by rw [List.length_take]; omega
   rw [← hs1.out] at hb
   have s0 : -1000 ≤ s := by omega
   have s1 : s ≤ 1000 := by omega
   clear hb hb2
   generalize l[k].1 = x at *
   generalize l[k].2 = y at *
   have y0 : -1 ≤ y := by omega
   have y1 : y ≤ 1 := by omega
   clear hy
   have i1 : (k : Int) < n := by omega
   go_wp2
   go_roundw; case rel => exact ⟨k + 1, s + y, by omega, rfl, by go_num, NX, Lib.hid (by have hz := hB.out.size; repeat (first | exact hB.out | refine _root_.Go.below_drewN ?_ _ | refine Below.drew ?_ | refine Below.setCell ?_ (by first | omega | (simp; done) | (simp; omega)) _ | refine Below.alloc ?_ (by first | omega | (simp; done) | (simp; omega)) _)), Lib.hid hD.out⟩
   case measure => simp [intOf]; omega
  ·
   have i2 : ¬ (k : Int) < n := by omega
   have EX := Lib.hid (show s = ans by rw [hs1.out, HA.out, List.take_of_length_le (by rw [HN.out]; omega)])
   go_wp2
   go_ret
   exact ⟨by rw [← EX.out]; rfl, hB.out, hD.out⟩
set_option maxHeartbeats 2000000 in
theorem lgone1_any {W : World} {A : Option Addr} {n c : Nat} {l : List Lp.X} (h : SpV W (.slice A n c) l) (bl bt : Nat) (t : Int) (hl : W.cell? ⟨bl, 0, none⟩ = some (.slice A n c)) (ht : W.cell? ⟨bt, 0, none⟩ = some (.int .i64 t)) (i : Nat) (hi : i < l.length) :
  Calls Tryz.prog 41 #[.int .i64 i, .pointer (some ⟨bl, 0, none⟩), .pointer (some ⟨bt, 0, none⟩)] W fun e w' => e = .returned (.bool (decide (t < l[i].1))) ∧ ∃ k, w' = W.drewN k := by
 have hn := h.len
 obtain ⟨a, rfl, hab, p1, -⟩ := h.get i hi
 generalize l[i].1 = x at *
 have i1 : (i : Int) < n := by omega
 clear h
 go_enter Tryz.func41, Tryz.ntmps41
 go_wp2
 go_quiet (fail)
 go_wp2
 go_ret
 exact ⟨by first | rfl | (congr 2), _, rfl⟩
set_option maxRecDepth 100000 in
set_option maxHeartbeats 4000000 in
theorem lgone_any (A : Option Addr) (n c : Nat) (l : List Lp.X) (w : World) (h : SpV w (.slice A n c) l) (hc : n ≤ c) (hcb : c ≤ 9223372036854775807) (hr : Lp.right l = true) (t : Int) (t0 : -2000000000000 ≤ t) (t1 : t ≤ 2000000000000) :
  Calls Tryz.prog 18 #[.slice A n c, .int .i64 t] w fun e w' => e = .returned (.int .i64 (Lp.gone l t)) ∧ Below w.heap.size w w' := by
 have hn := h.len
 obtain ⟨hl1, hok, hf⟩ := Lp.right_of hr
 have hst : ∀ x ∈ l, x.2 = 1 ∨ x.2 = -1 := fun x hx => (hok x hx).2.2
 have HM : Hid (∀ a b, a ≤ b → b < l.length → (fun i => if h : i < l.length then decide (t < l[i].1) else true) a = true → (fun i => if h : i < l.length then decide (t < l[i].1) else true) b = true) := Lib.hid (fun a b hab hb ha => by
  dsimp only at ha ⊢
  rw [dif_pos hb]
  rw [dif_pos (by omega)] at ha
  have ha := of_decide_eq_true ha
  refine decide_eq_true ?_
  by_cases e : a = b
  ·
   subst e; exact ha
  ·
   have := Lp.far_at l a b _ _ hf (by omega) (List.getElem?_eq_getElem (by omega)) (List.getElem?_eq_getElem hb); omega)
 obtain ⟨c1, c2, c3⟩ := Lp.countP_cut l.length (fun i => if h : i < l.length then decide (t < l[i].1) else true) HM.out
 obtain ⟨k, hk⟩ : ∃ k, k = (List.range l.length).countP (fun i => !(fun i => if h : i < l.length then decide (t < l[i].1) else true) i) := ⟨_, rfl⟩
 rw [← hk] at c1 c2 c3
 have hat : Lp.at_ l t = Lp.cnt (l.take k) := Lp.at_take l k t hf
  (fun j x hj hx => by
   have h1 := c2 j hj
   have h2 : j < l.length := by omega
   rw [dif_pos h2, decide_eq_false_iff_not] at h1
   rw [List.getElem?_eq_getElem h2] at hx; cases hx; omega)
  (fun x hx => by
   have h2 : k < l.length := (List.getElem?_eq_some_iff.1 hx).1
   have h1 := c3 h2
   rw [dif_pos h2, decide_eq_true_eq] at h1
   rw [List.getElem?_eq_getElem h2] at hx; cases hx; exact h1)
 have hg : Lp.gone l t = t + Lp.cnt (l.take k) := by unfold Lp.gone; rw [hat]
 have CR := Lib.hid (fun W (S : SpV W (.slice A n c) l) => (lcount_any (.slice A k c) (l.take k) W (spv_take S k c1 c) (by rw [List.length_take]; omega) (fun x hx => hst x (List.mem_of_mem_take hx))).mono (fun _ _ h => (⟨h.1, h.2.1⟩ : _ ∧ _)))
 have hb := Lp.cnt_bd (l.take k) (fun x hx => hst x (List.mem_of_mem_take hx))
 have hb2 : (l.take k).length ≤ 1000 := by rw [List.length_take]; omega
 have HG := Lib.hid hg
 obtain ⟨s, hs⟩ : ∃ s, s = Lp.cnt (l.take k) := ⟨_, rfl⟩
 rw [← hs] at hb CR hg
 have s0 : -1000 ≤ s := by omega
 have s1 : s ≤ 1000 := by omega
 rw [hg]
 have HK := Lib.hid hk
 have HL := Lib.hid hn
 have k1 : (k : Int) ≤ c := by omega
 have k2 : k ≤ c := by omega
 have n4 : n ≤ 1000 := by omega
 have HCB := Lib.hid hcb
 clear hb hb2 hs hk HG hg hat c2 c3 hst hok hf hl1 hr hn
 have b0 : Below w.heap.size w ((w.alloc (.cells #[.slice A n c] 22)).alloc (.cells #[.int .i64 t] 2)) := by repeat (first | exact Below.refl _ _ | refine Below.alloc ?_ (by first | omega | (simp; done) | (simp; omega)) _)
 have H0 := Lib.hid (h.on b0)
 have B0 := Lib.hid b0
 clear b0 h
 go_enter Tryz.func18, Tryz.ntmps18
 go_upto_region 1 with (fail)
 have X0 : Hid (((w.alloc (.cells #[.slice A n c] 22)).alloc (.cells #[.int .i64 t] 2)).cell? ⟨w.heap.size, 0, none⟩ = some (.slice A n c)) := Lib.hid (by simp [go_sem])
 have Y0 : Hid (((w.alloc (.cells #[.slice A n c] 22)).alloc (.cells #[.int .i64 t] 2)).cell? ⟨w.heap.size + 1, 0, none⟩ = some (.int .i64 t)) := Lib.hid (by simp [go_sem])
 have Z0 : Hid (w.heap.size + 1 < ((w.alloc (.cells #[.slice A n c] 22)).alloc (.cells #[.int .i64 t] 2)).heap.size) := Lib.hid (by simp)
 generalize (w.alloc (.cells #[.slice A n c] 22)).alloc (.cells #[.int .i64 t] 2) = w1 at *
 obtain ⟨g, hgz⟩ : ∃ g, g = w.heap.size := ⟨_, rfl⟩
 rw [← hgz] at B0 X0 Y0 Z0 ⊢
 have HG := Lib.hid hgz
 clear hgz
 have hs := Any.sort_Search Tryz.search39 41 #[.pointer (some ⟨g, 0, none⟩), .pointer (some ⟨g + 1, 0, none⟩)] l.length (fun i => if h : i < l.length then decide (t < l[i].1) else true) w1
  (enters_of Tryz.func41 (by kernel_rfl) rfl) (by have := HL.out; omega)
  (fun m os i hi => by
   have bg : Below w1.heap.size w1 (grow (w1.drewN m) os) := lgrow_below w1 m os (Nat.le_refl _)
   have hz := Z0.out
   refine (lgone1_any (H0.out.on bg) g (g + 1) t ((bg.cell (by show g < _; omega)).trans X0.out) ((bg.cell (by show g + 1 < _; omega)).trans Y0.out) i hi).mono ?_
   rintro e w' ⟨rfl, k, rfl⟩
   exact ⟨by rw [dif_pos hi], k, #[], (lgrow0 _).symm⟩)
  HM.out
 rw [← HK.out, ← HL.out] at hs
 have HC := Lib.hid hs
 clear hs HM
 have c0 := X0.out
 go_wp2_with fail
 refine HC.out.mono ?_
 rintro e w2 ⟨rfl, q, os, rfl⟩
 have b2 : Below w1.heap.size w1 (grow (w1.drewN q) os) := lgrow_below w1 q os (Nat.le_refl _)
 have H2 := Lib.hid (H0.out.on b2)
 have X2 := Lib.hid ((b2.cell (p := ⟨g, 0, none⟩) (by show g < _; have := Z0.out; omega)).trans X0.out)
 have Y2 := Lib.hid ((b2.cell (p := ⟨g + 1, 0, none⟩) (by show g + 1 < _; have := Z0.out; omega)).trans Y0.out)
 have B2 := Lib.hid (show Below g w _ from B0.out.trans (b2.mono (by have := Z0.out; omega)))
 clear b2 c0 H0 X0 Y0 Z0 B0 HC
 generalize grow (w1.drewN q) os = w2 at *
 go_upto_region 2 with (fail)
 have q0 := cell_regrown X2.out
 have q1 := cell_regrown Y2.out
 refine wp_region_qb (w := w2) (by kernel_rfl) (by kernel_rfl) (Below.refl _ _) ?_
 repeat (any_goals (first | go_big_quiet_step (first | (go_at_call 22; exact Calls.regrown_of (CR.out _ (H2.out.on (below_regrown _ _ _))))) | quiet_step (first | (go_at_call 22; exact Calls.regrown_of (CR.out _ (H2.out.on (below_regrown _ _ _)))))))
 refine wpQuiet_nil ?_
 intro w3 hq
 have b3 : Below w2.heap.size w2 w3 := by obtain ⟨p, hq⟩ := hq; rw [hq]; exact below_regrown _ _ _
 go_wp2
 go_ret
 exact ⟨rfl, by rw [HG.out] at B2; exact below_step B2.out b3⟩
theorem wp_region_qd {P : Program} {id : Nat} {Q : Exit → Act → World → Prop} {a : Act} {w : World} {l : List Oper} (hm : P.follows .mixedOrders = true) (hB : Region.lexB .any l.toArray = true)
  (h : wpQuiet P l.toArray (fun w' => ∃ p : Regrown, w' = grow (w.drewN p.d) p.os) (fun a' => ∀ w', (∃ p : Regrown, w' = grow (w.drewN p.d) p.os) → Q .normal a' w') l a) : (Code.region id l.toArray true).wp P Q a w :=
 wp_region_quiet (C := fun w' => ∃ p : Regrown, w' = grow (w.drewN p.d) p.os) hm hB ⟨⟨1, #[]⟩, by rw [grow_empty]; rfl⟩ (by simpa using h)
theorem drewN_back {w w' : World} (h : Below w.heap.size w w') {q : Nat} (hd : w'.drawn = w.drawn + q) : ∃ os, w' = grow (w.drewN q) os := by
 obtain ⟨p, hp⟩ := regrown_of_below h
 refine ⟨p.os, ?_⟩
 have e : p.d = w.drawn + q := by rw [hp] at hd; exact hd
 rw [hp, e]
 rfl
theorem below_grownN (w : World) (q : Nat) (os : Array Obj) : Below w.heap.size w (grow (w.drewN q) os) := below_grown_sl _ w q os (Nat.le_refl _)
theorem cell_grownN {w : World} {a : Addr} {v : Value} (h : w.cell? a = some v) (q : Nat) (os : Array Obj) : (grow (w.drewN q) os).cell? a = some v := by
 rw [(below_grownN w q os).cell (World.block_lt_of_cell? _ _ h)]; exact h
theorem Lp.qd_of {P : Program} {f : FuncId} {args : Array Value} {w : World} {q : Nat} {os : Array Obj} {v : Value}
  (h : Calls P f args (grow (w.drewN q) os) fun e w' => e = .returned v ∧ Below (grow (w.drewN q) os).heap.size (grow (w.drewN q) os) w' ∧ w'.drawn = (grow (w.drewN q) os).drawn) : Calls P f args (grow (w.drewN q) os) fun e w'' => e = .returned v ∧ ∃ p : Regrown, w'' = grow (w.drewN p.d) p.os :=
 h.mono fun _ _ ⟨he, hb, hd⟩ => ⟨he, by
  obtain ⟨os2, e⟩ := drewN_back (q := q) (below_step (below_grownN w q os) hb) (by rw [hd]; rfl)
  exact ⟨⟨q, os2⟩, e⟩⟩
set_option maxHeartbeats 2000000 in
theorem leGone_any (A : Option Addr) (n c : Nat) (l : List Lp.X) (w : World) (h : SpV w (.slice A n c) l) (hc : n ≤ c) (hcb : c ≤ 9223372036854775807) (hm : l.length ≤ 1000000) (t : Int) :
  Calls Tryz.prog 6 #[.slice A n c, .int .i64 t] w fun e w' => e = .returned (.tuple #[.int .i64 (Lp.gn l t).1, .int .i64 (Lp.gn l t).2]) ∧ Below w.heap.size w w' := by
 have H := Lib.hid h
 have CR := Lib.hid (fun W (S : SpV W (.slice A n c) l) => leright_any (.slice A n c) l W S hm)
 unfold Lp.gn
 by_cases hr : Lp.right l = true
 case neg =>
  rw [if_neg hr]
  have hr : Lp.right l = false := by simpa using hr
  rw [hr] at CR
  clear h hm hr
  go_enter Tryz.func6, Tryz.ntmps6
  go_wp2_with fail
  refine (CR.out _ H.out).mono ?_; rintro e w1 ⟨rfl, b1⟩
  have B1 := Lib.hid b1
  go_wp2
  go_ret2
  exact ⟨rfl, B1.out⟩
 rw [if_pos hr]
 by_cases ht : -1096193779200 ≤ t ∧ t ≤ 971890963199
 case neg =>
  rw [if_neg ht]
  have CS := Lib.hid (fun W => lsec_no t W ht)
  rw [hr] at CR
  clear h hm hr ht
  go_enter Tryz.func6, Tryz.ntmps6
  go_wp2_with fail
  refine (CR.out _ H.out).mono ?_; rintro e w1 ⟨rfl, b1⟩
  have B1 := Lib.hid b1
  go_wp2_with fail
  refine (CS.out _).mono ?_; rintro e w2 ⟨rfl, rfl⟩
  go_wp2
  go_ret2
  exact ⟨rfl, B1.out⟩
 rw [if_pos ht]
 have CS := Lib.hid (fun W => lsec_yes t W ht.1 ht.2)
 have CG := Lib.hid (fun W (S : SpV W (.slice A n c) l) => lgone_any A n c l W S hc hcb hr t (by omega) (by omega))
 rw [hr] at CR
 clear h hm hr ht
 go_enter Tryz.func6, Tryz.ntmps6
 go_wp2_with fail
 refine (CR.out _ H.out).mono ?_; rintro e w1 ⟨rfl, b1⟩
 have B1 := Lib.hid b1
 go_wp2_with fail
 refine (CS.out _).mono ?_; rintro e w2 ⟨rfl, rfl⟩
 go_wp2_with fail
 refine (CG.out _ (H.out.on B1.out)).mono ?_; rintro e w2 ⟨rfl, b2⟩
 have B2 := Lib.hid (below_step B1.out b2)
 go_wp2
 go_ret2
 exact ⟨rfl, B2.out⟩
set_option maxRecDepth 100000 in
set_option maxHeartbeats 2000000 in
theorem lutc1_any {W : World} {A : Option Addr} {n c : Nat} {l : List Lp.X} (h : SpV W (.slice A n c) l) (hc : n ≤ c) (hcb : c ≤ 9223372036854775807) (hm : l.length ≤ 1000) (hok : ∀ x ∈ l, Lp.ok1 x) (bl bt : Nat) (t : Int) (hl : W.cell? ⟨bl, 0, none⟩ = some (.slice A n c)) (ht : W.cell? ⟨bt, 0, none⟩ = some (.int .i64 t)) (i : Nat) (hi : i < l.length) :
  Calls Tryz.prog 21 #[.int .i64 i, .pointer (some ⟨bl, 0, none⟩), .pointer (some ⟨bt, 0, none⟩)] W fun e w' => e = .returned (.bool (Lp.ub l t i)) ∧ ∃ q os, w' = grow (W.drewN q) os := by
 have hn := h.len
 have HH := Lib.hid h
 unfold Lp.ub
 rw [dif_pos hi]
 have hst : ∀ x ∈ l, x.2 = 1 ∨ x.2 = -1 := fun x hx => (hok x hx).2.2
 have CR := Lib.hid (fun W (S : SpV W (.slice A n c) l) => lcount_any (.slice A (i + 1) c) (l.take (i + 1)) W (spv_take S (i + 1) (by omega) c) (by rw [List.length_take]; omega) (fun x hx => hst x (List.mem_of_mem_take hx)))
 have hb := Lp.cnt_bd (l.take (i + 1)) (fun x hx => hst x (List.mem_of_mem_take hx))
 have hb2 : (l.take (i + 1)).length ≤ 1000 := by rw [List.length_take]; omega
 obtain ⟨s, hs⟩ : ∃ s, s = Lp.cnt (l.take (i + 1)) := ⟨_, rfl⟩
 rw [← hs] at hb CR ⊢
 have s0 : -1000 ≤ s := by omega
 have s1 : s ≤ 1000 := by omega
 have hx := hok l[i] (List.getElem_mem hi)
 have x0 := hx.1
 have x1 := hx.2.1
 obtain ⟨a, rfl, hab, p1, -⟩ := h.get i hi
 generalize l[i].1 = x at *
 have i1 : (i : Int) < n := by omega
 have k1 : (i : Int) + 1 ≤ c := by omega
 have k2 : i + 1 ≤ c := by omega
 have HC : Hid (∀ W, SpV W (.slice (some a) n c) l → Calls Tryz.prog 22 #[.slice (some a) (i + 1) c] W fun e w' => e = .returned (.int .i64 s) ∧ Below W.heap.size W w' ∧ w'.drawn = W.drawn) := CR
 clear h hb hb2 hs hx hst hok CR hn
 go_enter Tryz.func21, Tryz.ntmps21
 go_upto_region 1 with (fail)
 have q0 := cell_grownN hl
 have q1 := cell_grownN ht
 have q2 := cell_grownN p1
 refine wp_region_qd (by kernel_rfl) (by kernel_rfl) ?_
 repeat (any_goals (first | go_big_quiet_step (first | (go_at_call 22; exact Lp.qd_of (HC.out _ (HH.out.on (below_grownN _ _ _))))) | quiet_step (first | (go_at_call 22; exact Lp.qd_of (HC.out _ (HH.out.on (below_grownN _ _ _)))))))
 refine wpQuiet_nil ?_
 intro w3 hq
 go_wp2
 go_ret
 obtain ⟨p, hq⟩ := hq
 exact ⟨by first | rfl | (congr 2), _, _, hq⟩
end Go.Proofs.YtifgiclnofdnkaaGreatDoor
