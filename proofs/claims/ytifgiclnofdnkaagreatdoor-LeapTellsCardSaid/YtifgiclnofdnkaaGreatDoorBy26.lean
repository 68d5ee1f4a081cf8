/- Joined: LpH. -/
import Derived.Test.YtifgiclnofdnkaaGreatDoorBy01
import Derived.Test.YtifgiclnofdnkaaGreatDoorBy22
import Derived.Test.YtifgiclnofdnkaaGreatDoorBy04
import Derived.Test.YtifgiclnofdnkaaGreatDoorBy24
import Derived.Test.YtifgiclnofdnkaaGreatDoorBy15
import Derived.Test.YtifgiclnofdnkaaGreatDoorBy20
import Derived.Test.YtifgiclnofdnkaaGreatDoorBy25
import Derived.OwnWalk
import Derived.Laws.MakeOwn
set_option linter.unusedVariables false
set_option linter.unusedSimpArgs false
namespace Go.Proofs.YtifgiclnofdnkaaGreatDoor
open Go.RowKit Go.Sort Go.Pairs
theorem lp_add0 (g k : Nat) : (⟨g, 0, none⟩ : Addr).add k = ⟨g, k, none⟩ := by
 simp [Addr.add]; exact fun h => h.symm
structure TxM (W : World) (g n : Nat) (xs : List Value) : Prop where
 row : W.ownsRow g 9 1 (.slice (some ⟨g, 0, none⟩) n n) n xs
theorem TxM.on {W W' : World} {g n : Nat} {xs : List Value} (h : TxM W g n xs) (k : Below W.heap.size W W') : TxM W' g n xs := ⟨own_on h.row k⟩
theorem lp_strs (w : World) (l : List ByteArray) (t : TypeId) (c : Nat) : StS (w.alloc (.cells (l.map Value.string).toArray t)) (.slice (some ⟨w.heap.size, 0, none⟩) l.length c) l := by
 refine ⟨_, c, rfl, fun _ => ⟨_, rfl, by simp, fun i u hu => ?_⟩⟩
 rw [show (⟨w.heap.size, 0, none⟩ : Addr).add i = ⟨w.heap.size, i, none⟩ by simp [Addr.add]; exact fun h => h.symm]
 rw [Lib.cell_of_heap (heap_alloc_new w _)]
 simpa using hu
namespace Lp
def ln1 (x : X) : ByteArray := ⟨(line x).toArray⟩
def txs (l : List X) (k : Nat) : List Value := (l.take k).map (fun x => Value.string (ln1 x)) ++ List.replicate (l.length - k) (.string ⟨#[]⟩)
theorem txs_set (l : List X) (k : Nat) (hk : k < l.length) : (txs l k).set k (.string (ln1 l[k])) = txs l (k + 1) := by
 unfold txs
 have hl : ((l.take k).map (fun x => Value.string (ln1 x))).length = k := by rw [List.length_map, List.length_take]; omega
 rw [List.set_append_right _ _ (by omega), hl, Nat.sub_self, show l.length - k = (l.length - (k + 1)) + 1 by omega, List.replicate_succ, List.set_cons_zero, List.take_succ_eq_append_getElem hk, List.map_append, List.append_assoc]
 rfl
theorem txs_len (l : List X) (k : Nat) (hk : k ≤ l.length) : (txs l k).length = l.length := by
 unfold txs
 rw [List.length_append, List.length_map, List.length_take, List.length_replicate]; omega
theorem txs_all (l : List X) : txs l l.length = (l.map ln1).map Value.string := by
 unfold txs
 rw [Nat.sub_self, List.take_length, List.replicate_zero, List.append_nil, List.map_map]; rfl
theorem made_strs (n : Nat) : (madeCells #[Value.string ⟨#[]⟩] (n * 1)).toList = List.replicate n (.string ⟨#[]⟩) := by
 rw [Nat.mul_one]
 apply List.ext_getElem?
 intro i
 by_cases h : i < n
 ·
  rw [List.getElem?_replicate, if_pos h]; simp [madeCells, h, Nat.mod_one]
 ·
  rw [List.getElem?_replicate, if_neg h]; simp [madeCells, h]
theorem jn_ln (l : List X) : Ln.jn (l.map ln1) = l.flatMap (fun x => line x ++ [10]) := by
 unfold Ln.jn
 rw [List.flatMap_map]; rfl
theorem line_jn {x : X} (h : ok1 x) : Fd.jn (Fd.bl [⟨(stp x.1).toArray⟩, ⟨(sg x.2).toArray⟩]) = (line x, 0) ∧ (stp x.1).length ≤ 64 ∧ (sg x.2).length = 1 := by
 obtain ⟨h0, h1, h2⟩ := h
 obtain ⟨a1, a2, a3⟩ := stp_ok h0 h1
 obtain ⟨b1, b2, b3⟩ := sg_ok h2
 refine ⟨?_, a2.2.1, b3⟩
 show Fd.jn [stp x.1, sg x.2] = _
 rw [Qy.jn_sj [stp x.1, sg x.2] (by
  intro y hy
  simp only [List.mem_cons, List.mem_nil_iff, or_false] at hy
  rcases hy with rfl | rfl
  ·
   exact a2.1
  ·
   exact b1.1) (by simp)]
 show (stp x.1 ++ (32 :: (sg x.2 ++ [])), (0 : Int)) = _
 rw [List.append_nil]; rfl
theorem stp_len {s : ByteArray} {l : List UInt8} (h : s = ⟨l.toArray⟩) : s.size = l.length := by subst h; show l.toArray.size = _; rw [List.size_toArray]
end Lp
theorem bk2_gr {W W' : World} {b g : Nat} {v0 v1 : Value} (h : Bk2 W b v0 v1) (hg : W.grownBy W' (some g)) (hne : b ≠ g) : Bk2 W' b v0 v1 := by
 have e : W'.heap[b]? = W.heap[b]? := hg.block b h.hb (fun e => hne (Option.some.inj e))
 exact ⟨Nat.lt_of_lt_of_le h.hb hg.size, fun j => (World.frozen?_of_block (a := ⟨b, j, none⟩) e).trans (h.fz j), (World.cell?_of_block (a := ⟨b, 0, none⟩) e).trans h.k0, (World.cell?_of_block (a := ⟨b, 1, none⟩) e).trans h.k1⟩
theorem bk6_gr {W W' : World} {b g : Nat} {v0 v1 v2 v3 v4 v5 : Value} (h : Bk6 W b v0 v1 v2 v3 v4 v5) (hg : W.grownBy W' (some g)) (hne : b ≠ g) : Bk6 W' b v0 v1 v2 v3 v4 v5 := by
 have e : W'.heap[b]? = W.heap[b]? := hg.block b h.hb (fun e => hne (Option.some.inj e))
 exact ⟨Nat.lt_of_lt_of_le h.hb hg.size, fun j => (World.frozen?_of_block (a := ⟨b, j, none⟩) e).trans (h.fz j), (World.cell?_of_block (a := ⟨b, 0, none⟩) e).trans h.k0, (World.cell?_of_block (a := ⟨b, 1, none⟩) e).trans h.k1,
  (World.cell?_of_block (a := ⟨b, 2, none⟩) e).trans h.k2, (World.cell?_of_block (a := ⟨b, 3, none⟩) e).trans h.k3, (World.cell?_of_block (a := ⟨b, 4, none⟩) e).trans h.k4, (World.cell?_of_block (a := ⟨b, 5, none⟩) e).trans h.k5⟩
structure LpD (w : World) (g n b2 b6 k : Nat) (u0 u1 z0 z1 z2 z3 z4 z5 sj : Value) (T : List Value) (W : World) : Prop where
 bel : Below w.heap.size w W
 x : Bk2 W b2 u0 u1
 z : Bk6 W b6 z0 z1 z2 z3 z4 z5
 r : ∃ xs, TxM W g n xs ∧ xs.set k sj = T ∧ k < xs.length
theorem LpD.on {w : World} {g n b2 b6 k : Nat} {u0 u1 z0 z1 z2 z3 z4 z5 sj : Value} {T : List Value} {W W' : World} (h : LpD w g n b2 b6 k u0 u1 z0 z1 z2 z3 z4 z5 sj T W) (hb : Below W.heap.size W W') : LpD w g n b2 b6 k u0 u1 z0 z1 z2 z3 z4 z5 sj T W' := by
 obtain ⟨xs, h1, h2, h3⟩ := h.r
 exact ⟨below_step h.bel hb, h.x.keep hb, h.z.keep hb, xs, h1.on hb, h2, h3⟩
theorem LpD.put {w : World} {g n b2 b6 k : Nat} {u0 u1 z0 z1 z2 z3 z4 z5 sj : Value} {T : List Value} {W : World} (h : LpD w g n b2 b6 k u0 u1 z0 z1 z2 z3 z4 z5 sj T W) (hg : w.heap.size ≤ g) (h2 : b2 ≠ g) (h6 : b6 ≠ g) :
  LpD w g n b2 b6 k u0 u1 z0 z1 z2 z3 z4 z5 sj T (W.setCell ⟨g, k, none⟩ sj) ∧ TxM (W.setCell ⟨g, k, none⟩ sj) g n T := by
 obtain ⟨xs, r1, r2, r3⟩ := h.r
 obtain ⟨own1, gr1⟩ := r1.row.stored k sj
 rw [r2] at own1
 refine ⟨⟨h.bel.trans ⟨gr1.os, gr1.tape, gr1.output, gr1.size, fun i hi => gr1.block i (by have := h.bel.size; omega) (fun e => by injection e with e; omega)⟩, bk2_gr h.x gr1 h2, bk6_gr h.z gr1 h6, T, ⟨own1⟩, ?_, by rw [← r2, List.length_set]; exact r3⟩, ⟨own1⟩⟩
 rw [← r2, List.set_set]
set_option maxRecDepth 100000 in
set_option maxHeartbeats 8000000 in
theorem leText_any (A : Option Addr) (n c : Nat) (l : List Lp.X) (w : World) (h : SpV w (.slice A n c) l) (hm : l.length ≤ 1000000) (htab : Lib.TabIs Tryz.prog w "internal/strconv.uint64pow10" .u64 Lib.pow10Tab) :
  Calls Tryz.prog 10 #[.slice A n c] w fun e w' => e = .returned (.tuple #[.string ⟨(Lp.tx l).1.toArray⟩, .int .i64 (Lp.tx l).2]) ∧ Below w.heap.size w w' := by
 have hn := h.len
 have H := Lib.hid h
 have TT := Lib.hid htab
 have CR := Lib.hid (fun W (S : SpV W (.slice A n c) l) => leright_any (.slice A n c) l W S hm)
 unfold Lp.tx
 by_cases hr : Lp.right l = true
 case neg =>
  rw [if_neg hr]
  have hr : Lp.right l = false := by simpa using hr
  rw [hr] at CR
  clear h hm hr hn htab
  go_enter Tryz.func10, Tryz.ntmps10
  go_wp2_with fail
  refine (CR.out _ H.out).mono ?_; rintro e w1 ⟨rfl, b1⟩
  have B1 := Lib.hid b1
  go_wp2
  go_ret2
  exact ⟨rfl, B1.out⟩
 rw [if_pos hr]
 obtain ⟨hl1, hok, -⟩ := Lp.right_of hr
 have HOK := Lib.hid hok
 have HN := Lib.hid hn
 have n9 : n ≤ 1000 := by omega
 have LJ := Lib.hid (fun v W (S : StS W v (l.map Lp.ln1)) => ljoin_any v (l.map Lp.ln1) W S (by rw [List.length_map]; omega) (by rw [Lp.jn_ln]; have := Lp.tx_len l hok; omega))
 rw [Lp.jn_ln] at LJ
 obtain ⟨ans, hans⟩ : ∃ a : ByteArray, a = ⟨(l.flatMap (fun x => Lp.line x ++ [10])).toArray⟩ := ⟨_, rfl⟩
 rw [← hans] at LJ
 show Calls _ _ _ _ fun e w' => e = .returned (.tuple #[.string ⟨(l.flatMap (fun x => Lp.line x ++ [10])).toArray⟩, .int .i64 0]) ∧ _
 rw [← hans]
 obtain ⟨i0, hi, hz0, hz1, hz2⟩ := fd_parts fd_info
 rw [hr] at CR
 clear h hm hr hn hans hl1 hok htab
 go_enter Tryz.func10, Tryz.ntmps10
 go_wp2_with fail
 refine (CR.out _ H.out).mono ?_; rintro e w1 ⟨rfl, b1⟩
 have B1 := Lib.hid b1
 go_upto_region 3 with (fail)
 go_wp2_with (first
  | (refine wpList_make_full _ rfl _ _ 46 rfl w1.heap.size 9 i0 (.string ⟨#[]⟩) 1 Tryz.underlying46 hi hz0 hz1 .i64 .i64 n n n rfl rfl rfl rfl (by rw [hz2]; omega) (by unfold maxLen; omega) (Nat.le_refl _) ?_; intro w2 hown hg2)
  | fail)
 try go_frame
 obtain ⟨g, hg⟩ : ∃ g, g = w1.heap.size := ⟨_, rfl⟩
 rw [← hg] at hown ⊢
 have B2 := Lib.hid (B1.out.trans (show Below w.heap.size w1 w2 from ⟨hg2.os, hg2.tape, hg2.output, hg2.size, fun i hi => hg2.block i (by have := B1.out.size; omega) (by simp)⟩))
 have GB := Lib.hid (show w.heap.size ≤ g by rw [hg]; exact B1.out.size)
 have R2 := Lib.hid (show TxM w2 g n (Lp.txs l 0) from ⟨by
  have e2 : Lp.txs l 0 = (madeCells (Value.string ⟨#[]⟩).cells (n * 1)).toList := by
   rw [show (Value.string ⟨#[]⟩).cells = #[Value.string ⟨#[]⟩] from rfl, Lp.made_strs, HN.out]; unfold Lp.txs; rw [List.take_zero]; rfl
  rw [e2]; exact hown⟩)
 clear hown hg2 hg b1 B1 CR hi hz0 hz1 hz2
 go_wp2_with fail
 go_loopw [17] (fun i wr => ∃ (k : Nat), k ≤ n ∧ i = .int .i64 k ∧ Hid (TxM wr g n (Lp.txs l k)) ∧ Hid (Below w.heap.size w wr)) (fun i _ => n - (intOf i).toNat)
 case atStart => exact ⟨0, Nat.zero_le _, rfl, R2, B2⟩
 case round =>
  rename World => w1
  obtain ⟨k, hk, rfl, R1, B1⟩ := hrel
  by_cases hlt : k < n
  ·
   have hkl : k < l.length := by rw [← HN.out]; exact hlt
   obtain ⟨ad, rfl, hab, g1, g2⟩ := (H.out.on B1.out).get k hkl
   have hx := HOK.out l[k] (List.getElem_mem hkl)
   obtain ⟨j1, j2, j3⟩ := Lp.line_jn hx
   have SET := Lib.hid (Lp.txs_set l k hkl)
   have LK : Hid (∃ u, (Lp.txs l k)[k]? = some u) := Lib.hid ⟨_, List.getElem?_eq_getElem (by rw [Lp.txs_len l k (by omega)]; exact hkl)⟩
   have i1 : (k : Int) < n := by omega
   have x0 := hx.1
   have x1 := hx.2.1
   unfold Lp.ln1 at SET
   generalize l[k] = p at *
   obtain ⟨x, y⟩ := p
   dsimp only at x0 x1 j1 j2 j3 g1 g2
   have hh : Cal.hasD (x / 86400) = true := Cal.hasD_true.2 (by omega)
   have OF := Lib.hid (fun W => sof_yes x W (by omega) (by omega) hh)
   have TXc := Lib.hid (fun W (B : Below w.heap.size w W) => stext_any (Cal.dY (x / 86400)) (Cal.dM (x / 86400)) (Cal.dD (x / 86400)) (x % 86400 / 3600) (x % 86400 / 60 % 60) (x % 86400 % 60) W (var_keep B TT.out))
   have SG := Lib.hid (fun W => lsign_any y W)
   obtain ⟨SX, hSX⟩ : ∃ s : ByteArray, s = ⟨(Lp.stp x).toArray⟩ := ⟨_, rfl⟩
   obtain ⟨SY, hSY⟩ : ∃ s : ByteArray, s = ⟨(Lp.sg y).toArray⟩ := ⟨_, rfl⟩
   obtain ⟨SJ, hSJ⟩ : ∃ s : ByteArray, s = ⟨(Lp.line (x, y)).toArray⟩ := ⟨_, rfl⟩
   rw [← hSX, ← hSY] at j1
   have TX : Hid (∀ W, Below w.heap.size w W → Calls Tryz.prog 25 #[.agg #[.int .i64 (Cal.dY (x / 86400)), .int .i64 (Cal.dM (x / 86400)), .int .i64 (Cal.dD (x / 86400)), .int .i64 (x % 86400 / 3600), .int .i64 (x % 86400 / 60 % 60), .int .i64 (x % 86400 % 60)]] W fun e w' => e = .returned (.string SX) ∧ Below W.heap.size W w') := by rw [hSX]; exact TXc
   have JN := Lib.hid (fun v W (S : StS W v [SX, SY]) => fjoin_any v [SX, SY] W S (by simp) (by
    show SX.size + (SY.size + 0) ≤ _
    rw [Lp.stp_len hSX, Lp.stp_len hSY]; omega))
   rw [j1] at JN
   dsimp only at JN
   rw [← hSJ] at JN
   rw [← hSY] at SG
   rw [← hSJ] at SET
   generalize Cal.dY (x / 86400) = a0 at OF TX
   generalize Cal.dM (x / 86400) = a1 at OF TX
   generalize Cal.dD (x / 86400) = a2 at OF TX
   generalize x % 86400 / 3600 = a3 at OF TX
   generalize x % 86400 / 60 % 60 = a4 at OF TX
   generalize x % 86400 % 60 = a5 at OF TX
   clear hx hh hSX hSY hSJ j1 j2 j3 x0 x1 TXc
   have GL := Lib.hid (R1.out.row.lt g rfl).2
   go_wp2_with fail
   refine (OF.out _).mono ?_; rintro e w2 ⟨rfl, b2⟩
   have d2 : Below w1.heap.size w1 w2 := below_step gr0 b2
   have B2 := Lib.hid (below_step B1.out d2)
   have SR_2 := Lib.hid (R1.out.on d2)
   have aX := B1.out.size
   have X2 : Bk2 w2 (w1.heap.size) (.int .i64 x) (.int .i64 y) := by refine Bk2.of b2 (by simp <;> omega) (by intro j; simp [go_sem]) ?_ ?_ <;> simp [go_sem]
   clear R1 b2 d2 B1
   have W12 : Hid (w1.heap.size ≤ w2.heap.size) := Lib.hid (Nat.le_of_lt X2.hb)
   have tx := X2; obtain ⟨cX_b, cX_f, cX_0, cX_1⟩ := tx
   go_wp2_with fail
   clear cX_b cX_f cX_0 cX_1
   refine wp_named ?_; intro w3 hw3
   have d3 : Below w2.heap.size w2 w3 := by rw [hw3]; exact gr0
   have B3 := Lib.hid (below_step B2.out d3)
   have SR_3 := Lib.hid (SR_2.out.on d3)
   have X3 := X2.keep d3
   have aZ := B2.out.size
   have nZX := Nat.ne_of_lt X2.hb
   have oZX := Nat.ne_of_gt X2.hb
   have Z3 : Bk6 w3 (w2.heap.size) (.int .i64 a0) (.int .i64 a1) (.int .i64 a2) (.int .i64 a3) (.int .i64 a4) (.int .i64 a5) := by rw [hw3]; exact ⟨by simp <;> omega, by intro j; simp [go_sem], by simp [go_sem], by simp [go_sem], by simp [go_sem], by simp [go_sem], by simp [go_sem], by simp [go_sem]⟩
   clear SR_2 X2 d3 hw3 B2
   have gz := GB.out
   have D3 := Lib.hid (show LpD w g n w1.heap.size w2.heap.size k (.int .i64 x) (.int .i64 y) (.int .i64 a0) (.int .i64 a1) (.int .i64 a2) (.int .i64 a3) (.int .i64 a4) (.int .i64 a5) (.string SJ) (Lp.txs l (k + 1)) w3 from ⟨B3.out, X3, Z3, _, SR_3.out, SET.out, by rw [Lp.txs_len l k (by have := HN.out; omega)]; have := HN.out; omega⟩)
   have nx := Lib.hid (show w1.heap.size ≠ g from Nat.ne_of_gt GL.out)
   have nz := Lib.hid (show w2.heap.size ≠ g from fun e => by have h1 := GL.out; have h2 := W12.out; omega)
   refine wp_region_tie (x := 12) (y := 13) (dx := 40) (R := markR [(fun v _ => v = Value.slice (some ⟨g, 0, none⟩) n n), (fun v _ => v = Value.int .i64 k), (fun v _ => v = Value.agg #[.int .i64 a0, .int .i64 a1, .int .i64 a2, .int .i64 a3, .int .i64 a4, .int .i64 a5]), (fun v _ => v = Value.string SX), (fun v _ => v = Value.pointer (some ⟨w1.heap.size, 1, none⟩)), (fun v _ => v = Value.int .i64 y), (fun v _ => v = Value.string SY), (fun v W => ∃ q, v = Value.slice (some q) 2 2 ∧ StS W (.slice (some q) 2 2) [SX, SY]), (fun v _ => v = Value.tuple #[.string SJ, .int .i64 0]), (fun v _ => v = Value.tuple #[.string SJ, .int .i64 0]), (fun v _ => v = Value.string SJ), (fun v _ => v = Value.int .i64 0), (fun v _ => v = Value.pointer (some ⟨g, k, none⟩)), (fun _ _ => True)]) (S := fun _ W => TxM W g n (Lp.txs l (k + 1))) (till := fun i => match i with | 7 => some 13 | _ => none) (D := fun W => LpD w g n w1.heap.size w2.heap.size k (.int .i64 x) (.int .i64 y) (.int .i64 a0) (.int .i64 a1) (.int .i64 a2) (.int .i64 a3) (.int .i64 a4) (.int .i64 a5) (.string SJ) (Lp.txs l (k + 1)) W) (G := fun i W W' => cond (i == 13) (W' = W.setCell ⟨g, k, none⟩ (.string SJ)) (Below W.heap.size W W')) (by rfl) ?hbeg ⟨by kernel_rfl, by kernel_rfl, by kernel_rfl, by kernel_rfl, by kernel_rfl, by decide, ?hkeep, ?hstab, ?hsst, ObsX.all ?hobs, ?hoby, ?hlast⟩
   case hbeg => exact D3.out.on (Below.refl _ _).drew
   case hkeep =>
    intro i w1 w2 hC hG
    cases hi : (i == 13)
    ·
     simp only [hi, cond_false] at hG; exact LpD.on hC hG
    ·
     simp only [hi, cond_true] at hG; subst hG; exact (LpD.put hC gz nx.out nz.out).1
   case hstab =>
    intro i j hij ht v w1 w2 hG hm
    by_cases hi13 : i = 13
    ·
     subst hi13
     match j, hij, ht, hm with
     | 0, _, _, hm => exact hm
     | 1, _, _, hm => exact hm
     | 2, _, _, hm => exact hm
     | 3, _, _, hm => exact hm
     | 4, _, _, hm => exact hm
     | 5, _, _, hm => exact hm
     | 6, _, _, hm => exact hm
     | 7, _, ht, _ => exact absurd rfl ht
     | 8, _, _, hm => exact hm
     | 9, _, _, hm => exact hm
     | 10, _, _, hm => exact hm
     | 11, _, _, hm => exact hm
     | 12, _, _, hm => exact hm
     | 13, hij, _, _ => exact absurd rfl hij
     | j + 14, _, _, hm => exact trivial
    replace hG : Below w1.heap.size w1 w2 := by simpa [hi13] using hG
    match j, hm with
    | 0, hm => exact hm
    | 1, hm => exact hm
    | 2, hm => exact hm
    | 3, hm => exact hm
    | 4, hm => exact hm
    | 5, hm => exact hm
    | 6, hm => exact hm
    | 7, hm => exact (by obtain ⟨q, e, hS⟩ := hm; exact ⟨q, e, hS.on hG⟩)
    | 8, hm => exact hm
    | 9, hm => exact hm
    | 10, hm => exact hm
    | 11, hm => exact hm
    | 12, hm => exact hm
    | 13, hm => exact trivial
    | j + 14, hm => exact trivial
   case hsst =>
    intro i hi v w1 w2 hG hS
    replace hG : Below w1.heap.size w1 w2 := by simpa [hi] using hG
    exact TxM.on hS hG
   case hobs =>
    refine ObsX.cons (k' := 1) rfl ?_ ?_
    ·
     intro fa W hW hSame hRR KK hKK
     try dsimp only at hW
     have fb4 : fa.tmps[4]? = some (Value.slice (some ⟨g, 0, none⟩) n n) := (hSame.base 4 (by kernel_rfl)).trans (by kernel_rfl)
     replace hKK : ∀ v w', Below W.heap.size W w' → v = Value.slice (some ⟨g, 0, none⟩) n n → KK (Act.put fa _ v) w' := fun v w' h1 h2 => hKK v w' h1 h2
     clear hSame hRR
     rw [if_pos (wanted_plain rfl)]
     go_simp
     refine hKK _ _ ?_ ?_
     ·
      exact grP
     ·
      exact rfl
    refine ObsX.cons (k' := 2) rfl ?_ ?_
    ·
     intro fa W hW hSame hRR KK hKK
     try dsimp only at hW
     have fb5 : fa.tmps[5]? = some (Value.int .i64 k) := (hSame.base 5 (by kernel_rfl)).trans (by kernel_rfl)
     replace hKK : ∀ v w', Below W.heap.size W w' → v = Value.int .i64 k → KK (Act.put fa _ v) w' := fun v w' h1 h2 => hKK v w' h1 h2
     clear hSame hRR
     rw [if_pos (wanted_plain rfl)]
     go_simp
     refine hKK _ _ ?_ ?_
     ·
      exact grP
     ·
      exact rfl
    refine ObsX.cons (k' := 3) rfl ?_ ?_
    ·
     intro fa W hW hSame hRR KK hKK
     try dsimp only at hW
     have fb7 : fa.tmps[7]? = some (Value.pointer (some ⟨w2.heap.size, 0, none⟩)) := (hSame.base 7 (by kernel_rfl)).trans (by kernel_rfl)
     replace hKK : ∀ v w', Below W.heap.size W w' → v = Value.agg #[.int .i64 a0, .int .i64 a1, .int .i64 a2, .int .i64 a3, .int .i64 a4, .int .i64 a5] → KK (Act.put fa _ v) w' := fun v w' h1 h2 => hKK v w' h1 h2
     have hZ := hW.z
     have ck0 := hZ.k0
     have ck1 := hZ.k1
     have ck2 := hZ.k2
     have ck3 := hZ.k3
     have ck4 := hZ.k4
     have ck5 := hZ.k5
     clear hSame hRR
     rw [if_pos (wanted_plain rfl)]
     go_simp
     refine hKK _ _ ?_ ?_
     ·
      exact grP
     ·
      exact rfl
    refine ObsX.cons (k' := 4) rfl ?_ ?_
    ·
     intro fa W hW hSame hRR KK hKK
     try dsimp only at hW
     obtain ⟨fv2, ft2, (rfl : fv2 = Value.agg #[.int .i64 a0, .int .i64 a1, .int .i64 a2, .int .i64 a3, .int .i64 a4, .int .i64 a5])⟩ := hRR 2 _ 31 rfl rfl (by kernel_rfl) (by kernel_rfl)
     replace hKK : ∀ v w', Below W.heap.size W w' → v = Value.string SX → KK (Act.put fa _ v) w' := fun v w' h1 h2 => hKK v w' h1 h2
     clear hSame hRR
     rw [if_pos (wanted_plain rfl)]
     go_simp
     refine (TX.out _ hW.bel).mono ?_; rintro e w' ⟨rfl, hb⟩
     exact hKK _ _ hb rfl
    refine ObsX.cons (k' := 5) rfl ?_ ?_
    ·
     intro fa W hW hSame hRR KK hKK
     try dsimp only at hW
     have fb6 : fa.tmps[6]? = some (Value.pointer (some ⟨w1.heap.size, 0, none⟩)) := (hSame.base 6 (by kernel_rfl)).trans (by kernel_rfl)
     replace hKK : ∀ v w', Below W.heap.size W w' → v = Value.pointer (some ⟨w1.heap.size, 1, none⟩) → KK (Act.put fa _ v) w' := fun v w' h1 h2 => hKK v w' h1 h2
     clear hSame hRR
     rw [if_pos (wanted_plain rfl)]
     go_simp
     refine hKK _ _ ?_ ?_
     ·
      exact grP
     ·
      exact rfl
    refine ObsX.cons (k' := 6) rfl ?_ ?_
    ·
     intro fa W hW hSame hRR KK hKK
     try dsimp only at hW
     obtain ⟨fv4, ft4, (rfl : fv4 = Value.pointer (some ⟨w1.heap.size, 1, none⟩))⟩ := hRR 4 _ 33 rfl rfl (by kernel_rfl) (by kernel_rfl)
     replace hKK : ∀ v w', Below W.heap.size W w' → v = Value.int .i64 y → KK (Act.put fa _ v) w' := fun v w' h1 h2 => hKK v w' h1 h2
     have ck1 := hW.x.k1
     clear hSame hRR
     rw [if_pos (wanted_plain rfl)]
     go_simp
     refine hKK _ _ ?_ ?_
     ·
      exact grP
     ·
      exact rfl
    refine ObsX.cons (k' := 7) rfl ?_ ?_
    ·
     intro fa W hW hSame hRR KK hKK
     try dsimp only at hW
     obtain ⟨fv5, ft5, (rfl : fv5 = Value.int .i64 y)⟩ := hRR 5 _ 34 rfl rfl (by kernel_rfl) (by kernel_rfl)
     replace hKK : ∀ v w', Below W.heap.size W w' → v = Value.string SY → KK (Act.put fa _ v) w' := fun v w' h1 h2 => hKK v w' h1 h2
     clear hSame hRR
     rw [if_pos (wanted_plain rfl)]
     go_simp
     refine (SG.out _).mono ?_; rintro e w' ⟨rfl, hb⟩
     exact hKK _ _ hb rfl
    refine ObsX.cons (k' := 8) rfl ?_ ?_
    ·
     intro fa W hW hSame hRR KK hKK
     try dsimp only at hW
     obtain ⟨fv3, ft3, (rfl : fv3 = Value.string SX)⟩ := hRR 3 _ 32 rfl rfl (by kernel_rfl) (by kernel_rfl)
     obtain ⟨fv6, ft6, (rfl : fv6 = Value.string SY)⟩ := hRR 6 _ 35 rfl rfl (by kernel_rfl) (by kernel_rfl)
     replace hKK : ∀ v w', Below W.heap.size W w' → (fun v W => ∃ q, v = Value.slice (some q) 2 2 ∧ StS W (.slice (some q) 2 2) [SX, SY]) v w' → KK (Act.put fa _ v) w' := fun v w' h1 h2 => hKK v w' h1 h2
     clear hSame hRR
     rw [if_pos (wanted_plain rfl)]
     go_simp
     refine hKK _ _ ((Below.refl _ _).alloc (Nat.le_refl _) _) ⟨_, rfl, ?_⟩
     exact lp_strs W [SX, SY] _ 2
    refine ObsX.cons (k' := 9) rfl ?_ ?_
    ·
     intro fa W hW hSame hRR KK hKK
     try dsimp only at hW
     obtain ⟨fv7, ft7, ⟨q7, rfl, hS7⟩⟩ := hRR 7 _ 36 rfl rfl (by kernel_rfl) (by kernel_rfl)
     replace hKK : ∀ v w', Below W.heap.size W w' → v = Value.tuple #[.string SJ, .int .i64 0] → KK (Act.put fa _ v) w' := fun v w' h1 h2 => hKK v w' h1 h2
     clear hSame hRR
     rw [if_pos (wanted_plain rfl)]
     go_simp
     refine (JN.out _ _ hS7).mono ?_; rintro e w' ⟨rfl, hb⟩
     exact hKK _ _ hb rfl
    refine ObsX.cons (k' := 10) rfl ?_ ?_
    ·
     intro fa W hW hSame hRR KK hKK
     try dsimp only at hW
     obtain ⟨fv8, ft8, (rfl : fv8 = Value.tuple #[.string SJ, .int .i64 0])⟩ := hRR 8 _ 37 rfl rfl (by kernel_rfl) (by kernel_rfl)
     replace hKK : ∀ v w', Below W.heap.size W w' → v = Value.tuple #[.string SJ, .int .i64 0] → KK (Act.put fa _ v) w' := fun v w' h1 h2 => hKK v w' h1 h2
     clear hSame hRR
     rw [if_pos (wanted_plain rfl)]
     go_simp
     refine hKK _ _ ?_ ?_
     ·
      exact grP
     ·
      exact rfl
    refine ObsX.cons (k' := 11) rfl ?_ ?_
    ·
     intro fa W hW hSame hRR KK hKK
     try dsimp only at hW
     obtain ⟨fv9, ft9, (rfl : fv9 = Value.tuple #[.string SJ, .int .i64 0])⟩ := hRR 9 _ 28 rfl rfl (by kernel_rfl) (by kernel_rfl)
     replace hKK : ∀ v w', Below W.heap.size W w' → v = Value.string SJ → KK (Act.put fa _ v) w' := fun v w' h1 h2 => hKK v w' h1 h2
     clear hSame hRR
     rw [if_pos (wanted_plain rfl)]
     go_simp
     refine hKK _ _ ?_ ?_
     ·
      exact grP
     ·
      exact rfl
    refine ObsX.cons (k' := 12) rfl ?_ ?_
    ·
     intro fa W hW hSame hRR KK hKK
     try dsimp only at hW
     obtain ⟨fv9, ft9, (rfl : fv9 = Value.tuple #[.string SJ, .int .i64 0])⟩ := hRR 9 _ 28 rfl rfl (by kernel_rfl) (by kernel_rfl)
     replace hKK : ∀ v w', Below W.heap.size W w' → v = Value.int .i64 0 → KK (Act.put fa _ v) w' := fun v w' h1 h2 => hKK v w' h1 h2
     clear hSame hRR
     rw [if_pos (wanted_plain rfl)]
     go_simp
     refine hKK _ _ ?_ ?_
     ·
      exact grP
     ·
      exact rfl
    refine ObsX.cons (k' := 13) rfl ?_ ?_
    ·
     intro fa W hW hSame hRR KK hKK
     try dsimp only at hW
     obtain ⟨fv0, ft0, (rfl : fv0 = Value.slice (some ⟨g, 0, none⟩) n n)⟩ := hRR 0 _ 29 rfl rfl (by kernel_rfl) (by kernel_rfl)
     obtain ⟨fv1, ft1, (rfl : fv1 = Value.int .i64 k)⟩ := hRR 1 _ 30 rfl rfl (by kernel_rfl) (by kernel_rfl)
     replace hKK : ∀ v w', Below W.heap.size W w' → v = Value.pointer (some ⟨g, k, none⟩) → KK (Act.put fa _ v) w' := fun v w' h1 h2 => hKK v w' h1 h2
     have k0 : (k : Int) < n := i1
     have kk : k < n := hlt
     clear hSame hRR
     rw [if_pos (wanted_plain rfl)]
     go_simp
     refine hKK _ _ ?_ ?_
     ·
      exact grP
     ·
      exact rfl
    refine ObsX.skip (k' := 14) rfl rfl ?_
    exact ObsX.nil
   case hoby =>
    intro o ho fa W hW hSame hRR KK hKK
    replace ho := Option.some.inj (show some _ = some o from ho)
    subst ho
    try dsimp only at hW
    obtain ⟨fv10, ft10, (rfl : fv10 = Value.string SJ)⟩ := hRR 10 _ 38 rfl rfl (by kernel_rfl) (by kernel_rfl)
    obtain ⟨fv12, ft12, (rfl : fv12 = Value.pointer (some ⟨g, k, none⟩))⟩ := hRR 12 _ 40 rfl rfl (by kernel_rfl) (by kernel_rfl)
    obtain ⟨xs, hR, hset, hlen⟩ := hW.r
    have cs := hR.row.cells (g := g) rfl k _ (List.getElem?_eq_getElem hlen)
    rw [lp_add0] at cs
    have fz := hR.row.frozenAt k
    rw [if_pos (wanted_plain rfl)]
    go_simp
    refine hKK undef _ rfl trivial ⟨_, ft12, (LpD.put hW gz nx.out nz.out).2⟩
   case hlast =>
    intro fa W hW hSame hRR hU
    try dsimp only at hW
    obtain ⟨fv, f40, R4⟩ := hU
    rw [Same_shape hSame]
    simp only [List.filterMap_cons, List.filterMap_nil, List.foldl_cons, List.foldl_nil]
    generalize fa.tmps.getD 29 undef = y29
    generalize fa.tmps.getD 30 undef = y30
    generalize fa.tmps.getD 31 undef = y31
    generalize fa.tmps.getD 32 undef = y32
    generalize fa.tmps.getD 33 undef = y33
    generalize fa.tmps.getD 34 undef = y34
    generalize fa.tmps.getD 35 undef = y35
    generalize fa.tmps.getD 36 undef = y36
    generalize fa.tmps.getD 37 undef = y37
    generalize fa.tmps.getD 28 undef = y28
    generalize fa.tmps.getD 38 undef = y38
    generalize fa.tmps.getD 39 undef = y39
    generalize fa.tmps.getD 40 undef = y40
    clear hSame hRR f40
    simp only [Act.put, List.setIfInBounds_toArray, List.set_cons_succ, List.set_cons_zero]
    have R4 := Lib.hid (show TxM W g n (Lp.txs l (k + 1)) from R4)
    have B4 := Lib.hid hW.bel
    clear hW
    simp only [Exit.then, Exit.inBlock]
    go_wp2
    go_roundw; case rel => exact ⟨k + 1, by omega, by go_num, R4, B4⟩
    case measure => simp [intOf]; omega
  ·
   obtain rfl : k = n := by omega
   have S1 := Lib.hid (show StS w1 (.slice (some ⟨g, 0, none⟩) k k) (l.map Lp.ln1) from by
    have h1 := Lst.own R1.out.row
    rw [HN.out, Lp.txs_all] at h1
    rw [HN.out]
    unfold StS
    rw [List.length_map]
    exact h1)
   have i2 : ¬ (k : Int) < k := by omega
   go_wp2_with fail
   refine (LJ.out _ _ S1.out).mono ?_; rintro e w2 ⟨rfl, b2⟩
   have B2 := Lib.hid (below_step B1.out b2)
   go_wp2
   go_ret2
   exact ⟨rfl, B2.out⟩
end Go.Proofs.YtifgiclnofdnkaaGreatDoor
