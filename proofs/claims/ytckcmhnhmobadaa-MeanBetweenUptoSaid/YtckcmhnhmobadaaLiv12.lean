/- The answers that noontidelaw12.lives asks for: it is true. -/
import Derived.Test.YtckcmhnhmobadaaMnE
import Derived.Test.YtckcmhnhmobadaaMnF
import Derived.Test.YtckcmhnhmobadaaMnG
import Derived.Test.YtckcmhnhmobadaaMnU
import Derived.Test.YtckcmhnhmobadaaPair
set_option linter.unusedVariables false
set_option linter.unusedSimpArgs false
namespace Go.Proofs.Ytckcmhnhmobadaa
open Go.RowKit Go.Sort Go.Shelf Go.Pairs

/-- A list written out. -/
theorem ptv_new {w : World} (l : List Mn.P) (cs : Array Value) (h : cs = (Mn.ptc l).toArray) : PtV (w.alloc (.cells cs 52)) (.slice (some ⟨w.heap.size, 0, none⟩) l.length l.length) l := by
  refine ⟨_, _, rfl, fun _ => ⟨_, rfl, by simp, ?_⟩⟩
  intro j u hu
  have e0 : (⟨w.heap.size, 0, none⟩ : Addr).add j = ⟨w.heap.size, j, none⟩ := by unfold Addr.add; split <;> simp_all
  have k := Blk.new w 52 cs
  rw [e0]
  subst h
  have : (w.alloc (.cells (Mn.ptc l).toArray 52)).heap[w.heap.size]? = _ := k
  unfold World.cell?
  rw [this]
  simpa using hu
namespace Mn
def L12 : List P := [(0, 10, 1), (10, 30, 4)]
def M12 : List P := [(0, 10, 4), (10, 30, 4)]
end Mn
theorem ck2 {W W' : World} {a : Addr} {v : Value} (k : Below W.heap.size W W') (h : W.cell? a = some v) : W'.cell? a = some v := (k.cell (World.block_lt_of_cell? _ _ h)).trans h
theorem PtV.nils {w : World} {v : Value} (h : PtV w v []) : ∃ u : Option Addr × Nat, v = .slice u.1 0 u.2 ∧ True := by
  obtain ⟨A, c, hv, -⟩ := h
  exact ⟨(A, c), hv, trivial⟩
theorem keep12 {w W W' : World} {vl vm : Value} {l m : List Mn.P} {a0 a1 a2 a3 a4 a5 : Addr} {v0 v1 v2 v3 v4 v5 : Value} (k : Below W.heap.size W W')
    (h : Below w.heap.size w W ∧ PtV W vl l ∧ PtV W vm m ∧ W.cell? a0 = some v0 ∧ W.cell? a1 = some v1 ∧ W.cell? a2 = some v2 ∧ W.cell? a3 = some v3 ∧ W.cell? a4 = some v4 ∧ W.cell? a5 = some v5) :
    Below w.heap.size w W' ∧ PtV W' vl l ∧ PtV W' vm m ∧ W'.cell? a0 = some v0 ∧ W'.cell? a1 = some v1 ∧ W'.cell? a2 = some v2 ∧ W'.cell? a3 = some v3 ∧ W'.cell? a4 = some v4 ∧ W'.cell? a5 = some v5 := by
  obtain ⟨hb, hl, hm, h0, h1, h2, h3, h4, h5⟩ := h
  exact ⟨below_step hb k, hl.on k, hm.on k, ck2 k h0, ck2 k h1, ck2 k h2, ck2 k h3, ck2 k h4, ck2 k h5⟩
theorem cells12 {W : World} {b : Nat} (h : PtV W (.slice (some ⟨b, 0, none⟩) 2 2) Mn.L12) : W.cell? ⟨b, 0, none⟩ = some (.int .i64 0) ∧ W.cell? ⟨b, 1, none⟩ = some (.int .i64 10) ∧ W.cell? ⟨b, 2, none⟩ = some (.int .i64 1) ∧ W.cell? ⟨b, 3, none⟩ = some (.int .i64 10) ∧ W.cell? ⟨b, 4, none⟩ = some (.int .i64 30) ∧ W.cell? ⟨b, 5, none⟩ = some (.int .i64 4) := by
  obtain ⟨A, c, hv, ha⟩ := h
  cases hv
  obtain ⟨a, e, -, hc⟩ := ha (by decide)
  cases e
  have add : ∀ j, (⟨b, 0, none⟩ : Addr).add j = ⟨b, j, none⟩ := fun j => by unfold Addr.add; split <;> simp_all
  have g := fun j u hj => (add j) ▸ hc j u hj
  exact ⟨g 0 _ rfl, g 1 _ rfl, g 2 _ rfl, g 3 _ rfl, g 4 _ rfl, g 5 _ rfl⟩
theorem eqv_num {r c : Nat} (h : Fl.Eqv r c) (hc : Fl.nan c = false) : r = c := by
  rcases h.2 with e | ⟨_, e⟩
  · exact e
  · rw [hc] at e; cases e
theorem eqv_nan {r c : Nat} (h : Fl.Eqv r c) (hc : Fl.nan c = true) : Fl.nan r = true := by
  rcases h.2 with rfl | ⟨e, _⟩
  · exact hc
  · exact e
set_option maxRecDepth 100000 in
set_option maxHeartbeats 4000000 in
theorem lives12_any (w : World) : Calls Try.prog 30 #[] w fun e w' => e = .returned (.bool true) ∧ Below w.heap.size w w' := by
  have C1 := Lib.hid (fun (W : World) (S : PtV W (.slice (some ⟨w.heap.size, 0, none⟩) 2 2) Mn.L12) => mmean_any (.slice (some ⟨w.heap.size, 0, none⟩) 2 2) Mn.L12 5 15 W S (by decide))
  have C2 := Lib.hid (fun (W : World) (S : PtV W (.slice (some ⟨w.heap.size, 0, none⟩) 2 2) Mn.L12) => mmean_any (.slice (some ⟨w.heap.size, 0, none⟩) 2 2) Mn.L12 40 50 W S (by decide))
  have C3 := Lib.hid (fun (W : World) (v : Value) (S : PtV W v [(0, 0, 0)]) => mmean_any v [(0, 0, 0)] 0 1 W S (by decide))
  have C4 := Lib.hid (fun (W : World) (S : PtV W (.slice (some ⟨w.heap.size, 0, none⟩) 2 2) Mn.L12) => mtotal_any (.slice (some ⟨w.heap.size, 0, none⟩) 2 2) Mn.L12 (-5) 15 W S (by decide))
  have C5 := Lib.hid (fun (W : World) (S : PtV W (.slice (some ⟨w.heap.size, 0, none⟩) 2 2) Mn.L12) => mtotal_any (.slice (some ⟨w.heap.size, 0, none⟩) 2 2) Mn.L12 0 0 W S (by decide))
  have C6 := Lib.hid (fun (W : World) (v : Value) (S : PtV W v [(0, 0, 0)]) => mtotal_any v [(0, 0, 0)] 0 0 W S (by decide))
  have C7 := Lib.hid (fun (W : World) (S : PtV W (.slice (some ⟨w.heap.size, 0, none⟩) 2 2) Mn.L12) => mends_any (.slice (some ⟨w.heap.size, 0, none⟩) 2 2) Mn.L12 0 100 W S (by decide))
  have C8 := Lib.hid (fun (W : World) (S : PtV W (.slice (some ⟨w.heap.size, 0, none⟩) 2 2) Mn.L12) => mends_any (.slice (some ⟨w.heap.size, 0, none⟩) 2 2) Mn.L12 30 100 W S (by decide))
  rw [show (if Mn.rt none Mn.L12 = true then Mn.mean 5 15 Mn.L12 else 0) = 4612811918334230528 by decide +kernel, show (if Mn.rt none Mn.L12 = true then (0 : Int) else 4) = 0 by decide +kernel] at C1
  rw [show (if Mn.rt none Mn.L12 = true then (0 : Int) else 4) = 0 by decide +kernel] at C2
  have K2 := Lib.hid (show Fl.nan (if Mn.rt none Mn.L12 = true then Mn.mean 40 50 Mn.L12 else 0) = true by decide +kernel)
  generalize (if Mn.rt none Mn.L12 = true then Mn.mean 40 50 Mn.L12 else 0) = q2 at *
  rw [show (if Mn.rt none [((0 : Int), (0 : Int), (0 : Int))] = true then Mn.mean 0 1 [(0, 0, 0)] else 0) = 0 by decide +kernel, show (if Mn.rt none [((0 : Int), (0 : Int), (0 : Int))] = true then (0 : Int) else 4) = 4 by decide +kernel] at C3
  rw [show (if Mn.rt none Mn.L12 = true then Fl.csum (Mn.lens (Mn.cnt (-5) 15 Mn.L12)) else 0) = 4624633867356078080 by decide +kernel, show (if Mn.rt none Mn.L12 = true then (0 : Int) else 4) = 0 by decide +kernel] at C4
  rw [show (if Mn.rt none Mn.L12 = true then Fl.csum (Mn.lens (Mn.cnt 0 0 Mn.L12)) else 0) = 0 by decide +kernel, show (if Mn.rt none Mn.L12 = true then (0 : Int) else 4) = 0 by decide +kernel] at C5
  rw [show (if Mn.rt none [((0 : Int), (0 : Int), (0 : Int))] = true then Fl.csum (Mn.lens (Mn.cnt 0 0 [(0, 0, 0)])) else 0) = 0 by decide +kernel, show (if Mn.rt none [((0 : Int), (0 : Int), (0 : Int))] = true then (0 : Int) else 4) = 4 by decide +kernel] at C6
  rw [show Mn.end3 (if Mn.rt none Mn.L12 = true then Mn.cnt 0 100 Mn.L12 else []) = .tuple #[.int .i64 1, .int .i64 4, .bool true] by unfold Mn.end3; rw [show Mn.ends (if Mn.rt none Mn.L12 = true then Mn.cnt 0 100 Mn.L12 else []) = (true, 1, 4) by decide +kernel]] at C7
  rw [show Mn.end3 (if Mn.rt none Mn.L12 = true then Mn.cnt 30 100 Mn.L12 else []) = .tuple #[.int .i64 0, .int .i64 0, .bool false] by unfold Mn.end3; rw [show Mn.ends (if Mn.rt none Mn.L12 = true then Mn.cnt 30 100 Mn.L12 else []) = (false, 0, 0) by decide +kernel]] at C8
  go_enter Try.func30, Try.ntmps30
  go_wp2_with fail
  have S0 : PtV (w.alloc (.cells #[.int .i64 0, .int .i64 10, .int .i64 1, .int .i64 10, .int .i64 30, .int .i64 4] 52)) (.slice (some ⟨w.heap.size, 0, none⟩) 2 2) Mn.L12 := ptv_new Mn.L12 _ rfl
  have b00 : Below w.heap.size w (w.alloc (.cells #[.int .i64 0, .int .i64 10, .int .i64 1, .int .i64 10, .int .i64 30, .int .i64 4] 52)) := (Below.refl _ _).alloc (Nat.le_refl _) _
  refine (C1.out _ S0).mono ?_
  rintro e w1 ⟨r1, h1, rfl, b1⟩
  obtain rfl := eqv_num h1 (by decide +kernel)
  have S1 := Lib.hid (S0.on b1)
  have B1 := Lib.hid (below_step b00 b1)
  clear S0 b00 b1 h1 C1
  go_wp2_with fail
  refine (C2.out _ S1.out).mono ?_
  rintro e w2 ⟨r2, h2, rfl, b2⟩
  have N2 := Lib.hid (eqv_nan h2 K2.out)
  have W2 := Lib.hid h2.1
  have S2 := Lib.hid (S1.out.on b2)
  have B2 := Lib.hid (below_step B1.out b2)
  clear S1 B1 b2 h2 C2
  go_wp2_with fail
  have z3 : Below w2.heap.size w2 (w2.alloc (.cells #[.int .i64 0, .int .i64 0, .int .i64 0] 52)) := (Below.refl _ _).alloc (Nat.le_refl _) _
  refine (C3.out _ (.slice (some ⟨w2.heap.size, 0, none⟩) 1 1) (ptv_new [(0, 0, 0)] _ rfl)).mono ?_
  rintro e w3 ⟨r3, h3, rfl, b3⟩
  obtain rfl := eqv_num h3 (by decide +kernel)
  have S3 := Lib.hid (S2.out.on (below_step z3 b3))
  have B3 := Lib.hid (below_step B2.out (below_step z3 b3))
  clear S2 B2 b3 z3 h3 C3
  go_wp2_with fail
  refine (C4.out _ S3.out).mono ?_
  rintro e w4 ⟨r4, h4, rfl, b4⟩
  obtain rfl := eqv_num h4 (by decide +kernel)
  have S4 := Lib.hid (S3.out.on b4)
  have B4 := Lib.hid (below_step B3.out b4)
  clear S3 B3 b4 h4 C4
  go_wp2_with fail
  refine (C5.out _ S4.out).mono ?_
  rintro e w5 ⟨r5, h5, rfl, b5⟩
  obtain rfl := eqv_num h5 (by decide +kernel)
  have S5 := Lib.hid (S4.out.on b5)
  have B5 := Lib.hid (below_step B4.out b5)
  clear S4 B4 b5 h5 C5
  go_wp2_with fail
  have z6 : Below w5.heap.size w5 (w5.alloc (.cells #[.int .i64 0, .int .i64 0, .int .i64 0] 52)) := (Below.refl _ _).alloc (Nat.le_refl _) _
  refine (C6.out _ (.slice (some ⟨w5.heap.size, 0, none⟩) 1 1) (ptv_new [(0, 0, 0)] _ rfl)).mono ?_
  rintro e w6 ⟨r6, h6, rfl, b6⟩
  have S6 := Lib.hid (S5.out.on (below_step z6 b6))
  have B6 := Lib.hid (below_step B5.out (below_step z6 b6))
  clear S5 B5 b6 z6 h6 C6
  go_wp2_with fail
  refine (C7.out _ S6.out).mono ?_
  rintro e w7 ⟨rfl, b7⟩
  have S7 := Lib.hid (S6.out.on b7)
  have B7 := Lib.hid (below_step B6.out b7)
  clear S6 B6 b7 C7
  go_wp2_with fail
  refine (C8.out _ S7.out).mono ?_
  rintro e w8 ⟨rfl, b8⟩
  have S8 := Lib.hid (S7.out.on b8)
  have B8 := Lib.hid (below_step B7.out b8)
  clear S7 B7 b8 C8
  go_wp2_with fail
  have z9 : Below w8.heap.size w8 (w8.alloc (.cells #[.int .i64 0, .int .i64 10, .int .i64 4, .int .i64 10, .int .i64 30, .int .i64 4] 52)) := (Below.refl _ _).alloc (Nat.le_refl _) _
  refine (merge_mean (.slice (some ⟨w8.heap.size, 0, none⟩) 2 2) Mn.M12 _ (ptv_new Mn.M12 _ rfl) (by decide)).mono ?_
  rintro e w9 ⟨vm, hvm, rfl, b9⟩
  rw [show Mn.merged Mn.M12 = [(0, 30, 4)] by decide +kernel] at hvm
  obtain ⟨A9, c9, rfl, -⟩ := id hvm
  have S9 := Lib.hid (S8.out.on (below_step z9 b9))
  have B9 := Lib.hid (below_step B8.out (below_step z9 b9))
  have V9 : Hid (PtV w9 (Value.slice A9 1 c9) [(0, 30, 4)]) := Lib.hid hvm
  clear S8 B8 b9 z9 hvm
  go_wp2_with fail
  have g1 : (FloatKind.f64.format.order 4612811918334230528 4612811918334230528 == some Ordering.eq) = true := by decide +kernel
  have g2 : (FloatKind.f64.format.order 4624633867356078080 4624633867356078080 == some Ordering.eq) = true := by decide +kernel
  have KQ := Lib.hid (Fl.kd_nan2 N2.out)
  have CC := Lib.hid (show (fun W => Below w.heap.size w W ∧ PtV W (.slice (some ⟨w.heap.size, 0, none⟩) 2 2) Mn.L12 ∧ PtV W (Value.slice A9 1 c9) [(0, 30, 4)] ∧ W.cell? ⟨w.heap.size, 0, none⟩ = some (.int .i64 0) ∧ W.cell? ⟨w.heap.size, 1, none⟩ = some (.int .i64 10) ∧ W.cell? ⟨w.heap.size, 2, none⟩ = some (.int .i64 1) ∧ W.cell? ⟨w.heap.size, 3, none⟩ = some (.int .i64 10) ∧ W.cell? ⟨w.heap.size, 4, none⟩ = some (.int .i64 30) ∧ W.cell? ⟨w.heap.size, 5, none⟩ = some (.int .i64 4)) w9 from ⟨B9.out, S9.out, V9.out, cells12 S9.out⟩)
  simp only [List.append]
  refine wp_region_pairs (C := fun W => Below w.heap.size w W ∧ PtV W (.slice (some ⟨w.heap.size, 0, none⟩) 2 2) Mn.L12 ∧ PtV W (Value.slice A9 1 c9) [(0, 30, 4)] ∧ W.cell? ⟨w.heap.size, 0, none⟩ = some (.int .i64 0) ∧ W.cell? ⟨w.heap.size, 1, none⟩ = some (.int .i64 10) ∧ W.cell? ⟨w.heap.size, 2, none⟩ = some (.int .i64 1) ∧ W.cell? ⟨w.heap.size, 3, none⟩ = some (.int .i64 10) ∧ W.cell? ⟨w.heap.size, 4, none⟩ = some (.int .i64 30) ∧ W.cell? ⟨w.heap.size, 5, none⟩ = some (.int .i64 4)) (R := markR [(fun v _ => v = Value.float FloatKind.f64 4612811918334230528), (fun v _ => v = Value.bool true), (fun v _ => v = Value.bool true), (fun v _ => v = Value.int IntKind.i64 0), (fun v _ => v = Value.bool true), (fun v _ => v = Value.bool true), (fun v _ => v = Value.bool true), (fun v _ => v = Value.float FloatKind.f64 r2), (fun v _ => v = Value.int IntKind.i64 0), (fun v _ => v = Value.bool true), (fun v _ => v = Value.bool true), (fun v _ => v = Value.bool true), (fun v _ => v = Value.int IntKind.i64 0), (fun v _ => v = Value.bool true), (fun v _ => v = Value.bool true), (fun v _ => v = Value.bool true), (fun v _ => v = Value.float FloatKind.f64 0), (fun v _ => v = Value.int IntKind.i64 4), (fun v _ => v = Value.bool true), (fun v _ => v = Value.bool true), (fun v _ => v = Value.bool true), (fun v _ => v = Value.int IntKind.i64 4), (fun v _ => v = Value.bool true), (fun v _ => v = Value.bool true), (fun v _ => v = Value.bool true), (fun v _ => v = Value.float FloatKind.f64 4624633867356078080), (fun v _ => v = Value.bool true), (fun v _ => v = Value.bool true), (fun v _ => v = Value.bool true), (fun v _ => v = Value.int IntKind.i64 0), (fun v _ => v = Value.bool true), (fun v _ => v = Value.bool true), (fun v _ => v = Value.bool true), (fun v _ => v = Value.float FloatKind.f64 0), (fun v _ => v = Value.int IntKind.i64 4), (fun v _ => v = Value.bool true), (fun v _ => v = Value.bool true), (fun v _ => v = Value.bool true), (fun v _ => v = Value.int IntKind.i64 0), (fun v _ => v = Value.bool true), (fun v _ => v = Value.bool true), (fun v _ => v = Value.bool true), (fun v _ => v = Value.int IntKind.i64 4), (fun v _ => v = Value.bool true), (fun v _ => v = Value.bool true), (fun v _ => v = Value.bool true), (fun v _ => v = Value.int IntKind.i64 1), (fun v _ => v = Value.bool true), (fun v _ => v = Value.bool true), (fun v _ => v = Value.bool true), (fun v _ => v = Value.int IntKind.i64 4), (fun v _ => v = Value.bool true), (fun v _ => v = Value.bool true), (fun v _ => v = Value.bool true), (fun v _ => v = Value.bool true), (fun v _ => v = Value.bool true), (fun v _ => v = Value.bool true), (fun v _ => v = Value.bool false), (fun v _ => v = Value.bool true), (fun v _ => v = Value.bool true), (fun v _ => v = Value.bool true), (fun v _ => v = Value.slice A9 1 c9), (fun v _ => v = Value.agg #[Value.int IntKind.i64 0, Value.int IntKind.i64 30]), (fun v _ => v = Value.agg #[Value.int IntKind.i64 0, Value.int IntKind.i64 30, Value.int IntKind.i64 4]), (fun v W => ∃ u, v = Value.slice (some ⟨u, 0, none⟩) 1 1 ∧ PtV W v [(0, 30, 4)]), (fun v _ => v = Value.bool true), (fun v _ => v = Value.bool true), (fun v _ => v = Value.bool true), (fun v _ => v = Value.slice (some { block := w.heap.size, off := 0 }) 2 2), (fun v _ => v = Value.bool true), (fun v _ => v = Value.bool true), (fun v _ => v = Value.bool true), (fun v _ => v = Value.slice (some { block := w.heap.size, off := 0 }) 2 2), (fun v _ => v = Value.pointer (some { block := w.heap.size, off := 3 })), (fun v _ => v = Value.agg #[Value.int IntKind.i64 10, Value.int IntKind.i64 30, Value.int IntKind.i64 4]), (fun v _ => v = Value.slice (some { block := w.heap.size, off := 0 }) 2 2), (fun v _ => v = Value.pointer (some { block := w.heap.size, off := 0 })), (fun v _ => v = Value.agg #[Value.int IntKind.i64 0, Value.int IntKind.i64 10, Value.int IntKind.i64 1]), (fun v W => ∃ u, v = Value.slice (some ⟨u, 0, none⟩) 2 2 ∧ PtV W v [(10, 30, 4), (0, 10, 1)]), (fun v _ => v = Value.bool false), (fun v _ => v = Value.bool true), (fun v _ => v = Value.bool true), (fun v _ => v = Value.bool true), (fun v _ => v = Value.agg #[Value.int IntKind.i64 0, Value.int IntKind.i64 0, Value.int IntKind.i64 0]), (fun v W => ∃ u, v = Value.slice (some ⟨u, 0, none⟩) 1 1 ∧ PtV W v [(0, 0, 0)]), (fun v W => ∃ u : Option Addr × Nat, v = Value.slice u.1 0 u.2 ∧ True), (fun v _ => v = Value.int IntKind.i64 0), (fun v _ => v = Value.bool true), (fun v _ => v = Value.bool true), (fun v _ => v = Value.bool true)]) (G := fun W W' => Below W.heap.size W W') (by rfl) ?hbeg ⟨by kernel_rfl, by kernel_rfl, by kernel_rfl, ?hkeep, ?hstab, Obs.all ?hobs, ?hlast⟩
  case hbeg =>
    try dsimp only
    exact keep12 ((Below.refl _ _).drew) CC.out
  case hkeep =>
    intro w' w'' hC hG
    try dsimp only at hC hG ⊢
    exact keep12 hG hC
  case hstab =>
    refine StableL.all ?_
    repeat (first | exact trivial | refine ⟨(by first | exact (fun _ _ _ _ h => h) | (exact fun v W W' hG h => by obtain ⟨u, hv, hs⟩ := h; exact ⟨u, hv, by first | exact hs.on hG | exact trivial⟩)), ?_⟩)
  case hobs =>
    refine Obs.cons (k' := 1) rfl ?_ ?_
    · intro fa W hW hSame hRR KK hKK
      try dsimp only at hW
      have fb2 := hSame.base 2 (by kernel_rfl)
      simp only [List.getElem?_toArray, List.getElem?_cons_succ, List.getElem?_cons_zero] at fb2
      replace hKK : ∀ v w', Go.RowKit.Below W.heap.size W w' → v = Value.float FloatKind.f64 4612811918334230528 → KK (Act.put fa _ v) w' := fun v w' h1 h2 => hKK v w' h1 h2
      clear hSame hRR
      rw [if_pos (wanted_plain rfl)]
      go_simp
      refine hKK _ _ ?_ ?_
      · first | exact Below.refl _ _ | exact (Below.refl _ _).alloc (Nat.le_refl _) _ | exact below_draw _ _ | assumption
      · exact rfl
    refine Obs.cons (k' := 2) rfl ?_ ?_
    · intro fa W hW hSame hRR KK hKK
      try dsimp only at hW
      obtain ⟨fv0, ft0, fm0⟩ := hRR 0 _ 84 rfl rfl (by kernel_rfl)
      replace fm0 : fv0 = Value.float FloatKind.f64 4612811918334230528 := fm0
      subst fm0
      replace hKK : ∀ v w', Go.RowKit.Below W.heap.size W w' → v = Value.bool true → KK (Act.put fa _ v) w' := fun v w' h1 h2 => hKK v w' h1 h2
      clear hSame hRR
      rw [if_pos (wanted_plain rfl)]
      go_simp
      refine hKK _ _ ?_ ?_
      · first | exact Below.refl _ _ | exact (Below.refl _ _).alloc (Nat.le_refl _) _ | exact below_draw _ _ | assumption
      · exact rfl
    refine Obs.cons (k' := 3) rfl ?_ ?_
    · intro fa W hW hSame hRR KK hKK
      try dsimp only at hW
      obtain ⟨fv1, ft1, fm1⟩ := hRR 1 _ 85 rfl rfl (by kernel_rfl)
      replace fm1 : fv1 = Value.bool true := fm1
      subst fm1
      replace hKK : ∀ v w', Go.RowKit.Below W.heap.size W w' → v = Value.bool true → KK (Act.put fa _ v) w' := fun v w' h1 h2 => hKK v w' h1 h2
      clear hSame hRR
      rw [if_pos (wanted_plain rfl)]
      go_simp
      refine hKK _ _ ?_ ?_
      · first | exact Below.refl _ _ | exact (Below.refl _ _).alloc (Nat.le_refl _) _ | exact below_draw _ _ | assumption
      · exact rfl
    refine Obs.cons (k' := 4) rfl ?_ ?_
    · intro fa W hW hSame hRR KK hKK
      try dsimp only at hW
      obtain ⟨fv2, ft2, fm2⟩ := hRR 2 _ 86 rfl rfl (by kernel_rfl)
      replace fm2 : fv2 = Value.bool true := fm2
      subst fm2
      have fb3 := hSame.base 3 (by kernel_rfl)
      simp only [List.getElem?_toArray, List.getElem?_cons_succ, List.getElem?_cons_zero] at fb3
      replace hKK : ∀ v w', Go.RowKit.Below W.heap.size W w' → v = Value.int IntKind.i64 0 → KK (Act.put fa _ v) w' := fun v w' h1 h2 => hKK v w' h1 h2
      clear hSame hRR
      rw [wanted_guard rfl rfl rfl ft2]
      first | rw [if_pos (by rfl)] | rw [if_neg (by decide)]
      go_simp
      refine hKK _ _ ?_ ?_
      · first | exact Below.refl _ _ | exact (Below.refl _ _).alloc (Nat.le_refl _) _ | exact below_draw _ _ | assumption
      · exact rfl
    refine Obs.cons (k' := 5) rfl ?_ ?_
    · intro fa W hW hSame hRR KK hKK
      try dsimp only at hW
      obtain ⟨fv3, ft3, fm3⟩ := hRR 3 _ 87 rfl rfl (by kernel_rfl)
      replace fm3 : fv3 = Value.int IntKind.i64 0 := fm3
      subst fm3
      obtain ⟨fv2, ft2, fm2⟩ := hRR 2 _ 86 rfl rfl (by kernel_rfl)
      replace fm2 : fv2 = Value.bool true := fm2
      subst fm2
      replace hKK : ∀ v w', Go.RowKit.Below W.heap.size W w' → v = Value.bool true → KK (Act.put fa _ v) w' := fun v w' h1 h2 => hKK v w' h1 h2
      clear hSame hRR
      rw [wanted_guard rfl rfl rfl ft2]
      first | rw [if_pos (by rfl)] | rw [if_neg (by decide)]
      go_simp
      refine hKK _ _ ?_ ?_
      · first | exact Below.refl _ _ | exact (Below.refl _ _).alloc (Nat.le_refl _) _ | exact below_draw _ _ | assumption
      · exact rfl
    refine Obs.cons (k' := 6) rfl ?_ ?_
    · intro fa W hW hSame hRR KK hKK
      try dsimp only at hW
      obtain ⟨fv2, ft2, fm2⟩ := hRR 2 _ 86 rfl rfl (by kernel_rfl)
      replace fm2 : fv2 = Value.bool true := fm2
      subst fm2
      obtain ⟨fv4, ft4, fm4⟩ := hRR 4 _ 88 rfl rfl (by kernel_rfl)
      replace fm4 : fv4 = Value.bool true := fm4
      subst fm4
      replace hKK : ∀ v w', Go.RowKit.Below W.heap.size W w' → v = Value.bool true → KK (Act.put fa _ v) w' := fun v w' h1 h2 => hKK v w' h1 h2
      clear hSame hRR
      rw [if_pos (wanted_plain rfl)]
      go_simp
      refine hKK _ _ ?_ ?_
      · first | exact Below.refl _ _ | exact (Below.refl _ _).alloc (Nat.le_refl _) _ | exact below_draw _ _ | assumption
      · exact rfl
    refine Obs.cons (k' := 7) rfl ?_ ?_
    · intro fa W hW hSame hRR KK hKK
      try dsimp only at hW
      obtain ⟨fv5, ft5, fm5⟩ := hRR 5 _ 89 rfl rfl (by kernel_rfl)
      replace fm5 : fv5 = Value.bool true := fm5
      subst fm5
      replace hKK : ∀ v w', Go.RowKit.Below W.heap.size W w' → v = Value.bool true → KK (Act.put fa _ v) w' := fun v w' h1 h2 => hKK v w' h1 h2
      clear hSame hRR
      rw [if_pos (wanted_plain rfl)]
      go_simp
      refine hKK _ _ ?_ ?_
      · first | exact Below.refl _ _ | exact (Below.refl _ _).alloc (Nat.le_refl _) _ | exact below_draw _ _ | assumption
      · exact rfl
    refine Obs.cons (k' := 8) rfl ?_ ?_
    · intro fa W hW hSame hRR KK hKK
      try dsimp only at hW
      obtain ⟨fv6, ft6, fm6⟩ := hRR 6 _ 90 rfl rfl (by kernel_rfl)
      replace fm6 : fv6 = Value.bool true := fm6
      subst fm6
      have fb4 := hSame.base 4 (by kernel_rfl)
      simp only [List.getElem?_toArray, List.getElem?_cons_succ, List.getElem?_cons_zero] at fb4
      replace hKK : ∀ v w', Go.RowKit.Below W.heap.size W w' → v = Value.float FloatKind.f64 r2 → KK (Act.put fa _ v) w' := fun v w' h1 h2 => hKK v w' h1 h2
      clear hSame hRR
      rw [wanted_guard rfl rfl rfl ft6]
      first | rw [if_pos (by rfl)] | rw [if_neg (by decide)]
      go_simp
      refine hKK _ _ ?_ ?_
      · first | exact Below.refl _ _ | exact (Below.refl _ _).alloc (Nat.le_refl _) _ | exact below_draw _ _ | assumption
      · exact rfl
    refine Obs.cons (k' := 9) rfl ?_ ?_
    · intro fa W hW hSame hRR KK hKK
      try dsimp only at hW
      obtain ⟨fv7, ft7, fm7⟩ := hRR 7 _ 91 rfl rfl (by kernel_rfl)
      replace fm7 : fv7 = Value.float FloatKind.f64 r2 := fm7
      subst fm7
      obtain ⟨fv6, ft6, fm6⟩ := hRR 6 _ 90 rfl rfl (by kernel_rfl)
      replace fm6 : fv6 = Value.bool true := fm6
      subst fm6
      replace hKK : ∀ v w', Go.RowKit.Below W.heap.size W w' → v = Value.int IntKind.i64 0 → KK (Act.put fa _ v) w' := fun v w' h1 h2 => hKK v w' h1 h2
      clear hSame hRR
      rw [wanted_guard rfl rfl rfl ft6]
      first | rw [if_pos (by rfl)] | rw [if_neg (by decide)]
      go_simp
      first
        | (go_at_call 43; refine (kind_any _ (by first | exact W2.out | decide) _).mono ?_; rintro e w' ⟨rfl, rfl⟩; first
            | rw [KQ.out]
            | rw [show Fl.kd (Fl.rk 0) = 4 by decide +kernel])
        | (go_at_call 40; refine (psame_yes _ _ _ _ hW.2.2.1 fm64 (by unfold maxLen; decide)).mono ?_; rintro e w' ⟨rfl, n, rfl⟩)
        | (go_at_call 38; first
            | ((with_reducible refine (mean_right _ Mn.L12 _ hW.2.1 (by decide)).mono ?_); rintro e w' ⟨rfl, hb⟩; rw [show Mn.rt none Mn.L12 = true by decide +kernel])
            | ((with_reducible refine (mean_right _ [(10, 30, 4), (0, 10, 1)] _ fm78 (by decide)).mono ?_); rintro e w' ⟨rfl, hb⟩; rw [show Mn.rt none [((10 : Int), (30 : Int), (4 : Int)), (0, 10, 1)] = false by decide +kernel]))
        | (go_at_call 41; refine (merge_mean _ [(0, 0, 0)] _ fm84 (by decide)).mono ?_; rintro e w' ⟨v, hv, rfl, hb⟩; rw [show Mn.merged [((0 : Int), (0 : Int), (0 : Int))] = [] by decide +kernel] at hv; have hnil := PtV.nils hv)
      try dsimp only
      refine hKK _ _ ?_ ?_
      · first | exact Below.refl _ _ | exact (Below.refl _ _).alloc (Nat.le_refl _) _ | exact below_draw _ _ | assumption
      · exact rfl
    refine Obs.cons (k' := 10) rfl ?_ ?_
    · intro fa W hW hSame hRR KK hKK
      try dsimp only at hW
      obtain ⟨fv8, ft8, fm8⟩ := hRR 8 _ 92 rfl rfl (by kernel_rfl)
      replace fm8 : fv8 = Value.int IntKind.i64 0 := fm8
      subst fm8
      obtain ⟨fv6, ft6, fm6⟩ := hRR 6 _ 90 rfl rfl (by kernel_rfl)
      replace fm6 : fv6 = Value.bool true := fm6
      subst fm6
      replace hKK : ∀ v w', Go.RowKit.Below W.heap.size W w' → v = Value.bool true → KK (Act.put fa _ v) w' := fun v w' h1 h2 => hKK v w' h1 h2
      clear hSame hRR
      rw [wanted_guard rfl rfl rfl ft6]
      first | rw [if_pos (by rfl)] | rw [if_neg (by decide)]
      go_simp
      refine hKK _ _ ?_ ?_
      · first | exact Below.refl _ _ | exact (Below.refl _ _).alloc (Nat.le_refl _) _ | exact below_draw _ _ | assumption
      · exact rfl
    refine Obs.cons (k' := 11) rfl ?_ ?_
    · intro fa W hW hSame hRR KK hKK
      try dsimp only at hW
      obtain ⟨fv6, ft6, fm6⟩ := hRR 6 _ 90 rfl rfl (by kernel_rfl)
      replace fm6 : fv6 = Value.bool true := fm6
      subst fm6
      obtain ⟨fv9, ft9, fm9⟩ := hRR 9 _ 93 rfl rfl (by kernel_rfl)
      replace fm9 : fv9 = Value.bool true := fm9
      subst fm9
      replace hKK : ∀ v w', Go.RowKit.Below W.heap.size W w' → v = Value.bool true → KK (Act.put fa _ v) w' := fun v w' h1 h2 => hKK v w' h1 h2
      clear hSame hRR
      rw [if_pos (wanted_plain rfl)]
      go_simp
      refine hKK _ _ ?_ ?_
      · first | exact Below.refl _ _ | exact (Below.refl _ _).alloc (Nat.le_refl _) _ | exact below_draw _ _ | assumption
      · exact rfl
    refine Obs.cons (k' := 12) rfl ?_ ?_
    · intro fa W hW hSame hRR KK hKK
      try dsimp only at hW
      obtain ⟨fv10, ft10, fm10⟩ := hRR 10 _ 94 rfl rfl (by kernel_rfl)
      replace fm10 : fv10 = Value.bool true := fm10
      subst fm10
      replace hKK : ∀ v w', Go.RowKit.Below W.heap.size W w' → v = Value.bool true → KK (Act.put fa _ v) w' := fun v w' h1 h2 => hKK v w' h1 h2
      clear hSame hRR
      rw [if_pos (wanted_plain rfl)]
      go_simp
      refine hKK _ _ ?_ ?_
      · first | exact Below.refl _ _ | exact (Below.refl _ _).alloc (Nat.le_refl _) _ | exact below_draw _ _ | assumption
      · exact rfl
    refine Obs.cons (k' := 13) rfl ?_ ?_
    · intro fa W hW hSame hRR KK hKK
      try dsimp only at hW
      obtain ⟨fv11, ft11, fm11⟩ := hRR 11 _ 95 rfl rfl (by kernel_rfl)
      replace fm11 : fv11 = Value.bool true := fm11
      subst fm11
      have fb5 := hSame.base 5 (by kernel_rfl)
      simp only [List.getElem?_toArray, List.getElem?_cons_succ, List.getElem?_cons_zero] at fb5
      replace hKK : ∀ v w', Go.RowKit.Below W.heap.size W w' → v = Value.int IntKind.i64 0 → KK (Act.put fa _ v) w' := fun v w' h1 h2 => hKK v w' h1 h2
      clear hSame hRR
      rw [wanted_guard rfl rfl rfl ft11]
      first | rw [if_pos (by rfl)] | rw [if_neg (by decide)]
      go_simp
      refine hKK _ _ ?_ ?_
      · first | exact Below.refl _ _ | exact (Below.refl _ _).alloc (Nat.le_refl _) _ | exact below_draw _ _ | assumption
      · exact rfl
    refine Obs.cons (k' := 14) rfl ?_ ?_
    · intro fa W hW hSame hRR KK hKK
      try dsimp only at hW
      obtain ⟨fv12, ft12, fm12⟩ := hRR 12 _ 96 rfl rfl (by kernel_rfl)
      replace fm12 : fv12 = Value.int IntKind.i64 0 := fm12
      subst fm12
      obtain ⟨fv11, ft11, fm11⟩ := hRR 11 _ 95 rfl rfl (by kernel_rfl)
      replace fm11 : fv11 = Value.bool true := fm11
      subst fm11
      replace hKK : ∀ v w', Go.RowKit.Below W.heap.size W w' → v = Value.bool true → KK (Act.put fa _ v) w' := fun v w' h1 h2 => hKK v w' h1 h2
      clear hSame hRR
      rw [wanted_guard rfl rfl rfl ft11]
      first | rw [if_pos (by rfl)] | rw [if_neg (by decide)]
      go_simp
      refine hKK _ _ ?_ ?_
      · first | exact Below.refl _ _ | exact (Below.refl _ _).alloc (Nat.le_refl _) _ | exact below_draw _ _ | assumption
      · exact rfl
    refine Obs.cons (k' := 15) rfl ?_ ?_
    · intro fa W hW hSame hRR KK hKK
      try dsimp only at hW
      obtain ⟨fv11, ft11, fm11⟩ := hRR 11 _ 95 rfl rfl (by kernel_rfl)
      replace fm11 : fv11 = Value.bool true := fm11
      subst fm11
      obtain ⟨fv13, ft13, fm13⟩ := hRR 13 _ 97 rfl rfl (by kernel_rfl)
      replace fm13 : fv13 = Value.bool true := fm13
      subst fm13
      replace hKK : ∀ v w', Go.RowKit.Below W.heap.size W w' → v = Value.bool true → KK (Act.put fa _ v) w' := fun v w' h1 h2 => hKK v w' h1 h2
      clear hSame hRR
      rw [if_pos (wanted_plain rfl)]
      go_simp
      refine hKK _ _ ?_ ?_
      · first | exact Below.refl _ _ | exact (Below.refl _ _).alloc (Nat.le_refl _) _ | exact below_draw _ _ | assumption
      · exact rfl
    refine Obs.cons (k' := 16) rfl ?_ ?_
    · intro fa W hW hSame hRR KK hKK
      try dsimp only at hW
      obtain ⟨fv14, ft14, fm14⟩ := hRR 14 _ 98 rfl rfl (by kernel_rfl)
      replace fm14 : fv14 = Value.bool true := fm14
      subst fm14
      replace hKK : ∀ v w', Go.RowKit.Below W.heap.size W w' → v = Value.bool true → KK (Act.put fa _ v) w' := fun v w' h1 h2 => hKK v w' h1 h2
      clear hSame hRR
      rw [if_pos (wanted_plain rfl)]
      go_simp
      refine hKK _ _ ?_ ?_
      · first | exact Below.refl _ _ | exact (Below.refl _ _).alloc (Nat.le_refl _) _ | exact below_draw _ _ | assumption
      · exact rfl
    refine Obs.cons (k' := 17) rfl ?_ ?_
    · intro fa W hW hSame hRR KK hKK
      try dsimp only at hW
      obtain ⟨fv15, ft15, fm15⟩ := hRR 15 _ 99 rfl rfl (by kernel_rfl)
      replace fm15 : fv15 = Value.bool true := fm15
      subst fm15
      have fb6 := hSame.base 6 (by kernel_rfl)
      simp only [List.getElem?_toArray, List.getElem?_cons_succ, List.getElem?_cons_zero] at fb6
      replace hKK : ∀ v w', Go.RowKit.Below W.heap.size W w' → v = Value.float FloatKind.f64 0 → KK (Act.put fa _ v) w' := fun v w' h1 h2 => hKK v w' h1 h2
      clear hSame hRR
      rw [wanted_guard rfl rfl rfl ft15]
      first | rw [if_pos (by rfl)] | rw [if_neg (by decide)]
      go_simp
      refine hKK _ _ ?_ ?_
      · first | exact Below.refl _ _ | exact (Below.refl _ _).alloc (Nat.le_refl _) _ | exact below_draw _ _ | assumption
      · exact rfl
    refine Obs.cons (k' := 18) rfl ?_ ?_
    · intro fa W hW hSame hRR KK hKK
      try dsimp only at hW
      obtain ⟨fv16, ft16, fm16⟩ := hRR 16 _ 100 rfl rfl (by kernel_rfl)
      replace fm16 : fv16 = Value.float FloatKind.f64 0 := fm16
      subst fm16
      obtain ⟨fv15, ft15, fm15⟩ := hRR 15 _ 99 rfl rfl (by kernel_rfl)
      replace fm15 : fv15 = Value.bool true := fm15
      subst fm15
      replace hKK : ∀ v w', Go.RowKit.Below W.heap.size W w' → v = Value.int IntKind.i64 4 → KK (Act.put fa _ v) w' := fun v w' h1 h2 => hKK v w' h1 h2
      clear hSame hRR
      rw [wanted_guard rfl rfl rfl ft15]
      first | rw [if_pos (by rfl)] | rw [if_neg (by decide)]
      go_simp
      first
        | (go_at_call 43; refine (kind_any _ (by first | exact W2.out | decide) _).mono ?_; rintro e w' ⟨rfl, rfl⟩; first
            | rw [KQ.out]
            | rw [show Fl.kd (Fl.rk 0) = 4 by decide +kernel])
        | (go_at_call 40; refine (psame_yes _ _ _ _ hW.2.2.1 fm64 (by unfold maxLen; decide)).mono ?_; rintro e w' ⟨rfl, n, rfl⟩)
        | (go_at_call 38; first
            | ((with_reducible refine (mean_right _ Mn.L12 _ hW.2.1 (by decide)).mono ?_); rintro e w' ⟨rfl, hb⟩; rw [show Mn.rt none Mn.L12 = true by decide +kernel])
            | ((with_reducible refine (mean_right _ [(10, 30, 4), (0, 10, 1)] _ fm78 (by decide)).mono ?_); rintro e w' ⟨rfl, hb⟩; rw [show Mn.rt none [((10 : Int), (30 : Int), (4 : Int)), (0, 10, 1)] = false by decide +kernel]))
        | (go_at_call 41; refine (merge_mean _ [(0, 0, 0)] _ fm84 (by decide)).mono ?_; rintro e w' ⟨v, hv, rfl, hb⟩; rw [show Mn.merged [((0 : Int), (0 : Int), (0 : Int))] = [] by decide +kernel] at hv; have hnil := PtV.nils hv)
      try dsimp only
      refine hKK _ _ ?_ ?_
      · first | exact Below.refl _ _ | exact (Below.refl _ _).alloc (Nat.le_refl _) _ | exact below_draw _ _ | assumption
      · exact rfl
    refine Obs.cons (k' := 19) rfl ?_ ?_
    · intro fa W hW hSame hRR KK hKK
      try dsimp only at hW
      obtain ⟨fv17, ft17, fm17⟩ := hRR 17 _ 101 rfl rfl (by kernel_rfl)
      replace fm17 : fv17 = Value.int IntKind.i64 4 := fm17
      subst fm17
      obtain ⟨fv15, ft15, fm15⟩ := hRR 15 _ 99 rfl rfl (by kernel_rfl)
      replace fm15 : fv15 = Value.bool true := fm15
      subst fm15
      replace hKK : ∀ v w', Go.RowKit.Below W.heap.size W w' → v = Value.bool true → KK (Act.put fa _ v) w' := fun v w' h1 h2 => hKK v w' h1 h2
      clear hSame hRR
      rw [wanted_guard rfl rfl rfl ft15]
      first | rw [if_pos (by rfl)] | rw [if_neg (by decide)]
      go_simp
      refine hKK _ _ ?_ ?_
      · first | exact Below.refl _ _ | exact (Below.refl _ _).alloc (Nat.le_refl _) _ | exact below_draw _ _ | assumption
      · exact rfl
    refine Obs.cons (k' := 20) rfl ?_ ?_
    · intro fa W hW hSame hRR KK hKK
      try dsimp only at hW
      obtain ⟨fv15, ft15, fm15⟩ := hRR 15 _ 99 rfl rfl (by kernel_rfl)
      replace fm15 : fv15 = Value.bool true := fm15
      subst fm15
      obtain ⟨fv18, ft18, fm18⟩ := hRR 18 _ 102 rfl rfl (by kernel_rfl)
      replace fm18 : fv18 = Value.bool true := fm18
      subst fm18
      replace hKK : ∀ v w', Go.RowKit.Below W.heap.size W w' → v = Value.bool true → KK (Act.put fa _ v) w' := fun v w' h1 h2 => hKK v w' h1 h2
      clear hSame hRR
      rw [if_pos (wanted_plain rfl)]
      go_simp
      refine hKK _ _ ?_ ?_
      · first | exact Below.refl _ _ | exact (Below.refl _ _).alloc (Nat.le_refl _) _ | exact below_draw _ _ | assumption
      · exact rfl
    refine Obs.cons (k' := 21) rfl ?_ ?_
    · intro fa W hW hSame hRR KK hKK
      try dsimp only at hW
      obtain ⟨fv19, ft19, fm19⟩ := hRR 19 _ 103 rfl rfl (by kernel_rfl)
      replace fm19 : fv19 = Value.bool true := fm19
      subst fm19
      replace hKK : ∀ v w', Go.RowKit.Below W.heap.size W w' → v = Value.bool true → KK (Act.put fa _ v) w' := fun v w' h1 h2 => hKK v w' h1 h2
      clear hSame hRR
      rw [if_pos (wanted_plain rfl)]
      go_simp
      refine hKK _ _ ?_ ?_
      · first | exact Below.refl _ _ | exact (Below.refl _ _).alloc (Nat.le_refl _) _ | exact below_draw _ _ | assumption
      · exact rfl
    refine Obs.cons (k' := 22) rfl ?_ ?_
    · intro fa W hW hSame hRR KK hKK
      try dsimp only at hW
      obtain ⟨fv20, ft20, fm20⟩ := hRR 20 _ 104 rfl rfl (by kernel_rfl)
      replace fm20 : fv20 = Value.bool true := fm20
      subst fm20
      have fb7 := hSame.base 7 (by kernel_rfl)
      simp only [List.getElem?_toArray, List.getElem?_cons_succ, List.getElem?_cons_zero] at fb7
      replace hKK : ∀ v w', Go.RowKit.Below W.heap.size W w' → v = Value.int IntKind.i64 4 → KK (Act.put fa _ v) w' := fun v w' h1 h2 => hKK v w' h1 h2
      clear hSame hRR
      rw [wanted_guard rfl rfl rfl ft20]
      first | rw [if_pos (by rfl)] | rw [if_neg (by decide)]
      go_simp
      refine hKK _ _ ?_ ?_
      · first | exact Below.refl _ _ | exact (Below.refl _ _).alloc (Nat.le_refl _) _ | exact below_draw _ _ | assumption
      · exact rfl
    refine Obs.cons (k' := 23) rfl ?_ ?_
    · intro fa W hW hSame hRR KK hKK
      try dsimp only at hW
      obtain ⟨fv21, ft21, fm21⟩ := hRR 21 _ 105 rfl rfl (by kernel_rfl)
      replace fm21 : fv21 = Value.int IntKind.i64 4 := fm21
      subst fm21
      obtain ⟨fv20, ft20, fm20⟩ := hRR 20 _ 104 rfl rfl (by kernel_rfl)
      replace fm20 : fv20 = Value.bool true := fm20
      subst fm20
      replace hKK : ∀ v w', Go.RowKit.Below W.heap.size W w' → v = Value.bool true → KK (Act.put fa _ v) w' := fun v w' h1 h2 => hKK v w' h1 h2
      clear hSame hRR
      rw [wanted_guard rfl rfl rfl ft20]
      first | rw [if_pos (by rfl)] | rw [if_neg (by decide)]
      go_simp
      refine hKK _ _ ?_ ?_
      · first | exact Below.refl _ _ | exact (Below.refl _ _).alloc (Nat.le_refl _) _ | exact below_draw _ _ | assumption
      · exact rfl
    refine Obs.cons (k' := 24) rfl ?_ ?_
    · intro fa W hW hSame hRR KK hKK
      try dsimp only at hW
      obtain ⟨fv20, ft20, fm20⟩ := hRR 20 _ 104 rfl rfl (by kernel_rfl)
      replace fm20 : fv20 = Value.bool true := fm20
      subst fm20
      obtain ⟨fv22, ft22, fm22⟩ := hRR 22 _ 106 rfl rfl (by kernel_rfl)
      replace fm22 : fv22 = Value.bool true := fm22
      subst fm22
      replace hKK : ∀ v w', Go.RowKit.Below W.heap.size W w' → v = Value.bool true → KK (Act.put fa _ v) w' := fun v w' h1 h2 => hKK v w' h1 h2
      clear hSame hRR
      rw [if_pos (wanted_plain rfl)]
      go_simp
      refine hKK _ _ ?_ ?_
      · first | exact Below.refl _ _ | exact (Below.refl _ _).alloc (Nat.le_refl _) _ | exact below_draw _ _ | assumption
      · exact rfl
    refine Obs.cons (k' := 25) rfl ?_ ?_
    · intro fa W hW hSame hRR KK hKK
      try dsimp only at hW
      obtain ⟨fv23, ft23, fm23⟩ := hRR 23 _ 107 rfl rfl (by kernel_rfl)
      replace fm23 : fv23 = Value.bool true := fm23
      subst fm23
      replace hKK : ∀ v w', Go.RowKit.Below W.heap.size W w' → v = Value.bool true → KK (Act.put fa _ v) w' := fun v w' h1 h2 => hKK v w' h1 h2
      clear hSame hRR
      rw [if_pos (wanted_plain rfl)]
      go_simp
      refine hKK _ _ ?_ ?_
      · first | exact Below.refl _ _ | exact (Below.refl _ _).alloc (Nat.le_refl _) _ | exact below_draw _ _ | assumption
      · exact rfl
    refine Obs.cons (k' := 26) rfl ?_ ?_
    · intro fa W hW hSame hRR KK hKK
      try dsimp only at hW
      obtain ⟨fv24, ft24, fm24⟩ := hRR 24 _ 108 rfl rfl (by kernel_rfl)
      replace fm24 : fv24 = Value.bool true := fm24
      subst fm24
      have fb8 := hSame.base 8 (by kernel_rfl)
      simp only [List.getElem?_toArray, List.getElem?_cons_succ, List.getElem?_cons_zero] at fb8
      replace hKK : ∀ v w', Go.RowKit.Below W.heap.size W w' → v = Value.float FloatKind.f64 4624633867356078080 → KK (Act.put fa _ v) w' := fun v w' h1 h2 => hKK v w' h1 h2
      clear hSame hRR
      rw [wanted_guard rfl rfl rfl ft24]
      first | rw [if_pos (by rfl)] | rw [if_neg (by decide)]
      go_simp
      refine hKK _ _ ?_ ?_
      · first | exact Below.refl _ _ | exact (Below.refl _ _).alloc (Nat.le_refl _) _ | exact below_draw _ _ | assumption
      · exact rfl
    refine Obs.cons (k' := 27) rfl ?_ ?_
    · intro fa W hW hSame hRR KK hKK
      try dsimp only at hW
      obtain ⟨fv25, ft25, fm25⟩ := hRR 25 _ 109 rfl rfl (by kernel_rfl)
      replace fm25 : fv25 = Value.float FloatKind.f64 4624633867356078080 := fm25
      subst fm25
      obtain ⟨fv24, ft24, fm24⟩ := hRR 24 _ 108 rfl rfl (by kernel_rfl)
      replace fm24 : fv24 = Value.bool true := fm24
      subst fm24
      replace hKK : ∀ v w', Go.RowKit.Below W.heap.size W w' → v = Value.bool true → KK (Act.put fa _ v) w' := fun v w' h1 h2 => hKK v w' h1 h2
      clear hSame hRR
      rw [wanted_guard rfl rfl rfl ft24]
      first | rw [if_pos (by rfl)] | rw [if_neg (by decide)]
      go_simp
      refine hKK _ _ ?_ ?_
      · first | exact Below.refl _ _ | exact (Below.refl _ _).alloc (Nat.le_refl _) _ | exact below_draw _ _ | assumption
      · exact rfl
    refine Obs.cons (k' := 28) rfl ?_ ?_
    · intro fa W hW hSame hRR KK hKK
      try dsimp only at hW
      obtain ⟨fv24, ft24, fm24⟩ := hRR 24 _ 108 rfl rfl (by kernel_rfl)
      replace fm24 : fv24 = Value.bool true := fm24
      subst fm24
      obtain ⟨fv26, ft26, fm26⟩ := hRR 26 _ 110 rfl rfl (by kernel_rfl)
      replace fm26 : fv26 = Value.bool true := fm26
      subst fm26
      replace hKK : ∀ v w', Go.RowKit.Below W.heap.size W w' → v = Value.bool true → KK (Act.put fa _ v) w' := fun v w' h1 h2 => hKK v w' h1 h2
      clear hSame hRR
      rw [if_pos (wanted_plain rfl)]
      go_simp
      refine hKK _ _ ?_ ?_
      · first | exact Below.refl _ _ | exact (Below.refl _ _).alloc (Nat.le_refl _) _ | exact below_draw _ _ | assumption
      · exact rfl
    refine Obs.cons (k' := 29) rfl ?_ ?_
    · intro fa W hW hSame hRR KK hKK
      try dsimp only at hW
      obtain ⟨fv27, ft27, fm27⟩ := hRR 27 _ 111 rfl rfl (by kernel_rfl)
      replace fm27 : fv27 = Value.bool true := fm27
      subst fm27
      replace hKK : ∀ v w', Go.RowKit.Below W.heap.size W w' → v = Value.bool true → KK (Act.put fa _ v) w' := fun v w' h1 h2 => hKK v w' h1 h2
      clear hSame hRR
      rw [if_pos (wanted_plain rfl)]
      go_simp
      refine hKK _ _ ?_ ?_
      · first | exact Below.refl _ _ | exact (Below.refl _ _).alloc (Nat.le_refl _) _ | exact below_draw _ _ | assumption
      · exact rfl
    refine Obs.cons (k' := 30) rfl ?_ ?_
    · intro fa W hW hSame hRR KK hKK
      try dsimp only at hW
      obtain ⟨fv28, ft28, fm28⟩ := hRR 28 _ 112 rfl rfl (by kernel_rfl)
      replace fm28 : fv28 = Value.bool true := fm28
      subst fm28
      have fb9 := hSame.base 9 (by kernel_rfl)
      simp only [List.getElem?_toArray, List.getElem?_cons_succ, List.getElem?_cons_zero] at fb9
      replace hKK : ∀ v w', Go.RowKit.Below W.heap.size W w' → v = Value.int IntKind.i64 0 → KK (Act.put fa _ v) w' := fun v w' h1 h2 => hKK v w' h1 h2
      clear hSame hRR
      rw [wanted_guard rfl rfl rfl ft28]
      first | rw [if_pos (by rfl)] | rw [if_neg (by decide)]
      go_simp
      refine hKK _ _ ?_ ?_
      · first | exact Below.refl _ _ | exact (Below.refl _ _).alloc (Nat.le_refl _) _ | exact below_draw _ _ | assumption
      · exact rfl
    refine Obs.cons (k' := 31) rfl ?_ ?_
    · intro fa W hW hSame hRR KK hKK
      try dsimp only at hW
      obtain ⟨fv29, ft29, fm29⟩ := hRR 29 _ 113 rfl rfl (by kernel_rfl)
      replace fm29 : fv29 = Value.int IntKind.i64 0 := fm29
      subst fm29
      obtain ⟨fv28, ft28, fm28⟩ := hRR 28 _ 112 rfl rfl (by kernel_rfl)
      replace fm28 : fv28 = Value.bool true := fm28
      subst fm28
      replace hKK : ∀ v w', Go.RowKit.Below W.heap.size W w' → v = Value.bool true → KK (Act.put fa _ v) w' := fun v w' h1 h2 => hKK v w' h1 h2
      clear hSame hRR
      rw [wanted_guard rfl rfl rfl ft28]
      first | rw [if_pos (by rfl)] | rw [if_neg (by decide)]
      go_simp
      refine hKK _ _ ?_ ?_
      · first | exact Below.refl _ _ | exact (Below.refl _ _).alloc (Nat.le_refl _) _ | exact below_draw _ _ | assumption
      · exact rfl
    refine Obs.cons (k' := 32) rfl ?_ ?_
    · intro fa W hW hSame hRR KK hKK
      try dsimp only at hW
      obtain ⟨fv28, ft28, fm28⟩ := hRR 28 _ 112 rfl rfl (by kernel_rfl)
      replace fm28 : fv28 = Value.bool true := fm28
      subst fm28
      obtain ⟨fv30, ft30, fm30⟩ := hRR 30 _ 114 rfl rfl (by kernel_rfl)
      replace fm30 : fv30 = Value.bool true := fm30
      subst fm30
      replace hKK : ∀ v w', Go.RowKit.Below W.heap.size W w' → v = Value.bool true → KK (Act.put fa _ v) w' := fun v w' h1 h2 => hKK v w' h1 h2
      clear hSame hRR
      rw [if_pos (wanted_plain rfl)]
      go_simp
      refine hKK _ _ ?_ ?_
      · first | exact Below.refl _ _ | exact (Below.refl _ _).alloc (Nat.le_refl _) _ | exact below_draw _ _ | assumption
      · exact rfl
    refine Obs.cons (k' := 33) rfl ?_ ?_
    · intro fa W hW hSame hRR KK hKK
      try dsimp only at hW
      obtain ⟨fv31, ft31, fm31⟩ := hRR 31 _ 115 rfl rfl (by kernel_rfl)
      replace fm31 : fv31 = Value.bool true := fm31
      subst fm31
      replace hKK : ∀ v w', Go.RowKit.Below W.heap.size W w' → v = Value.bool true → KK (Act.put fa _ v) w' := fun v w' h1 h2 => hKK v w' h1 h2
      clear hSame hRR
      rw [if_pos (wanted_plain rfl)]
      go_simp
      refine hKK _ _ ?_ ?_
      · first | exact Below.refl _ _ | exact (Below.refl _ _).alloc (Nat.le_refl _) _ | exact below_draw _ _ | assumption
      · exact rfl
    refine Obs.cons (k' := 34) rfl ?_ ?_
    · intro fa W hW hSame hRR KK hKK
      try dsimp only at hW
      obtain ⟨fv32, ft32, fm32⟩ := hRR 32 _ 116 rfl rfl (by kernel_rfl)
      replace fm32 : fv32 = Value.bool true := fm32
      subst fm32
      have fb10 := hSame.base 10 (by kernel_rfl)
      simp only [List.getElem?_toArray, List.getElem?_cons_succ, List.getElem?_cons_zero] at fb10
      replace hKK : ∀ v w', Go.RowKit.Below W.heap.size W w' → v = Value.float FloatKind.f64 0 → KK (Act.put fa _ v) w' := fun v w' h1 h2 => hKK v w' h1 h2
      clear hSame hRR
      rw [wanted_guard rfl rfl rfl ft32]
      first | rw [if_pos (by rfl)] | rw [if_neg (by decide)]
      go_simp
      refine hKK _ _ ?_ ?_
      · first | exact Below.refl _ _ | exact (Below.refl _ _).alloc (Nat.le_refl _) _ | exact below_draw _ _ | assumption
      · exact rfl
    refine Obs.cons (k' := 35) rfl ?_ ?_
    · intro fa W hW hSame hRR KK hKK
      try dsimp only at hW
      obtain ⟨fv33, ft33, fm33⟩ := hRR 33 _ 117 rfl rfl (by kernel_rfl)
      replace fm33 : fv33 = Value.float FloatKind.f64 0 := fm33
      subst fm33
      obtain ⟨fv32, ft32, fm32⟩ := hRR 32 _ 116 rfl rfl (by kernel_rfl)
      replace fm32 : fv32 = Value.bool true := fm32
      subst fm32
      replace hKK : ∀ v w', Go.RowKit.Below W.heap.size W w' → v = Value.int IntKind.i64 4 → KK (Act.put fa _ v) w' := fun v w' h1 h2 => hKK v w' h1 h2
      clear hSame hRR
      rw [wanted_guard rfl rfl rfl ft32]
      first | rw [if_pos (by rfl)] | rw [if_neg (by decide)]
      go_simp
      first
        | (go_at_call 43; refine (kind_any _ (by first | exact W2.out | decide) _).mono ?_; rintro e w' ⟨rfl, rfl⟩; first
            | rw [KQ.out]
            | rw [show Fl.kd (Fl.rk 0) = 4 by decide +kernel])
        | (go_at_call 40; refine (psame_yes _ _ _ _ hW.2.2.1 fm64 (by unfold maxLen; decide)).mono ?_; rintro e w' ⟨rfl, n, rfl⟩)
        | (go_at_call 38; first
            | ((with_reducible refine (mean_right _ Mn.L12 _ hW.2.1 (by decide)).mono ?_); rintro e w' ⟨rfl, hb⟩; rw [show Mn.rt none Mn.L12 = true by decide +kernel])
            | ((with_reducible refine (mean_right _ [(10, 30, 4), (0, 10, 1)] _ fm78 (by decide)).mono ?_); rintro e w' ⟨rfl, hb⟩; rw [show Mn.rt none [((10 : Int), (30 : Int), (4 : Int)), (0, 10, 1)] = false by decide +kernel]))
        | (go_at_call 41; refine (merge_mean _ [(0, 0, 0)] _ fm84 (by decide)).mono ?_; rintro e w' ⟨v, hv, rfl, hb⟩; rw [show Mn.merged [((0 : Int), (0 : Int), (0 : Int))] = [] by decide +kernel] at hv; have hnil := PtV.nils hv)
      try dsimp only
      refine hKK _ _ ?_ ?_
      · first | exact Below.refl _ _ | exact (Below.refl _ _).alloc (Nat.le_refl _) _ | exact below_draw _ _ | assumption
      · exact rfl
    refine Obs.cons (k' := 36) rfl ?_ ?_
    · intro fa W hW hSame hRR KK hKK
      try dsimp only at hW
      obtain ⟨fv34, ft34, fm34⟩ := hRR 34 _ 118 rfl rfl (by kernel_rfl)
      replace fm34 : fv34 = Value.int IntKind.i64 4 := fm34
      subst fm34
      obtain ⟨fv32, ft32, fm32⟩ := hRR 32 _ 116 rfl rfl (by kernel_rfl)
      replace fm32 : fv32 = Value.bool true := fm32
      subst fm32
      replace hKK : ∀ v w', Go.RowKit.Below W.heap.size W w' → v = Value.bool true → KK (Act.put fa _ v) w' := fun v w' h1 h2 => hKK v w' h1 h2
      clear hSame hRR
      rw [wanted_guard rfl rfl rfl ft32]
      first | rw [if_pos (by rfl)] | rw [if_neg (by decide)]
      go_simp
      refine hKK _ _ ?_ ?_
      · first | exact Below.refl _ _ | exact (Below.refl _ _).alloc (Nat.le_refl _) _ | exact below_draw _ _ | assumption
      · exact rfl
    refine Obs.cons (k' := 37) rfl ?_ ?_
    · intro fa W hW hSame hRR KK hKK
      try dsimp only at hW
      obtain ⟨fv32, ft32, fm32⟩ := hRR 32 _ 116 rfl rfl (by kernel_rfl)
      replace fm32 : fv32 = Value.bool true := fm32
      subst fm32
      obtain ⟨fv35, ft35, fm35⟩ := hRR 35 _ 119 rfl rfl (by kernel_rfl)
      replace fm35 : fv35 = Value.bool true := fm35
      subst fm35
      replace hKK : ∀ v w', Go.RowKit.Below W.heap.size W w' → v = Value.bool true → KK (Act.put fa _ v) w' := fun v w' h1 h2 => hKK v w' h1 h2
      clear hSame hRR
      rw [if_pos (wanted_plain rfl)]
      go_simp
      refine hKK _ _ ?_ ?_
      · first | exact Below.refl _ _ | exact (Below.refl _ _).alloc (Nat.le_refl _) _ | exact below_draw _ _ | assumption
      · exact rfl
    refine Obs.cons (k' := 38) rfl ?_ ?_
    · intro fa W hW hSame hRR KK hKK
      try dsimp only at hW
      obtain ⟨fv36, ft36, fm36⟩ := hRR 36 _ 120 rfl rfl (by kernel_rfl)
      replace fm36 : fv36 = Value.bool true := fm36
      subst fm36
      replace hKK : ∀ v w', Go.RowKit.Below W.heap.size W w' → v = Value.bool true → KK (Act.put fa _ v) w' := fun v w' h1 h2 => hKK v w' h1 h2
      clear hSame hRR
      rw [if_pos (wanted_plain rfl)]
      go_simp
      refine hKK _ _ ?_ ?_
      · first | exact Below.refl _ _ | exact (Below.refl _ _).alloc (Nat.le_refl _) _ | exact below_draw _ _ | assumption
      · exact rfl
    refine Obs.cons (k' := 39) rfl ?_ ?_
    · intro fa W hW hSame hRR KK hKK
      try dsimp only at hW
      obtain ⟨fv37, ft37, fm37⟩ := hRR 37 _ 121 rfl rfl (by kernel_rfl)
      replace fm37 : fv37 = Value.bool true := fm37
      subst fm37
      have fb11 := hSame.base 11 (by kernel_rfl)
      simp only [List.getElem?_toArray, List.getElem?_cons_succ, List.getElem?_cons_zero] at fb11
      replace hKK : ∀ v w', Go.RowKit.Below W.heap.size W w' → v = Value.int IntKind.i64 0 → KK (Act.put fa _ v) w' := fun v w' h1 h2 => hKK v w' h1 h2
      clear hSame hRR
      rw [wanted_guard rfl rfl rfl ft37]
      first | rw [if_pos (by rfl)] | rw [if_neg (by decide)]
      go_simp
      refine hKK _ _ ?_ ?_
      · first | exact Below.refl _ _ | exact (Below.refl _ _).alloc (Nat.le_refl _) _ | exact below_draw _ _ | assumption
      · exact rfl
    refine Obs.cons (k' := 40) rfl ?_ ?_
    · intro fa W hW hSame hRR KK hKK
      try dsimp only at hW
      obtain ⟨fv38, ft38, fm38⟩ := hRR 38 _ 122 rfl rfl (by kernel_rfl)
      replace fm38 : fv38 = Value.int IntKind.i64 0 := fm38
      subst fm38
      obtain ⟨fv37, ft37, fm37⟩ := hRR 37 _ 121 rfl rfl (by kernel_rfl)
      replace fm37 : fv37 = Value.bool true := fm37
      subst fm37
      replace hKK : ∀ v w', Go.RowKit.Below W.heap.size W w' → v = Value.bool true → KK (Act.put fa _ v) w' := fun v w' h1 h2 => hKK v w' h1 h2
      clear hSame hRR
      rw [wanted_guard rfl rfl rfl ft37]
      first | rw [if_pos (by rfl)] | rw [if_neg (by decide)]
      go_simp
      refine hKK _ _ ?_ ?_
      · first | exact Below.refl _ _ | exact (Below.refl _ _).alloc (Nat.le_refl _) _ | exact below_draw _ _ | assumption
      · exact rfl
    refine Obs.cons (k' := 41) rfl ?_ ?_
    · intro fa W hW hSame hRR KK hKK
      try dsimp only at hW
      obtain ⟨fv37, ft37, fm37⟩ := hRR 37 _ 121 rfl rfl (by kernel_rfl)
      replace fm37 : fv37 = Value.bool true := fm37
      subst fm37
      obtain ⟨fv39, ft39, fm39⟩ := hRR 39 _ 123 rfl rfl (by kernel_rfl)
      replace fm39 : fv39 = Value.bool true := fm39
      subst fm39
      replace hKK : ∀ v w', Go.RowKit.Below W.heap.size W w' → v = Value.bool true → KK (Act.put fa _ v) w' := fun v w' h1 h2 => hKK v w' h1 h2
      clear hSame hRR
      rw [if_pos (wanted_plain rfl)]
      go_simp
      refine hKK _ _ ?_ ?_
      · first | exact Below.refl _ _ | exact (Below.refl _ _).alloc (Nat.le_refl _) _ | exact below_draw _ _ | assumption
      · exact rfl
    refine Obs.cons (k' := 42) rfl ?_ ?_
    · intro fa W hW hSame hRR KK hKK
      try dsimp only at hW
      obtain ⟨fv40, ft40, fm40⟩ := hRR 40 _ 124 rfl rfl (by kernel_rfl)
      replace fm40 : fv40 = Value.bool true := fm40
      subst fm40
      replace hKK : ∀ v w', Go.RowKit.Below W.heap.size W w' → v = Value.bool true → KK (Act.put fa _ v) w' := fun v w' h1 h2 => hKK v w' h1 h2
      clear hSame hRR
      rw [if_pos (wanted_plain rfl)]
      go_simp
      refine hKK _ _ ?_ ?_
      · first | exact Below.refl _ _ | exact (Below.refl _ _).alloc (Nat.le_refl _) _ | exact below_draw _ _ | assumption
      · exact rfl
    refine Obs.cons (k' := 43) rfl ?_ ?_
    · intro fa W hW hSame hRR KK hKK
      try dsimp only at hW
      obtain ⟨fv41, ft41, fm41⟩ := hRR 41 _ 125 rfl rfl (by kernel_rfl)
      replace fm41 : fv41 = Value.bool true := fm41
      subst fm41
      have fb13 := hSame.base 13 (by kernel_rfl)
      simp only [List.getElem?_toArray, List.getElem?_cons_succ, List.getElem?_cons_zero] at fb13
      replace hKK : ∀ v w', Go.RowKit.Below W.heap.size W w' → v = Value.int IntKind.i64 4 → KK (Act.put fa _ v) w' := fun v w' h1 h2 => hKK v w' h1 h2
      clear hSame hRR
      rw [wanted_guard rfl rfl rfl ft41]
      first | rw [if_pos (by rfl)] | rw [if_neg (by decide)]
      go_simp
      refine hKK _ _ ?_ ?_
      · first | exact Below.refl _ _ | exact (Below.refl _ _).alloc (Nat.le_refl _) _ | exact below_draw _ _ | assumption
      · exact rfl
    refine Obs.cons (k' := 44) rfl ?_ ?_
    · intro fa W hW hSame hRR KK hKK
      try dsimp only at hW
      obtain ⟨fv42, ft42, fm42⟩ := hRR 42 _ 126 rfl rfl (by kernel_rfl)
      replace fm42 : fv42 = Value.int IntKind.i64 4 := fm42
      subst fm42
      obtain ⟨fv41, ft41, fm41⟩ := hRR 41 _ 125 rfl rfl (by kernel_rfl)
      replace fm41 : fv41 = Value.bool true := fm41
      subst fm41
      replace hKK : ∀ v w', Go.RowKit.Below W.heap.size W w' → v = Value.bool true → KK (Act.put fa _ v) w' := fun v w' h1 h2 => hKK v w' h1 h2
      clear hSame hRR
      rw [wanted_guard rfl rfl rfl ft41]
      first | rw [if_pos (by rfl)] | rw [if_neg (by decide)]
      go_simp
      refine hKK _ _ ?_ ?_
      · first | exact Below.refl _ _ | exact (Below.refl _ _).alloc (Nat.le_refl _) _ | exact below_draw _ _ | assumption
      · exact rfl
    refine Obs.cons (k' := 45) rfl ?_ ?_
    · intro fa W hW hSame hRR KK hKK
      try dsimp only at hW
      obtain ⟨fv41, ft41, fm41⟩ := hRR 41 _ 125 rfl rfl (by kernel_rfl)
      replace fm41 : fv41 = Value.bool true := fm41
      subst fm41
      obtain ⟨fv43, ft43, fm43⟩ := hRR 43 _ 127 rfl rfl (by kernel_rfl)
      replace fm43 : fv43 = Value.bool true := fm43
      subst fm43
      replace hKK : ∀ v w', Go.RowKit.Below W.heap.size W w' → v = Value.bool true → KK (Act.put fa _ v) w' := fun v w' h1 h2 => hKK v w' h1 h2
      clear hSame hRR
      rw [if_pos (wanted_plain rfl)]
      go_simp
      refine hKK _ _ ?_ ?_
      · first | exact Below.refl _ _ | exact (Below.refl _ _).alloc (Nat.le_refl _) _ | exact below_draw _ _ | assumption
      · exact rfl
    refine Obs.cons (k' := 46) rfl ?_ ?_
    · intro fa W hW hSame hRR KK hKK
      try dsimp only at hW
      obtain ⟨fv44, ft44, fm44⟩ := hRR 44 _ 128 rfl rfl (by kernel_rfl)
      replace fm44 : fv44 = Value.bool true := fm44
      subst fm44
      replace hKK : ∀ v w', Go.RowKit.Below W.heap.size W w' → v = Value.bool true → KK (Act.put fa _ v) w' := fun v w' h1 h2 => hKK v w' h1 h2
      clear hSame hRR
      rw [if_pos (wanted_plain rfl)]
      go_simp
      refine hKK _ _ ?_ ?_
      · first | exact Below.refl _ _ | exact (Below.refl _ _).alloc (Nat.le_refl _) _ | exact below_draw _ _ | assumption
      · exact rfl
    refine Obs.cons (k' := 47) rfl ?_ ?_
    · intro fa W hW hSame hRR KK hKK
      try dsimp only at hW
      obtain ⟨fv45, ft45, fm45⟩ := hRR 45 _ 129 rfl rfl (by kernel_rfl)
      replace fm45 : fv45 = Value.bool true := fm45
      subst fm45
      have fb14 := hSame.base 14 (by kernel_rfl)
      simp only [List.getElem?_toArray, List.getElem?_cons_succ, List.getElem?_cons_zero] at fb14
      replace hKK : ∀ v w', Go.RowKit.Below W.heap.size W w' → v = Value.int IntKind.i64 1 → KK (Act.put fa _ v) w' := fun v w' h1 h2 => hKK v w' h1 h2
      clear hSame hRR
      rw [wanted_guard rfl rfl rfl ft45]
      first | rw [if_pos (by rfl)] | rw [if_neg (by decide)]
      go_simp
      refine hKK _ _ ?_ ?_
      · first | exact Below.refl _ _ | exact (Below.refl _ _).alloc (Nat.le_refl _) _ | exact below_draw _ _ | assumption
      · exact rfl
    refine Obs.cons (k' := 48) rfl ?_ ?_
    · intro fa W hW hSame hRR KK hKK
      try dsimp only at hW
      obtain ⟨fv46, ft46, fm46⟩ := hRR 46 _ 130 rfl rfl (by kernel_rfl)
      replace fm46 : fv46 = Value.int IntKind.i64 1 := fm46
      subst fm46
      obtain ⟨fv45, ft45, fm45⟩ := hRR 45 _ 129 rfl rfl (by kernel_rfl)
      replace fm45 : fv45 = Value.bool true := fm45
      subst fm45
      replace hKK : ∀ v w', Go.RowKit.Below W.heap.size W w' → v = Value.bool true → KK (Act.put fa _ v) w' := fun v w' h1 h2 => hKK v w' h1 h2
      clear hSame hRR
      rw [wanted_guard rfl rfl rfl ft45]
      first | rw [if_pos (by rfl)] | rw [if_neg (by decide)]
      go_simp
      refine hKK _ _ ?_ ?_
      · first | exact Below.refl _ _ | exact (Below.refl _ _).alloc (Nat.le_refl _) _ | exact below_draw _ _ | assumption
      · exact rfl
    refine Obs.cons (k' := 49) rfl ?_ ?_
    · intro fa W hW hSame hRR KK hKK
      try dsimp only at hW
      obtain ⟨fv45, ft45, fm45⟩ := hRR 45 _ 129 rfl rfl (by kernel_rfl)
      replace fm45 : fv45 = Value.bool true := fm45
      subst fm45
      obtain ⟨fv47, ft47, fm47⟩ := hRR 47 _ 131 rfl rfl (by kernel_rfl)
      replace fm47 : fv47 = Value.bool true := fm47
      subst fm47
      replace hKK : ∀ v w', Go.RowKit.Below W.heap.size W w' → v = Value.bool true → KK (Act.put fa _ v) w' := fun v w' h1 h2 => hKK v w' h1 h2
      clear hSame hRR
      rw [if_pos (wanted_plain rfl)]
      go_simp
      refine hKK _ _ ?_ ?_
      · first | exact Below.refl _ _ | exact (Below.refl _ _).alloc (Nat.le_refl _) _ | exact below_draw _ _ | assumption
      · exact rfl
    refine Obs.cons (k' := 50) rfl ?_ ?_
    · intro fa W hW hSame hRR KK hKK
      try dsimp only at hW
      obtain ⟨fv48, ft48, fm48⟩ := hRR 48 _ 132 rfl rfl (by kernel_rfl)
      replace fm48 : fv48 = Value.bool true := fm48
      subst fm48
      replace hKK : ∀ v w', Go.RowKit.Below W.heap.size W w' → v = Value.bool true → KK (Act.put fa _ v) w' := fun v w' h1 h2 => hKK v w' h1 h2
      clear hSame hRR
      rw [if_pos (wanted_plain rfl)]
      go_simp
      refine hKK _ _ ?_ ?_
      · first | exact Below.refl _ _ | exact (Below.refl _ _).alloc (Nat.le_refl _) _ | exact below_draw _ _ | assumption
      · exact rfl
    refine Obs.cons (k' := 51) rfl ?_ ?_
    · intro fa W hW hSame hRR KK hKK
      try dsimp only at hW
      obtain ⟨fv49, ft49, fm49⟩ := hRR 49 _ 133 rfl rfl (by kernel_rfl)
      replace fm49 : fv49 = Value.bool true := fm49
      subst fm49
      have fb15 := hSame.base 15 (by kernel_rfl)
      simp only [List.getElem?_toArray, List.getElem?_cons_succ, List.getElem?_cons_zero] at fb15
      replace hKK : ∀ v w', Go.RowKit.Below W.heap.size W w' → v = Value.int IntKind.i64 4 → KK (Act.put fa _ v) w' := fun v w' h1 h2 => hKK v w' h1 h2
      clear hSame hRR
      rw [wanted_guard rfl rfl rfl ft49]
      first | rw [if_pos (by rfl)] | rw [if_neg (by decide)]
      go_simp
      refine hKK _ _ ?_ ?_
      · first | exact Below.refl _ _ | exact (Below.refl _ _).alloc (Nat.le_refl _) _ | exact below_draw _ _ | assumption
      · exact rfl
    refine Obs.cons (k' := 52) rfl ?_ ?_
    · intro fa W hW hSame hRR KK hKK
      try dsimp only at hW
      obtain ⟨fv50, ft50, fm50⟩ := hRR 50 _ 134 rfl rfl (by kernel_rfl)
      replace fm50 : fv50 = Value.int IntKind.i64 4 := fm50
      subst fm50
      obtain ⟨fv49, ft49, fm49⟩ := hRR 49 _ 133 rfl rfl (by kernel_rfl)
      replace fm49 : fv49 = Value.bool true := fm49
      subst fm49
      replace hKK : ∀ v w', Go.RowKit.Below W.heap.size W w' → v = Value.bool true → KK (Act.put fa _ v) w' := fun v w' h1 h2 => hKK v w' h1 h2
      clear hSame hRR
      rw [wanted_guard rfl rfl rfl ft49]
      first | rw [if_pos (by rfl)] | rw [if_neg (by decide)]
      go_simp
      refine hKK _ _ ?_ ?_
      · first | exact Below.refl _ _ | exact (Below.refl _ _).alloc (Nat.le_refl _) _ | exact below_draw _ _ | assumption
      · exact rfl
    refine Obs.cons (k' := 53) rfl ?_ ?_
    · intro fa W hW hSame hRR KK hKK
      try dsimp only at hW
      obtain ⟨fv49, ft49, fm49⟩ := hRR 49 _ 133 rfl rfl (by kernel_rfl)
      replace fm49 : fv49 = Value.bool true := fm49
      subst fm49
      obtain ⟨fv51, ft51, fm51⟩ := hRR 51 _ 135 rfl rfl (by kernel_rfl)
      replace fm51 : fv51 = Value.bool true := fm51
      subst fm51
      replace hKK : ∀ v w', Go.RowKit.Below W.heap.size W w' → v = Value.bool true → KK (Act.put fa _ v) w' := fun v w' h1 h2 => hKK v w' h1 h2
      clear hSame hRR
      rw [if_pos (wanted_plain rfl)]
      go_simp
      refine hKK _ _ ?_ ?_
      · first | exact Below.refl _ _ | exact (Below.refl _ _).alloc (Nat.le_refl _) _ | exact below_draw _ _ | assumption
      · exact rfl
    refine Obs.cons (k' := 54) rfl ?_ ?_
    · intro fa W hW hSame hRR KK hKK
      try dsimp only at hW
      obtain ⟨fv52, ft52, fm52⟩ := hRR 52 _ 136 rfl rfl (by kernel_rfl)
      replace fm52 : fv52 = Value.bool true := fm52
      subst fm52
      replace hKK : ∀ v w', Go.RowKit.Below W.heap.size W w' → v = Value.bool true → KK (Act.put fa _ v) w' := fun v w' h1 h2 => hKK v w' h1 h2
      clear hSame hRR
      rw [if_pos (wanted_plain rfl)]
      go_simp
      refine hKK _ _ ?_ ?_
      · first | exact Below.refl _ _ | exact (Below.refl _ _).alloc (Nat.le_refl _) _ | exact below_draw _ _ | assumption
      · exact rfl
    refine Obs.cons (k' := 55) rfl ?_ ?_
    · intro fa W hW hSame hRR KK hKK
      try dsimp only at hW
      obtain ⟨fv53, ft53, fm53⟩ := hRR 53 _ 137 rfl rfl (by kernel_rfl)
      replace fm53 : fv53 = Value.bool true := fm53
      subst fm53
      have fb16 := hSame.base 16 (by kernel_rfl)
      simp only [List.getElem?_toArray, List.getElem?_cons_succ, List.getElem?_cons_zero] at fb16
      replace hKK : ∀ v w', Go.RowKit.Below W.heap.size W w' → v = Value.bool true → KK (Act.put fa _ v) w' := fun v w' h1 h2 => hKK v w' h1 h2
      clear hSame hRR
      rw [wanted_guard rfl rfl rfl ft53]
      first | rw [if_pos (by rfl)] | rw [if_neg (by decide)]
      go_simp
      refine hKK _ _ ?_ ?_
      · first | exact Below.refl _ _ | exact (Below.refl _ _).alloc (Nat.le_refl _) _ | exact below_draw _ _ | assumption
      · exact rfl
    refine Obs.cons (k' := 56) rfl ?_ ?_
    · intro fa W hW hSame hRR KK hKK
      try dsimp only at hW
      obtain ⟨fv53, ft53, fm53⟩ := hRR 53 _ 137 rfl rfl (by kernel_rfl)
      replace fm53 : fv53 = Value.bool true := fm53
      subst fm53
      obtain ⟨fv54, ft54, fm54⟩ := hRR 54 _ 138 rfl rfl (by kernel_rfl)
      replace fm54 : fv54 = Value.bool true := fm54
      subst fm54
      replace hKK : ∀ v w', Go.RowKit.Below W.heap.size W w' → v = Value.bool true → KK (Act.put fa _ v) w' := fun v w' h1 h2 => hKK v w' h1 h2
      clear hSame hRR
      rw [if_pos (wanted_plain rfl)]
      go_simp
      refine hKK _ _ ?_ ?_
      · first | exact Below.refl _ _ | exact (Below.refl _ _).alloc (Nat.le_refl _) _ | exact below_draw _ _ | assumption
      · exact rfl
    refine Obs.cons (k' := 57) rfl ?_ ?_
    · intro fa W hW hSame hRR KK hKK
      try dsimp only at hW
      obtain ⟨fv55, ft55, fm55⟩ := hRR 55 _ 139 rfl rfl (by kernel_rfl)
      replace fm55 : fv55 = Value.bool true := fm55
      subst fm55
      replace hKK : ∀ v w', Go.RowKit.Below W.heap.size W w' → v = Value.bool true → KK (Act.put fa _ v) w' := fun v w' h1 h2 => hKK v w' h1 h2
      clear hSame hRR
      rw [if_pos (wanted_plain rfl)]
      go_simp
      refine hKK _ _ ?_ ?_
      · first | exact Below.refl _ _ | exact (Below.refl _ _).alloc (Nat.le_refl _) _ | exact below_draw _ _ | assumption
      · exact rfl
    refine Obs.cons (k' := 58) rfl ?_ ?_
    · intro fa W hW hSame hRR KK hKK
      try dsimp only at hW
      obtain ⟨fv56, ft56, fm56⟩ := hRR 56 _ 140 rfl rfl (by kernel_rfl)
      replace fm56 : fv56 = Value.bool true := fm56
      subst fm56
      have fb19 := hSame.base 19 (by kernel_rfl)
      simp only [List.getElem?_toArray, List.getElem?_cons_succ, List.getElem?_cons_zero] at fb19
      replace hKK : ∀ v w', Go.RowKit.Below W.heap.size W w' → v = Value.bool false → KK (Act.put fa _ v) w' := fun v w' h1 h2 => hKK v w' h1 h2
      clear hSame hRR
      rw [wanted_guard rfl rfl rfl ft56]
      first | rw [if_pos (by rfl)] | rw [if_neg (by decide)]
      go_simp
      refine hKK _ _ ?_ ?_
      · first | exact Below.refl _ _ | exact (Below.refl _ _).alloc (Nat.le_refl _) _ | exact below_draw _ _ | assumption
      · exact rfl
    refine Obs.cons (k' := 59) rfl ?_ ?_
    · intro fa W hW hSame hRR KK hKK
      try dsimp only at hW
      obtain ⟨fv57, ft57, fm57⟩ := hRR 57 _ 141 rfl rfl (by kernel_rfl)
      replace fm57 : fv57 = Value.bool false := fm57
      subst fm57
      obtain ⟨fv56, ft56, fm56⟩ := hRR 56 _ 140 rfl rfl (by kernel_rfl)
      replace fm56 : fv56 = Value.bool true := fm56
      subst fm56
      replace hKK : ∀ v w', Go.RowKit.Below W.heap.size W w' → v = Value.bool true → KK (Act.put fa _ v) w' := fun v w' h1 h2 => hKK v w' h1 h2
      clear hSame hRR
      rw [wanted_guard rfl rfl rfl ft56]
      first | rw [if_pos (by rfl)] | rw [if_neg (by decide)]
      go_simp
      refine hKK _ _ ?_ ?_
      · first | exact Below.refl _ _ | exact (Below.refl _ _).alloc (Nat.le_refl _) _ | exact below_draw _ _ | assumption
      · exact rfl
    refine Obs.cons (k' := 60) rfl ?_ ?_
    · intro fa W hW hSame hRR KK hKK
      try dsimp only at hW
      obtain ⟨fv56, ft56, fm56⟩ := hRR 56 _ 140 rfl rfl (by kernel_rfl)
      replace fm56 : fv56 = Value.bool true := fm56
      subst fm56
      obtain ⟨fv58, ft58, fm58⟩ := hRR 58 _ 142 rfl rfl (by kernel_rfl)
      replace fm58 : fv58 = Value.bool true := fm58
      subst fm58
      replace hKK : ∀ v w', Go.RowKit.Below W.heap.size W w' → v = Value.bool true → KK (Act.put fa _ v) w' := fun v w' h1 h2 => hKK v w' h1 h2
      clear hSame hRR
      rw [if_pos (wanted_plain rfl)]
      go_simp
      refine hKK _ _ ?_ ?_
      · first | exact Below.refl _ _ | exact (Below.refl _ _).alloc (Nat.le_refl _) _ | exact below_draw _ _ | assumption
      · exact rfl
    refine Obs.cons (k' := 61) rfl ?_ ?_
    · intro fa W hW hSame hRR KK hKK
      try dsimp only at hW
      obtain ⟨fv59, ft59, fm59⟩ := hRR 59 _ 143 rfl rfl (by kernel_rfl)
      replace fm59 : fv59 = Value.bool true := fm59
      subst fm59
      replace hKK : ∀ v w', Go.RowKit.Below W.heap.size W w' → v = Value.bool true → KK (Act.put fa _ v) w' := fun v w' h1 h2 => hKK v w' h1 h2
      clear hSame hRR
      rw [if_pos (wanted_plain rfl)]
      go_simp
      refine hKK _ _ ?_ ?_
      · first | exact Below.refl _ _ | exact (Below.refl _ _).alloc (Nat.le_refl _) _ | exact below_draw _ _ | assumption
      · exact rfl
    refine Obs.cons (k' := 62) rfl ?_ ?_
    · intro fa W hW hSame hRR KK hKK
      try dsimp only at hW
      obtain ⟨fv60, ft60, fm60⟩ := hRR 60 _ 144 rfl rfl (by kernel_rfl)
      replace fm60 : fv60 = Value.bool true := fm60
      subst fm60
      have fb20 := hSame.base 20 (by kernel_rfl)
      simp only [List.getElem?_toArray, List.getElem?_cons_succ, List.getElem?_cons_zero] at fb20
      replace hKK : ∀ v w', Go.RowKit.Below W.heap.size W w' → v = Value.slice A9 1 c9 → KK (Act.put fa _ v) w' := fun v w' h1 h2 => hKK v w' h1 h2
      clear hSame hRR
      rw [wanted_guard rfl rfl rfl ft60]
      first | rw [if_pos (by rfl)] | rw [if_neg (by decide)]
      go_simp
      refine hKK _ _ ?_ ?_
      · first | exact Below.refl _ _ | exact (Below.refl _ _).alloc (Nat.le_refl _) _ | exact below_draw _ _ | assumption
      · exact rfl
    refine Obs.cons (k' := 63) rfl ?_ ?_
    · intro fa W hW hSame hRR KK hKK
      try dsimp only at hW
      obtain ⟨fv60, ft60, fm60⟩ := hRR 60 _ 144 rfl rfl (by kernel_rfl)
      replace fm60 : fv60 = Value.bool true := fm60
      subst fm60
      replace hKK : ∀ v w', Go.RowKit.Below W.heap.size W w' → v = Value.agg #[Value.int IntKind.i64 0, Value.int IntKind.i64 30] → KK (Act.put fa _ v) w' := fun v w' h1 h2 => hKK v w' h1 h2
      clear hSame hRR
      rw [wanted_guard rfl rfl rfl ft60]
      first | rw [if_pos (by rfl)] | rw [if_neg (by decide)]
      go_simp
      refine hKK _ _ ?_ ?_
      · first | exact Below.refl _ _ | exact (Below.refl _ _).alloc (Nat.le_refl _) _ | exact below_draw _ _ | assumption
      · exact rfl
    refine Obs.cons (k' := 64) rfl ?_ ?_
    · intro fa W hW hSame hRR KK hKK
      try dsimp only at hW
      obtain ⟨fv62, ft62, fm62⟩ := hRR 62 _ 146 rfl rfl (by kernel_rfl)
      replace fm62 : fv62 = Value.agg #[Value.int IntKind.i64 0, Value.int IntKind.i64 30] := fm62
      subst fm62
      obtain ⟨fv60, ft60, fm60⟩ := hRR 60 _ 144 rfl rfl (by kernel_rfl)
      replace fm60 : fv60 = Value.bool true := fm60
      subst fm60
      replace hKK : ∀ v w', Go.RowKit.Below W.heap.size W w' → v = Value.agg #[Value.int IntKind.i64 0, Value.int IntKind.i64 30, Value.int IntKind.i64 4] → KK (Act.put fa _ v) w' := fun v w' h1 h2 => hKK v w' h1 h2
      clear hSame hRR
      rw [wanted_guard rfl rfl rfl ft60]
      first | rw [if_pos (by rfl)] | rw [if_neg (by decide)]
      go_simp
      refine hKK _ _ ?_ ?_
      · first | exact Below.refl _ _ | exact (Below.refl _ _).alloc (Nat.le_refl _) _ | exact below_draw _ _ | assumption
      · exact rfl
    refine Obs.cons (k' := 65) rfl ?_ ?_
    · intro fa W hW hSame hRR KK hKK
      try dsimp only at hW
      obtain ⟨fv63, ft63, fm63⟩ := hRR 63 _ 147 rfl rfl (by kernel_rfl)
      replace fm63 : fv63 = Value.agg #[Value.int IntKind.i64 0, Value.int IntKind.i64 30, Value.int IntKind.i64 4] := fm63
      subst fm63
      obtain ⟨fv60, ft60, fm60⟩ := hRR 60 _ 144 rfl rfl (by kernel_rfl)
      replace fm60 : fv60 = Value.bool true := fm60
      subst fm60
      replace hKK : ∀ v w', Go.RowKit.Below W.heap.size W w' → (fun v W => ∃ u, v = Value.slice (some ⟨u, 0, none⟩) 1 1 ∧ PtV W v [(0, 30, 4)]) v w' → KK (Act.put fa _ v) w' := fun v w' h1 h2 => hKK v w' h1 h2
      clear hSame hRR
      rw [wanted_guard rfl rfl rfl ft60]
      first | rw [if_pos (by rfl)] | rw [if_neg (by decide)]
      go_simp
      refine hKK _ _ ?_ ?_
      · first | exact Below.refl _ _ | exact (Below.refl _ _).alloc (Nat.le_refl _) _ | exact below_draw _ _ | assumption
      · try dsimp only
        first | exact trivial | exact rfl | (first | exact ⟨_, rfl, ptv_new [(0, 30, 4)] _ rfl⟩ | exact ⟨_, rfl, ptv_new [(10, 30, 4), (0, 10, 1)] _ rfl⟩ | exact ⟨_, rfl, ptv_new [(0, 0, 0)] _ rfl⟩ | exact hnil)
    refine Obs.cons (k' := 66) rfl ?_ ?_
    · intro fa W hW hSame hRR KK hKK
      try dsimp only at hW
      obtain ⟨fv61, ft61, fm61⟩ := hRR 61 _ 145 rfl rfl (by kernel_rfl)
      replace fm61 : fv61 = Value.slice A9 1 c9 := fm61
      subst fm61
      obtain ⟨fv64, ft64, fm64⟩ := hRR 64 _ 148 rfl rfl (by kernel_rfl)
      replace fm64 : (fun v W => ∃ u, v = Value.slice (some ⟨u, 0, none⟩) 1 1 ∧ PtV W v [(0, 30, 4)]) fv64 W := fm64
      try dsimp only at fm64
      obtain ⟨_, rfl, fm64⟩ := fm64
      obtain ⟨fv60, ft60, fm60⟩ := hRR 60 _ 144 rfl rfl (by kernel_rfl)
      replace fm60 : fv60 = Value.bool true := fm60
      subst fm60
      replace hKK : ∀ v w', Go.RowKit.Below W.heap.size W w' → v = Value.bool true → KK (Act.put fa _ v) w' := fun v w' h1 h2 => hKK v w' h1 h2
      clear hSame hRR
      rw [wanted_guard rfl rfl rfl ft60]
      first | rw [if_pos (by rfl)] | rw [if_neg (by decide)]
      go_simp
      first
        | (go_at_call 43; refine (kind_any _ (by first | exact W2.out | decide) _).mono ?_; rintro e w' ⟨rfl, rfl⟩; first
            | rw [KQ.out]
            | rw [show Fl.kd (Fl.rk 0) = 4 by decide +kernel])
        | (go_at_call 40; refine (psame_yes _ _ _ _ hW.2.2.1 fm64 (by unfold maxLen; decide)).mono ?_; rintro e w' ⟨rfl, n, rfl⟩)
        | (go_at_call 38; first
            | ((with_reducible refine (mean_right _ Mn.L12 _ hW.2.1 (by decide)).mono ?_); rintro e w' ⟨rfl, hb⟩; rw [show Mn.rt none Mn.L12 = true by decide +kernel])
            | ((with_reducible refine (mean_right _ [(10, 30, 4), (0, 10, 1)] _ fm78 (by decide)).mono ?_); rintro e w' ⟨rfl, hb⟩; rw [show Mn.rt none [((10 : Int), (30 : Int), (4 : Int)), (0, 10, 1)] = false by decide +kernel]))
        | (go_at_call 41; refine (merge_mean _ [(0, 0, 0)] _ fm84 (by decide)).mono ?_; rintro e w' ⟨v, hv, rfl, hb⟩; rw [show Mn.merged [((0 : Int), (0 : Int), (0 : Int))] = [] by decide +kernel] at hv; have hnil := PtV.nils hv)
      try dsimp only
      refine hKK _ _ ?_ ?_
      · first | exact Below.refl _ _ | exact (Below.refl _ _).alloc (Nat.le_refl _) _ | exact below_draw _ _ | assumption
      · exact rfl
    refine Obs.cons (k' := 67) rfl ?_ ?_
    · intro fa W hW hSame hRR KK hKK
      try dsimp only at hW
      obtain ⟨fv60, ft60, fm60⟩ := hRR 60 _ 144 rfl rfl (by kernel_rfl)
      replace fm60 : fv60 = Value.bool true := fm60
      subst fm60
      obtain ⟨fv65, ft65, fm65⟩ := hRR 65 _ 149 rfl rfl (by kernel_rfl)
      replace fm65 : fv65 = Value.bool true := fm65
      subst fm65
      replace hKK : ∀ v w', Go.RowKit.Below W.heap.size W w' → v = Value.bool true → KK (Act.put fa _ v) w' := fun v w' h1 h2 => hKK v w' h1 h2
      clear hSame hRR
      rw [if_pos (wanted_plain rfl)]
      go_simp
      refine hKK _ _ ?_ ?_
      · first | exact Below.refl _ _ | exact (Below.refl _ _).alloc (Nat.le_refl _) _ | exact below_draw _ _ | assumption
      · exact rfl
    refine Obs.cons (k' := 68) rfl ?_ ?_
    · intro fa W hW hSame hRR KK hKK
      try dsimp only at hW
      obtain ⟨fv66, ft66, fm66⟩ := hRR 66 _ 150 rfl rfl (by kernel_rfl)
      replace fm66 : fv66 = Value.bool true := fm66
      subst fm66
      replace hKK : ∀ v w', Go.RowKit.Below W.heap.size W w' → v = Value.bool true → KK (Act.put fa _ v) w' := fun v w' h1 h2 => hKK v w' h1 h2
      clear hSame hRR
      rw [if_pos (wanted_plain rfl)]
      go_simp
      refine hKK _ _ ?_ ?_
      · first | exact Below.refl _ _ | exact (Below.refl _ _).alloc (Nat.le_refl _) _ | exact below_draw _ _ | assumption
      · exact rfl
    refine Obs.cons (k' := 69) rfl ?_ ?_
    · intro fa W hW hSame hRR KK hKK
      try dsimp only at hW
      obtain ⟨fv67, ft67, fm67⟩ := hRR 67 _ 151 rfl rfl (by kernel_rfl)
      replace fm67 : fv67 = Value.bool true := fm67
      subst fm67
      have fb1 := hSame.base 1 (by kernel_rfl)
      simp only [List.getElem?_toArray, List.getElem?_cons_succ, List.getElem?_cons_zero] at fb1
      replace hKK : ∀ v w', Go.RowKit.Below W.heap.size W w' → v = Value.slice (some { block := w.heap.size, off := 0 }) 2 2 → KK (Act.put fa _ v) w' := fun v w' h1 h2 => hKK v w' h1 h2
      clear hSame hRR
      rw [wanted_guard rfl rfl rfl ft67]
      first | rw [if_pos (by rfl)] | rw [if_neg (by decide)]
      go_simp
      refine hKK _ _ ?_ ?_
      · first | exact Below.refl _ _ | exact (Below.refl _ _).alloc (Nat.le_refl _) _ | exact below_draw _ _ | assumption
      · exact rfl
    refine Obs.cons (k' := 70) rfl ?_ ?_
    · intro fa W hW hSame hRR KK hKK
      try dsimp only at hW
      obtain ⟨fv68, ft68, fm68⟩ := hRR 68 _ 152 rfl rfl (by kernel_rfl)
      replace fm68 : fv68 = Value.slice (some { block := w.heap.size, off := 0 }) 2 2 := fm68
      subst fm68
      obtain ⟨fv67, ft67, fm67⟩ := hRR 67 _ 151 rfl rfl (by kernel_rfl)
      replace fm67 : fv67 = Value.bool true := fm67
      subst fm67
      replace hKK : ∀ v w', Go.RowKit.Below W.heap.size W w' → v = Value.bool true → KK (Act.put fa _ v) w' := fun v w' h1 h2 => hKK v w' h1 h2
      clear hSame hRR
      rw [wanted_guard rfl rfl rfl ft67]
      first | rw [if_pos (by rfl)] | rw [if_neg (by decide)]
      go_simp
      first
        | (go_at_call 43; refine (kind_any _ (by first | exact W2.out | decide) _).mono ?_; rintro e w' ⟨rfl, rfl⟩; first
            | rw [KQ.out]
            | rw [show Fl.kd (Fl.rk 0) = 4 by decide +kernel])
        | (go_at_call 40; refine (psame_yes _ _ _ _ hW.2.2.1 fm64 (by unfold maxLen; decide)).mono ?_; rintro e w' ⟨rfl, n, rfl⟩)
        | (go_at_call 38; first
            | ((with_reducible refine (mean_right _ Mn.L12 _ hW.2.1 (by decide)).mono ?_); rintro e w' ⟨rfl, hb⟩; rw [show Mn.rt none Mn.L12 = true by decide +kernel])
            | ((with_reducible refine (mean_right _ [(10, 30, 4), (0, 10, 1)] _ fm78 (by decide)).mono ?_); rintro e w' ⟨rfl, hb⟩; rw [show Mn.rt none [((10 : Int), (30 : Int), (4 : Int)), (0, 10, 1)] = false by decide +kernel]))
        | (go_at_call 41; refine (merge_mean _ [(0, 0, 0)] _ fm84 (by decide)).mono ?_; rintro e w' ⟨v, hv, rfl, hb⟩; rw [show Mn.merged [((0 : Int), (0 : Int), (0 : Int))] = [] by decide +kernel] at hv; have hnil := PtV.nils hv)
      try dsimp only
      refine hKK _ _ ?_ ?_
      · first | exact Below.refl _ _ | exact (Below.refl _ _).alloc (Nat.le_refl _) _ | exact below_draw _ _ | assumption
      · exact rfl
    refine Obs.cons (k' := 71) rfl ?_ ?_
    · intro fa W hW hSame hRR KK hKK
      try dsimp only at hW
      obtain ⟨fv67, ft67, fm67⟩ := hRR 67 _ 151 rfl rfl (by kernel_rfl)
      replace fm67 : fv67 = Value.bool true := fm67
      subst fm67
      obtain ⟨fv69, ft69, fm69⟩ := hRR 69 _ 153 rfl rfl (by kernel_rfl)
      replace fm69 : fv69 = Value.bool true := fm69
      subst fm69
      replace hKK : ∀ v w', Go.RowKit.Below W.heap.size W w' → v = Value.bool true → KK (Act.put fa _ v) w' := fun v w' h1 h2 => hKK v w' h1 h2
      clear hSame hRR
      rw [if_pos (wanted_plain rfl)]
      go_simp
      refine hKK _ _ ?_ ?_
      · first | exact Below.refl _ _ | exact (Below.refl _ _).alloc (Nat.le_refl _) _ | exact below_draw _ _ | assumption
      · exact rfl
    refine Obs.cons (k' := 72) rfl ?_ ?_
    · intro fa W hW hSame hRR KK hKK
      try dsimp only at hW
      obtain ⟨fv70, ft70, fm70⟩ := hRR 70 _ 154 rfl rfl (by kernel_rfl)
      replace fm70 : fv70 = Value.bool true := fm70
      subst fm70
      replace hKK : ∀ v w', Go.RowKit.Below W.heap.size W w' → v = Value.bool true → KK (Act.put fa _ v) w' := fun v w' h1 h2 => hKK v w' h1 h2
      clear hSame hRR
      rw [if_pos (wanted_plain rfl)]
      go_simp
      refine hKK _ _ ?_ ?_
      · first | exact Below.refl _ _ | exact (Below.refl _ _).alloc (Nat.le_refl _) _ | exact below_draw _ _ | assumption
      · exact rfl
    refine Obs.cons (k' := 73) rfl ?_ ?_
    · intro fa W hW hSame hRR KK hKK
      try dsimp only at hW
      obtain ⟨fv71, ft71, fm71⟩ := hRR 71 _ 155 rfl rfl (by kernel_rfl)
      replace fm71 : fv71 = Value.bool true := fm71
      subst fm71
      have fb1 := hSame.base 1 (by kernel_rfl)
      simp only [List.getElem?_toArray, List.getElem?_cons_succ, List.getElem?_cons_zero] at fb1
      replace hKK : ∀ v w', Go.RowKit.Below W.heap.size W w' → v = Value.slice (some { block := w.heap.size, off := 0 }) 2 2 → KK (Act.put fa _ v) w' := fun v w' h1 h2 => hKK v w' h1 h2
      clear hSame hRR
      rw [wanted_guard rfl rfl rfl ft71]
      first | rw [if_pos (by rfl)] | rw [if_neg (by decide)]
      go_simp
      refine hKK _ _ ?_ ?_
      · first | exact Below.refl _ _ | exact (Below.refl _ _).alloc (Nat.le_refl _) _ | exact below_draw _ _ | assumption
      · exact rfl
    refine Obs.cons (k' := 74) rfl ?_ ?_
    · intro fa W hW hSame hRR KK hKK
      try dsimp only at hW
      obtain ⟨fv72, ft72, fm72⟩ := hRR 72 _ 156 rfl rfl (by kernel_rfl)
      replace fm72 : fv72 = Value.slice (some { block := w.heap.size, off := 0 }) 2 2 := fm72
      subst fm72
      obtain ⟨fv71, ft71, fm71⟩ := hRR 71 _ 155 rfl rfl (by kernel_rfl)
      replace fm71 : fv71 = Value.bool true := fm71
      subst fm71
      replace hKK : ∀ v w', Go.RowKit.Below W.heap.size W w' → v = Value.pointer (some { block := w.heap.size, off := 3 }) → KK (Act.put fa _ v) w' := fun v w' h1 h2 => hKK v w' h1 h2
      clear hSame hRR
      rw [wanted_guard rfl rfl rfl ft71]
      first | rw [if_pos (by rfl)] | rw [if_neg (by decide)]
      go_simp
      refine hKK _ _ ?_ ?_
      · first | exact Below.refl _ _ | exact (Below.refl _ _).alloc (Nat.le_refl _) _ | exact below_draw _ _ | assumption
      · exact rfl
    refine Obs.cons (k' := 75) rfl ?_ ?_
    · intro fa W hW hSame hRR KK hKK
      try dsimp only at hW
      obtain ⟨fv73, ft73, fm73⟩ := hRR 73 _ 157 rfl rfl (by kernel_rfl)
      replace fm73 : fv73 = Value.pointer (some { block := w.heap.size, off := 3 }) := fm73
      subst fm73
      obtain ⟨fv71, ft71, fm71⟩ := hRR 71 _ 155 rfl rfl (by kernel_rfl)
      replace fm71 : fv71 = Value.bool true := fm71
      subst fm71
      replace hKK : ∀ v w', Go.RowKit.Below W.heap.size W w' → v = Value.agg #[Value.int IntKind.i64 10, Value.int IntKind.i64 30, Value.int IntKind.i64 4] → KK (Act.put fa _ v) w' := fun v w' h1 h2 => hKK v w' h1 h2
      clear hSame hRR
      rw [wanted_guard rfl rfl rfl ft71]
      first | rw [if_pos (by rfl)] | rw [if_neg (by decide)]
      go_simp
      refine hKK _ _ ?_ ?_
      · first | exact Below.refl _ _ | exact (Below.refl _ _).alloc (Nat.le_refl _) _ | exact below_draw _ _ | assumption
      · exact rfl
    refine Obs.cons (k' := 76) rfl ?_ ?_
    · intro fa W hW hSame hRR KK hKK
      try dsimp only at hW
      obtain ⟨fv71, ft71, fm71⟩ := hRR 71 _ 155 rfl rfl (by kernel_rfl)
      replace fm71 : fv71 = Value.bool true := fm71
      subst fm71
      have fb1 := hSame.base 1 (by kernel_rfl)
      simp only [List.getElem?_toArray, List.getElem?_cons_succ, List.getElem?_cons_zero] at fb1
      replace hKK : ∀ v w', Go.RowKit.Below W.heap.size W w' → v = Value.slice (some { block := w.heap.size, off := 0 }) 2 2 → KK (Act.put fa _ v) w' := fun v w' h1 h2 => hKK v w' h1 h2
      clear hSame hRR
      rw [wanted_guard rfl rfl rfl ft71]
      first | rw [if_pos (by rfl)] | rw [if_neg (by decide)]
      go_simp
      refine hKK _ _ ?_ ?_
      · first | exact Below.refl _ _ | exact (Below.refl _ _).alloc (Nat.le_refl _) _ | exact below_draw _ _ | assumption
      · exact rfl
    refine Obs.cons (k' := 77) rfl ?_ ?_
    · intro fa W hW hSame hRR KK hKK
      try dsimp only at hW
      obtain ⟨fv75, ft75, fm75⟩ := hRR 75 _ 159 rfl rfl (by kernel_rfl)
      replace fm75 : fv75 = Value.slice (some { block := w.heap.size, off := 0 }) 2 2 := fm75
      subst fm75
      obtain ⟨fv71, ft71, fm71⟩ := hRR 71 _ 155 rfl rfl (by kernel_rfl)
      replace fm71 : fv71 = Value.bool true := fm71
      subst fm71
      replace hKK : ∀ v w', Go.RowKit.Below W.heap.size W w' → v = Value.pointer (some { block := w.heap.size, off := 0 }) → KK (Act.put fa _ v) w' := fun v w' h1 h2 => hKK v w' h1 h2
      clear hSame hRR
      rw [wanted_guard rfl rfl rfl ft71]
      first | rw [if_pos (by rfl)] | rw [if_neg (by decide)]
      go_simp
      refine hKK _ _ ?_ ?_
      · first | exact Below.refl _ _ | exact (Below.refl _ _).alloc (Nat.le_refl _) _ | exact below_draw _ _ | assumption
      · exact rfl
    refine Obs.cons (k' := 78) rfl ?_ ?_
    · intro fa W hW hSame hRR KK hKK
      try dsimp only at hW
      obtain ⟨fv76, ft76, fm76⟩ := hRR 76 _ 160 rfl rfl (by kernel_rfl)
      replace fm76 : fv76 = Value.pointer (some { block := w.heap.size, off := 0 }) := fm76
      subst fm76
      obtain ⟨fv71, ft71, fm71⟩ := hRR 71 _ 155 rfl rfl (by kernel_rfl)
      replace fm71 : fv71 = Value.bool true := fm71
      subst fm71
      replace hKK : ∀ v w', Go.RowKit.Below W.heap.size W w' → v = Value.agg #[Value.int IntKind.i64 0, Value.int IntKind.i64 10, Value.int IntKind.i64 1] → KK (Act.put fa _ v) w' := fun v w' h1 h2 => hKK v w' h1 h2
      clear hSame hRR
      rw [wanted_guard rfl rfl rfl ft71]
      first | rw [if_pos (by rfl)] | rw [if_neg (by decide)]
      go_simp
      refine hKK _ _ ?_ ?_
      · first | exact Below.refl _ _ | exact (Below.refl _ _).alloc (Nat.le_refl _) _ | exact below_draw _ _ | assumption
      · exact rfl
    refine Obs.cons (k' := 79) rfl ?_ ?_
    · intro fa W hW hSame hRR KK hKK
      try dsimp only at hW
      obtain ⟨fv74, ft74, fm74⟩ := hRR 74 _ 158 rfl rfl (by kernel_rfl)
      replace fm74 : fv74 = Value.agg #[Value.int IntKind.i64 10, Value.int IntKind.i64 30, Value.int IntKind.i64 4] := fm74
      subst fm74
      obtain ⟨fv77, ft77, fm77⟩ := hRR 77 _ 161 rfl rfl (by kernel_rfl)
      replace fm77 : fv77 = Value.agg #[Value.int IntKind.i64 0, Value.int IntKind.i64 10, Value.int IntKind.i64 1] := fm77
      subst fm77
      obtain ⟨fv71, ft71, fm71⟩ := hRR 71 _ 155 rfl rfl (by kernel_rfl)
      replace fm71 : fv71 = Value.bool true := fm71
      subst fm71
      replace hKK : ∀ v w', Go.RowKit.Below W.heap.size W w' → (fun v W => ∃ u, v = Value.slice (some ⟨u, 0, none⟩) 2 2 ∧ PtV W v [(10, 30, 4), (0, 10, 1)]) v w' → KK (Act.put fa _ v) w' := fun v w' h1 h2 => hKK v w' h1 h2
      clear hSame hRR
      rw [wanted_guard rfl rfl rfl ft71]
      first | rw [if_pos (by rfl)] | rw [if_neg (by decide)]
      go_simp
      refine hKK _ _ ?_ ?_
      · first | exact Below.refl _ _ | exact (Below.refl _ _).alloc (Nat.le_refl _) _ | exact below_draw _ _ | assumption
      · try dsimp only
        first | exact trivial | exact rfl | (first | exact ⟨_, rfl, ptv_new [(0, 30, 4)] _ rfl⟩ | exact ⟨_, rfl, ptv_new [(10, 30, 4), (0, 10, 1)] _ rfl⟩ | exact ⟨_, rfl, ptv_new [(0, 0, 0)] _ rfl⟩ | exact hnil)
    refine Obs.cons (k' := 80) rfl ?_ ?_
    · intro fa W hW hSame hRR KK hKK
      try dsimp only at hW
      obtain ⟨fv78, ft78, fm78⟩ := hRR 78 _ 162 rfl rfl (by kernel_rfl)
      replace fm78 : (fun v W => ∃ u, v = Value.slice (some ⟨u, 0, none⟩) 2 2 ∧ PtV W v [(10, 30, 4), (0, 10, 1)]) fv78 W := fm78
      try dsimp only at fm78
      obtain ⟨_, rfl, fm78⟩ := fm78
      obtain ⟨fv71, ft71, fm71⟩ := hRR 71 _ 155 rfl rfl (by kernel_rfl)
      replace fm71 : fv71 = Value.bool true := fm71
      subst fm71
      replace hKK : ∀ v w', Go.RowKit.Below W.heap.size W w' → v = Value.bool false → KK (Act.put fa _ v) w' := fun v w' h1 h2 => hKK v w' h1 h2
      clear hSame hRR
      rw [wanted_guard rfl rfl rfl ft71]
      first | rw [if_pos (by rfl)] | rw [if_neg (by decide)]
      go_simp
      first
        | (go_at_call 43; refine (kind_any _ (by first | exact W2.out | decide) _).mono ?_; rintro e w' ⟨rfl, rfl⟩; first
            | rw [KQ.out]
            | rw [show Fl.kd (Fl.rk 0) = 4 by decide +kernel])
        | (go_at_call 40; refine (psame_yes _ _ _ _ hW.2.2.1 fm64 (by unfold maxLen; decide)).mono ?_; rintro e w' ⟨rfl, n, rfl⟩)
        | (go_at_call 38; first
            | ((with_reducible refine (mean_right _ Mn.L12 _ hW.2.1 (by decide)).mono ?_); rintro e w' ⟨rfl, hb⟩; rw [show Mn.rt none Mn.L12 = true by decide +kernel])
            | ((with_reducible refine (mean_right _ [(10, 30, 4), (0, 10, 1)] _ fm78 (by decide)).mono ?_); rintro e w' ⟨rfl, hb⟩; rw [show Mn.rt none [((10 : Int), (30 : Int), (4 : Int)), (0, 10, 1)] = false by decide +kernel]))
        | (go_at_call 41; refine (merge_mean _ [(0, 0, 0)] _ fm84 (by decide)).mono ?_; rintro e w' ⟨v, hv, rfl, hb⟩; rw [show Mn.merged [((0 : Int), (0 : Int), (0 : Int))] = [] by decide +kernel] at hv; have hnil := PtV.nils hv)
      try dsimp only
      refine hKK _ _ ?_ ?_
      · first | exact Below.refl _ _ | exact (Below.refl _ _).alloc (Nat.le_refl _) _ | exact below_draw _ _ | assumption
      · exact rfl
    refine Obs.cons (k' := 81) rfl ?_ ?_
    · intro fa W hW hSame hRR KK hKK
      try dsimp only at hW
      obtain ⟨fv79, ft79, fm79⟩ := hRR 79 _ 163 rfl rfl (by kernel_rfl)
      replace fm79 : fv79 = Value.bool false := fm79
      subst fm79
      obtain ⟨fv71, ft71, fm71⟩ := hRR 71 _ 155 rfl rfl (by kernel_rfl)
      replace fm71 : fv71 = Value.bool true := fm71
      subst fm71
      replace hKK : ∀ v w', Go.RowKit.Below W.heap.size W w' → v = Value.bool true → KK (Act.put fa _ v) w' := fun v w' h1 h2 => hKK v w' h1 h2
      clear hSame hRR
      rw [wanted_guard rfl rfl rfl ft71]
      first | rw [if_pos (by rfl)] | rw [if_neg (by decide)]
      go_simp
      refine hKK _ _ ?_ ?_
      · first | exact Below.refl _ _ | exact (Below.refl _ _).alloc (Nat.le_refl _) _ | exact below_draw _ _ | assumption
      · exact rfl
    refine Obs.cons (k' := 82) rfl ?_ ?_
    · intro fa W hW hSame hRR KK hKK
      try dsimp only at hW
      obtain ⟨fv71, ft71, fm71⟩ := hRR 71 _ 155 rfl rfl (by kernel_rfl)
      replace fm71 : fv71 = Value.bool true := fm71
      subst fm71
      obtain ⟨fv80, ft80, fm80⟩ := hRR 80 _ 164 rfl rfl (by kernel_rfl)
      replace fm80 : fv80 = Value.bool true := fm80
      subst fm80
      replace hKK : ∀ v w', Go.RowKit.Below W.heap.size W w' → v = Value.bool true → KK (Act.put fa _ v) w' := fun v w' h1 h2 => hKK v w' h1 h2
      clear hSame hRR
      rw [if_pos (wanted_plain rfl)]
      go_simp
      refine hKK _ _ ?_ ?_
      · first | exact Below.refl _ _ | exact (Below.refl _ _).alloc (Nat.le_refl _) _ | exact below_draw _ _ | assumption
      · exact rfl
    refine Obs.cons (k' := 83) rfl ?_ ?_
    · intro fa W hW hSame hRR KK hKK
      try dsimp only at hW
      obtain ⟨fv81, ft81, fm81⟩ := hRR 81 _ 165 rfl rfl (by kernel_rfl)
      replace fm81 : fv81 = Value.bool true := fm81
      subst fm81
      replace hKK : ∀ v w', Go.RowKit.Below W.heap.size W w' → v = Value.bool true → KK (Act.put fa _ v) w' := fun v w' h1 h2 => hKK v w' h1 h2
      clear hSame hRR
      rw [if_pos (wanted_plain rfl)]
      go_simp
      refine hKK _ _ ?_ ?_
      · first | exact Below.refl _ _ | exact (Below.refl _ _).alloc (Nat.le_refl _) _ | exact below_draw _ _ | assumption
      · exact rfl
    refine Obs.cons (k' := 84) rfl ?_ ?_
    · intro fa W hW hSame hRR KK hKK
      try dsimp only at hW
      obtain ⟨fv82, ft82, fm82⟩ := hRR 82 _ 166 rfl rfl (by kernel_rfl)
      replace fm82 : fv82 = Value.bool true := fm82
      subst fm82
      replace hKK : ∀ v w', Go.RowKit.Below W.heap.size W w' → v = Value.agg #[Value.int IntKind.i64 0, Value.int IntKind.i64 0, Value.int IntKind.i64 0] → KK (Act.put fa _ v) w' := fun v w' h1 h2 => hKK v w' h1 h2
      clear hSame hRR
      rw [wanted_guard rfl rfl rfl ft82]
      first | rw [if_pos (by rfl)] | rw [if_neg (by decide)]
      go_simp
      refine hKK _ _ ?_ ?_
      · first | exact Below.refl _ _ | exact (Below.refl _ _).alloc (Nat.le_refl _) _ | exact below_draw _ _ | assumption
      · exact rfl
    refine Obs.cons (k' := 85) rfl ?_ ?_
    · intro fa W hW hSame hRR KK hKK
      try dsimp only at hW
      obtain ⟨fv83, ft83, fm83⟩ := hRR 83 _ 167 rfl rfl (by kernel_rfl)
      replace fm83 : fv83 = Value.agg #[Value.int IntKind.i64 0, Value.int IntKind.i64 0, Value.int IntKind.i64 0] := fm83
      subst fm83
      obtain ⟨fv82, ft82, fm82⟩ := hRR 82 _ 166 rfl rfl (by kernel_rfl)
      replace fm82 : fv82 = Value.bool true := fm82
      subst fm82
      replace hKK : ∀ v w', Go.RowKit.Below W.heap.size W w' → (fun v W => ∃ u, v = Value.slice (some ⟨u, 0, none⟩) 1 1 ∧ PtV W v [(0, 0, 0)]) v w' → KK (Act.put fa _ v) w' := fun v w' h1 h2 => hKK v w' h1 h2
      clear hSame hRR
      rw [wanted_guard rfl rfl rfl ft82]
      first | rw [if_pos (by rfl)] | rw [if_neg (by decide)]
      go_simp
      refine hKK _ _ ?_ ?_
      · first | exact Below.refl _ _ | exact (Below.refl _ _).alloc (Nat.le_refl _) _ | exact below_draw _ _ | assumption
      · try dsimp only
        first | exact trivial | exact rfl | (first | exact ⟨_, rfl, ptv_new [(0, 30, 4)] _ rfl⟩ | exact ⟨_, rfl, ptv_new [(10, 30, 4), (0, 10, 1)] _ rfl⟩ | exact ⟨_, rfl, ptv_new [(0, 0, 0)] _ rfl⟩ | exact hnil)
    refine Obs.cons (k' := 86) rfl ?_ ?_
    · intro fa W hW hSame hRR KK hKK
      try dsimp only at hW
      obtain ⟨fv84, ft84, fm84⟩ := hRR 84 _ 168 rfl rfl (by kernel_rfl)
      replace fm84 : (fun v W => ∃ u, v = Value.slice (some ⟨u, 0, none⟩) 1 1 ∧ PtV W v [(0, 0, 0)]) fv84 W := fm84
      try dsimp only at fm84
      obtain ⟨_, rfl, fm84⟩ := fm84
      obtain ⟨fv82, ft82, fm82⟩ := hRR 82 _ 166 rfl rfl (by kernel_rfl)
      replace fm82 : fv82 = Value.bool true := fm82
      subst fm82
      replace hKK : ∀ v w', Go.RowKit.Below W.heap.size W w' → (fun v W => ∃ u : Option Addr × Nat, v = Value.slice u.1 0 u.2 ∧ True) v w' → KK (Act.put fa _ v) w' := fun v w' h1 h2 => hKK v w' h1 h2
      clear hSame hRR
      rw [wanted_guard rfl rfl rfl ft82]
      first | rw [if_pos (by rfl)] | rw [if_neg (by decide)]
      go_simp
      first
        | (go_at_call 43; refine (kind_any _ (by first | exact W2.out | decide) _).mono ?_; rintro e w' ⟨rfl, rfl⟩; first
            | rw [KQ.out]
            | rw [show Fl.kd (Fl.rk 0) = 4 by decide +kernel])
        | (go_at_call 40; refine (psame_yes _ _ _ _ hW.2.2.1 fm64 (by unfold maxLen; decide)).mono ?_; rintro e w' ⟨rfl, n, rfl⟩)
        | (go_at_call 38; first
            | ((with_reducible refine (mean_right _ Mn.L12 _ hW.2.1 (by decide)).mono ?_); rintro e w' ⟨rfl, hb⟩; rw [show Mn.rt none Mn.L12 = true by decide +kernel])
            | ((with_reducible refine (mean_right _ [(10, 30, 4), (0, 10, 1)] _ fm78 (by decide)).mono ?_); rintro e w' ⟨rfl, hb⟩; rw [show Mn.rt none [((10 : Int), (30 : Int), (4 : Int)), (0, 10, 1)] = false by decide +kernel]))
        | (go_at_call 41; refine (merge_mean _ [(0, 0, 0)] _ fm84 (by decide)).mono ?_; rintro e w' ⟨v, hv, rfl, hb⟩; rw [show Mn.merged [((0 : Int), (0 : Int), (0 : Int))] = [] by decide +kernel] at hv; have hnil := PtV.nils hv)
      try dsimp only
      refine hKK _ _ ?_ ?_
      · first | exact Below.refl _ _ | exact (Below.refl _ _).alloc (Nat.le_refl _) _ | exact below_draw _ _ | assumption
      · try dsimp only
        first | exact trivial | exact rfl | (first | exact ⟨_, rfl, ptv_new [(0, 30, 4)] _ rfl⟩ | exact ⟨_, rfl, ptv_new [(10, 30, 4), (0, 10, 1)] _ rfl⟩ | exact ⟨_, rfl, ptv_new [(0, 0, 0)] _ rfl⟩ | exact hnil)
    refine Obs.cons (k' := 87) rfl ?_ ?_
    · intro fa W hW hSame hRR KK hKK
      try dsimp only at hW
      obtain ⟨fv85, ft85, fm85⟩ := hRR 85 _ 169 rfl rfl (by kernel_rfl)
      replace fm85 : (fun v W => ∃ u : Option Addr × Nat, v = Value.slice u.1 0 u.2 ∧ True) fv85 W := fm85
      try dsimp only at fm85
      obtain ⟨_, rfl, fm85⟩ := fm85
      obtain ⟨fv82, ft82, fm82⟩ := hRR 82 _ 166 rfl rfl (by kernel_rfl)
      replace fm82 : fv82 = Value.bool true := fm82
      subst fm82
      replace hKK : ∀ v w', Go.RowKit.Below W.heap.size W w' → v = Value.int IntKind.i64 0 → KK (Act.put fa _ v) w' := fun v w' h1 h2 => hKK v w' h1 h2
      clear hSame hRR
      rw [wanted_guard rfl rfl rfl ft82]
      first | rw [if_pos (by rfl)] | rw [if_neg (by decide)]
      go_simp
      refine hKK _ _ ?_ ?_
      · first | exact Below.refl _ _ | exact (Below.refl _ _).alloc (Nat.le_refl _) _ | exact below_draw _ _ | assumption
      · exact rfl
    refine Obs.cons (k' := 88) rfl ?_ ?_
    · intro fa W hW hSame hRR KK hKK
      try dsimp only at hW
      obtain ⟨fv86, ft86, fm86⟩ := hRR 86 _ 170 rfl rfl (by kernel_rfl)
      replace fm86 : fv86 = Value.int IntKind.i64 0 := fm86
      subst fm86
      obtain ⟨fv82, ft82, fm82⟩ := hRR 82 _ 166 rfl rfl (by kernel_rfl)
      replace fm82 : fv82 = Value.bool true := fm82
      subst fm82
      replace hKK : ∀ v w', Go.RowKit.Below W.heap.size W w' → v = Value.bool true → KK (Act.put fa _ v) w' := fun v w' h1 h2 => hKK v w' h1 h2
      clear hSame hRR
      rw [wanted_guard rfl rfl rfl ft82]
      first | rw [if_pos (by rfl)] | rw [if_neg (by decide)]
      go_simp
      refine hKK _ _ ?_ ?_
      · first | exact Below.refl _ _ | exact (Below.refl _ _).alloc (Nat.le_refl _) _ | exact below_draw _ _ | assumption
      · exact rfl
    refine Obs.cons (k' := 89) rfl ?_ ?_
    · intro fa W hW hSame hRR KK hKK
      try dsimp only at hW
      obtain ⟨fv82, ft82, fm82⟩ := hRR 82 _ 166 rfl rfl (by kernel_rfl)
      replace fm82 : fv82 = Value.bool true := fm82
      subst fm82
      obtain ⟨fv87, ft87, fm87⟩ := hRR 87 _ 171 rfl rfl (by kernel_rfl)
      replace fm87 : fv87 = Value.bool true := fm87
      subst fm87
      replace hKK : ∀ v w', Go.RowKit.Below W.heap.size W w' → v = Value.bool true → KK (Act.put fa _ v) w' := fun v w' h1 h2 => hKK v w' h1 h2
      clear hSame hRR
      rw [if_pos (wanted_plain rfl)]
      go_simp
      refine hKK _ _ ?_ ?_
      · first | exact Below.refl _ _ | exact (Below.refl _ _).alloc (Nat.le_refl _) _ | exact below_draw _ _ | assumption
      · exact rfl
    refine Obs.cons (k' := 90) rfl ?_ ?_
    · intro fa W hW hSame hRR KK hKK
      try dsimp only at hW
      obtain ⟨fv88, ft88, fm88⟩ := hRR 88 _ 172 rfl rfl (by kernel_rfl)
      replace fm88 : fv88 = Value.bool true := fm88
      subst fm88
      replace hKK : ∀ v w', Go.RowKit.Below W.heap.size W w' → v = Value.bool true → KK (Act.put fa _ v) w' := fun v w' h1 h2 => hKK v w' h1 h2
      clear hSame hRR
      rw [if_pos (wanted_plain rfl)]
      go_simp
      refine hKK _ _ ?_ ?_
      · first | exact Below.refl _ _ | exact (Below.refl _ _).alloc (Nat.le_refl _) _ | exact below_draw _ _ | assumption
      · exact rfl
    exact Obs.nil
  case hlast =>
    intro fa W hW hSame hRR
    try dsimp only at hW
    obtain ⟨fv89, ft89, fm89⟩ := hRR 89 _ 0 rfl rfl
    replace fm89 : fv89 = Value.bool true := fm89
    subst fm89
    have hdf := hSame.defers
    obtain ⟨tm, df⟩ := fa
    dsimp only at hdf ft89
    subst hdf
    have BB := Lib.hid hW.1
    clear hSame hRR hW
    go_wp2_with fail
    refine bodyPost_ret (v := .bool true) ?_ rfl ⟨rfl, BB.out⟩
    rw [results_tmp rfl]
    simp [Array.getD_eq_getD_getElem?, ft89]
end Go.Proofs.Ytckcmhnhmobadaa

