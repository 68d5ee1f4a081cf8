/- Stores: the answers that the law asks for. -/
import Derived.Test.YtmnmmbeageddkaaStI
import Derived.Test.YtmnmmbeageddkaaStH
import Derived.Test.YtmnmmbeageddkaaIfF
set_option linter.unusedVariables false
set_option linter.unusedSimpArgs false
namespace Go.Proofs.Ytmnmmbeageddkaa
open Go.RowKit Go.Sort Go.Shelf

namespace Sk
abbrev xa : If.I := (9, 12, 1, 0, ⟨#[]⟩)
abbrev xb : If.I := (0, 5, 0, 0, ⟨#[]⟩)
abbrev xc : If.I := (4, 6, 0, 0, ⟨#[]⟩)
abbrev xd : If.I := (5, 6, 0, 0, ⟨#[]⟩)
end Sk
/-- A store, somewhere, of a known list. -/
def StW (W : World) (N p : Nat) (room : Int) (l : List If.I) : Prop := ∃ V qs, StM W N p room V qs l
theorem StW.on {W W' : World} {N p : Nat} {room : Int} {l : List If.I} (h : StW W N p room l) (k : Below W.heap.size W W') : StW W' N p room l := by
  obtain ⟨V, qs, h⟩ := h; exact ⟨V, qs, h.on k⟩
/-- What the walk keeps. -/
def E38 (w W : World) (p ga gb gc gd : Nat) (l : List If.I) : Prop :=
  Below w.heap.size w W ∧ StW W w.heap.size p 2 l ∧ Blk W ga 36 #[.int .i64 9, .int .i64 12, .int .i64 1, .int .i64 0, .string ⟨#[]⟩] ∧ Blk W gb 36 #[.int .i64 0, .int .i64 5, .int .i64 0, .int .i64 0, .string ⟨#[]⟩] ∧ Blk W gc 36 #[.int .i64 4, .int .i64 6, .int .i64 0, .int .i64 0, .string ⟨#[]⟩] ∧ Blk W gd 36 #[.int .i64 5, .int .i64 6, .int .i64 0, .int .i64 0, .string ⟨#[]⟩]
theorem E38.on {w W W' : World} {p ga gb gc gd : Nat} {l : List If.I} (h : E38 w W p ga gb gc gd l) (k : Below W.heap.size W W') : E38 w W' p ga gb gc gd l :=
  ⟨below_step h.1 k, h.2.1.on k, h.2.2.1.on k, h.2.2.2.1.on k, h.2.2.2.2.1.on k, h.2.2.2.2.2.on k⟩
theorem Fr.info {W W' : World} {N p : Nat} {room : Int} {V : Value} {qs : List Nat} {l : List If.I} (h : StM W N p room V qs l) (f : Fr W W' p V.ownBlock) {b : Nat} {vs : Array Value} (hb : Blk W b 36 vs) : Blk W' b 36 vs :=
  f.blk hb (blk_ne hb h.blk (by decide)) (hb.not_row (by decide) h.row)
theorem put38 {w W : World} {p ga gb gc gd : Nat} {l l' : List If.I} {q : Int} (x : If.I) (h : E38 w W p ga gb gc gd l) (hk : Sk.Kept l) (hl : l.length ≤ 3) (hq : Sk.put 2 x l = (q, l')) :
    Calls Try.prog 11 #[.pointer (some ⟨p, 0, none⟩), IV x] W fun e w' => e = .returned (.int .i64 q) ∧ E38 w w' p ga gb gc gd l' := by
  obtain ⟨h1, ⟨V, qs, hm⟩, ha, hb, hc, hd⟩ := h
  obtain ⟨x0, x1, x2, x3, x4⟩ := x
  refine (st_put hm hk (by omega) h1.size x0 x1 x2 x3 x4).mono ?_
  rintro e w' ⟨rfl, f, V', qs', hm'⟩
  rw [hq] at hm' ⊢
  exact ⟨rfl, h1.trans (f.below hm.base (own_row hm.row) h1.size), ⟨V', qs', hm'⟩, f.info hm ha, f.info hm hb, f.info hm hc, f.info hm hd⟩
theorem drop38 {w W : World} {p ga gb gc gd : Nat} {l l' : List If.I} {q : Int} (t : Int) (h : E38 w W p ga gb gc gd l) (hk : Sk.Kept l) (hl : l.length ≤ 3) (hq : Sk.drop t l = (q, l')) {X : World → Prop} (hX : ∀ w', (∀ b vs, Blk W b 36 vs → Blk w' b 36 vs) → X w') :
    Calls Try.prog 13 #[.pointer (some ⟨p, 0, none⟩), .int .i64 t] W fun e w' => e = .returned (.int .i64 q) ∧ E38 w w' p ga gb gc gd l' ∧ X w' := by
  obtain ⟨h1, ⟨V, qs, hm⟩, ha, hb, hc, hd⟩ := h
  refine (st_drop hm hk (by omega) t).mono ?_
  rintro e w' ⟨rfl, f, V', qs', hm'⟩
  rw [hq] at hm' ⊢
  exact ⟨rfl, ⟨h1.trans (f.below hm.base (own_row hm.row) h1.size), ⟨V', qs', hm'⟩, f.info hm ha, f.info hm hb, f.info hm hc, f.info hm hd⟩, hX w' fun b vs k => f.info hm k⟩
theorem four_new (W : World) (t : TypeId) (va vb vc vd : Array Value) : Blk ((((W.alloc (.cells va t)).alloc (.cells vb t)).alloc (.cells vc t)).alloc (.cells vd t)) W.heap.size t va ∧ Blk ((((W.alloc (.cells va t)).alloc (.cells vb t)).alloc (.cells vc t)).alloc (.cells vd t)) (W.heap.size + 1) t vb ∧
    Blk ((((W.alloc (.cells va t)).alloc (.cells vb t)).alloc (.cells vc t)).alloc (.cells vd t)) (W.heap.size + 1 + 1) t vc ∧ Blk ((((W.alloc (.cells va t)).alloc (.cells vb t)).alloc (.cells vc t)).alloc (.cells vd t)) (W.heap.size + 1 + 1 + 1) t vd ∧ Below W.heap.size W ((((W.alloc (.cells va t)).alloc (.cells vb t)).alloc (.cells vc t)).alloc (.cells vd t)) :=
  ⟨(((Blk.new W t va).alloc _).alloc _).alloc _, ((Blk.newAt t vb (by simp)).alloc _).alloc _, (Blk.newAt t vc (by simp)).alloc _, Blk.newAt t vd (by simp), ((((Below.refl _ _).alloc (Nat.le_refl _) _).alloc (by simp) _).alloc (by simp; omega) _).alloc (by simp; omega) _⟩
theorem two_new (W : World) (t : TypeId) (va vb : Array Value) : Blk ((W.alloc (.cells va t)).alloc (.cells vb t)) W.heap.size t va ∧ Blk ((W.alloc (.cells va t)).alloc (.cells vb t)) (W.heap.size + 1) t vb ∧ Below W.heap.size W ((W.alloc (.cells va t)).alloc (.cells vb t)) :=
  ⟨(Blk.new W t va).alloc _, Blk.newAt t vb (by simp), ((Below.refl _ _).alloc (Nat.le_refl _) _).alloc (by simp) _⟩
theorem find38 {W : World} {N p : Nat} {l : List If.I} {x : If.I} {b : Bool} (t : Int) (h : StW W N p 2 l) (hk : Sk.Kept l) (hl : l.length ≤ 3) (hx : Sk.fnd t l = x) (hb : Sk.has t l = b) :
    Calls Try.prog 15 #[.pointer (some ⟨p, 0, none⟩), .int .i64 t] W fun e w' => e = .returned (.tuple #[IV x, .bool b]) ∧ Below W.heap.size W w' := by
  obtain ⟨V, qs, h⟩ := h
  rw [← hx, ← hb]
  exact st_find h hk (by omega) t
theorem near38 {W : World} {N p : Nat} {l : List If.I} {x y : If.I} {a b : Bool} (t : Int) (h : StW W N p 2 l) (hk : Sk.Kept l) (hl : l.length ≤ 3) (hx : Sk.nearA t l = (x, a)) (hy : Sk.nearB t l = (y, b)) :
    Calls Try.prog 17 #[.pointer (some ⟨p, 0, none⟩), .int .i64 t] W fun e w' => e = .returned (.tuple #[IV x, IV y, .bool a, .bool b]) ∧ Below W.heap.size W w' := by
  obtain ⟨V, qs, h⟩ := h
  have := st_near h hk (by omega) t
  rw [hx, hy] at this
  exact this
theorem list38 {W : World} {N p : Nat} {l : List If.I} (h : StW W N p 2 l) (hl : l.length ≤ 3) (h0 : 0 < l.length) :
    Calls Try.prog 21 #[.pointer (some ⟨p, 0, none⟩)] W fun e w' => (∃ (g c : Nat) (cur : Array Value), e = .returned (.slice (some ⟨g, 0, none⟩) l.length c) ∧ Blk w' g 36 cur ∧ ∀ W', Blk W' g 36 cur → InV W' (.slice (some ⟨g, 0, none⟩) l.length c) l) ∧ Below W.heap.size W w' := by
  obtain ⟨V, qs, h⟩ := h
  refine (st_list h (by omega)).mono ?_
  rintro e w' ⟨v, rfl, own, hb⟩
  refine ⟨?_, hb⟩
  rcases own.2 with ⟨_, e0⟩ | ⟨g, cap, cur, rfl, _, hg, hnc, hcm, hcs, ht⟩
  · omega
  · exact ⟨g, cap, cur, rfl, hg, fun W' hW => InV.own (base := 0) (e := 36) ⟨own.1, .inr ⟨g, cap, cur, rfl, Nat.zero_le _, hW, hnc, hcm, hcs, ht⟩⟩⟩
theorem len38 {W : World} {N p : Nat} {l : List If.I} (h : StW W N p 2 l) :
    Calls Try.prog 19 #[.pointer (some ⟨p, 0, none⟩)] W fun e w' => e = .returned (.int .i64 l.length) ∧ Below W.heap.size W w' := by
  obtain ⟨V, qs, h⟩ := h
  exact st_len h
theorem kept0 : Sk.Kept [] := ⟨(fun x h => absurd h (by simp)), List.Pairwise.nil⟩
theorem kept1 : Sk.Kept [Sk.xa] := ⟨by decide, by decide⟩
theorem kept2 : Sk.Kept [Sk.xb, Sk.xa] := ⟨by decide, by decide⟩
set_option maxRecDepth 100000 in
set_option maxHeartbeats 16000000 in
theorem lives38 (w : World) : Calls Try.prog 8 #[] w fun e w' => e = .returned (.bool true) ∧ Below w.heap.size w w' := by
  go_enter Try.func8, Try.ntmps8
  go_wp2_with fail
  refine (st_new 2 _ w.heap.size (Nat.le_refl _)).mono ?_
  rintro e w1 ⟨b1, ⟨h, _⟩ | ⟨_, p, rfl, m1⟩⟩
  · omega
  have B1 := Lib.hid b1; have M1 := Lib.hid (show StW w1 w.heap.size p 2 [] from ⟨_, _, m1⟩)
  clear b1 m1
  go_wp2_with fail
  refine (st_new 0 _ 0 (Nat.zero_le _)).mono ?_
  rintro e w2 ⟨b2, ⟨_, rfl⟩ | ⟨h, _⟩⟩
  case inr => omega
  have B2 := Lib.hid (below_step B1.out b2); have M2 := Lib.hid (M1.out.on b2)
  clear b2 B1 M1
  go_wp2_with fail
  refine (st_new 65537 _ 0 (Nat.zero_le _)).mono ?_
  rintro e w3 ⟨b3, ⟨_, rfl⟩ | ⟨h, _⟩⟩
  case inr => omega
  have B3 := Lib.hid (below_step B2.out b3); have M3 := Lib.hid (M2.out.on b3)
  clear b3 B2 M2
  go_upto_region 10 with (fail)
  obtain ⟨na, nb, nc, nd, nn⟩ := four_new w3 36 #[.int .i64 9, .int .i64 12, .int .i64 1, .int .i64 0, .string ⟨#[]⟩] #[.int .i64 0, .int .i64 5, .int .i64 0, .int .i64 0, .string ⟨#[]⟩] #[.int .i64 4, .int .i64 6, .int .i64 0, .int .i64 0, .string ⟨#[]⟩] #[.int .i64 5, .int .i64 6, .int .i64 0, .int .i64 0, .string ⟨#[]⟩]
  have E4 := Lib.hid (show E38 w _ p w3.heap.size (w3.heap.size + 1) (w3.heap.size + 1 + 1) (w3.heap.size + 1 + 1 + 1) [] from ⟨below_step B3.out nn, M3.out.on nn, na, nb, nc, nd⟩)
  clear na nb nc nd nn B3 M3
  generalize (((w3.alloc (.cells #[.int .i64 9, .int .i64 12, .int .i64 1, .int .i64 0, .string ⟨#[]⟩] 36)).alloc (.cells #[.int .i64 0, .int .i64 5, .int .i64 0, .int .i64 0, .string ⟨#[]⟩] 36)).alloc (.cells #[.int .i64 4, .int .i64 6, .int .i64 0, .int .i64 0, .string ⟨#[]⟩] 36)).alloc (.cells #[.int .i64 5, .int .i64 6, .int .i64 0, .int .i64 0, .string ⟨#[]⟩] 36) = w4 at *
  obtain ⟨gd, hgd⟩ : ∃ g, w3.heap.size + 1 + 1 + 1 = g := ⟨_, rfl⟩
  rw [hgd] at E4 ⊢
  clear hgd
  obtain ⟨gc, hgc⟩ : ∃ g, w3.heap.size + 1 + 1 = g := ⟨_, rfl⟩
  rw [hgc] at E4 ⊢
  clear hgc
  obtain ⟨gb, hgb⟩ : ∃ g, w3.heap.size + 1 = g := ⟨_, rfl⟩
  rw [hgb] at E4 ⊢
  clear hgb
  generalize w3.heap.size = ga at *
  have c0 := E4.out.2.2.1.c0; have c1 := E4.out.2.2.1.c1; have c2 := E4.out.2.2.1.c2; have c3 := E4.out.2.2.1.c3; have c4 := E4.out.2.2.1.c4
  go_wp2_with fail
  refine (put38 (q := 0) (l' := [Sk.xa]) Sk.xa E4.out kept0 (by decide) (by decide)).mono ?_
  rintro e w5 ⟨rfl, e5⟩
  have E5 := Lib.hid e5
  clear e5 E4 c0 c1 c2 c3 c4
  have c0 := E5.out.2.2.2.1.c0; have c1 := E5.out.2.2.2.1.c1; have c2 := E5.out.2.2.2.1.c2; have c3 := E5.out.2.2.2.1.c3; have c4 := E5.out.2.2.2.1.c4
  go_wp2_with fail
  refine (put38 (q := 0) (l' := [Sk.xb, Sk.xa]) Sk.xb E5.out kept1 (by decide) (by decide)).mono ?_
  rintro e w6 ⟨rfl, e6⟩
  have E6 := Lib.hid e6
  clear e6 E5 c0 c1 c2 c3 c4
  have c0 := E6.out.2.2.2.2.1.c0; have c1 := E6.out.2.2.2.2.1.c1; have c2 := E6.out.2.2.2.2.1.c2; have c3 := E6.out.2.2.2.2.1.c3; have c4 := E6.out.2.2.2.2.1.c4
  go_wp2_with fail
  refine (put38 (q := 21) (l' := [Sk.xb, Sk.xa]) Sk.xc E6.out kept2 (by decide) (by decide)).mono ?_
  rintro e w7 ⟨rfl, e7⟩
  have E7 := Lib.hid e7
  clear e7 E6 c0 c1 c2 c3 c4
  have c0 := E7.out.2.2.2.2.2.c0; have c1 := E7.out.2.2.2.2.2.c1; have c2 := E7.out.2.2.2.2.2.c2; have c3 := E7.out.2.2.2.2.2.c3; have c4 := E7.out.2.2.2.2.2.c4
  go_wp2_with fail
  refine (put38 (q := 17) (l' := [Sk.xb, Sk.xa]) Sk.xd E7.out kept2 (by decide) (by decide)).mono ?_
  rintro e w8 ⟨rfl, e8⟩
  have E8 := Lib.hid e8
  clear e8 E7 c0 c1 c2 c3 c4
  have c0 := E8.out.2.2.1.c0; have c1 := E8.out.2.2.1.c1; have c2 := E8.out.2.2.1.c2; have c3 := E8.out.2.2.1.c3; have c4 := E8.out.2.2.1.c4
  go_wp2_with fail
  refine (put38 (q := 11) (l' := [Sk.xb, Sk.xa]) Sk.xa E8.out kept2 (by decide) (by decide)).mono ?_
  rintro e w9 ⟨rfl, e9⟩
  have E9 := Lib.hid e9
  clear e9 E8 c0 c1 c2 c3 c4
  go_wp2_with fail
  refine (put38 (q := 4) (l' := [Sk.xb, Sk.xa]) (0, 0, 0, 0, ⟨#[]⟩) E9.out kept2 (by decide) (by decide)).mono ?_
  rintro e w10 ⟨rfl, e10⟩
  have E10 := Lib.hid e10
  clear e10 E9
  go_wp2_with fail
  refine (find38 (x := Sk.xb) (b := true) 4 E10.out.2.1 kept2 (by decide) (by decide) (by decide)).mono ?_
  rintro e w11 ⟨rfl, b11⟩
  have E11 := Lib.hid (E10.out.on b11)
  clear b11 E10
  go_upto_region 13 with (fail)
  have X12 := Lib.hid (Blk.new w11 36 #[.int .i64 0, .int .i64 5, .int .i64 0, .int .i64 0, .string ⟨#[]⟩])
  have E12 := Lib.hid (E11.out.on ((Below.refl _ _).alloc (Nat.le_refl _) (.cells #[.int .i64 0, .int .i64 5, .int .i64 0, .int .i64 0, .string ⟨#[]⟩] 36)))
  clear E11
  generalize w11.alloc (.cells #[.int .i64 0, .int .i64 5, .int .i64 0, .int .i64 0, .string ⟨#[]⟩] 36) = w12 at *
  generalize w11.heap.size = gx at *
  go_wp2_with fail
  refine (find38 (x := Sk.zI) (b := false) 5 E12.out.2.1 kept2 (by decide) (by decide) (by decide)).mono ?_
  rintro e w13 ⟨rfl, b13⟩
  have E13 := Lib.hid (E12.out.on b13); have X13 := Lib.hid (X12.out.on b13)
  clear b13 E12 X12
  go_upto_region 14 with (fail)
  have bq : Below w13.heap.size w13 (w13.alloc (.cells #[.int .i64 0, .int .i64 0, .int .i64 0, .int .i64 0, .string ⟨#[]⟩] 36)) := (Below.refl _ _).alloc (Nat.le_refl _) _
  have E14 := Lib.hid (E13.out.on bq); have X14 := Lib.hid (X13.out.on bq)
  clear bq E13 X13
  generalize w13.alloc (.cells #[.int .i64 0, .int .i64 0, .int .i64 0, .int .i64 0, .string ⟨#[]⟩] 36) = w14 at *
  generalize w13.heap.size = g0 at *
  go_wp2_with fail
  refine (near38 (x := Sk.xb) (a := true) (y := Sk.xa) (b := true) 6 E14.out.2.1 kept2 (by decide) (by decide) (by decide)).mono ?_
  rintro e w15 ⟨rfl, b15⟩
  have E15 := Lib.hid (E14.out.on b15); have X15 := Lib.hid (X14.out.on b15)
  clear b15 E14 X14
  go_upto_region 15 with (fail)
  obtain ⟨np, nq, nn⟩ := two_new w15 36 #[.int .i64 0, .int .i64 5, .int .i64 0, .int .i64 0, .string ⟨#[]⟩] #[.int .i64 9, .int .i64 12, .int .i64 1, .int .i64 0, .string ⟨#[]⟩]
  have P16 := Lib.hid np; have Q16 := Lib.hid nq; have E16 := Lib.hid (E15.out.on nn); have X16 := Lib.hid (X15.out.on nn)
  clear np nq nn E15 X15
  generalize (w15.alloc (.cells #[.int .i64 0, .int .i64 5, .int .i64 0, .int .i64 0, .string ⟨#[]⟩] 36)).alloc (.cells #[.int .i64 9, .int .i64 12, .int .i64 1, .int .i64 0, .string ⟨#[]⟩] 36) = w16 at *
  obtain ⟨gq, hgq⟩ : ∃ g, w15.heap.size + 1 = g := ⟨_, rfl⟩
  rw [hgq] at Q16 ⊢
  clear hgq
  generalize w15.heap.size = gp at *
  go_wp2_with fail
  refine (near38 (x := Sk.zI) (a := false) (y := Sk.xa) (b := true) 4 E16.out.2.1 kept2 (by decide) (by decide) (by decide)).mono ?_
  rintro e w17 ⟨rfl, b17⟩
  have E17 := Lib.hid (E16.out.on b17); have X17 := Lib.hid (X16.out.on b17); have P17 := Lib.hid (P16.out.on b17); have Q17 := Lib.hid (Q16.out.on b17)
  clear b17 E16 X16 P16 Q16
  go_upto_region 16 with (fail)
  obtain ⟨-, -, nn⟩ := two_new w17 36 #[.int .i64 0, .int .i64 0, .int .i64 0, .int .i64 0, .string ⟨#[]⟩] #[.int .i64 9, .int .i64 12, .int .i64 1, .int .i64 0, .string ⟨#[]⟩]
  have E18 := Lib.hid (E17.out.on nn); have X18 := Lib.hid (X17.out.on nn); have P18 := Lib.hid (P17.out.on nn); have Q18 := Lib.hid (Q17.out.on nn)
  clear nn E17 X17 P17 Q17
  generalize (w17.alloc (.cells #[.int .i64 0, .int .i64 0, .int .i64 0, .int .i64 0, .string ⟨#[]⟩] 36)).alloc (.cells #[.int .i64 9, .int .i64 12, .int .i64 1, .int .i64 0, .string ⟨#[]⟩] 36) = w18 at *
  obtain ⟨g2, hg2⟩ : ∃ g, w17.heap.size + 1 = g := ⟨_, rfl⟩
  rw [hg2]
  clear hg2
  generalize w17.heap.size = g1 at *
  go_wp2_with fail
  refine (list38 E18.out.2.1 (by decide) (by decide)).mono ?_
  rintro e w19 ⟨⟨gl, cl, cur, rfl, hL, hI⟩, b19⟩
  have E19 := Lib.hid (E18.out.on b19); have X19 := Lib.hid (X18.out.on b19); have P19 := Lib.hid (P18.out.on b19); have Q19 := Lib.hid (Q18.out.on b19); have L19 := Lib.hid hL; have LI := Lib.hid hI
  clear b19 E18 X18 P18 Q18 hL hI
  go_wp2_with fail
  refine (drop38 (q := 0) (l' := [Sk.xa]) 4 E19.out kept2 (by decide) (by decide) (X := fun w' => ∀ b vs, Blk w19 b 36 vs → Blk w' b 36 vs) (fun w' h => h)).mono ?_
  rintro e w20 ⟨rfl, e20, k20⟩
  have E20 := Lib.hid e20; have X20 := Lib.hid (k20 _ _ X19.out); have P20 := Lib.hid (k20 _ _ P19.out); have Q20 := Lib.hid (k20 _ _ Q19.out); have L20 := Lib.hid (k20 _ _ L19.out)
  clear e20 k20 E19 X19 P19 Q19 L19
  go_wp2_with fail
  refine (drop38 (q := 12) (l' := [Sk.xa]) 4 E20.out kept1 (by decide) (by decide) (X := fun w' => ∀ b vs, Blk w20 b 36 vs → Blk w' b 36 vs) (fun w' h => h)).mono ?_
  rintro e w21 ⟨rfl, e21, k21⟩
  have E21 := Lib.hid e21; have X21 := Lib.hid (k21 _ _ X20.out); have P21 := Lib.hid (k21 _ _ P20.out); have Q21 := Lib.hid (k21 _ _ Q20.out); have L21 := Lib.hid (k21 _ _ L20.out)
  clear e21 k21 E20 X20 P20 Q20 L20
  go_wp2_with fail
  refine (st_find_nil 0 _).mono ?_
  rintro e w22 ⟨rfl, b22⟩
  have E22 := Lib.hid (E21.out.on b22); have X22 := Lib.hid (X21.out.on b22); have P22 := Lib.hid (P21.out.on b22); have Q22 := Lib.hid (Q21.out.on b22); have L22 := Lib.hid (L21.out.on b22)
  clear b22 E21 X21 P21 Q21 L21
  go_upto_region 20 with (fail)
  have bq : Below w22.heap.size w22 (w22.alloc (.cells #[.int .i64 0, .int .i64 0, .int .i64 0, .int .i64 0, .string ⟨#[]⟩] 36)) := (Below.refl _ _).alloc (Nat.le_refl _) _
  have E23 := Lib.hid (E22.out.on bq); have X23 := Lib.hid (X22.out.on bq); have P23 := Lib.hid (P22.out.on bq); have Q23 := Lib.hid (Q22.out.on bq); have L23 := Lib.hid (L22.out.on bq)
  clear bq E22 X22 P22 Q22 L22
  generalize w22.alloc (.cells #[.int .i64 0, .int .i64 0, .int .i64 0, .int .i64 0, .string ⟨#[]⟩] 36) = w23 at *
  generalize w22.heap.size = g3 at *
  go_wp2_with fail
  refine (st_near_nil 0 _).mono ?_
  rintro e w24 ⟨rfl, b24⟩
  have E24 := Lib.hid (E23.out.on b24); have X24 := Lib.hid (X23.out.on b24); have P24 := Lib.hid (P23.out.on b24); have Q24 := Lib.hid (Q23.out.on b24); have L24 := Lib.hid (L23.out.on b24)
  clear b24 E23 X23 P23 Q23 L23
  go_upto_region 21 with (fail)
  obtain ⟨-, -, nn⟩ := two_new w24 36 #[.int .i64 0, .int .i64 0, .int .i64 0, .int .i64 0, .string ⟨#[]⟩] #[.int .i64 0, .int .i64 0, .int .i64 0, .int .i64 0, .string ⟨#[]⟩]
  have E25 := Lib.hid (E24.out.on nn); have X25 := Lib.hid (X24.out.on nn); have P25 := Lib.hid (P24.out.on nn); have Q25 := Lib.hid (Q24.out.on nn); have L25 := Lib.hid (LI.out _ (L24.out.on nn))
  clear nn E24 X24 P24 Q24 L24 LI
  generalize (w24.alloc (.cells #[.int .i64 0, .int .i64 0, .int .i64 0, .int .i64 0, .string ⟨#[]⟩] 36)).alloc (.cells #[.int .i64 0, .int .i64 0, .int .i64 0, .int .i64 0, .string ⟨#[]⟩] 36) = w25 at *
  generalize w24.heap.size = g4 at *
  have a0 := E25.out.2.2.1.c0; have a1 := E25.out.2.2.1.c1; have a2 := E25.out.2.2.1.c2; have a3 := E25.out.2.2.1.c3; have a4 := E25.out.2.2.1.c4
  have b0 := E25.out.2.2.2.1.c0; have b1 := E25.out.2.2.2.1.c1; have b2 := E25.out.2.2.2.1.c2; have b3 := E25.out.2.2.2.1.c3; have b4 := E25.out.2.2.2.1.c4
  have x0 := X25.out.c0; have x1 := X25.out.c1; have x2 := X25.out.c2; have x3 := X25.out.c3; have x4 := X25.out.c4
  have p0 := P25.out.c0; have p1 := P25.out.c1; have p2 := P25.out.c2; have p3 := P25.out.c3; have p4 := P25.out.c4
  have q0 := Q25.out.c0; have q1 := Q25.out.c1; have q2 := Q25.out.c2; have q3 := Q25.out.c3; have q4 := Q25.out.c4
  go_wp2_with fail
  have b26 : Below w25.heap.size w25 (w25.alloc (.cells #[.int .i64 0, .int .i64 5, .int .i64 0, .int .i64 0, .string ⟨#[]⟩, .int .i64 9, .int .i64 12, .int .i64 1, .int .i64 0, .string ⟨#[]⟩] 36)) := (Below.refl _ _).alloc (Nat.le_refl _) _
  have E26 := Lib.hid (E25.out.on b26); have L26 := Lib.hid (L25.out.on b26)
  have N26 := Lib.hid (show InV (w25.alloc (.cells #[.int .i64 0, .int .i64 5, .int .i64 0, .int .i64 0, .string ⟨#[]⟩, .int .i64 9, .int .i64 12, .int .i64 1, .int .i64 0, .string ⟨#[]⟩] 36)) (.slice (some ⟨w25.heap.size, 0, none⟩) 2 2) [Sk.xb, Sk.xa] from InV.own (base := 0) (e := 36) (World.ownsRow_lit w25 #[.int .i64 0, .int .i64 5, .int .i64 0, .int .i64 0, .string ⟨#[]⟩, .int .i64 9, .int .i64 12, .int .i64 1, .int .i64 0, .string ⟨#[]⟩] 2 (Nat.zero_le _) (by unfold maxLen; omega) rfl))
  clear b26 E25 L25 X25 P25 Q25 a0 a1 a2 a3 a4 b0 b1 b2 b3 b4 x0 x1 x2 x3 x4 p0 p1 p2 p3 p4 q0 q1 q2 q3 q4
  refine (if_same _ _ [Sk.xb, Sk.xa] _ L26.out N26.out (by decide)).mono ?_
  rintro e w27 ⟨rfl, nn, hw⟩
  have b27 : Below (w25.alloc (.cells #[.int .i64 0, .int .i64 5, .int .i64 0, .int .i64 0, .string ⟨#[]⟩, .int .i64 9, .int .i64 12, .int .i64 1, .int .i64 0, .string ⟨#[]⟩] 36)).heap.size (w25.alloc (.cells #[.int .i64 0, .int .i64 5, .int .i64 0, .int .i64 0, .string ⟨#[]⟩, .int .i64 9, .int .i64 12, .int .i64 1, .int .i64 0, .string ⟨#[]⟩] 36)) w27 := by rw [hw]; exact below_draw _ _
  have E27 := Lib.hid (E26.out.on b27)
  clear hw b27 E26 L26 N26
  go_wp2_with fail
  refine (len38 E27.out.2.1).mono ?_
  rintro e w28 ⟨rfl, b28⟩
  have E28 := Lib.hid (E27.out.on b28)
  clear b28 E27
  have a0 := E28.out.2.2.1.c0; have a1 := E28.out.2.2.1.c1; have a2 := E28.out.2.2.1.c2; have a3 := E28.out.2.2.1.c3; have a4 := E28.out.2.2.1.c4
  go_wp2_with fail
  refine (st_put_nil (9, 12, 1, 0, ⟨#[]⟩) _).mono ?_
  rintro e w29 ⟨rfl, b29⟩
  have B29 := Lib.hid (below_step E28.out.1 b29)
  clear b29 E28 a0 a1 a2 a3 a4
  go_wp2_with fail
  refine (st_drop_nil 0 _).mono ?_
  rintro e w30 ⟨rfl, b30⟩
  have B30 := Lib.hid (below_step B29.out b30)
  clear b30 B29
  go_wp2_with fail
  refine (st_list_nil _).mono ?_
  rintro e w31 ⟨rfl, b31⟩
  have B31 := Lib.hid (below_step B30.out b31)
  clear b31 B30
  go_wp2_with fail
  refine (st_len_nil _).mono ?_
  rintro e w32 ⟨rfl, b32⟩
  have B32 := Lib.hid (below_step B31.out b32)
  clear b32 B31
  go_wp2
  go_ret
  exact ⟨rfl, B32.out⟩
end Go.Proofs.Ytmnmmbeageddkaa

