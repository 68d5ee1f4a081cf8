/- Stores: Put. -/
import Derived.Test.YtmnmmbeageddkaaStC
import Derived.Test.YtmnmmbeageddkaaStD
import Derived.Deep.CutRange
set_option linter.unusedVariables false
set_option linter.unusedSimpArgs false
namespace Go.Proofs.Ytmnmmbeageddkaa
open Go.RowKit Go.Sort Go.Shelf

set_option maxHeartbeats 1000000 in
theorem span_meet38 (x0 x1 y0 y1 : Int) (w : World) :
    Calls Try.prog 39 #[.agg #[.int .i64 x0, .int .i64 x1], .agg #[.int .i64 y0, .int .i64 y1]] w fun e w' => e = .returned (.bool (Sp.mt x0 x1 y0 y1)) ∧ Below w.heap.size w w' := by
  go_enter Try.func39, Try.ntmps39
  go_wp2_with fail
  refine (span_both x0 x1 y0 y1 _).mono ?_; rintro e w1 ⟨rfl, b1⟩
  have d1 : Below w.heap.size w w1 := below_step (by repeat (first | exact Below.refl _ _ | refine below_drewN ?_ _ | refine Below.drew ?_ | refine Below.setCell ?_ (by first | (simp; done) | (simp; omega) | omega) _ | refine Below.alloc ?_ (by first | (simp; done) | (simp; omega) | omega) _)) b1
  have B1 := Lib.hid d1
  have A1 : Bk2 w1 (w.heap.size) (.int .i64 x0) (.int .i64 x1) := Bk2.of b1 (by simp <;> omega) (by intro j; simp [go_sem]) (by simp [go_sem]) (by simp [go_sem])
  have Bb1 : Bk2 w1 (w.heap.size + 1) (.int .i64 y0) (.int .i64 y1) := Bk2.of b1 (by simp <;> omega) (by intro j; simp [go_sem]) (by simp [go_sem]) (by simp [go_sem])
  clear b1 d1
  have cA_b := A1.hb
  have cA_f := A1.fz
  have cA_0 := A1.k0
  have cA_1 := A1.k1
  have cBb_b := Bb1.hb
  have cBb_f := Bb1.fz
  have cBb_0 := Bb1.k0
  have cBb_1 := Bb1.k1
  go_wp2_with fail
  clear cA_b cA_f cA_0 cA_1 cBb_b cBb_f cBb_0 cBb_1
  go_ret
  exact ⟨rfl, (by have hz := B1.out.size; repeat (first | exact B1.out | refine below_drewN ?_ _ | refine Below.drew ?_ | refine Below.setCell ?_ (by first | omega | (simp; done) | (simp; omega)) _ | refine Below.alloc ?_ (by first | omega | (simp; done) | (simp; omega)) _))⟩
namespace Sk
def ins (k : Nat) (i : If.I) (l : List If.I) : List If.I := l.take k ++ i :: l.drop k
/-- What Put tells, and keeps. -/
def put (room : Int) (i : If.I) (l : List If.I) : Int × List If.I :=
  if Sp.rb i.1 i.2.1 then
    match l[pl i.1 l]? with
    | some x => if x = i then (11, l) else if Sp.mt x.1 x.2.1 i.1 i.2.1 then (21, l) else if (l.length : Int) = room then (17, l) else (0, ins (pl i.1 l) i l)
    | none => if (l.length : Int) = room then (17, l) else (0, ins (pl i.1 l) i l)
  else (4, l)
end Sk
/-- What is not a store's own stays as it is. -/
structure Fr (W W' : World) (p : Nat) (row : Option Nat) : Prop where
  os : W'.os = W.os
  tape : W'.tape = W.tape
  output : W'.output = W.output
  size : W.heap.size ≤ W'.heap.size
  block : ∀ k, k < W.heap.size → k ≠ p → some k ≠ row → W'.heap[k]? = W.heap[k]?
theorem Fr.of {W W' : World} {p : Nat} {row : Option Nat} (h : Below W.heap.size W W') : Fr W W' p row := ⟨h.os, h.tape, h.output, h.size, fun k hk _ _ => h.block k hk⟩
theorem Fr.below {W W' : World} {p B : Nat} {row : Option Nat} (h : Fr W W' p row) (hp : B ≤ p) (hr : ∀ g, row = some g → B ≤ g) (hB : B ≤ W.heap.size) : Below B W W' :=
  ⟨h.os, h.tape, h.output, h.size, fun k hk => h.block k (by omega) (by omega) (fun e => by have := hr k e.symm; omega)⟩
theorem Fr.blk {W W' : World} {p : Nat} {row : Option Nat} {B : Nat} {t : TypeId} {vs : Array Value} (h : Fr W W' p row) (hb : Blk W B t vs) (hp : B ≠ p) (hr : some B ≠ row) : Blk W' B t vs := (h.block B hb.lt hp hr).trans hb
theorem blk_ne {W : World} {a b : Nat} {t t' : TypeId} {vs vs' : Array Value} (h : Blk W a t vs) (k : Blk W b t' vs') (ht : t ≠ t') : a ≠ b := by
  rintro rfl
  have h' : W.heap[a]? = some (.cells vs t (0, 0)) := h
  have k' : W.heap[a]? = some (.cells vs' t' (0, 0)) := k
  rw [h'] at k'
  injection k' with k'
  injection k' with _ e
  exact ht e
theorem ins_get {α : Type} (xs : List α) (k : Nat) (b : α) (hk : k ≤ xs.length) (j : Nat) : (xs.take k ++ b :: xs.drop k)[j]? = if j < k then xs[j]? else if j = k then some b else xs[j - 1]? := by
  have hl : (xs.take k).length = k := by rw [List.length_take]; omega
  by_cases h1 : j < k
  · rw [if_pos h1, List.getElem?_append_left (by omega), List.getElem?_take, if_pos h1]
  · rw [if_neg h1, List.getElem?_append_right (by omega), hl]
    by_cases h2 : j = k
    · rw [if_pos h2, h2, Nat.sub_self]; rfl
    · rw [if_neg h2, show j - k = (j - k - 1) + 1 by omega, List.getElem?_cons_succ, List.getElem?_drop]
      congr 1; omega
theorem blk_set {W : World} {p : Nat} {t : TypeId} {a v : Value} (h : Blk W p t #[a, v]) (u : Value) : Blk (W.setCell ⟨p, 1, none⟩ u) p t #[a, u] := by
  have := heap_setCell_same W p 1 #[a, v] t u h
  exact this
theorem gr_set (W : World) (p j : Nat) (u : Value) : W.grownBy (W.setCell ⟨p, j, none⟩ u) (some p) :=
  ⟨rfl, rfl, rfl, by simp, fun k _ hk => heap_setCell_other W ⟨p, j, none⟩ k u (fun e => hk (by simp [e]))⟩
theorem put_done {W w10 w11 : World} {N p : Nat} {room : Int} {V V' : Value} {qs : List Nat} {l : List If.I} {k : Nat} {y : If.I} (h : StM W N p room V qs l) (bel : Below W.heap.size W w10) (hx : Blk w10 W.heap.size 36 (If.enc y).toArray) (hk : k ≤ l.length)
    (own : w11.ownsRow N 74 1 V' (l.length + 1) ((Sk.ptc qs).take k ++ .pointer (some ⟨W.heap.size, 0, none⟩) :: (Sk.ptc qs).drop k)) (gr : w10.grownBy w11 V.ownBlock) :
    Fr W (w11.setCell ⟨p, 1, none⟩ V') p V.ownBlock ∧ ∃ V'' qs', StM (w11.setCell ⟨p, 1, none⟩ V') N p room V'' qs' (Sk.ins k y l) := by
  have h10 := h.on bel
  have D := h10.blk.kept gr (h10.blk.not_row (by decide) h10.row)
  have old : ∀ b vs, Blk w10 b 36 vs → Blk (w11.setCell ⟨p, 1, none⟩ V') b 36 vs := fun b vs hb => by
    have h1 := hb.kept gr (hb.not_row (by decide) h10.row)
    exact h1.kept (gr_set w11 p 1 V') (fun e => blk_ne h1 D (by decide) (Option.some.inj e))
  have hq : k ≤ qs.length := by rw [h.len]; exact hk
  refine ⟨⟨gr.os.trans bel.os, gr.tape.trans bel.tape, gr.output.trans bel.output, Nat.le_trans bel.size (Nat.le_trans gr.size (by simp)), fun b hb h1 h2 => ?_⟩, V', qs.take k ++ W.heap.size :: qs.drop k, ⟨h.base, blk_set D V', ?_, ?_, ?_⟩⟩
  · exact ((gr_set w11 p 1 V').block b (Nat.lt_of_lt_of_le hb (Nat.le_trans bel.size gr.size)) (fun e => h1 (Option.some.inj e))).trans ((gr.block b (Nat.lt_of_lt_of_le hb bel.size) h2).trans (bel.block b hb))
  · have e1 : Sk.ptc (qs.take k ++ W.heap.size :: qs.drop k) = (Sk.ptc qs).take k ++ .pointer (some ⟨W.heap.size, 0, none⟩) :: (Sk.ptc qs).drop k := by
      unfold Sk.ptc
      rw [List.map_append, List.map_cons, List.map_take, List.map_drop]
    have e2 : (Sk.ins k y l).length = l.length + 1 := by unfold Sk.ins; rw [List.length_append, List.length_cons, List.length_take, List.length_drop]; omega
    rw [e1, e2]
    exact own.kept (gr_set w11 p 1 V') (.inr (D.not_row (by decide) own).symm)
  · unfold Sk.ins
    rw [List.length_append, List.length_append, List.length_cons, List.length_cons, List.length_take, List.length_take, List.length_drop, List.length_drop, h.len]
  · intro j hj hj2
    have g1 : (qs.take k ++ W.heap.size :: qs.drop k)[j]? = some (qs.take k ++ W.heap.size :: qs.drop k)[j] := List.getElem?_eq_getElem hj2
    have g2 : (Sk.ins k y l)[j]? = some (Sk.ins k y l)[j] := List.getElem?_eq_getElem hj
    generalize (qs.take k ++ W.heap.size :: qs.drop k)[j] = b at *
    generalize (Sk.ins k y l)[j] = z at *
    unfold Sk.ins at g2
    rw [ins_get _ _ _ hq] at g1
    rw [ins_get _ _ _ hk] at g2
    refine old _ _ ?_
    have at' : ∀ i, qs[i]? = some b → l[i]? = some z → Blk w10 b 36 (If.enc z).toArray := fun i h1 h2 => by
      obtain ⟨a1, rfl⟩ := List.getElem?_eq_some_iff.1 h1
      obtain ⟨a2, rfl⟩ := List.getElem?_eq_some_iff.1 h2
      exact h10.at_ i a2 a1
    split at g1
    · rename_i c1
      rw [if_pos c1] at g2
      exact at' j g1 g2
    · rename_i c1
      rw [if_neg c1] at g2
      split at g1
      · rename_i c2
        rw [if_pos c2] at g2
        cases g1; cases g2
        exact hx
      · rename_i c2
        rw [if_neg c2] at g2
        exact at' (j - 1) g1 g2
/-- What Put answers. -/
def AnsP (N p : Nat) (room : Int) (V : Value) (q : Int × List If.I) (W : World) (e : Ending) (w' : World) : Prop :=
  e = .returned (.int .i64 q.1) ∧ Fr W w' p V.ownBlock ∧ ∃ V' qs', StM w' N p room V' qs' q.2
theorem str_ne38 {A B : ByteArray} (h : ¬ A = B) : (A.toList == B.toList) = false := by rw [beq_eq_false_iff_ne]; exact str_ne h
set_option maxRecDepth 100000 in
set_option maxHeartbeats 8000000 in
theorem st_put {W : World} {N p : Nat} {room : Int} {V : Value} {qs : List Nat} {l : List If.I} (h : StM W N p room V qs l) (hk : Sk.Kept l) (hn : l.length ≤ 90000) (hN : N ≤ W.heap.size) (x0 x1 x2 x3 : Int) (x4 : ByteArray) :
    Calls Try.prog 11 #[.pointer (some ⟨p, 0, none⟩), IV (x0, x1, x2, x3, x4)] W (AnsP N p room V (Sk.put room (x0, x1, x2, x3, x4) l) W) := by
  obtain ⟨A, c, rfl⟩ := h.form
  have b0 : Below W.heap.size W (W.alloc (.cells #[.int .i64 x0, .int .i64 x1, .int .i64 x2, .int .i64 x3, .string x4] 36)) := (Below.refl _ _).alloc (Nat.le_refl _) _
  have X0 := Lib.hid (Blk.new W 36 #[.int .i64 x0, .int .i64 x1, .int .i64 x2, .int .i64 x3, .string x4])
  have H := Lib.hid h
  have B0 := Lib.hid b0
  have HK := Lib.hid hk
  have HN := Lib.hid hn
  clear h hk hn b0
  obtain ⟨k, hk⟩ : ∃ k, Sk.pl x0 l = k := ⟨_, rfl⟩
  have PK := Lib.hid hk
  have PL := Lib.hid (show k ≤ l.length by rw [← hk]; exact Sk.pl_len x0 l)
  clear hk
  obtain ⟨⟨q1, q2⟩, hq⟩ : ∃ q, Sk.put room (x0, x1, x2, x3, x4) l = q := ⟨_, rfl⟩
  have PQ := Lib.hid hq
  rw [hq]
  clear hq
  go_enter Try.func11, Try.ntmps11
  go_upto_region 1 with (fail)
  generalize W.alloc (.cells #[.int .i64 x0, .int .i64 x1, .int .i64 x2, .int .i64 x3, .string x4] 36) = w1 at *
  have c0 := X0.out.c0; have c1 := X0.out.c1
  go_wp2_with fail
  refine (span_right x0 x1 _).mono ?_
  rintro e w2 ⟨rfl, b2⟩
  have B2 := Lib.hid (below_step B0.out b2); have X2 := Lib.hid (X0.out.on b2)
  clear c0 c1 b2 B0 X0
  cases hr : Sp.rb x0 x1
  · have Q := Lib.hid (show q1 = 4 ∧ q2 = l by have := PQ.out; unfold Sk.put at this; rw [hr] at this; simpa [eq_comm] using this)
    go_wp2
    go_ret
    exact ⟨by rw [Q.out.1]; rfl, Fr.of B2.out, _, _, by rw [Q.out.2]; exact H.out.on B2.out⟩
  have RB := Lib.hid hr
  clear hr
  have c0 := X2.out.c0
  go_wp2_with fail
  refine (st_place (H.out.on B2.out) HK.out (by have := HN.out; omega) x0).mono ?_
  rw [PK.out]
  rintro e w3 ⟨rfl, b3⟩
  have B3 := Lib.hid (below_step B2.out b3); have X3 := Lib.hid (X2.out.on b3)
  clear c0 b3 B2 X2
  have H3 := Lib.hid (H.out.on B3.out)
  have d0 := H3.out.blk.c0; have d1 := H3.out.blk.c1
  by_cases hlt : k < l.length
  · obtain ⟨a, q, rfl, g1, g2⟩ := H3.out.get k hlt
    have i1 : (k : Int) < l.length := by omega
    have e0 := g2.c0; have e1 := g2.c1; have e2 := g2.c2; have e3 := g2.c3; have e4 := g2.c4
    have SP := Lib.hid (show Sk.put room (x0, x1, x2, x3, x4) l = (if l[k] = (x0, x1, x2, x3, x4) then (11, l) else if Sp.mt l[k].1 l[k].2.1 x0 x1 then (21, l) else if (l.length : Int) = room then (17, l) else (0, Sk.ins k (x0, x1, x2, x3, x4) l)) by
      unfold Sk.put; rw [RB.out]; dsimp only; rw [PK.out, List.getElem?_eq_getElem hlt]; rfl)
    clear g2
    generalize l[k] = y at *
    obtain ⟨y0, y1, y2, y3, y4⟩ := y
    dsimp only at e0 e1 e2 e3 e4
    go_upto_region 8 with (fail)
    have b4 : Below w3.heap.size w3 (w3.alloc (.cells #[.int .i64 y0, .int .i64 y1, .int .i64 y2, .int .i64 y3, .string y4] 36)) := (Below.refl _ _).alloc (Nat.le_refl _) _
    have Y4 := Lib.hid (Blk.new w3 36 #[.int .i64 y0, .int .i64 y1, .int .i64 y2, .int .i64 y3, .string y4])
    have B4 := Lib.hid (below_step B3.out b4); have X4 := Lib.hid (X3.out.on b4); have H4 := Lib.hid (H3.out.on b4)
    clear e0 e1 e2 e3 e4 d0 d1 b4 B3 X3 H3 g1
    generalize w3.alloc (.cells #[.int .i64 y0, .int .i64 y1, .int .i64 y2, .int .i64 y3, .string y4] 36) = w4 at *
    generalize w3.heap.size = by_ at *
    have c0 := X4.out.c0; have c1 := X4.out.c1; have c2 := X4.out.c2; have c3 := X4.out.c3; have c4 := X4.out.c4
    have e0 := Y4.out.c0; have e1 := Y4.out.c1; have e2 := Y4.out.c2; have e3 := Y4.out.c3; have e4 := Y4.out.c4
    have d0 := H4.out.blk.c0; have d1 := H4.out.blk.c1
    by_cases he : ((y0, y1, y2, y3, y4) : If.I) = (x0, x1, x2, x3, x4)
    · have Q := Lib.hid (show q1 = 11 ∧ q2 = l by have := PQ.out; rw [SP.out, if_pos he] at this; simpa [eq_comm] using this)
      simp only [Prod.mk.injEq] at he
      obtain ⟨rfl, rfl, rfl, rfl, rfl⟩ := he
      go_wp2
      go_ret
      exact ⟨by rw [Q.out.1]; rfl, Fr.of B4.out, _, _, by rw [Q.out.2]; exact H4.out⟩
    · have NE := Lib.hid he
      clear he
      go_cut [34] from 34 to 37 (fun b wx => b = .bool false ∧ wx = w4)
      case first =>
        by_cases h0 : y0 = x0
        · subst h0
          by_cases h1 : y1 = x1
          · subst h1
            by_cases h2 : y2 = x2
            · subst h2
              by_cases h3 : y3 = x3
              · subst h3
                have n2 := str_ne38 (fun e => NE.out (by rw [e]) : ¬ y4 = x4)
                have n1 := str_ne (fun e => NE.out (by rw [e]) : ¬ y4 = x4)
                go_wp2
                go_meet
                case rel => exact ⟨rfl, rfl⟩
              · have n2 : (y3 == x3) = false := by rw [beq_eq_false_iff_ne]; exact h3
                go_wp2
                go_meet
                case rel => exact ⟨rfl, rfl⟩
            · have n2 : (y2 == x2) = false := by rw [beq_eq_false_iff_ne]; exact h2
              go_wp2
              go_meet
              case rel => exact ⟨rfl, rfl⟩
          · have n2 : (y1 == x1) = false := by rw [beq_eq_false_iff_ne]; exact h1
            go_wp2
            go_meet
            case rel => exact ⟨rfl, rfl⟩
        · have n2 : (y0 == x0) = false := by rw [beq_eq_false_iff_ne]; exact h0
          go_wp2
          go_meet
          case rel => exact ⟨rfl, rfl⟩
      case rest =>
        obtain ⟨rfl, rfl⟩ := hcut
        go_wp2_with fail
        refine (span_meet38 y0 y1 x0 x1 _).mono ?_
        rintro e w5 ⟨rfl, b5⟩
        have B5 := Lib.hid (below_step B4.out b5); have X5 := Lib.hid (X4.out.on b5); have H5 := Lib.hid (H4.out.on b5)
        clear c0 c1 c2 c3 c4 e0 e1 e2 e3 e4 d0 d1 b5 B4 X4 H4 Y4
        rcases hm : Sp.mt y0 y1 x0 x1 with _ | _
        · have d0 := H5.out.blk.c0; have d1 := H5.out.blk.c1
          have SQ := Lib.hid (show (q1, q2) = (if (l.length : Int) = room then (17, l) else (0, Sk.ins k (x0, x1, x2, x3, x4) l)) by rw [← PQ.out, SP.out, if_neg NE.out, if_neg (by rw [hm]; decide)])
          clear hm SP NE
          have ln : l.length ≤ 90000 := HN.out
          go_upto_region 12 with (fail)
          by_cases hroom : (l.length : Int) = room
          · have Q := Lib.hid (show q1 = 17 ∧ q2 = l by have := SQ.out; rw [if_pos hroom] at this; simpa using this)
            have hr2 : ((l.length : Int) == room) = true := by simpa using hroom
            go_quiet (fail)
            go_wp2
            go_ret
            exact ⟨by rw [Q.out.1]; rfl, Fr.of (below_drewN B5.out _), _, _, by rw [Q.out.2]; exact H5.out.on (below_draw _ _)⟩
          · have Q := Lib.hid (show q1 = 0 ∧ q2 = Sk.ins k (x0, x1, x2, x3, x4) l by have := SQ.out; rw [if_neg hroom] at this; simpa using this)
            have hr2 : ((l.length : Int) == room) = false := by rw [beq_eq_false_iff_ne]; exact hroom
            go_quiet (fail)
            have bd : Below w5.heap.size w5 (w5.drewN nq) := below_draw _ _
            have B6 := Lib.hid (below_step B5.out bd); have X6 := Lib.hid (X5.out.on bd); have H6 := Lib.hid (H5.out.on bd)
            clear bd B5 X5 H5 d0 d1
            generalize w5.drewN nq = w6 at *
            have d1 := H6.out.blk.c1
            go_wp2_with fail
            have b7 : Below w6.heap.size w6 (w6.alloc (.cells #[.pointer (some ⟨W.heap.size, 0, none⟩)] 74)) := (Below.refl _ _).alloc (Nat.le_refl _) _
            have H7 := Lib.hid (H6.out.on b7); have X7 := Lib.hid (X6.out.on b7); have B7 := Lib.hid (below_step B6.out b7)
            have A7 := Lib.hid (Blk.new w6 74 #[.pointer (some ⟨W.heap.size, 0, none⟩)])
            clear b7 H6 X6 B6 d1
            generalize w6.alloc (.cells #[.pointer (some ⟨W.heap.size, 0, none⟩)] 74) = w7 at *
            generalize w6.heap.size = vb at *
            refine (insert_any _ l.length k (Sk.ptc qs) _ vb N _ H7.out.row A7.out rfl (Sk.ptc_one qs) PL.out (by omega) (Nat.le_trans hN B7.out.size)).mono ?_
            rintro e w8 ⟨V', rfl, own8, gr8⟩
            obtain ⟨A8, c8, rfl⟩ := po_form own8
            have PD := Lib.hid (put_done (y := (x0, x1, x2, x3, x4)) H.out B7.out X7.out PL.out own8 gr8)
            have D8 := Lib.hid (H7.out.blk.kept gr8 (H7.out.blk.not_row (by decide) H7.out.row))
            clear own8 gr8 H7 X7 A7
            have d1 := D8.out.c1; have df := D8.out.frozen 1; have dl := D8.out.lt
            go_wp2
            go_ret
            exact ⟨by rw [Q.out.1]; rfl, PD.out.1, by rw [Q.out.2]; exact PD.out.2⟩
        · have Q := Lib.hid (show q1 = 21 ∧ q2 = l by have := PQ.out; rw [SP.out, if_neg NE.out, if_pos hm] at this; simpa [eq_comm] using this)
          clear hm SP NE
          go_wp2
          go_ret
          exact ⟨by rw [Q.out.1]; rfl, Fr.of B5.out, _, _, by rw [Q.out.2]; exact H5.out⟩
  · have i1 : ¬ (k : Int) < l.length := by omega
    have SQ := Lib.hid (show (q1, q2) = (if (l.length : Int) = room then (17, l) else (0, Sk.ins k (x0, x1, x2, x3, x4) l)) by
      rw [← PQ.out]; unfold Sk.put; rw [RB.out]; dsimp only; rw [PK.out, List.getElem?_eq_none (by omega)]; rfl)
    have ln : l.length ≤ 90000 := HN.out
    go_upto_region 12 with (fail)
    by_cases hroom : (l.length : Int) = room
    · have Q := Lib.hid (show q1 = 17 ∧ q2 = l by have := SQ.out; rw [if_pos hroom] at this; simpa using this)
      have hr2 : ((l.length : Int) == room) = true := by simpa using hroom
      go_quiet (fail)
      go_wp2
      go_ret
      exact ⟨by rw [Q.out.1]; rfl, Fr.of (below_drewN B3.out _), _, _, by rw [Q.out.2]; exact H3.out.on (below_draw _ _)⟩
    · have Q := Lib.hid (show q1 = 0 ∧ q2 = Sk.ins k (x0, x1, x2, x3, x4) l by have := SQ.out; rw [if_neg hroom] at this; simpa using this)
      have hr2 : ((l.length : Int) == room) = false := by rw [beq_eq_false_iff_ne]; exact hroom
      go_quiet (fail)
      have bd : Below w3.heap.size w3 (w3.drewN nq) := below_draw _ _
      have B6 := Lib.hid (below_step B3.out bd); have X6 := Lib.hid (X3.out.on bd); have H6 := Lib.hid (H3.out.on bd)
      clear bd B3 X3 H3 d0 d1
      generalize w3.drewN nq = w6 at *
      have d1 := H6.out.blk.c1
      go_wp2_with fail
      have b7 : Below w6.heap.size w6 (w6.alloc (.cells #[.pointer (some ⟨W.heap.size, 0, none⟩)] 74)) := (Below.refl _ _).alloc (Nat.le_refl _) _
      have H7 := Lib.hid (H6.out.on b7); have X7 := Lib.hid (X6.out.on b7); have B7 := Lib.hid (below_step B6.out b7)
      have A7 := Lib.hid (Blk.new w6 74 #[.pointer (some ⟨W.heap.size, 0, none⟩)])
      clear b7 H6 X6 B6 d1
      generalize w6.alloc (.cells #[.pointer (some ⟨W.heap.size, 0, none⟩)] 74) = w7 at *
      generalize w6.heap.size = vb at *
      refine (insert_any _ l.length k (Sk.ptc qs) _ vb N _ H7.out.row A7.out rfl (Sk.ptc_one qs) PL.out (by omega) (Nat.le_trans hN B7.out.size)).mono ?_
      rintro e w8 ⟨V', rfl, own8, gr8⟩
      obtain ⟨A8, c8, rfl⟩ := po_form own8
      have PD := Lib.hid (put_done (y := (x0, x1, x2, x3, x4)) H.out B7.out X7.out PL.out own8 gr8)
      have D8 := Lib.hid (H7.out.blk.kept gr8 (H7.out.blk.not_row (by decide) H7.out.row))
      clear own8 gr8 H7 X7 A7
      have d1 := D8.out.c1; have df := D8.out.frozen 1; have dl := D8.out.lt
      go_wp2
      go_ret
      exact ⟨by rw [Q.out.1]; rfl, PD.out.1, by rw [Q.out.2]; exact PD.out.2⟩
end Go.Proofs.Ytmnmmbeageddkaa
