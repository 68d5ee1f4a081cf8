/- The reference's stores: Put. -/
import Derived.Test.YtmnmmbeageddkaaRfB
import Derived.Test.YtmnmmbeageddkaaIfR
import Derived.Test.YtmnmmbeageddkaaApS
import Derived.Test.YtmnmmbeageddkaaMnG0
import Derived.Deep.CutRange
import Derived.Deep.CutBlock
import Derived.Test.YtmnmmbeageddkaaLate
set_option linter.unusedVariables false
set_option linter.unusedSimpArgs false
namespace Go.Proofs.Ytmnmmbeageddkaa
open Go.RowKit Go.Sort Go.Shelf

namespace Rf
def anyM (i : If.I) (l : List If.I) : Bool := l.any fun x => Sp.mt x.1 x.2.1 i.1 i.2.1
/-- What the reference's Put tells, and keeps. -/
def put (room : Int) (i : If.I) (l : List If.I) : Int × List If.I :=
  if Sp.rb i.1 i.2.1 then if If.isin i l then (11, l) else if anyM i l then (21, l) else if room ≤ l.length then (17, l) else (0, If.ins i l) else (4, l)
theorem isin_take (i : If.I) (l : List If.I) (k : Nat) (h : k < l.length) : If.isin i (l.take (k + 1)) = (If.isin i (l.take k) || decide (i = l[k])) := by
  unfold If.isin; rw [List.take_succ_eq_append_getElem h, List.any_append]; simp
theorem isin_more (i : If.I) (l : List If.I) (k : Nat) (h : k < l.length) (e : i = l[k]) : If.isin i l = true := by rw [If.isin_iff, e]; exact List.getElem_mem h
theorem anyM_take (i : If.I) (l : List If.I) (k : Nat) (h : k < l.length) : anyM i (l.take (k + 1)) = (anyM i (l.take k) || Sp.mt l[k].1 l[k].2.1 i.1 i.2.1) := by
  unfold anyM; rw [List.take_succ_eq_append_getElem h, List.any_append]; simp
theorem anyM_more (i : If.I) (l : List If.I) (k : Nat) (h : k < l.length) (e : Sp.mt l[k].1 l[k].2.1 i.1 i.2.1 = true) : anyM i l = true := List.any_eq_true.2 ⟨l[k], List.getElem_mem h, e⟩
end Rf
theorem own_cap {w : World} {base L c : Nat} {e : TypeId} {A : Option Addr} {xs : List Value} {size : Nat} (h : w.ownsRow base e size (.slice A L c) L xs) : L ≤ c := by
  rcases h.2 with ⟨e, h0⟩ | ⟨g, cap, cur, e, _, _, h1, _⟩
  · cases e; exact Nat.le_refl _
  · cases e; exact h1
theorem own_none {w : World} {base L c : Nat} {e : TypeId} {xs : List Value} {size : Nat} (h : w.ownsRow base e size (.slice none L c) L xs) : L = 0 ∧ c = 0 := by
  rcases h.2 with ⟨e, h0⟩ | ⟨g, cap, cur, e, _⟩
  · cases e; exact ⟨rfl, rfl⟩
  · cases e
theorem own_first {W : World} {N size : Nat} {e : TypeId} (hN : W.heap.size = N) : (W.alloc (.cells #[] e)).ownsRow N e size (.slice (some ⟨N, 0, none⟩) 0 0) 0 [] := by
  subst hN
  exact World.ownsRow_made W #[] 0 (Nat.le_refl _) (Nat.zero_le _) (by simp)
theorem own_second {W : World} {N size : Nat} {e : TypeId} {o : Obj} (hN : W.heap.size = N) : ((W.alloc o).alloc (.cells #[] e)).ownsRow N e size (.slice (some ⟨N + 1, 0, none⟩) 0 0) 0 [] := by
  subst hN
  have hs : (W.alloc o).heap.size = W.heap.size + 1 := by simp
  have := World.ownsRow_made (base := W.heap.size) (e := e) (size := size) (W.alloc o) #[] 0 (by omega) (Nat.zero_le _) (by simp)
  rw [hs] at this
  exact this
theorem blk_new0 {W : World} {N : Nat} {t : TypeId} (hN : W.heap.size = N) (vs : Array Value) : Blk (W.alloc (.cells vs t)) N t vs := by
  subst hN; exact Blk.new W t vs
theorem blk_new1 {W : World} {N : Nat} {t : TypeId} (hN : W.heap.size = N) (o : Obj) (vs : Array Value) : Blk ((W.alloc o).alloc (.cells vs t)) (N + 1) t vs := by
  subst hN
  have := Blk.new (W.alloc o) t vs
  rw [show (W.alloc o).heap.size = W.heap.size + 1 by simp] at this
  exact this
theorem below_gr0 {N : Nat} {w W W' : World} {row : Option Nat} (hN : w.heap.size = N) (h : Below N w W) (g : W.grownBy W' row) (hr : ∀ k, row = some k → N ≤ k) : Below N w W' :=
  h.trans (below_grown g (hN ▸ h.size) hr)
theorem lst_one {W : World} {g : Nat} {y0 y1 y2 y3 : Int} {y4 : ByteArray} (h : Blk W g 36 #[.int .i64 y0, .int .i64 y1, .int .i64 y2, .int .i64 y3, .string y4]) : Lst W (g + 1) (.slice (some ⟨g, 0, none⟩) 1 1) 1 (If.ifc [(y0, y1, y2, y3, y4)]) :=
  ⟨_, 1, rfl, fun _ => ⟨_, rfl, Nat.lt_succ_self _, five_cells h.c0 h.c1 h.c2 h.c3 h.c4⟩⟩
theorem ifc_take (l : List If.I) (j : Nat) : If.ifc (l.take j) = (If.ifc l).take (j * 5) := by
  induction l generalizing j with
  | nil => simp [If.ifc]
  | cons p r ih =>
    cases j with
    | zero => simp [If.ifc]
    | succ j => rw [List.take_succ_cons, If.ifc_cons, If.ifc_cons, ih j, show (j + 1) * 5 = j * 5 + 1 + 1 + 1 + 1 + 1 by omega]; rfl
theorem ifc_drop (l : List If.I) (j : Nat) : If.ifc (l.drop j) = (If.ifc l).drop (j * 5) := by
  induction l generalizing j with
  | nil => simp [If.ifc]
  | cons p r ih =>
    cases j with
    | zero => simp
    | succ j => rw [List.drop_succ_cons, If.ifc_cons, ih j, show (j + 1) * 5 = j * 5 + 1 + 1 + 1 + 1 + 1 by omega]; rfl
theorem lst_take {W : World} {base L c : Nat} {e : TypeId} {ao : Addr} {l : List If.I} (h : W.ownsRow base e 5 (.slice (some ao) L c) L (If.ifc l)) (j : Nat) (hj : j ≤ L) (hl : l.length = L) : Lst W W.heap.size (.slice (some ao) j c) j (If.ifc (l.take j)) := by
  obtain ⟨A', c', hv, ha⟩ := Lst.own h
  cases hv
  refine ⟨_, _, rfl, fun h0 => ?_⟩
  obtain ⟨a, e, h1, h2⟩ := ha (by omega)
  refine ⟨a, e, h1, fun i u hu => h2 i u ?_⟩
  rw [ifc_take, List.getElem?_take] at hu
  split at hu
  · exact hu
  · cases hu
theorem lst_drop {W : World} {base L c : Nat} {e : TypeId} {ao : Addr} {l : List If.I} (h : W.ownsRow base e 5 (.slice (some ao) L c) L (If.ifc l)) (j : Nat) (hj : j ≤ L) (hl : l.length = L) (hLc : L ≤ c) {pp : Addr} (hpp : (if c = j then ao else ao.add (j * 5)) = pp) : Lst W W.heap.size (.slice (some pp) (L - j) (c - j)) (L - j) (If.ifc (l.drop j)) := by
  obtain ⟨A', c', hv, ha⟩ := Lst.own h
  cases hv
  refine ⟨_, _, rfl, fun h0 => ?_⟩
  rw [if_neg (by omega)] at hpp
  subst hpp
  obtain ⟨a, e, h1, h2⟩ := ha (by omega)
  cases e
  refine ⟨_, rfl, by rw [blk_add]; exact h1, fun i u hu => ?_⟩
  rw [add_two]
  refine h2 (j * 5 + i) u ?_
  rwa [ifc_drop, List.getElem?_drop] at hu
theorem own_ins38 {W : World} {N B j L : Nat} {e : TypeId} {v : Value} {l : List If.I} {y : If.I} (hB : B ≤ N) (hl : l.length = L) (hj : j ≤ L) (J : If.ins y l = l.take j ++ y :: l.drop j)
    (h : W.ownsRow N e 5 v (j + 1 + (L - j)) (If.ifc (l.take j) ++ If.ifc [y] ++ If.ifc (l.drop j))) : W.ownsRow B e 5 v (If.ins y l).length (If.ifc (If.ins y l)) := by
  rw [If.ins_len, hl, J, If.ifc_app, show y :: l.drop j = [y] ++ l.drop j from rfl, If.ifc_app, ← List.append_assoc, show L + 1 = j + 1 + (L - j) by omega]
  exact own_weak38 hB h
set_option maxRecDepth 100000 in
set_option maxHeartbeats 16000000 in
theorem rf_put {W : World} {N m : Nat} {room : Int} {V : Value} {l : List If.I} (h : RfM W N m room V l) (hn : l.length ≤ 90000) (hN : N ≤ W.heap.size) (x0 x1 x2 x3 : Int) (x4 : ByteArray) :
    Calls Try.prog 12 #[.pointer (some ⟨m, 0, none⟩), IV (x0, x1, x2, x3, x4)] W (AnsRf N m room (Rf.put room (x0, x1, x2, x3, x4) l) W) := by
  obtain ⟨i0, hi, hz0, hz1, hz2⟩ := info_parts info_inf
  obtain ⟨A, c, rfl⟩ := h.form
  have b0 : Below W.heap.size W (W.alloc (.cells #[.int .i64 x0, .int .i64 x1, .int .i64 x2, .int .i64 x3, .string x4] 36)) := (Below.refl _ _).alloc (Nat.le_refl _) _
  have X0 := Lib.hid (Blk.new W 36 #[.int .i64 x0, .int .i64 x1, .int .i64 x2, .int .i64 x3, .string x4])
  have H0 := Lib.hid h
  have HI := Lib.hid h.inv
  have HNN := Lib.hid hN
  have B0 := Lib.hid b0
  obtain ⟨⟨q1, q2⟩, hq⟩ : ∃ q, Rf.put room (x0, x1, x2, x3, x4) l = q := ⟨_, rfl⟩
  rw [hq]
  have PQ := Lib.hid hq
  obtain ⟨n, hnn⟩ : ∃ n, l.length = n := ⟨_, rfl⟩
  rw [hnn] at HI hn
  have HE := Lib.hid hnn
  clear h hq hN b0 hnn
  go_enter Try.func12, Try.ntmps12
  go_upto_region 1 with (fail)
  generalize W.alloc (.cells #[.int .i64 x0, .int .i64 x1, .int .i64 x2, .int .i64 x3, .string x4] 36) = w1 at *
  have c0 := X0.out.c0; have c1 := X0.out.c1
  go_wp2_with fail
  refine (noontideref10_right x0 x1 _).mono ?_
  rintro e w2 ⟨rfl, b2⟩
  have B2 := Lib.hid (below_step B0.out b2); have X2 := Lib.hid (X0.out.on b2)
  clear c0 c1 b2 B0 X0
  cases hr : Sp.rb x0 x1
  · have Q := Lib.hid (show q1 = 4 ∧ q2 = l by have := PQ.out; unfold Rf.put at this; rw [hr] at this; simpa [eq_comm] using this)
    go_wp2
    go_ret
    exact ⟨by rw [Q.out.1]; rfl, Fr.of B2.out, _, by rw [Q.out.2]; exact H0.out.on B2.out⟩
  have RB := Lib.hid hr
  clear hr
  have d1 := (H0.out.on B2.out).blk.c1
  rw [HE.out] at d1
  go_upto_block 0 with fail
  clear d1
  go_cut [19] from 19 to 26 (fun i wx => Below w2.heap.size w2 wx ∧ If.isin (x0, x1, x2, x3, x4) l = false)
  case first =>
    go_wp2_with fail
    go_loopw [19] (fun i wr => ∃ (k : Nat), k ≤ n ∧ i = .int .i64 k ∧ Hid (If.isin (x0, x1, x2, x3, x4) (l.take k) = false) ∧ Hid (Below w2.heap.size w2 wr)) (fun i _ => n - (intOf i).toNat)
    case atStart => exact ⟨0, Nat.zero_le _, rfl, Lib.hid rfl, Lib.hid (Below.refl _ _)⟩
    case round =>
      rename World => w3
      obtain ⟨k, hk, rfl, F, D⟩ := hrel
      have B3 := Lib.hid (below_step B2.out D.out); have X3 := Lib.hid (X2.out.on D.out)
      by_cases hlt : k < n
      · have hkl : k < l.length := by rw [HE.out]; exact hlt
        obtain ⟨a, rfl, hab, g1, g2, g3, g4, g5⟩ := (HI.out.on B3.out).get k hkl
        have TK := Lib.hid (Rf.isin_take (x0, x1, x2, x3, x4) l k hkl)
        have TM := Lib.hid (Rf.isin_more (x0, x1, x2, x3, x4) l k hkl)
        generalize l[k] = y at *
        obtain ⟨y0, y1, y2, y3, y4⟩ := y
        dsimp only at g1 g2 g3 g4 g5
        have i1 : (k : Int) < n := by omega
        have kn : k ≤ 90000 := by omega
        go_upto_region 6 with (fail)
        have Y4 := Lib.hid (Blk.new w3 36 #[.int .i64 y0, .int .i64 y1, .int .i64 y2, .int .i64 y3, .string y4])
        have bq : Below w3.heap.size w3 (w3.alloc (.cells #[.int .i64 y0, .int .i64 y1, .int .i64 y2, .int .i64 y3, .string y4] 36)) := (Below.refl _ _).alloc (Nat.le_refl _) _
        have D4 := Lib.hid (below_step D.out bq); have X4 := Lib.hid (X3.out.on bq)
        clear bq D X3 B3 g1 g2 g3 g4 g5 hab
        generalize w3.alloc (.cells #[.int .i64 y0, .int .i64 y1, .int .i64 y2, .int .i64 y3, .string y4] 36) = w4 at *
        generalize w3.heap.size = gy at *
        have c0 := X4.out.c0; have c1 := X4.out.c1; have c2 := X4.out.c2; have c3 := X4.out.c3; have c4 := X4.out.c4
        have e0 := Y4.out.c0; have e1 := Y4.out.c1; have e2 := Y4.out.c2; have e3 := Y4.out.c3; have e4 := Y4.out.c4
        by_cases he : ((y0, y1, y2, y3, y4) : If.I) = (x0, x1, x2, x3, x4)
        · have Q := Lib.hid (show q1 = 11 ∧ q2 = l by have := PQ.out; unfold Rf.put at this; rw [RB.out, TM.out he.symm] at this; simpa [eq_comm] using this)
          have BB := Lib.hid (below_step B2.out D4.out)
          simp only [Prod.mk.injEq] at he
          obtain ⟨rfl, rfl, rfl, rfl, rfl⟩ := he
          go_wp2
          go_ret
          exact ⟨by rw [Q.out.1]; rfl, Fr.of BB.out, _, by rw [Q.out.2]; exact H0.out.on BB.out⟩
        · have NE := Lib.hid he
          have T2 := Lib.hid (show If.isin (x0, x1, x2, x3, x4) (l.take (k + 1)) = false by rw [TK.out, F.out, Bool.false_or]; exact decide_eq_false (fun e => NE.out e.symm))
          clear he TK TM F
          by_cases h0 : y0 = x0
          · subst h0
            by_cases h1 : y1 = x1
            · subst h1
              by_cases h2 : y2 = x2
              · subst h2
                by_cases h3 : y3 = x3
                · subst h3
                  have n2 := str_ne38 (fun e => NE.out (by rw [e]) : ¬ y4 = x4)
                  have n1 := str_ne (fun e => NE.out (by rw [e]) : ¬ y4 = x4)
                  go_wp2
                  go_roundw
                  case rel => exact ⟨k + 1, by omega, by go_num, T2, D4⟩
                  case measure => simp [intOf]; omega
                · have n2 : (y3 == x3) = false := by rw [beq_eq_false_iff_ne]; exact h3
                  go_wp2
                  go_roundw
                  case rel => exact ⟨k + 1, by omega, by go_num, T2, D4⟩
                  case measure => simp [intOf]; omega
              · have n2 : (y2 == x2) = false := by rw [beq_eq_false_iff_ne]; exact h2
                go_wp2
                go_roundw
                case rel => exact ⟨k + 1, by omega, by go_num, T2, D4⟩
                case measure => simp [intOf]; omega
            · have n2 : (y1 == x1) = false := by rw [beq_eq_false_iff_ne]; exact h1
              go_wp2
              go_roundw
              case rel => exact ⟨k + 1, by omega, by go_num, T2, D4⟩
              case measure => simp [intOf]; omega
          · have n2 : (y0 == x0) = false := by rw [beq_eq_false_iff_ne]; exact h0
            go_wp2
            go_roundw
            case rel => exact ⟨k + 1, by omega, by go_num, T2, D4⟩
            case measure => simp [intOf]; omega
      · have e : l.take k = l := List.take_of_length_le (by rw [HE.out]; omega)
        have F2 := F.out
        rw [e] at F2
        have F3 := Lib.hid F2
        clear F F2
        have i1 : ¬ (k : Int) < n := by omega
        go_wp2
        go_meet
        case rel => exact ⟨D.out, F3.out⟩
  case rest =>
    obtain ⟨D, NI0⟩ := hcut
    have B3 := Lib.hid (below_step B2.out D); have X3 := Lib.hid (X2.out.on D); have NI := Lib.hid NI0
    clear D NI0 B2 X2
    have d1 := (H0.out.on B3.out).blk.c1
    rw [HE.out] at d1
    go_upto_block 2 with fail
    clear d1
    go_cut [32] from 32 to 41 (fun i wx => Below wc.heap.size wc wx ∧ Rf.anyM (x0, x1, x2, x3, x4) l = false)
    case first =>
      go_wp2_with fail
      go_loopw [32] (fun i wr => ∃ (k : Nat), k ≤ n ∧ i = .int .i64 k ∧ Hid (Rf.anyM (x0, x1, x2, x3, x4) (l.take k) = false) ∧ Hid (Below wc.heap.size wc wr)) (fun i _ => n - (intOf i).toNat)
      case atStart => exact ⟨0, Nat.zero_le _, rfl, Lib.hid rfl, Lib.hid (Below.refl _ _)⟩
      case round =>
        rename World => w3
        obtain ⟨k, hk, rfl, F, D⟩ := hrel
        have B4 := Lib.hid (below_step B3.out D.out); have X4 := Lib.hid (X3.out.on D.out)
        by_cases hlt : k < n
        · have hkl : k < l.length := by rw [HE.out]; exact hlt
          obtain ⟨a, rfl, hab, g1, g2, g3, g4, g5⟩ := (HI.out.on B4.out).get k hkl
          have TK := Lib.hid (Rf.anyM_take (x0, x1, x2, x3, x4) l k hkl)
          have TM := Lib.hid (Rf.anyM_more (x0, x1, x2, x3, x4) l k hkl)
          generalize l[k] = y at *
          obtain ⟨y0, y1, y2, y3, y4⟩ := y
          dsimp only at g1 g2 g3 g4 g5
          have i1 : (k : Int) < n := by omega
          have kn : k ≤ 90000 := by omega
          go_upto_region 12 with (fail)
          have Y5 := Lib.hid (Blk.new w3 36 #[.int .i64 y0, .int .i64 y1, .int .i64 y2, .int .i64 y3, .string y4])
          have bq : Below w3.heap.size w3 (w3.alloc (.cells #[.int .i64 y0, .int .i64 y1, .int .i64 y2, .int .i64 y3, .string y4] 36)) := (Below.refl _ _).alloc (Nat.le_refl _) _
          have D5 := Lib.hid (below_step D.out bq); have X5 := Lib.hid (X4.out.on bq)
          clear bq D X4 B4 g1 g2 g3 g4 g5 hab
          generalize w3.alloc (.cells #[.int .i64 y0, .int .i64 y1, .int .i64 y2, .int .i64 y3, .string y4] 36) = w4 at *
          generalize w3.heap.size = gy at *
          have c0 := X5.out.c0; have c1 := X5.out.c1
          have e0 := Y5.out.c0; have e1 := Y5.out.c1
          go_wp2_with fail
          refine (noontideref10_meet y0 y1 x0 x1 _).mono ?_
          rintro e w5 ⟨rfl, b5⟩
          have D6 := Lib.hid (below_step D5.out b5)
          clear b5 D5 c0 c1 e0 e1 Y5 X5
          cases hm : Sp.mt y0 y1 x0 x1
          · have T2 := Lib.hid (show Rf.anyM (x0, x1, x2, x3, x4) (l.take (k + 1)) = false by rw [TK.out, F.out, Bool.false_or]; exact hm)
            clear hm TK TM F
            go_wp2
            go_roundw
            case rel => exact ⟨k + 1, by omega, by go_num, T2, D6⟩
            case measure => simp [intOf]; omega
          · have Q := Lib.hid (show q1 = 21 ∧ q2 = l by have := PQ.out; unfold Rf.put at this; rw [RB.out, NI.out, TM.out hm] at this; simpa [eq_comm] using this)
            have BB := Lib.hid (below_step B3.out D6.out)
            clear hm TK TM F
            go_wp2
            go_ret
            exact ⟨by rw [Q.out.1]; rfl, Fr.of BB.out, _, by rw [Q.out.2]; exact H0.out.on BB.out⟩
        · have e : l.take k = l := List.take_of_length_le (by rw [HE.out]; omega)
          have F2 := F.out
          rw [e] at F2
          have F3 := Lib.hid F2
          clear F F2
          have i1 : ¬ (k : Int) < n := by omega
          go_wp2
          go_meet
          case rel => exact ⟨D.out, F3.out⟩
    case rest =>
      obtain ⟨D, NM0⟩ := hcut
      have B4 := Lib.hid (below_step B3.out D); have X4 := Lib.hid (X3.out.on D); have NM := Lib.hid NM0
      clear D NM0 B3 X3
      have d0 := (H0.out.on B4.out).blk.c0
      have d1 := (H0.out.on B4.out).blk.c1
      rw [HE.out] at d1
      go_upto_region 15 with (fail)
      rename World => w5
      by_cases hroom : room ≤ n
      · have Q := Lib.hid (show q1 = 17 ∧ q2 = l by have := PQ.out; unfold Rf.put at this; rw [RB.out, NI.out, NM.out, HE.out] at this; simp only [if_true, Bool.false_eq_true, if_false, if_pos hroom] at this; simpa [eq_comm] using this)
        have hr3 : decide (room ≤ n) = true := decide_eq_true hroom
        go_quiet (fail)
        go_wp2
        go_ret
        exact ⟨by rw [Q.out.1]; rfl, Fr.of (below_drewN B4.out _), _, by rw [Q.out.2]; exact H0.out.on (below_drewN B4.out _)⟩
      · have Q := Lib.hid (show q1 = 0 ∧ q2 = If.ins (x0, x1, x2, x3, x4) l by have := PQ.out; unfold Rf.put at this; rw [RB.out, NI.out, NM.out, HE.out] at this; simp only [if_true, Bool.false_eq_true, if_false, if_neg hroom] at this; simpa [eq_comm] using this)
        have hr3 : decide (room ≤ n) = false := decide_eq_false hroom
        go_quiet (fail)
        have bq : Below w5.heap.size w5 (w5.drewN nq) := below_draw _ _
        have B6 := Lib.hid (below_step B4.out bq); have X6 := Lib.hid (X4.out.on bq)
        clear bq B4 X4 d0 d1
        generalize w5.drewN nq = w6 at *
        go_upto_block 4 with fail
        go_cut [9] from 52 to 75 (fun i wx => ∃ (j q : Nat), i = .int .i64 j ∧ j ≤ n ∧ Hid (If.ins (x0, x1, x2, x3, x4) l = l.take j ++ (x0, x1, x2, x3, x4) :: l.drop j) ∧ Hid (wx = w6.drewN q))
        case first =>
          go_wp2_with fail
          go_loopw [9] (fun i wr => ∃ (j q : Nat), j ≤ n ∧ i = .int .i64 j ∧ Hid (∀ i, (h : i < l.length) → i < j → l[i].1 < x0) ∧ Hid (wr = w6.drewN q)) (fun i _ => n - (intOf i).toNat)
          case atStart => exact ⟨0, 0, Nat.zero_le _, rfl, Lib.hid (fun i _ h => absurd h (by omega)), Lib.hid rfl⟩
          case round =>
            rename World => w8
            obtain ⟨j, q, hj, rfl, J, E8⟩ := hrel
            have bd : Below w6.heap.size w6 w8 := by rw [E8.out]; exact below_draw _ _
            have X8 := Lib.hid (X6.out.on bd); have B8 := Lib.hid (below_step B6.out bd)
            clear bd
            have c0 := X8.out.c0
            have d1 := (H0.out.on B8.out).blk.c1
            rw [HE.out] at d1
            by_cases hlt2 : j < n
            · have hjl : j < l.length := by rw [HE.out]; exact hlt2
              obtain ⟨ao, rfl, hao, o1, -, -, -, -⟩ := (HI.out.on B8.out).get j hjl
              have i2 : (j : Int) < n := by omega
              have i3 : decide (j < n) = true := decide_eq_true (by omega)
              by_cases hlt3 : l[j].1 < x0
              · have J2 := Lib.hid (show ∀ i, (h : i < l.length) → i < j + 1 → l[i].1 < x0 from fun i h hi => by
                  by_cases e : i = j
                  · subst e; exact hlt3
                  · exact J.out i h (by omega))
                generalize l[j].1 = f0 at *
                have i4 : decide (f0 < x0) = true := decide_eq_true hlt3
                go_wp2
                go_quiet (fail)
                go_wp2
                go_roundw
                case rel => exact ⟨j + 1, q + nq, by omega, by go_num, J2, Lib.hid (by rw [E8.out, World.drewN_drewN])⟩
                case measure => simp [intOf]; omega
              · have J2 := Lib.hid (show If.ins (x0, x1, x2, x3, x4) l = l.take j ++ (x0, x1, x2, x3, x4) :: l.drop j from If.ins_at _ l j (by omega) (fun i h hi => J.out i h hi) (fun h => hlt3))
                generalize l[j].1 = f0 at *
                have i4 : decide (f0 < x0) = false := decide_eq_false hlt3
                go_wp2
                go_quiet (fail)
                go_wp2
                go_meet
                case rel => exact ⟨j, q + nq, rfl, hj, J2, Lib.hid (by rw [E8.out, World.drewN_drewN])⟩
            · have ej : j = n := by omega
              subst ej
              have J2 := Lib.hid (show If.ins (x0, x1, x2, x3, x4) l = l.take j ++ (x0, x1, x2, x3, x4) :: l.drop j from If.ins_at _ l j (by rw [HE.out]; exact Nat.le_refl _) (fun i h hi => J.out i h hi) (fun h => by rw [HE.out] at h; omega))
              go_wp2
              go_quiet (fail)
              go_wp2
              go_meet
              case rel => exact ⟨j, q + nq, rfl, hj, J2, Lib.hid (by rw [E8.out, World.drewN_drewN])⟩
        case rest =>
          obtain ⟨j, q, rfl, hj, J, E8⟩ := hcut
          rename World => wc
          have bd : Below w6.heap.size w6 wc := by rw [E8.out]; exact below_draw _ _
          have PC := Lib.hid (X6.out.on bd); have B8 := Lib.hid (below_step B6.out bd)
          clear bd E8 B6 X6
          obtain ⟨N9, hNs⟩ : ∃ N, wc.heap.size = N := ⟨_, rfl⟩
          have MC := Lib.hid (show Blk wc m 48 #[.int .i64 room, .slice A n c] by have := (H0.out.on B8.out).blk; rw [HE.out] at this; exact this)
          have O8 := Lib.hid (show wc.ownsRow N 36 5 (.slice A n c) n (If.ifc l) by have := (H0.out.on B8.out).row; rw [HE.out] at this; exact this)
          have mq := MC.out.c1
          have c0 := PC.out.c0; have c1 := PC.out.c1; have c2 := PC.out.c2; have c3 := PC.out.c3; have c4 := PC.out.c4
          clear c0 c1 c2 c3 c4 mq
          have HT := Lib.hid (show (If.ifc (l.take j)).length = j * 5 ∧ (If.ifc (l.drop j)).length = (n - j) * 5 by rw [If.ifc_len, If.ifc_len, List.length_take, List.length_drop, HE.out]; exact ⟨by congr 1; omega, rfl⟩)
          have hc5 := own_cap O8.out
          rcases A with _ | ao
          · have e0 := own_none O8.out
            obtain ⟨rfl, rfl⟩ := e0
            have e1 : j = 0 := by omega
            subst e1
            have hl0 : l = [] := List.eq_nil_of_length_eq_zero HE.out
            have IT := Lib.hid (show Lst wc N9 (.slice none 0 0) 0 (If.ifc (l.take 0)) by rw [hl0]; exact Lst.nil _ _)
            have ID := Lib.hid (show Lst wc N9 (.slice none 0 0) 0 (If.ifc (l.drop 0)) by rw [hl0]; exact Lst.nil _ _)
            clear hl0
            go_wp2_with fail
            have SK : ∀ w', Below N9 wc w' → (fun w' => w'.cell? ⟨m, 1, none⟩ = some (.slice none 0 0) ∧ w'.cell? ⟨W.heap.size, 0, none⟩ = some (.int .i64 x0) ∧ w'.cell? ⟨W.heap.size, 1, none⟩ = some (.int .i64 x1) ∧ w'.cell? ⟨W.heap.size, 2, none⟩ = some (.int .i64 x2) ∧ w'.cell? ⟨W.heap.size, 3, none⟩ = some (.int .i64 x3) ∧ w'.cell? ⟨W.heap.size, 4, none⟩ = some (.string x4)) w' := fun w' b => ⟨(MC.out.on (hNs ▸ b)).c1, (PC.out.on (hNs ▸ b)).c0, (PC.out.on (hNs ▸ b)).c1, (PC.out.on (hNs ▸ b)).c2, (PC.out.on (hNs ▸ b)).c3, (PC.out.on (hNs ▸ b)).c4⟩
            have hHeld := SK wc.drew (Below.drew (Below.refl _ _))
            refine wp_region_late (fun w' => w'.cell? ⟨m, 1, none⟩ = some (.slice none 0 0) ∧ w'.cell? ⟨W.heap.size, 0, none⟩ = some (.int .i64 x0) ∧ w'.cell? ⟨W.heap.size, 1, none⟩ = some (.int .i64 x1) ∧ w'.cell? ⟨W.heap.size, 2, none⟩ = some (.int .i64 x2) ∧ w'.cell? ⟨W.heap.size, 3, none⟩ = some (.int .i64 x3) ∧ w'.cell? ⟨W.heap.size, 4, none⟩ = some (.string x4)) 21 (by kernel_rfl) ?_
            refine anyL_take (i := 0) (v := ?_) [0, 19, 20, 21] rfl (by kernel_rfl) (by kernel_rfl) (by kernel_rfl) (by kernel_rfl) (fun _ _ _ h => h) hHeld (Or.inl ⟨by rfl, ?_⟩) ?_
            rotate_left
            · (intro w hSw; (try dsimp only at hSw); go_simp <;> with_reducible rfl)
            try simp only [Act.put, List.setIfInBounds_toArray, List.set_cons_zero, List.set_cons_succ]
            refine anyL_take (i := 2) (v := ?_) [2, 3, 4, 5, 7, 8, 11, 18, 21] rfl (by kernel_rfl) (by kernel_rfl) (by kernel_rfl) (by kernel_rfl) (fun _ _ _ h => h) hHeld (Or.inl ⟨by rfl, ?_⟩) ?_
            rotate_left
            · (intro w hSw; (try dsimp only at hSw); go_simp <;> with_reducible rfl)
            try simp only [Act.put, List.setIfInBounds_toArray, List.set_cons_zero, List.set_cons_succ]
            refine anyL_take (i := 3) (v := ?_) [3, 4, 5, 7, 8, 11, 18, 21] rfl (by kernel_rfl) (by kernel_rfl) (by kernel_rfl) (by kernel_rfl) (fun _ _ _ h => h) hHeld (Or.inl ⟨by rfl, ?_⟩) ?_
            rotate_left
            · (intro w hSw; (try dsimp only at hSw); go_simp <;> with_reducible rfl)
            try simp only [Act.put, List.setIfInBounds_toArray, List.set_cons_zero, List.set_cons_succ]
            refine anyL_take (i := 4) (v := ?_) [4, 5, 7, 8, 11, 18, 21] rfl (by kernel_rfl) (by kernel_rfl) (by kernel_rfl) (by kernel_rfl) (fun _ _ _ h => h) hHeld (Or.inl ⟨by rfl, ?_⟩) ?_
            rotate_left
            · (intro w hSw; (try dsimp only at hSw); go_simp <;> with_reducible rfl)
            try simp only [Act.put, List.setIfInBounds_toArray, List.set_cons_zero, List.set_cons_succ]
            refine anyL_take (i := 5) (v := ?_) [5, 7, 8, 11, 18, 21] rfl (by kernel_rfl) (by kernel_rfl) (by kernel_rfl) (by kernel_rfl) (fun _ _ _ h => h) hHeld (Or.inl ⟨by rfl, ?_⟩) ?_
            rotate_left
            · (intro w hSw; (try dsimp only at hSw); go_simp <;> with_reducible rfl)
            try simp only [Act.put, List.setIfInBounds_toArray, List.set_cons_zero, List.set_cons_succ]
            refine anyL_take (i := 6) (v := ?_) [6, 7, 8, 11, 18, 21] rfl (by kernel_rfl) (by kernel_rfl) (by kernel_rfl) (by kernel_rfl) (fun _ _ _ h => h) hHeld (Or.inl ⟨by rfl, ?_⟩) ?_
            rotate_left
            · (intro w hSw; (try dsimp only at hSw); go_simp <;> with_reducible rfl)
            try simp only [Act.put, List.setIfInBounds_toArray, List.set_cons_zero, List.set_cons_succ]
            refine anyL_take (i := 7) (v := ?_) [7, 8, 11, 18, 21] rfl (by kernel_rfl) (by kernel_rfl) (by kernel_rfl) (by kernel_rfl) (fun _ _ _ h => h) hHeld (Or.inl ⟨by rfl, ?_⟩) ?_
            rotate_left
            · (intro w hSw; (try dsimp only at hSw); go_simp <;> with_reducible rfl)
            try simp only [Act.put, List.setIfInBounds_toArray, List.set_cons_zero, List.set_cons_succ]
            refine anyL_take (i := 9) (v := ?_) [9, 10, 11, 18, 21] rfl (by kernel_rfl) (by kernel_rfl) (by kernel_rfl) (by kernel_rfl) (fun _ _ _ h => h) hHeld (Or.inl ⟨by rfl, ?_⟩) ?_
            rotate_left
            · (intro w hSw; (try dsimp only at hSw); go_simp <;> with_reducible rfl)
            try simp only [Act.put, List.setIfInBounds_toArray, List.set_cons_zero, List.set_cons_succ]
            refine anyL_take (i := 12) (v := ?_) [12, 13, 14, 15, 17, 18, 21] rfl (by kernel_rfl) (by kernel_rfl) (by kernel_rfl) (by kernel_rfl) (fun _ _ _ h => h) hHeld (Or.inl ⟨by rfl, ?_⟩) ?_
            rotate_left
            · (intro w hSw; (try dsimp only at hSw); go_simp <;> with_reducible rfl)
            try simp only [Act.put, List.setIfInBounds_toArray, List.set_cons_zero, List.set_cons_succ]
            refine anyL_take (i := 13) (v := ?_) [13, 14, 15, 17, 18, 21] rfl (by kernel_rfl) (by kernel_rfl) (by kernel_rfl) (by kernel_rfl) (fun _ _ _ h => h) hHeld (Or.inl ⟨by rfl, ?_⟩) ?_
            rotate_left
            · (intro w hSw; (try dsimp only at hSw); go_simp <;> with_reducible rfl)
            try simp only [Act.put, List.setIfInBounds_toArray, List.set_cons_zero, List.set_cons_succ]
            refine anyL_take (i := 14) (v := ?_) [14, 15, 17, 18, 21] rfl (by kernel_rfl) (by kernel_rfl) (by kernel_rfl) (by kernel_rfl) (fun _ _ _ h => h) hHeld (Or.inl ⟨by rfl, ?_⟩) ?_
            rotate_left
            · (intro w hSw; (try dsimp only at hSw); go_simp <;> with_reducible rfl)
            try simp only [Act.put, List.setIfInBounds_toArray, List.set_cons_zero, List.set_cons_succ]
            refine anyL_take (i := 15) (v := ?_) [15, 17, 18, 21] rfl (by kernel_rfl) (by kernel_rfl) (by kernel_rfl) (by kernel_rfl) (fun _ _ _ h => h) hHeld (Or.inl ⟨by rfl, ?_⟩) ?_
            rotate_left
            · (intro w hSw; (try dsimp only at hSw); go_simp <;> with_reducible rfl)
            try simp only [Act.put, List.setIfInBounds_toArray, List.set_cons_zero, List.set_cons_succ]
            refine anyL_take (i := 16) (v := ?_) [16, 17, 18, 21] rfl (by kernel_rfl) (by kernel_rfl) (by kernel_rfl) (by kernel_rfl) (fun _ _ _ h => h) hHeld (Or.inl ⟨by rfl, ?_⟩) ?_
            rotate_left
            · (intro w hSw; (try dsimp only at hSw); go_simp <;> with_reducible rfl)
            try simp only [Act.put, List.setIfInBounds_toArray, List.set_cons_zero, List.set_cons_succ]
            refine anyL_take (i := 17) (v := ?_) [17, 18, 21] rfl (by kernel_rfl) (by kernel_rfl) (by kernel_rfl) (by kernel_rfl) (fun _ _ _ h => h) hHeld (Or.inl ⟨by rfl, ?_⟩) ?_
            rotate_left
            · (intro w hSw; (try dsimp only at hSw); go_simp <;> with_reducible rfl)
            try simp only [Act.put, List.setIfInBounds_toArray, List.set_cons_zero, List.set_cons_succ]
            clear hHeld
            refine anyL_two (i := 1) (j := 10) (by kernel_rfl) ?pa ?pb
            case pa =>
              refine anyL_step rfl (fun K hK => ?_)
              go_simp
              refine hK.out _ _ (fun _ => SK _ (by repeat (first | exact Below.refl _ _ | exact D3.out | exact D2.out | exact D1.out | refine Below.drew ?_ | refine Below.alloc ?_ (by first | omega | (simp; done) | (simp; omega) | (have := D1.out.size; first | omega | (simp; omega))) _))) ?_
              clear hK K
              try simp only [Act.put, List.setIfInBounds_toArray, List.set_cons_zero, List.set_cons_succ]
              refine anyL_two (i := 8) (j := 10) (by kernel_rfl) ?qa ?qb
              case qa =>
                refine anyL_step rfl (fun K hK => ?_)
                refine step_append_lst rfl (.tmp 77) (.tmp 83) 46 rfl N9 36 i0 (.agg #[.int .i64 0, .int .i64 0, .int .i64 0, .int .i64 0, .string ⟨#[]⟩]) 5 48 Try.underlying46 hi hz0 hz1 hz2 rfl (by decide) (.slice (some ⟨N9, 0, none⟩) 0 0) 0 [] ?_ ?_ N9 0 (.slice none 0 0) (If.ifc (l.take 0)) ?_ ?_ ?_ ?_ ?_ ?_ ?_ ?_
                · simp [Act.eval, Act.put]; done
                · exact own_first hNs
                · simp [Act.eval, Act.put]; done
                · exact IT.out.below (by repeat (first | exact Below.refl _ _ | exact D3.out | exact D2.out | exact D1.out | refine Below.drew ?_ | refine Below.alloc ?_ (by first | omega | (simp; done) | (simp; omega) | (have := D1.out.size; first | omega | (simp; omega))) _))
                · exact HT.out.1
                · exact If.ifc_one _
                · unfold maxLen; omega
                · omega
                · first | omega | (simp <;> omega)
                intro v1 W1 own grow
                have D1 := Lib.hid (show Below N9 wc W1 from below_gr0 hNs (by repeat (first | exact Below.refl _ _ | exact D3.out | exact D2.out | exact D1.out | refine Below.drew ?_ | refine Below.alloc ?_ (by first | omega | (simp; done) | (simp; omega) | (have := D1.out.size; first | omega | (simp; omega))) _)) grow (by intro g hg; have e : N9 = g := Option.some.inj hg; omega))
                have O1 := Lib.hid (show W1.ownsRow N9 36 5 v1 0 (If.ifc (l.take 0)) by simpa using own)
                have x0c := (PC.out.on (hNs ▸ D1.out)).c0; have x1c := (PC.out.on (hNs ▸ D1.out)).c1; have x2c := (PC.out.on (hNs ▸ D1.out)).c2; have x3c := (PC.out.on (hNs ▸ D1.out)).c3; have x4c := (PC.out.on (hNs ▸ D1.out)).c4
                clear own grow
                refine hK.out _ _ (fun _ => SK _ D1.out) ?_
                clear hK K
                try simp only [Act.put, List.setIfInBounds_toArray, List.set_cons_zero, List.set_cons_succ]
                refine anyL_one (i := 10) (by kernel_rfl) ?_
                refine anyL_step rfl (fun K hK => ?_)
                go_simp
                refine hK.out _ _ (fun _ => SK _ (by repeat (first | exact Below.refl _ _ | exact D3.out | exact D2.out | exact D1.out | refine Below.drew ?_ | refine Below.alloc ?_ (by first | omega | (simp; done) | (simp; omega) | (have := D1.out.size; first | omega | (simp; omega))) _))) ?_
                clear hK K
                try simp only [Act.put, List.setIfInBounds_toArray, List.set_cons_zero, List.set_cons_succ]
                refine anyL_one (i := 11) (by kernel_rfl) ?_
                refine anyL_step rfl (fun K hK => ?_)
                refine step_append_lst rfl (.tmp 84) (.tmp 86) 46 rfl N9 36 i0 (.agg #[.int .i64 0, .int .i64 0, .int .i64 0, .int .i64 0, .string ⟨#[]⟩]) 5 48 Try.underlying46 hi hz0 hz1 hz2 rfl (by decide) v1 0 (If.ifc (l.take 0)) ?_ ?_ (W1.heap.size + 1) 1 (.slice (some ⟨W1.heap.size, 0, none⟩) 1 1) (If.ifc [(x0, x1, x2, x3, x4)]) ?_ ?_ ?_ ?_ ?_ ?_ ?_ ?_
                · simp [Act.eval, Act.put]; done
                · exact O1.out.alloc _
                · simp [Act.eval, Act.put]; done
                · exact lst_one (Blk.new W1 36 #[.int .i64 x0, .int .i64 x1, .int .i64 x2, .int .i64 x3, .string x4])
                · rfl
                · exact If.ifc_one _
                · unfold maxLen; omega
                · omega
                · have := D1.out.size; first | omega | (simp <;> omega)
                intro v2 W2 own grow
                have D2 := Lib.hid (show Below N9 wc W2 from below_gr0 hNs (by first | exact D1.out | exact D1.out.alloc (hNs ▸ D1.out.size) _) grow (own_row O1.out))
                have O2 := Lib.hid (show W2.ownsRow N9 36 5 v2 (0 + 1) ((If.ifc (l.take 0)) ++ If.ifc [(x0, x1, x2, x3, x4)]) from own)
                clear own grow
                refine hK.out _ _ (fun _ => SK _ D2.out) ?_
                clear hK K
                try simp only [Act.put, List.setIfInBounds_toArray, List.set_cons_zero, List.set_cons_succ]
                refine anyL_one (i := 18) (by kernel_rfl) ?_
                refine anyL_step rfl (fun K hK => ?_)
                refine step_append_lst rfl (.tmp 87) (.tmp 93) 46 rfl N9 36 i0 (.agg #[.int .i64 0, .int .i64 0, .int .i64 0, .int .i64 0, .string ⟨#[]⟩]) 5 48 Try.underlying46 hi hz0 hz1 hz2 rfl (by decide) v2 (0 + 1) ((If.ifc (l.take 0)) ++ If.ifc [(x0, x1, x2, x3, x4)]) ?_ ?_ N9 0 (.slice none 0 0) (If.ifc (l.drop 0)) ?_ ?_ ?_ ?_ ?_ ?_ ?_ ?_
                · simp [Act.eval, Act.put]; done
                · exact O2.out
                · first | (simp [Act.eval, Act.put]; done) | (simp [Act.eval, Act.put]; rw [← hpp]; split <;> rfl)
                · exact ID.out.below D2.out
                · exact HT.out.2
                · exact If.ifc_one _
                · unfold maxLen; omega
                · omega
                · have := D2.out.size; omega
                intro v3 W3 own grow
                have D3 := Lib.hid (show Below N9 wc W3 from below_gr0 hNs D2.out grow (own_row O2.out))
                have O3 := Lib.hid (show W3.ownsRow N9 36 5 v3 (0 + 1 + 0) ((If.ifc (l.take 0)) ++ If.ifc [(x0, x1, x2, x3, x4)] ++ (If.ifc (l.drop 0))) from own)
                have P3 := po_form O3.out
                obtain ⟨A3, c3, rfl⟩ := P3
                have mc3 := (MC.out.on (hNs ▸ D3.out)).c1; have mf3 := (MC.out.on (hNs ▸ D3.out)).frozen 1; have ml3 := (MC.out.on (hNs ▸ D3.out)).lt
                clear own grow
                refine hK.out _ _ (fun _ => SK _ D3.out) ?_
                clear hK K
                try simp only [Act.put, List.setIfInBounds_toArray, List.set_cons_zero, List.set_cons_succ]
                have hHeld := SK W3 D3.out
                refine anyL_take (i := 19) (v := ?_) [19, 20, 21] rfl (by kernel_rfl) (by kernel_rfl) (by kernel_rfl) (by kernel_rfl) (fun _ _ _ h => h) hHeld (Or.inl ⟨by rfl, ?_⟩) ?_
                rotate_left
                · (intro w hSw; (try dsimp only at hSw); go_simp <;> with_reducible rfl)
                try simp only [Act.put, List.setIfInBounds_toArray, List.set_cons_zero, List.set_cons_succ]
                refine anyL_take (i := 20) (v := ?_) [20, 21] rfl (by kernel_rfl) (by kernel_rfl) (by kernel_rfl) (by kernel_rfl) (fun _ _ _ h => h) hHeld (Or.inl ⟨by rfl, ?_⟩) ?_
                rotate_left
                · (intro w hSw; (try dsimp only at hSw); go_simp <;> with_reducible rfl)
                try simp only [Act.put, List.setIfInBounds_toArray, List.set_cons_zero, List.set_cons_succ]
                clear hHeld
                refine anyL_one (i := 21) (by kernel_rfl) ?_
                refine anyL_step rfl (fun K hK => ?_)
                go_simp
                refine hK.out _ _ (fun h => absurd rfl h) ?_
                clear hK K
                try simp only [Act.put, List.setIfInBounds_toArray, List.set_cons_zero, List.set_cons_succ]
                refine anyL_done (by kernel_rfl) ?_ _
                have RL := Lib.hid (rf_laid (l' := If.ins (x0, x1, x2, x3, x4) l) H0.out HNN.out (below_step B8.out (hNs ▸ D3.out)) (own_ins38 (hNs ▸ B8.out.size) HE.out (by omega) J.out O3.out))
                clear mc3 mf3 ml3
                go_wp2 <;> (go_ret; exact ⟨by rw [Q.out.1]; rfl, RL.out.1, by rw [Q.out.2]; exact RL.out.2⟩)
              case qb =>
                refine anyL_step rfl (fun K hK => ?_)
                go_simp
                refine hK.out _ _ (fun _ => SK _ (by repeat (first | exact Below.refl _ _ | exact D3.out | exact D2.out | exact D1.out | refine Below.drew ?_ | refine Below.alloc ?_ (by first | omega | (simp; done) | (simp; omega) | (have := D1.out.size; first | omega | (simp; omega))) _))) ?_
                clear hK K
                try simp only [Act.put, List.setIfInBounds_toArray, List.set_cons_zero, List.set_cons_succ]
                refine anyL_one (i := 8) (by kernel_rfl) ?_
                refine anyL_step rfl (fun K hK => ?_)
                refine step_append_lst rfl (.tmp 77) (.tmp 83) 46 rfl N9 36 i0 (.agg #[.int .i64 0, .int .i64 0, .int .i64 0, .int .i64 0, .string ⟨#[]⟩]) 5 48 Try.underlying46 hi hz0 hz1 hz2 rfl (by decide) (.slice (some ⟨N9, 0, none⟩) 0 0) 0 [] ?_ ?_ N9 0 (.slice none 0 0) (If.ifc (l.take 0)) ?_ ?_ ?_ ?_ ?_ ?_ ?_ ?_
                · simp [Act.eval, Act.put]; done
                · exact (own_first hNs).alloc _
                · simp [Act.eval, Act.put]; done
                · exact IT.out.below (by repeat (first | exact Below.refl _ _ | exact D3.out | exact D2.out | exact D1.out | refine Below.drew ?_ | refine Below.alloc ?_ (by first | omega | (simp; done) | (simp; omega) | (have := D1.out.size; first | omega | (simp; omega))) _))
                · exact HT.out.1
                · exact If.ifc_one _
                · unfold maxLen; omega
                · omega
                · first | omega | (simp <;> omega)
                intro v1 W1 own grow
                have D1 := Lib.hid (show Below N9 wc W1 from below_gr0 hNs (by repeat (first | exact Below.refl _ _ | exact D3.out | exact D2.out | exact D1.out | refine Below.drew ?_ | refine Below.alloc ?_ (by first | omega | (simp; done) | (simp; omega) | (have := D1.out.size; first | omega | (simp; omega))) _)) grow (by intro g hg; have e : N9 = g := Option.some.inj hg; omega))
                have O1 := Lib.hid (show W1.ownsRow N9 36 5 v1 0 (If.ifc (l.take 0)) by simpa using own)
                have X1 := Lib.hid (show Blk W1 (N9 + 1) 36 #[.int .i64 x0, .int .i64 x1, .int .i64 x2, .int .i64 x3, .string x4] from Blk.kept (by first | exact blk_new0 hNs _ | exact (blk_new0 hNs _).alloc _ | exact blk_new1 hNs _ _) grow (by intro h; have e : (N9 + 1) = N9 := Option.some.inj h; omega))
                have x0c := (PC.out.on (hNs ▸ D1.out)).c0; have x1c := (PC.out.on (hNs ▸ D1.out)).c1; have x2c := (PC.out.on (hNs ▸ D1.out)).c2; have x3c := (PC.out.on (hNs ▸ D1.out)).c3; have x4c := (PC.out.on (hNs ▸ D1.out)).c4
                clear own grow
                refine hK.out _ _ (fun _ => SK _ D1.out) ?_
                clear hK K
                try simp only [Act.put, List.setIfInBounds_toArray, List.set_cons_zero, List.set_cons_succ]
                refine anyL_one (i := 11) (by kernel_rfl) ?_
                refine anyL_step rfl (fun K hK => ?_)
                refine step_append_lst rfl (.tmp 84) (.tmp 86) 46 rfl N9 36 i0 (.agg #[.int .i64 0, .int .i64 0, .int .i64 0, .int .i64 0, .string ⟨#[]⟩]) 5 48 Try.underlying46 hi hz0 hz1 hz2 rfl (by decide) v1 0 (If.ifc (l.take 0)) ?_ ?_ ((N9 + 1) + 1) 1 (.slice (some ⟨(N9 + 1), 0, none⟩) 1 1) (If.ifc [(x0, x1, x2, x3, x4)]) ?_ ?_ ?_ ?_ ?_ ?_ ?_ ?_
                · simp [Act.eval, Act.put]; done
                · exact O1.out
                · simp [Act.eval, Act.put]; done
                · exact lst_one X1.out
                · rfl
                · exact If.ifc_one _
                · unfold maxLen; omega
                · omega
                · have := D1.out.size; first | omega | (simp <;> omega)
                intro v2 W2 own grow
                have D2 := Lib.hid (show Below N9 wc W2 from below_gr0 hNs (by first | exact D1.out | exact D1.out.alloc (hNs ▸ D1.out.size) _) grow (own_row O1.out))
                have O2 := Lib.hid (show W2.ownsRow N9 36 5 v2 (0 + 1) ((If.ifc (l.take 0)) ++ If.ifc [(x0, x1, x2, x3, x4)]) from own)
                clear own grow
                refine hK.out _ _ (fun _ => SK _ D2.out) ?_
                clear hK K
                try simp only [Act.put, List.setIfInBounds_toArray, List.set_cons_zero, List.set_cons_succ]
                refine anyL_one (i := 18) (by kernel_rfl) ?_
                refine anyL_step rfl (fun K hK => ?_)
                refine step_append_lst rfl (.tmp 87) (.tmp 93) 46 rfl N9 36 i0 (.agg #[.int .i64 0, .int .i64 0, .int .i64 0, .int .i64 0, .string ⟨#[]⟩]) 5 48 Try.underlying46 hi hz0 hz1 hz2 rfl (by decide) v2 (0 + 1) ((If.ifc (l.take 0)) ++ If.ifc [(x0, x1, x2, x3, x4)]) ?_ ?_ N9 0 (.slice none 0 0) (If.ifc (l.drop 0)) ?_ ?_ ?_ ?_ ?_ ?_ ?_ ?_
                · simp [Act.eval, Act.put]; done
                · exact O2.out
                · first | (simp [Act.eval, Act.put]; done) | (simp [Act.eval, Act.put]; rw [← hpp]; split <;> rfl)
                · exact ID.out.below D2.out
                · exact HT.out.2
                · exact If.ifc_one _
                · unfold maxLen; omega
                · omega
                · have := D2.out.size; omega
                intro v3 W3 own grow
                have D3 := Lib.hid (show Below N9 wc W3 from below_gr0 hNs D2.out grow (own_row O2.out))
                have O3 := Lib.hid (show W3.ownsRow N9 36 5 v3 (0 + 1 + 0) ((If.ifc (l.take 0)) ++ If.ifc [(x0, x1, x2, x3, x4)] ++ (If.ifc (l.drop 0))) from own)
                have P3 := po_form O3.out
                obtain ⟨A3, c3, rfl⟩ := P3
                have mc3 := (MC.out.on (hNs ▸ D3.out)).c1; have mf3 := (MC.out.on (hNs ▸ D3.out)).frozen 1; have ml3 := (MC.out.on (hNs ▸ D3.out)).lt
                clear own grow
                refine hK.out _ _ (fun _ => SK _ D3.out) ?_
                clear hK K
                try simp only [Act.put, List.setIfInBounds_toArray, List.set_cons_zero, List.set_cons_succ]
                have hHeld := SK W3 D3.out
                refine anyL_take (i := 19) (v := ?_) [19, 20, 21] rfl (by kernel_rfl) (by kernel_rfl) (by kernel_rfl) (by kernel_rfl) (fun _ _ _ h => h) hHeld (Or.inl ⟨by rfl, ?_⟩) ?_
                rotate_left
                · (intro w hSw; (try dsimp only at hSw); go_simp <;> with_reducible rfl)
                try simp only [Act.put, List.setIfInBounds_toArray, List.set_cons_zero, List.set_cons_succ]
                refine anyL_take (i := 20) (v := ?_) [20, 21] rfl (by kernel_rfl) (by kernel_rfl) (by kernel_rfl) (by kernel_rfl) (fun _ _ _ h => h) hHeld (Or.inl ⟨by rfl, ?_⟩) ?_
                rotate_left
                · (intro w hSw; (try dsimp only at hSw); go_simp <;> with_reducible rfl)
                try simp only [Act.put, List.setIfInBounds_toArray, List.set_cons_zero, List.set_cons_succ]
                clear hHeld
                refine anyL_one (i := 21) (by kernel_rfl) ?_
                refine anyL_step rfl (fun K hK => ?_)
                go_simp
                refine hK.out _ _ (fun h => absurd rfl h) ?_
                clear hK K
                try simp only [Act.put, List.setIfInBounds_toArray, List.set_cons_zero, List.set_cons_succ]
                refine anyL_done (by kernel_rfl) ?_ _
                have RL := Lib.hid (rf_laid (l' := If.ins (x0, x1, x2, x3, x4) l) H0.out HNN.out (below_step B8.out (hNs ▸ D3.out)) (own_ins38 (hNs ▸ B8.out.size) HE.out (by omega) J.out O3.out))
                clear mc3 mf3 ml3
                go_wp2 <;> (go_ret; exact ⟨by rw [Q.out.1]; rfl, RL.out.1, by rw [Q.out.2]; exact RL.out.2⟩)
            case pb =>
              refine anyL_step rfl (fun K hK => ?_)
              go_simp
              refine hK.out _ _ (fun _ => SK _ (by repeat (first | exact Below.refl _ _ | exact D3.out | exact D2.out | exact D1.out | refine Below.drew ?_ | refine Below.alloc ?_ (by first | omega | (simp; done) | (simp; omega) | (have := D1.out.size; first | omega | (simp; omega))) _))) ?_
              clear hK K
              try simp only [Act.put, List.setIfInBounds_toArray, List.set_cons_zero, List.set_cons_succ]
              refine anyL_one (i := 1) (by kernel_rfl) ?_
              refine anyL_step rfl (fun K hK => ?_)
              go_simp
              refine hK.out _ _ (fun _ => SK _ (by repeat (first | exact Below.refl _ _ | exact D3.out | exact D2.out | exact D1.out | refine Below.drew ?_ | refine Below.alloc ?_ (by first | omega | (simp; done) | (simp; omega) | (have := D1.out.size; first | omega | (simp; omega))) _))) ?_
              clear hK K
              try simp only [Act.put, List.setIfInBounds_toArray, List.set_cons_zero, List.set_cons_succ]
              refine anyL_one (i := 8) (by kernel_rfl) ?_
              refine anyL_step rfl (fun K hK => ?_)
              refine step_append_lst rfl (.tmp 77) (.tmp 83) 46 rfl N9 36 i0 (.agg #[.int .i64 0, .int .i64 0, .int .i64 0, .int .i64 0, .string ⟨#[]⟩]) 5 48 Try.underlying46 hi hz0 hz1 hz2 rfl (by decide) (.slice (some ⟨(N9 + 1), 0, none⟩) 0 0) 0 [] ?_ ?_ N9 0 (.slice none 0 0) (If.ifc (l.take 0)) ?_ ?_ ?_ ?_ ?_ ?_ ?_ ?_
              · simp [Act.eval, Act.put]; done
              · exact own_second hNs
              · simp [Act.eval, Act.put]; done
              · exact IT.out.below (by repeat (first | exact Below.refl _ _ | exact D3.out | exact D2.out | exact D1.out | refine Below.drew ?_ | refine Below.alloc ?_ (by first | omega | (simp; done) | (simp; omega) | (have := D1.out.size; first | omega | (simp; omega))) _))
              · exact HT.out.1
              · exact If.ifc_one _
              · unfold maxLen; omega
              · omega
              · first | omega | (simp <;> omega)
              intro v1 W1 own grow
              have D1 := Lib.hid (show Below N9 wc W1 from below_gr0 hNs (by repeat (first | exact Below.refl _ _ | exact D3.out | exact D2.out | exact D1.out | refine Below.drew ?_ | refine Below.alloc ?_ (by first | omega | (simp; done) | (simp; omega) | (have := D1.out.size; first | omega | (simp; omega))) _)) grow (by intro g hg; have e : (N9 + 1) = g := Option.some.inj hg; omega))
              have O1 := Lib.hid (show W1.ownsRow N9 36 5 v1 0 (If.ifc (l.take 0)) by simpa using own)
              have X1 := Lib.hid (show Blk W1 N9 36 #[.int .i64 x0, .int .i64 x1, .int .i64 x2, .int .i64 x3, .string x4] from Blk.kept (by first | exact blk_new0 hNs _ | exact (blk_new0 hNs _).alloc _ | exact blk_new1 hNs _ _) grow (by intro h; have e : N9 = (N9 + 1) := Option.some.inj h; omega))
              have x0c := (PC.out.on (hNs ▸ D1.out)).c0; have x1c := (PC.out.on (hNs ▸ D1.out)).c1; have x2c := (PC.out.on (hNs ▸ D1.out)).c2; have x3c := (PC.out.on (hNs ▸ D1.out)).c3; have x4c := (PC.out.on (hNs ▸ D1.out)).c4
              clear own grow
              refine hK.out _ _ (fun _ => SK _ D1.out) ?_
              clear hK K
              try simp only [Act.put, List.setIfInBounds_toArray, List.set_cons_zero, List.set_cons_succ]
              refine anyL_one (i := 11) (by kernel_rfl) ?_
              refine anyL_step rfl (fun K hK => ?_)
              refine step_append_lst rfl (.tmp 84) (.tmp 86) 46 rfl N9 36 i0 (.agg #[.int .i64 0, .int .i64 0, .int .i64 0, .int .i64 0, .string ⟨#[]⟩]) 5 48 Try.underlying46 hi hz0 hz1 hz2 rfl (by decide) v1 0 (If.ifc (l.take 0)) ?_ ?_ (N9 + 1) 1 (.slice (some ⟨N9, 0, none⟩) 1 1) (If.ifc [(x0, x1, x2, x3, x4)]) ?_ ?_ ?_ ?_ ?_ ?_ ?_ ?_
              · simp [Act.eval, Act.put]; done
              · exact O1.out
              · simp [Act.eval, Act.put]; done
              · exact lst_one X1.out
              · rfl
              · exact If.ifc_one _
              · unfold maxLen; omega
              · omega
              · have := D1.out.size; first | omega | (simp <;> omega)
              intro v2 W2 own grow
              have D2 := Lib.hid (show Below N9 wc W2 from below_gr0 hNs (by first | exact D1.out | exact D1.out.alloc (hNs ▸ D1.out.size) _) grow (own_row O1.out))
              have O2 := Lib.hid (show W2.ownsRow N9 36 5 v2 (0 + 1) ((If.ifc (l.take 0)) ++ If.ifc [(x0, x1, x2, x3, x4)]) from own)
              clear own grow
              refine hK.out _ _ (fun _ => SK _ D2.out) ?_
              clear hK K
              try simp only [Act.put, List.setIfInBounds_toArray, List.set_cons_zero, List.set_cons_succ]
              refine anyL_one (i := 18) (by kernel_rfl) ?_
              refine anyL_step rfl (fun K hK => ?_)
              refine step_append_lst rfl (.tmp 87) (.tmp 93) 46 rfl N9 36 i0 (.agg #[.int .i64 0, .int .i64 0, .int .i64 0, .int .i64 0, .string ⟨#[]⟩]) 5 48 Try.underlying46 hi hz0 hz1 hz2 rfl (by decide) v2 (0 + 1) ((If.ifc (l.take 0)) ++ If.ifc [(x0, x1, x2, x3, x4)]) ?_ ?_ N9 0 (.slice none 0 0) (If.ifc (l.drop 0)) ?_ ?_ ?_ ?_ ?_ ?_ ?_ ?_
              · simp [Act.eval, Act.put]; done
              · exact O2.out
              · first | (simp [Act.eval, Act.put]; done) | (simp [Act.eval, Act.put]; rw [← hpp]; split <;> rfl)
              · exact ID.out.below D2.out
              · exact HT.out.2
              · exact If.ifc_one _
              · unfold maxLen; omega
              · omega
              · have := D2.out.size; omega
              intro v3 W3 own grow
              have D3 := Lib.hid (show Below N9 wc W3 from below_gr0 hNs D2.out grow (own_row O2.out))
              have O3 := Lib.hid (show W3.ownsRow N9 36 5 v3 (0 + 1 + 0) ((If.ifc (l.take 0)) ++ If.ifc [(x0, x1, x2, x3, x4)] ++ (If.ifc (l.drop 0))) from own)
              have P3 := po_form O3.out
              obtain ⟨A3, c3, rfl⟩ := P3
              have mc3 := (MC.out.on (hNs ▸ D3.out)).c1; have mf3 := (MC.out.on (hNs ▸ D3.out)).frozen 1; have ml3 := (MC.out.on (hNs ▸ D3.out)).lt
              clear own grow
              refine hK.out _ _ (fun _ => SK _ D3.out) ?_
              clear hK K
              try simp only [Act.put, List.setIfInBounds_toArray, List.set_cons_zero, List.set_cons_succ]
              have hHeld := SK W3 D3.out
              refine anyL_take (i := 19) (v := ?_) [19, 20, 21] rfl (by kernel_rfl) (by kernel_rfl) (by kernel_rfl) (by kernel_rfl) (fun _ _ _ h => h) hHeld (Or.inl ⟨by rfl, ?_⟩) ?_
              rotate_left
              · (intro w hSw; (try dsimp only at hSw); go_simp <;> with_reducible rfl)
              try simp only [Act.put, List.setIfInBounds_toArray, List.set_cons_zero, List.set_cons_succ]
              refine anyL_take (i := 20) (v := ?_) [20, 21] rfl (by kernel_rfl) (by kernel_rfl) (by kernel_rfl) (by kernel_rfl) (fun _ _ _ h => h) hHeld (Or.inl ⟨by rfl, ?_⟩) ?_
              rotate_left
              · (intro w hSw; (try dsimp only at hSw); go_simp <;> with_reducible rfl)
              try simp only [Act.put, List.setIfInBounds_toArray, List.set_cons_zero, List.set_cons_succ]
              clear hHeld
              refine anyL_one (i := 21) (by kernel_rfl) ?_
              refine anyL_step rfl (fun K hK => ?_)
              go_simp
              refine hK.out _ _ (fun h => absurd rfl h) ?_
              clear hK K
              try simp only [Act.put, List.setIfInBounds_toArray, List.set_cons_zero, List.set_cons_succ]
              refine anyL_done (by kernel_rfl) ?_ _
              have RL := Lib.hid (rf_laid (l' := If.ins (x0, x1, x2, x3, x4) l) H0.out HNN.out (below_step B8.out (hNs ▸ D3.out)) (own_ins38 (hNs ▸ B8.out.size) HE.out (by omega) J.out O3.out))
              clear mc3 mf3 ml3
              go_wp2 <;> (go_ret; exact ⟨by rw [Q.out.1]; rfl, RL.out.1, by rw [Q.out.2]; exact RL.out.2⟩)
          · have IT := Lib.hid (show Lst wc N9 (.slice (some ao) j c) j (If.ifc (l.take j)) from hNs ▸ lst_take O8.out j hj HE.out)
            obtain ⟨pp, hpp⟩ : ∃ pp, (if c = j then ao else ao.add (j * 5)) = pp := ⟨_, rfl⟩
            have ID := Lib.hid (show Lst wc N9 (.slice (some pp) (n - j) (c - j)) (n - j) (If.ifc (l.drop j)) from hNs ▸ lst_drop O8.out j hj HE.out hc5 hpp)
            have s1 : (j : Int) ≤ n := by omega
            have s2 : (j : Int) ≤ c := by omega
            have s3 : (n : Int) ≤ c := by omega
            go_wp2_with fail
            have SK : ∀ w', Below N9 wc w' → (fun w' => w'.cell? ⟨m, 1, none⟩ = some (.slice (some ao) n c) ∧ w'.cell? ⟨W.heap.size, 0, none⟩ = some (.int .i64 x0) ∧ w'.cell? ⟨W.heap.size, 1, none⟩ = some (.int .i64 x1) ∧ w'.cell? ⟨W.heap.size, 2, none⟩ = some (.int .i64 x2) ∧ w'.cell? ⟨W.heap.size, 3, none⟩ = some (.int .i64 x3) ∧ w'.cell? ⟨W.heap.size, 4, none⟩ = some (.string x4)) w' := fun w' b => ⟨(MC.out.on (hNs ▸ b)).c1, (PC.out.on (hNs ▸ b)).c0, (PC.out.on (hNs ▸ b)).c1, (PC.out.on (hNs ▸ b)).c2, (PC.out.on (hNs ▸ b)).c3, (PC.out.on (hNs ▸ b)).c4⟩
            have hHeld := SK wc.drew (Below.drew (Below.refl _ _))
            refine wp_region_late (fun w' => w'.cell? ⟨m, 1, none⟩ = some (.slice (some ao) n c) ∧ w'.cell? ⟨W.heap.size, 0, none⟩ = some (.int .i64 x0) ∧ w'.cell? ⟨W.heap.size, 1, none⟩ = some (.int .i64 x1) ∧ w'.cell? ⟨W.heap.size, 2, none⟩ = some (.int .i64 x2) ∧ w'.cell? ⟨W.heap.size, 3, none⟩ = some (.int .i64 x3) ∧ w'.cell? ⟨W.heap.size, 4, none⟩ = some (.string x4)) 21 (by kernel_rfl) ?_
            refine anyL_take (i := 0) (v := ?_) [0, 19, 20, 21] rfl (by kernel_rfl) (by kernel_rfl) (by kernel_rfl) (by kernel_rfl) (fun _ _ _ h => h) hHeld (Or.inl ⟨by rfl, ?_⟩) ?_
            rotate_left
            · (intro w hSw; (try dsimp only at hSw); go_simp <;> with_reducible rfl)
            try simp only [Act.put, List.setIfInBounds_toArray, List.set_cons_zero, List.set_cons_succ]
            refine anyL_take (i := 2) (v := ?_) [2, 3, 4, 5, 7, 8, 11, 18, 21] rfl (by kernel_rfl) (by kernel_rfl) (by kernel_rfl) (by kernel_rfl) (fun _ _ _ h => h) hHeld (Or.inl ⟨by rfl, ?_⟩) ?_
            rotate_left
            · (intro w hSw; (try dsimp only at hSw); go_simp <;> with_reducible rfl)
            try simp only [Act.put, List.setIfInBounds_toArray, List.set_cons_zero, List.set_cons_succ]
            refine anyL_take (i := 3) (v := ?_) [3, 4, 5, 7, 8, 11, 18, 21] rfl (by kernel_rfl) (by kernel_rfl) (by kernel_rfl) (by kernel_rfl) (fun _ _ _ h => h) hHeld (Or.inl ⟨by rfl, ?_⟩) ?_
            rotate_left
            · (intro w hSw; (try dsimp only at hSw); go_simp <;> with_reducible rfl)
            try simp only [Act.put, List.setIfInBounds_toArray, List.set_cons_zero, List.set_cons_succ]
            refine anyL_take (i := 4) (v := ?_) [4, 5, 7, 8, 11, 18, 21] rfl (by kernel_rfl) (by kernel_rfl) (by kernel_rfl) (by kernel_rfl) (fun _ _ _ h => h) hHeld (Or.inl ⟨by rfl, ?_⟩) ?_
            rotate_left
            · (intro w hSw; (try dsimp only at hSw); go_simp <;> with_reducible rfl)
            try simp only [Act.put, List.setIfInBounds_toArray, List.set_cons_zero, List.set_cons_succ]
            refine anyL_take (i := 5) (v := ?_) [5, 7, 8, 11, 18, 21] rfl (by kernel_rfl) (by kernel_rfl) (by kernel_rfl) (by kernel_rfl) (fun _ _ _ h => h) hHeld (Or.inl ⟨by rfl, ?_⟩) ?_
            rotate_left
            · (intro w hSw; (try dsimp only at hSw); go_simp <;> with_reducible rfl)
            try simp only [Act.put, List.setIfInBounds_toArray, List.set_cons_zero, List.set_cons_succ]
            refine anyL_take (i := 6) (v := ?_) [6, 7, 8, 11, 18, 21] rfl (by kernel_rfl) (by kernel_rfl) (by kernel_rfl) (by kernel_rfl) (fun _ _ _ h => h) hHeld (Or.inl ⟨by rfl, ?_⟩) ?_
            rotate_left
            · (intro w hSw; (try dsimp only at hSw); go_simp <;> with_reducible rfl)
            try simp only [Act.put, List.setIfInBounds_toArray, List.set_cons_zero, List.set_cons_succ]
            refine anyL_take (i := 7) (v := ?_) [7, 8, 11, 18, 21] rfl (by kernel_rfl) (by kernel_rfl) (by kernel_rfl) (by kernel_rfl) (fun _ _ _ h => h) hHeld (Or.inl ⟨by rfl, ?_⟩) ?_
            rotate_left
            · (intro w hSw; (try dsimp only at hSw); go_simp <;> with_reducible rfl)
            try simp only [Act.put, List.setIfInBounds_toArray, List.set_cons_zero, List.set_cons_succ]
            refine anyL_take (i := 9) (v := ?_) [9, 10, 11, 18, 21] rfl (by kernel_rfl) (by kernel_rfl) (by kernel_rfl) (by kernel_rfl) (fun _ _ _ h => h) hHeld (Or.inl ⟨by rfl, ?_⟩) ?_
            rotate_left
            · (intro w hSw; (try dsimp only at hSw); go_simp <;> with_reducible rfl)
            try simp only [Act.put, List.setIfInBounds_toArray, List.set_cons_zero, List.set_cons_succ]
            refine anyL_take (i := 12) (v := ?_) [12, 13, 14, 15, 17, 18, 21] rfl (by kernel_rfl) (by kernel_rfl) (by kernel_rfl) (by kernel_rfl) (fun _ _ _ h => h) hHeld (Or.inl ⟨by rfl, ?_⟩) ?_
            rotate_left
            · (intro w hSw; (try dsimp only at hSw); go_simp <;> with_reducible rfl)
            try simp only [Act.put, List.setIfInBounds_toArray, List.set_cons_zero, List.set_cons_succ]
            refine anyL_take (i := 13) (v := ?_) [13, 14, 15, 17, 18, 21] rfl (by kernel_rfl) (by kernel_rfl) (by kernel_rfl) (by kernel_rfl) (fun _ _ _ h => h) hHeld (Or.inl ⟨by rfl, ?_⟩) ?_
            rotate_left
            · (intro w hSw; (try dsimp only at hSw); go_simp <;> with_reducible rfl)
            try simp only [Act.put, List.setIfInBounds_toArray, List.set_cons_zero, List.set_cons_succ]
            refine anyL_take (i := 14) (v := ?_) [14, 15, 17, 18, 21] rfl (by kernel_rfl) (by kernel_rfl) (by kernel_rfl) (by kernel_rfl) (fun _ _ _ h => h) hHeld (Or.inl ⟨by rfl, ?_⟩) ?_
            rotate_left
            · (intro w hSw; (try dsimp only at hSw); go_simp <;> with_reducible rfl)
            try simp only [Act.put, List.setIfInBounds_toArray, List.set_cons_zero, List.set_cons_succ]
            refine anyL_take (i := 15) (v := ?_) [15, 17, 18, 21] rfl (by kernel_rfl) (by kernel_rfl) (by kernel_rfl) (by kernel_rfl) (fun _ _ _ h => h) hHeld (Or.inl ⟨by rfl, ?_⟩) ?_
            rotate_left
            · (intro w hSw; (try dsimp only at hSw); go_simp <;> with_reducible rfl)
            try simp only [Act.put, List.setIfInBounds_toArray, List.set_cons_zero, List.set_cons_succ]
            refine anyL_take (i := 16) (v := ?_) [16, 17, 18, 21] rfl (by kernel_rfl) (by kernel_rfl) (by kernel_rfl) (by kernel_rfl) (fun _ _ _ h => h) hHeld (Or.inl ⟨by rfl, ?_⟩) ?_
            rotate_left
            · (intro w hSw; (try dsimp only at hSw); go_simp <;> with_reducible rfl)
            try simp only [Act.put, List.setIfInBounds_toArray, List.set_cons_zero, List.set_cons_succ]
            refine anyL_take (i := 17) (v := ?_) [17, 18, 21] rfl (by kernel_rfl) (by kernel_rfl) (by kernel_rfl) (by kernel_rfl) (fun _ _ _ h => h) hHeld (Or.inl ⟨by rfl, ?_⟩) ?_
            rotate_left
            · (intro w hSw; (try dsimp only at hSw); go_simp <;> with_reducible rfl)
            try simp only [Act.put, List.setIfInBounds_toArray, List.set_cons_zero, List.set_cons_succ]
            clear hHeld
            refine anyL_two (i := 1) (j := 10) (by kernel_rfl) ?pa ?pb
            case pa =>
              refine anyL_step rfl (fun K hK => ?_)
              go_simp
              refine hK.out _ _ (fun _ => SK _ (by repeat (first | exact Below.refl _ _ | exact D3.out | exact D2.out | exact D1.out | refine Below.drew ?_ | refine Below.alloc ?_ (by first | omega | (simp; done) | (simp; omega) | (have := D1.out.size; first | omega | (simp; omega))) _))) ?_
              clear hK K
              try simp only [Act.put, List.setIfInBounds_toArray, List.set_cons_zero, List.set_cons_succ]
              refine anyL_two (i := 8) (j := 10) (by kernel_rfl) ?qa ?qb
              case qa =>
                refine anyL_step rfl (fun K hK => ?_)
                refine step_append_lst rfl (.tmp 77) (.tmp 83) 46 rfl N9 36 i0 (.agg #[.int .i64 0, .int .i64 0, .int .i64 0, .int .i64 0, .string ⟨#[]⟩]) 5 48 Try.underlying46 hi hz0 hz1 hz2 rfl (by decide) (.slice (some ⟨N9, 0, none⟩) 0 0) 0 [] ?_ ?_ N9 j (.slice (some ao) j c) (If.ifc (l.take j)) ?_ ?_ ?_ ?_ ?_ ?_ ?_ ?_
                · simp [Act.eval, Act.put]; done
                · exact own_first hNs
                · simp [Act.eval, Act.put]; done
                · exact IT.out.below (by repeat (first | exact Below.refl _ _ | exact D3.out | exact D2.out | exact D1.out | refine Below.drew ?_ | refine Below.alloc ?_ (by first | omega | (simp; done) | (simp; omega) | (have := D1.out.size; first | omega | (simp; omega))) _))
                · exact HT.out.1
                · exact If.ifc_one _
                · unfold maxLen; omega
                · omega
                · first | omega | (simp <;> omega)
                intro v1 W1 own grow
                have D1 := Lib.hid (show Below N9 wc W1 from below_gr0 hNs (by repeat (first | exact Below.refl _ _ | exact D3.out | exact D2.out | exact D1.out | refine Below.drew ?_ | refine Below.alloc ?_ (by first | omega | (simp; done) | (simp; omega) | (have := D1.out.size; first | omega | (simp; omega))) _)) grow (by intro g hg; have e : N9 = g := Option.some.inj hg; omega))
                have O1 := Lib.hid (show W1.ownsRow N9 36 5 v1 j (If.ifc (l.take j)) by simpa using own)
                have x0c := (PC.out.on (hNs ▸ D1.out)).c0; have x1c := (PC.out.on (hNs ▸ D1.out)).c1; have x2c := (PC.out.on (hNs ▸ D1.out)).c2; have x3c := (PC.out.on (hNs ▸ D1.out)).c3; have x4c := (PC.out.on (hNs ▸ D1.out)).c4
                clear own grow
                refine hK.out _ _ (fun _ => SK _ D1.out) ?_
                clear hK K
                try simp only [Act.put, List.setIfInBounds_toArray, List.set_cons_zero, List.set_cons_succ]
                refine anyL_one (i := 10) (by kernel_rfl) ?_
                refine anyL_step rfl (fun K hK => ?_)
                go_simp
                refine hK.out _ _ (fun _ => SK _ (by repeat (first | exact Below.refl _ _ | exact D3.out | exact D2.out | exact D1.out | refine Below.drew ?_ | refine Below.alloc ?_ (by first | omega | (simp; done) | (simp; omega) | (have := D1.out.size; first | omega | (simp; omega))) _))) ?_
                clear hK K
                try simp only [Act.put, List.setIfInBounds_toArray, List.set_cons_zero, List.set_cons_succ]
                refine anyL_one (i := 11) (by kernel_rfl) ?_
                refine anyL_step rfl (fun K hK => ?_)
                refine step_append_lst rfl (.tmp 84) (.tmp 86) 46 rfl N9 36 i0 (.agg #[.int .i64 0, .int .i64 0, .int .i64 0, .int .i64 0, .string ⟨#[]⟩]) 5 48 Try.underlying46 hi hz0 hz1 hz2 rfl (by decide) v1 j (If.ifc (l.take j)) ?_ ?_ (W1.heap.size + 1) 1 (.slice (some ⟨W1.heap.size, 0, none⟩) 1 1) (If.ifc [(x0, x1, x2, x3, x4)]) ?_ ?_ ?_ ?_ ?_ ?_ ?_ ?_
                · simp [Act.eval, Act.put]; done
                · exact O1.out.alloc _
                · simp [Act.eval, Act.put]; done
                · exact lst_one (Blk.new W1 36 #[.int .i64 x0, .int .i64 x1, .int .i64 x2, .int .i64 x3, .string x4])
                · rfl
                · exact If.ifc_one _
                · unfold maxLen; omega
                · omega
                · have := D1.out.size; first | omega | (simp <;> omega)
                intro v2 W2 own grow
                have D2 := Lib.hid (show Below N9 wc W2 from below_gr0 hNs (by first | exact D1.out | exact D1.out.alloc (hNs ▸ D1.out.size) _) grow (own_row O1.out))
                have O2 := Lib.hid (show W2.ownsRow N9 36 5 v2 (j + 1) ((If.ifc (l.take j)) ++ If.ifc [(x0, x1, x2, x3, x4)]) from own)
                clear own grow
                refine hK.out _ _ (fun _ => SK _ D2.out) ?_
                clear hK K
                try simp only [Act.put, List.setIfInBounds_toArray, List.set_cons_zero, List.set_cons_succ]
                refine anyL_one (i := 18) (by kernel_rfl) ?_
                refine anyL_step rfl (fun K hK => ?_)
                refine step_append_lst rfl (.tmp 87) (.tmp 93) 46 rfl N9 36 i0 (.agg #[.int .i64 0, .int .i64 0, .int .i64 0, .int .i64 0, .string ⟨#[]⟩]) 5 48 Try.underlying46 hi hz0 hz1 hz2 rfl (by decide) v2 (j + 1) ((If.ifc (l.take j)) ++ If.ifc [(x0, x1, x2, x3, x4)]) ?_ ?_ N9 (n - j) (.slice (some pp) (n - j) (c - j)) (If.ifc (l.drop j)) ?_ ?_ ?_ ?_ ?_ ?_ ?_ ?_
                · simp [Act.eval, Act.put]; done
                · exact O2.out
                · first | (simp [Act.eval, Act.put]; done) | (simp [Act.eval, Act.put]; rw [← hpp]; split <;> rfl)
                · exact ID.out.below D2.out
                · exact HT.out.2
                · exact If.ifc_one _
                · unfold maxLen; omega
                · omega
                · have := D2.out.size; omega
                intro v3 W3 own grow
                have D3 := Lib.hid (show Below N9 wc W3 from below_gr0 hNs D2.out grow (own_row O2.out))
                have O3 := Lib.hid (show W3.ownsRow N9 36 5 v3 (j + 1 + (n - j)) ((If.ifc (l.take j)) ++ If.ifc [(x0, x1, x2, x3, x4)] ++ (If.ifc (l.drop j))) from own)
                have P3 := po_form O3.out
                obtain ⟨A3, c3, rfl⟩ := P3
                have mc3 := (MC.out.on (hNs ▸ D3.out)).c1; have mf3 := (MC.out.on (hNs ▸ D3.out)).frozen 1; have ml3 := (MC.out.on (hNs ▸ D3.out)).lt
                clear own grow
                refine hK.out _ _ (fun _ => SK _ D3.out) ?_
                clear hK K
                try simp only [Act.put, List.setIfInBounds_toArray, List.set_cons_zero, List.set_cons_succ]
                have hHeld := SK W3 D3.out
                refine anyL_take (i := 19) (v := ?_) [19, 20, 21] rfl (by kernel_rfl) (by kernel_rfl) (by kernel_rfl) (by kernel_rfl) (fun _ _ _ h => h) hHeld (Or.inl ⟨by rfl, ?_⟩) ?_
                rotate_left
                · (intro w hSw; (try dsimp only at hSw); go_simp <;> with_reducible rfl)
                try simp only [Act.put, List.setIfInBounds_toArray, List.set_cons_zero, List.set_cons_succ]
                refine anyL_take (i := 20) (v := ?_) [20, 21] rfl (by kernel_rfl) (by kernel_rfl) (by kernel_rfl) (by kernel_rfl) (fun _ _ _ h => h) hHeld (Or.inl ⟨by rfl, ?_⟩) ?_
                rotate_left
                · (intro w hSw; (try dsimp only at hSw); go_simp <;> with_reducible rfl)
                try simp only [Act.put, List.setIfInBounds_toArray, List.set_cons_zero, List.set_cons_succ]
                clear hHeld
                refine anyL_one (i := 21) (by kernel_rfl) ?_
                refine anyL_step rfl (fun K hK => ?_)
                go_simp
                refine hK.out _ _ (fun h => absurd rfl h) ?_
                clear hK K
                try simp only [Act.put, List.setIfInBounds_toArray, List.set_cons_zero, List.set_cons_succ]
                refine anyL_done (by kernel_rfl) ?_ _
                have RL := Lib.hid (rf_laid (l' := If.ins (x0, x1, x2, x3, x4) l) H0.out HNN.out (below_step B8.out (hNs ▸ D3.out)) (own_ins38 (hNs ▸ B8.out.size) HE.out (by omega) J.out O3.out))
                clear mc3 mf3 ml3
                go_wp2 <;> (go_ret; exact ⟨by rw [Q.out.1]; rfl, RL.out.1, by rw [Q.out.2]; exact RL.out.2⟩)
              case qb =>
                refine anyL_step rfl (fun K hK => ?_)
                go_simp
                refine hK.out _ _ (fun _ => SK _ (by repeat (first | exact Below.refl _ _ | exact D3.out | exact D2.out | exact D1.out | refine Below.drew ?_ | refine Below.alloc ?_ (by first | omega | (simp; done) | (simp; omega) | (have := D1.out.size; first | omega | (simp; omega))) _))) ?_
                clear hK K
                try simp only [Act.put, List.setIfInBounds_toArray, List.set_cons_zero, List.set_cons_succ]
                refine anyL_one (i := 8) (by kernel_rfl) ?_
                refine anyL_step rfl (fun K hK => ?_)
                refine step_append_lst rfl (.tmp 77) (.tmp 83) 46 rfl N9 36 i0 (.agg #[.int .i64 0, .int .i64 0, .int .i64 0, .int .i64 0, .string ⟨#[]⟩]) 5 48 Try.underlying46 hi hz0 hz1 hz2 rfl (by decide) (.slice (some ⟨N9, 0, none⟩) 0 0) 0 [] ?_ ?_ N9 j (.slice (some ao) j c) (If.ifc (l.take j)) ?_ ?_ ?_ ?_ ?_ ?_ ?_ ?_
                · simp [Act.eval, Act.put]; done
                · exact (own_first hNs).alloc _
                · simp [Act.eval, Act.put]; done
                · exact IT.out.below (by repeat (first | exact Below.refl _ _ | exact D3.out | exact D2.out | exact D1.out | refine Below.drew ?_ | refine Below.alloc ?_ (by first | omega | (simp; done) | (simp; omega) | (have := D1.out.size; first | omega | (simp; omega))) _))
                · exact HT.out.1
                · exact If.ifc_one _
                · unfold maxLen; omega
                · omega
                · first | omega | (simp <;> omega)
                intro v1 W1 own grow
                have D1 := Lib.hid (show Below N9 wc W1 from below_gr0 hNs (by repeat (first | exact Below.refl _ _ | exact D3.out | exact D2.out | exact D1.out | refine Below.drew ?_ | refine Below.alloc ?_ (by first | omega | (simp; done) | (simp; omega) | (have := D1.out.size; first | omega | (simp; omega))) _)) grow (by intro g hg; have e : N9 = g := Option.some.inj hg; omega))
                have O1 := Lib.hid (show W1.ownsRow N9 36 5 v1 j (If.ifc (l.take j)) by simpa using own)
                have X1 := Lib.hid (show Blk W1 (N9 + 1) 36 #[.int .i64 x0, .int .i64 x1, .int .i64 x2, .int .i64 x3, .string x4] from Blk.kept (by first | exact blk_new0 hNs _ | exact (blk_new0 hNs _).alloc _ | exact blk_new1 hNs _ _) grow (by intro h; have e : (N9 + 1) = N9 := Option.some.inj h; omega))
                have x0c := (PC.out.on (hNs ▸ D1.out)).c0; have x1c := (PC.out.on (hNs ▸ D1.out)).c1; have x2c := (PC.out.on (hNs ▸ D1.out)).c2; have x3c := (PC.out.on (hNs ▸ D1.out)).c3; have x4c := (PC.out.on (hNs ▸ D1.out)).c4
                clear own grow
                refine hK.out _ _ (fun _ => SK _ D1.out) ?_
                clear hK K
                try simp only [Act.put, List.setIfInBounds_toArray, List.set_cons_zero, List.set_cons_succ]
                refine anyL_one (i := 11) (by kernel_rfl) ?_
                refine anyL_step rfl (fun K hK => ?_)
                refine step_append_lst rfl (.tmp 84) (.tmp 86) 46 rfl N9 36 i0 (.agg #[.int .i64 0, .int .i64 0, .int .i64 0, .int .i64 0, .string ⟨#[]⟩]) 5 48 Try.underlying46 hi hz0 hz1 hz2 rfl (by decide) v1 j (If.ifc (l.take j)) ?_ ?_ ((N9 + 1) + 1) 1 (.slice (some ⟨(N9 + 1), 0, none⟩) 1 1) (If.ifc [(x0, x1, x2, x3, x4)]) ?_ ?_ ?_ ?_ ?_ ?_ ?_ ?_
                · simp [Act.eval, Act.put]; done
                · exact O1.out
                · simp [Act.eval, Act.put]; done
                · exact lst_one X1.out
                · rfl
                · exact If.ifc_one _
                · unfold maxLen; omega
                · omega
                · have := D1.out.size; first | omega | (simp <;> omega)
                intro v2 W2 own grow
                have D2 := Lib.hid (show Below N9 wc W2 from below_gr0 hNs (by first | exact D1.out | exact D1.out.alloc (hNs ▸ D1.out.size) _) grow (own_row O1.out))
                have O2 := Lib.hid (show W2.ownsRow N9 36 5 v2 (j + 1) ((If.ifc (l.take j)) ++ If.ifc [(x0, x1, x2, x3, x4)]) from own)
                clear own grow
                refine hK.out _ _ (fun _ => SK _ D2.out) ?_
                clear hK K
                try simp only [Act.put, List.setIfInBounds_toArray, List.set_cons_zero, List.set_cons_succ]
                refine anyL_one (i := 18) (by kernel_rfl) ?_
                refine anyL_step rfl (fun K hK => ?_)
                refine step_append_lst rfl (.tmp 87) (.tmp 93) 46 rfl N9 36 i0 (.agg #[.int .i64 0, .int .i64 0, .int .i64 0, .int .i64 0, .string ⟨#[]⟩]) 5 48 Try.underlying46 hi hz0 hz1 hz2 rfl (by decide) v2 (j + 1) ((If.ifc (l.take j)) ++ If.ifc [(x0, x1, x2, x3, x4)]) ?_ ?_ N9 (n - j) (.slice (some pp) (n - j) (c - j)) (If.ifc (l.drop j)) ?_ ?_ ?_ ?_ ?_ ?_ ?_ ?_
                · simp [Act.eval, Act.put]; done
                · exact O2.out
                · first | (simp [Act.eval, Act.put]; done) | (simp [Act.eval, Act.put]; rw [← hpp]; split <;> rfl)
                · exact ID.out.below D2.out
                · exact HT.out.2
                · exact If.ifc_one _
                · unfold maxLen; omega
                · omega
                · have := D2.out.size; omega
                intro v3 W3 own grow
                have D3 := Lib.hid (show Below N9 wc W3 from below_gr0 hNs D2.out grow (own_row O2.out))
                have O3 := Lib.hid (show W3.ownsRow N9 36 5 v3 (j + 1 + (n - j)) ((If.ifc (l.take j)) ++ If.ifc [(x0, x1, x2, x3, x4)] ++ (If.ifc (l.drop j))) from own)
                have P3 := po_form O3.out
                obtain ⟨A3, c3, rfl⟩ := P3
                have mc3 := (MC.out.on (hNs ▸ D3.out)).c1; have mf3 := (MC.out.on (hNs ▸ D3.out)).frozen 1; have ml3 := (MC.out.on (hNs ▸ D3.out)).lt
                clear own grow
                refine hK.out _ _ (fun _ => SK _ D3.out) ?_
                clear hK K
                try simp only [Act.put, List.setIfInBounds_toArray, List.set_cons_zero, List.set_cons_succ]
                have hHeld := SK W3 D3.out
                refine anyL_take (i := 19) (v := ?_) [19, 20, 21] rfl (by kernel_rfl) (by kernel_rfl) (by kernel_rfl) (by kernel_rfl) (fun _ _ _ h => h) hHeld (Or.inl ⟨by rfl, ?_⟩) ?_
                rotate_left
                · (intro w hSw; (try dsimp only at hSw); go_simp <;> with_reducible rfl)
                try simp only [Act.put, List.setIfInBounds_toArray, List.set_cons_zero, List.set_cons_succ]
                refine anyL_take (i := 20) (v := ?_) [20, 21] rfl (by kernel_rfl) (by kernel_rfl) (by kernel_rfl) (by kernel_rfl) (fun _ _ _ h => h) hHeld (Or.inl ⟨by rfl, ?_⟩) ?_
                rotate_left
                · (intro w hSw; (try dsimp only at hSw); go_simp <;> with_reducible rfl)
                try simp only [Act.put, List.setIfInBounds_toArray, List.set_cons_zero, List.set_cons_succ]
                clear hHeld
                refine anyL_one (i := 21) (by kernel_rfl) ?_
                refine anyL_step rfl (fun K hK => ?_)
                go_simp
                refine hK.out _ _ (fun h => absurd rfl h) ?_
                clear hK K
                try simp only [Act.put, List.setIfInBounds_toArray, List.set_cons_zero, List.set_cons_succ]
                refine anyL_done (by kernel_rfl) ?_ _
                have RL := Lib.hid (rf_laid (l' := If.ins (x0, x1, x2, x3, x4) l) H0.out HNN.out (below_step B8.out (hNs ▸ D3.out)) (own_ins38 (hNs ▸ B8.out.size) HE.out (by omega) J.out O3.out))
                clear mc3 mf3 ml3
                go_wp2 <;> (go_ret; exact ⟨by rw [Q.out.1]; rfl, RL.out.1, by rw [Q.out.2]; exact RL.out.2⟩)
            case pb =>
              refine anyL_step rfl (fun K hK => ?_)
              go_simp
              refine hK.out _ _ (fun _ => SK _ (by repeat (first | exact Below.refl _ _ | exact D3.out | exact D2.out | exact D1.out | refine Below.drew ?_ | refine Below.alloc ?_ (by first | omega | (simp; done) | (simp; omega) | (have := D1.out.size; first | omega | (simp; omega))) _))) ?_
              clear hK K
              try simp only [Act.put, List.setIfInBounds_toArray, List.set_cons_zero, List.set_cons_succ]
              refine anyL_one (i := 1) (by kernel_rfl) ?_
              refine anyL_step rfl (fun K hK => ?_)
              go_simp
              refine hK.out _ _ (fun _ => SK _ (by repeat (first | exact Below.refl _ _ | exact D3.out | exact D2.out | exact D1.out | refine Below.drew ?_ | refine Below.alloc ?_ (by first | omega | (simp; done) | (simp; omega) | (have := D1.out.size; first | omega | (simp; omega))) _))) ?_
              clear hK K
              try simp only [Act.put, List.setIfInBounds_toArray, List.set_cons_zero, List.set_cons_succ]
              refine anyL_one (i := 8) (by kernel_rfl) ?_
              refine anyL_step rfl (fun K hK => ?_)
              refine step_append_lst rfl (.tmp 77) (.tmp 83) 46 rfl N9 36 i0 (.agg #[.int .i64 0, .int .i64 0, .int .i64 0, .int .i64 0, .string ⟨#[]⟩]) 5 48 Try.underlying46 hi hz0 hz1 hz2 rfl (by decide) (.slice (some ⟨(N9 + 1), 0, none⟩) 0 0) 0 [] ?_ ?_ N9 j (.slice (some ao) j c) (If.ifc (l.take j)) ?_ ?_ ?_ ?_ ?_ ?_ ?_ ?_
              · simp [Act.eval, Act.put]; done
              · exact own_second hNs
              · simp [Act.eval, Act.put]; done
              · exact IT.out.below (by repeat (first | exact Below.refl _ _ | exact D3.out | exact D2.out | exact D1.out | refine Below.drew ?_ | refine Below.alloc ?_ (by first | omega | (simp; done) | (simp; omega) | (have := D1.out.size; first | omega | (simp; omega))) _))
              · exact HT.out.1
              · exact If.ifc_one _
              · unfold maxLen; omega
              · omega
              · first | omega | (simp <;> omega)
              intro v1 W1 own grow
              have D1 := Lib.hid (show Below N9 wc W1 from below_gr0 hNs (by repeat (first | exact Below.refl _ _ | exact D3.out | exact D2.out | exact D1.out | refine Below.drew ?_ | refine Below.alloc ?_ (by first | omega | (simp; done) | (simp; omega) | (have := D1.out.size; first | omega | (simp; omega))) _)) grow (by intro g hg; have e : (N9 + 1) = g := Option.some.inj hg; omega))
              have O1 := Lib.hid (show W1.ownsRow N9 36 5 v1 j (If.ifc (l.take j)) by simpa using own)
              have X1 := Lib.hid (show Blk W1 N9 36 #[.int .i64 x0, .int .i64 x1, .int .i64 x2, .int .i64 x3, .string x4] from Blk.kept (by first | exact blk_new0 hNs _ | exact (blk_new0 hNs _).alloc _ | exact blk_new1 hNs _ _) grow (by intro h; have e : N9 = (N9 + 1) := Option.some.inj h; omega))
              have x0c := (PC.out.on (hNs ▸ D1.out)).c0; have x1c := (PC.out.on (hNs ▸ D1.out)).c1; have x2c := (PC.out.on (hNs ▸ D1.out)).c2; have x3c := (PC.out.on (hNs ▸ D1.out)).c3; have x4c := (PC.out.on (hNs ▸ D1.out)).c4
              clear own grow
              refine hK.out _ _ (fun _ => SK _ D1.out) ?_
              clear hK K
              try simp only [Act.put, List.setIfInBounds_toArray, List.set_cons_zero, List.set_cons_succ]
              refine anyL_one (i := 11) (by kernel_rfl) ?_
              refine anyL_step rfl (fun K hK => ?_)
              refine step_append_lst rfl (.tmp 84) (.tmp 86) 46 rfl N9 36 i0 (.agg #[.int .i64 0, .int .i64 0, .int .i64 0, .int .i64 0, .string ⟨#[]⟩]) 5 48 Try.underlying46 hi hz0 hz1 hz2 rfl (by decide) v1 j (If.ifc (l.take j)) ?_ ?_ (N9 + 1) 1 (.slice (some ⟨N9, 0, none⟩) 1 1) (If.ifc [(x0, x1, x2, x3, x4)]) ?_ ?_ ?_ ?_ ?_ ?_ ?_ ?_
              · simp [Act.eval, Act.put]; done
              · exact O1.out
              · simp [Act.eval, Act.put]; done
              · exact lst_one X1.out
              · rfl
              · exact If.ifc_one _
              · unfold maxLen; omega
              · omega
              · have := D1.out.size; first | omega | (simp <;> omega)
              intro v2 W2 own grow
              have D2 := Lib.hid (show Below N9 wc W2 from below_gr0 hNs (by first | exact D1.out | exact D1.out.alloc (hNs ▸ D1.out.size) _) grow (own_row O1.out))
              have O2 := Lib.hid (show W2.ownsRow N9 36 5 v2 (j + 1) ((If.ifc (l.take j)) ++ If.ifc [(x0, x1, x2, x3, x4)]) from own)
              clear own grow
              refine hK.out _ _ (fun _ => SK _ D2.out) ?_
              clear hK K
              try simp only [Act.put, List.setIfInBounds_toArray, List.set_cons_zero, List.set_cons_succ]
              refine anyL_one (i := 18) (by kernel_rfl) ?_
              refine anyL_step rfl (fun K hK => ?_)
              refine step_append_lst rfl (.tmp 87) (.tmp 93) 46 rfl N9 36 i0 (.agg #[.int .i64 0, .int .i64 0, .int .i64 0, .int .i64 0, .string ⟨#[]⟩]) 5 48 Try.underlying46 hi hz0 hz1 hz2 rfl (by decide) v2 (j + 1) ((If.ifc (l.take j)) ++ If.ifc [(x0, x1, x2, x3, x4)]) ?_ ?_ N9 (n - j) (.slice (some pp) (n - j) (c - j)) (If.ifc (l.drop j)) ?_ ?_ ?_ ?_ ?_ ?_ ?_ ?_
              · simp [Act.eval, Act.put]; done
              · exact O2.out
              · first | (simp [Act.eval, Act.put]; done) | (simp [Act.eval, Act.put]; rw [← hpp]; split <;> rfl)
              · exact ID.out.below D2.out
              · exact HT.out.2
              · exact If.ifc_one _
              · unfold maxLen; omega
              · omega
              · have := D2.out.size; omega
              intro v3 W3 own grow
              have D3 := Lib.hid (show Below N9 wc W3 from below_gr0 hNs D2.out grow (own_row O2.out))
              have O3 := Lib.hid (show W3.ownsRow N9 36 5 v3 (j + 1 + (n - j)) ((If.ifc (l.take j)) ++ If.ifc [(x0, x1, x2, x3, x4)] ++ (If.ifc (l.drop j))) from own)
              have P3 := po_form O3.out
              obtain ⟨A3, c3, rfl⟩ := P3
              have mc3 := (MC.out.on (hNs ▸ D3.out)).c1; have mf3 := (MC.out.on (hNs ▸ D3.out)).frozen 1; have ml3 := (MC.out.on (hNs ▸ D3.out)).lt
              clear own grow
              refine hK.out _ _ (fun _ => SK _ D3.out) ?_
              clear hK K
              try simp only [Act.put, List.setIfInBounds_toArray, List.set_cons_zero, List.set_cons_succ]
              have hHeld := SK W3 D3.out
              refine anyL_take (i := 19) (v := ?_) [19, 20, 21] rfl (by kernel_rfl) (by kernel_rfl) (by kernel_rfl) (by kernel_rfl) (fun _ _ _ h => h) hHeld (Or.inl ⟨by rfl, ?_⟩) ?_
              rotate_left
              · (intro w hSw; (try dsimp only at hSw); go_simp <;> with_reducible rfl)
              try simp only [Act.put, List.setIfInBounds_toArray, List.set_cons_zero, List.set_cons_succ]
              refine anyL_take (i := 20) (v := ?_) [20, 21] rfl (by kernel_rfl) (by kernel_rfl) (by kernel_rfl) (by kernel_rfl) (fun _ _ _ h => h) hHeld (Or.inl ⟨by rfl, ?_⟩) ?_
              rotate_left
              · (intro w hSw; (try dsimp only at hSw); go_simp <;> with_reducible rfl)
              try simp only [Act.put, List.setIfInBounds_toArray, List.set_cons_zero, List.set_cons_succ]
              clear hHeld
              refine anyL_one (i := 21) (by kernel_rfl) ?_
              refine anyL_step rfl (fun K hK => ?_)
              go_simp
              refine hK.out _ _ (fun h => absurd rfl h) ?_
              clear hK K
              try simp only [Act.put, List.setIfInBounds_toArray, List.set_cons_zero, List.set_cons_succ]
              refine anyL_done (by kernel_rfl) ?_ _
              have RL := Lib.hid (rf_laid (l' := If.ins (x0, x1, x2, x3, x4) l) H0.out HNN.out (below_step B8.out (hNs ▸ D3.out)) (own_ins38 (hNs ▸ B8.out.size) HE.out (by omega) J.out O3.out))
              clear mc3 mf3 ml3
              go_wp2 <;> (go_ret; exact ⟨by rw [Q.out.1]; rfl, RL.out.1, by rw [Q.out.2]; exact RL.out.2⟩)
end Go.Proofs.Ytmnmmbeageddkaa
