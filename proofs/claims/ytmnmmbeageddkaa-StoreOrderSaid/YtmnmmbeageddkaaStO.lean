/- Stores: StoreOrder's walk. -/
import Derived.Test.YtmnmmbeageddkaaStL
import Derived.Test.YtmnmmbeageddkaaStP
import Derived.Test.YtmnmmbeageddkaaIfO
import Derived.Test.YtmnmmbeageddkaaIfR
import Derived.Deep.CutRange
set_option linter.unusedVariables false
set_option linter.unusedSimpArgs false
namespace Go.Proofs.Ytmnmmbeageddkaa
open Go.RowKit Go.Sort Go.Shelf

theorem put_w {W : World} {N p : Nat} {room : Int} {l : List If.I} (h : StW W N p room l) (hk : Sk.Kept l) (hn : l.length ≤ 90000) (hN : N ≤ W.heap.size) (x : If.I) :
    Calls Try.prog 11 #[.pointer (some ⟨p, 0, none⟩), IV x] W fun e w' => e = .returned (.int .i64 (Sk.put room x l).1) ∧ StW w' N p room (Sk.put room x l).2 ∧ Below N W w' ∧ (∀ b vs, Blk W b 36 vs → Blk w' b 36 vs) := by
  obtain ⟨V, qs, hm⟩ := h
  obtain ⟨x0, x1, x2, x3, x4⟩ := x
  refine (st_put hm hk hn hN x0 x1 x2 x3 x4).mono ?_
  rintro e w' ⟨rfl, f, V', qs', hm'⟩
  exact ⟨rfl, ⟨V', qs', hm'⟩, f.below hm.base (own_row hm.row) hN, fun b vs k => f.info hm k⟩
theorem find_w {W : World} {N p : Nat} {room : Int} {l : List If.I} (t : Int) (h : StW W N p room l) (hk : Sk.Kept l) (hl : l.length ≤ 90000) :
    Calls Try.prog 15 #[.pointer (some ⟨p, 0, none⟩), .int .i64 t] W fun e w' => e = .returned (.tuple #[IV (Sk.fnd t l), .bool (Sk.has t l)]) ∧ Below W.heap.size W w' := by
  obtain ⟨V, qs, h⟩ := h
  exact st_find h hk (by omega) t
theorem near_w {W : World} {N p : Nat} {room : Int} {l : List If.I} (t : Int) (h : StW W N p room l) (hk : Sk.Kept l) (hl : l.length ≤ 90000) :
    Calls Try.prog 17 #[.pointer (some ⟨p, 0, none⟩), .int .i64 t] W fun e w' => e = .returned (.tuple #[IV (Sk.nearA t l).1, IV (Sk.nearB t l).1, .bool (Sk.nearA t l).2, .bool (Sk.nearB t l).2]) ∧ Below W.heap.size W w' := by
  obtain ⟨V, qs, h⟩ := h
  exact st_near h hk hl t
theorem len_w {W : World} {N p : Nat} {room : Int} {l : List If.I} (h : StW W N p room l) :
    Calls Try.prog 19 #[.pointer (some ⟨p, 0, none⟩)] W fun e w' => e = .returned (.int .i64 l.length) ∧ Below W.heap.size W w' := by
  obtain ⟨V, qs, h⟩ := h
  exact st_len h
theorem list_w {W : World} {N p : Nat} {room : Int} {l : List If.I} (h : StW W N p room l) (hl : l.length ≤ 90000) :
    Calls Try.prog 21 #[.pointer (some ⟨p, 0, none⟩)] W fun e w' => (∃ (A : Option Addr) (c : Nat), e = .returned (.slice A l.length c) ∧ ∀ W', (∀ b vs, Blk w' b 36 vs → Blk W' b 36 vs) → InV W' (.slice A l.length c) l) ∧ Below W.heap.size W w' := by
  obtain ⟨V, qs, h⟩ := h
  refine (st_list h (by omega)).mono ?_
  rintro e w' ⟨v, rfl, own, hb⟩
  refine ⟨?_, hb⟩
  rcases own.2 with ⟨rfl, e0⟩ | ⟨g, cap, cur, rfl, _, hg, hnc, hcm, hcs, ht⟩
  · rw [e0]
    have : l = [] := List.eq_nil_of_length_eq_zero e0
    subst this
    exact ⟨none, 0, rfl, fun W' _ => InV.nil _⟩
  · exact ⟨_, cap, rfl, fun W' hW => InV.own (base := 0) (e := 36) ⟨own.1, .inr ⟨g, cap, cur, rfl, Nat.zero_le _, hW g cur hg, hnc, hcm, hcs, ht⟩⟩⟩
/-- What the walk keeps: the arguments, the store, what is kept. -/
def EO (w W : World) (p : Nat) (room : Int) (va : Value) (a l : List If.I) : Prop := Below w.heap.size w W ∧ InV W va a ∧ StW W w.heap.size p room l
theorem EO.on {w W W' : World} {p : Nat} {room : Int} {va : Value} {a l : List If.I} (h : EO w W p room va a l) (k : Below W.heap.size W W') : EO w W' p room va a l := ⟨below_step h.1 k, h.2.1.on k, h.2.2.on k⟩
theorem bnO (W : World) (o : Obj) : Below W.heap.size W (W.alloc o) := (Below.refl _ _).alloc (Nat.le_refl _) _
set_option maxRecDepth 100000 in
set_option maxHeartbeats 16000000 in
theorem store_order (room : Int) (va : Value) (a : List If.I) (t : Int) (w : World) (h : InV w va a) (hz : ∀ x ∈ a, If.Bd x) :
    Calls Try.prog 4 #[.int .i64 room, va, .int .i64 t] w fun e w' => e = .returned (.bool true) ∧ Below w.heap.size w w' := by
  obtain ⟨A, c, rfl, -⟩ := id h
  have H := Lib.hid h
  have HZ := Lib.hid hz
  clear h hz
  go_enter Try.func4, Try.ntmps4
  go_wp2_with fail
  refine (lives38 _).mono ?_
  rintro e w1 ⟨rfl, b1⟩
  have B1 := Lib.hid b1
  clear b1
  go_wp2_with fail
  refine (st_new room _ w.heap.size B1.out.size).mono ?_
  rintro e w2 ⟨b2, ⟨_, rfl⟩ | ⟨_, p, rfl, m2⟩⟩
  · have B2 := Lib.hid (below_step B1.out b2)
    by_cases ha : (60 : Int) < a.length
    · go_wp2
      go_ret
      exact ⟨rfl, B2.out⟩
    · go_wp2
      go_ret
      exact ⟨rfl, B2.out⟩
  have B2 := Lib.hid (below_step B1.out b2); have M2 := Lib.hid (show StW w2 w.heap.size p room [] from ⟨_, _, m2⟩)
  clear b2 B1 m2
  by_cases ha : (60 : Int) < a.length
  · go_wp2
    go_ret
    exact ⟨rfl, B2.out⟩
  obtain ⟨n, hn⟩ : ∃ n, a.length = n := ⟨_, rfl⟩
  rw [hn] at H ha ⊢
  have HN := Lib.hid hn
  have n60 := Lib.hid (show n ≤ 60 by omega)
  clear hn
  have E2 := Lib.hid (show EO w w2 p room (.slice A n c) a [] from ⟨B2.out, H.out.on B2.out, M2.out⟩)
  clear B2 M2
  go_wp2_with fail
  go_loopw [9, 64] (fun u i wr => ∃ (k : Nat) (L : List If.I), k ≤ n ∧ i = .int .i64 k ∧ u = .int .i64 L.length ∧ Hid (EO w wr p room (.slice A n c) a L) ∧ Hid (Sk.Kept L) ∧ Hid (L.length ≤ k) ∧ Hid (∀ x ∈ L, x ∈ a)) (fun _ i _ => n - (intOf i).toNat)
  case atStart => exact ⟨0, [], Nat.zero_le _, rfl, rfl, E2, Lib.hid kept0, Lib.hid (Nat.le_refl _), Lib.hid (fun x hx => by cases hx)⟩
  case round =>
    rename World => w3
    obtain ⟨k, L, hk, rfl, rfl, E3, K3, LL, LM⟩ := hrel
    by_cases hlt : k < n
    · have hkl : k < a.length := by rw [HN.out]; exact hlt
      obtain ⟨ad, rfl, hab, g1, g2, g3, g4, g5⟩ := E3.out.2.1.get k hkl
      have XM := Lib.hid (List.getElem_mem hkl)
      generalize a[k] = x at *
      obtain ⟨x0, x1, x2, x3, x4⟩ := x
      dsimp only at g1 g2 g3 g4 g5
      have XB := Lib.hid (HZ.out _ XM.out)
      have i1 : (k : Int) < n := by omega
      have l60 : L.length ≤ 60 := by have := LL.out; have := n60.out; omega
      go_upto_region 10 with (fail)
      have X4 := Lib.hid (Blk.new w3 36 #[.int .i64 x0, .int .i64 x1, .int .i64 x2, .int .i64 x3, .string x4])
      have E4 := Lib.hid (E3.out.on (bnO w3 (.cells #[.int .i64 x0, .int .i64 x1, .int .i64 x2, .int .i64 x3, .string x4] 36)))
      clear E3 g1 g2 g3 g4 g5 hab
      generalize w3.alloc (.cells #[.int .i64 x0, .int .i64 x1, .int .i64 x2, .int .i64 x3, .string x4] 36) = w4 at *
      generalize w3.heap.size = gi at *
      go_wp2_with fail
      refine (list_w E4.out.2.2 (by omega)).mono ?_
      rintro e w5 ⟨⟨AL, cL, rfl, hI⟩, b5⟩
      have E5 := Lib.hid (E4.out.on b5); have X5 := Lib.hid (X4.out.on b5); have LI := Lib.hid hI
      clear b5 E4 X4 hI
      have c0 := X5.out.c0; have c1 := X5.out.c1; have c2 := X5.out.c2; have c3 := X5.out.c3; have c4 := X5.out.c4
      go_wp2_with fail
      refine (put_w E5.out.2.2 K3.out (by omega) E5.out.1.size (x0, x1, x2, x3, x4)).mono ?_
      rintro e w6 ⟨rfl, m6, b6, k6⟩
      obtain ⟨pk, pold, pnew, pq⟩ := Sk.put_all room (x0, x1, x2, x3, x4) L K3.out
      obtain ⟨⟨q, M⟩, hq⟩ : ∃ r, Sk.put room (x0, x1, x2, x3, x4) L = r := ⟨_, rfl⟩
      rw [hq] at pk pold pnew pq m6 ⊢
      dsimp only at pk pold pnew pq m6 ⊢
      have E6 := Lib.hid (show EO w w6 p room (.slice (some ad) n c) a M from ⟨E5.out.1.trans b6, H.out.on (E5.out.1.trans b6), m6⟩)
      have X6 := Lib.hid (k6 _ _ X5.out); have I6 := Lib.hid (LI.out w6 k6)
      have PK := Lib.hid pk; have PO := Lib.hid pold; have PN := Lib.hid pnew; have PQ := Lib.hid pq
      clear hq pk pold pnew pq m6 b6 k6 E5 X5 LI c0 c1 c2 c3 c4
      go_upto_if 73 with fail
      go_cut [9] from 73 to 75 (fun u wx => u = .int .i64 M.length ∧ wx = w6)
      case first =>
        rcases PQ.out with ⟨hq, hm⟩ | ⟨hq, hm⟩
        · subst hq
          have hm2 : (M.length : Int) = (L.length : Int) + 1 := by omega
          go_wp2
          go_meet
          case rel => exact ⟨by first | (rw [hm2]; done) | (rw [hm2]; go_num), rfl⟩
        · have hq2 : (q == 0) = false := by rw [beq_eq_false_iff_ne]; exact hq
          go_wp2
          go_meet
          case rel => exact ⟨by rw [hm], rfl⟩
      case rest =>
        obtain ⟨rfl, rfl⟩ := hcut
        have hle : L.length ≤ M.length := by rcases PQ.out with ⟨_, hm⟩ | ⟨_, hm⟩ <;> omega
        have hle2 : ¬ ((M.length : Int) < L.length) := by omega
        have m61 : M.length ≤ 61 := by rcases PQ.out with ⟨_, hm⟩ | ⟨_, hm⟩ <;> omega
        have hMk := Lib.hid (show M.length ≤ k + 1 by have := LL.out; rcases PQ.out with ⟨_, hm⟩ | ⟨_, hm⟩ <;> omega)
        go_wp2_with fail
        refine (len_w E6.out.2.2).mono ?_
        rintro e w7 ⟨rfl, b7⟩
        have E7 := Lib.hid (E6.out.on b7); have X7 := Lib.hid (X6.out.on b7); have I7 := Lib.hid (I6.out.on b7)
        clear b7 E6 X6 I6
        go_wp2_with fail
        refine (len_w E7.out.2.2).mono ?_
        rintro e w8 ⟨rfl, b8⟩
        have E8 := Lib.hid (E7.out.on b8); have X8 := Lib.hid (X7.out.on b8); have I8 := Lib.hid (I7.out.on b8)
        clear b8 E7 X7 I7
        have c0 := X8.out.c0
        go_wp2_with fail
        refine (find_w x0 E8.out.2.2 PK.out (by omega)).mono ?_
        rintro e w9 ⟨rfl, b9⟩
        have E9 := Lib.hid (E8.out.on b9); have X9 := Lib.hid (X8.out.on b9); have I9 := Lib.hid (I8.out.on b9)
        clear b9 E8 X8 I8 c0
        obtain ⟨is, his⟩ : ∃ b, Sk.has x0 M = b := ⟨_, rfl⟩
        obtain ⟨⟨y0, y1, y2, y3, y4⟩, hy⟩ : ∃ y, Sk.fnd x0 M = y := ⟨_, rfl⟩
        rw [his, hy]
        have HI := Lib.hid his; have HY := Lib.hid hy
        clear his hy
        go_upto_region 16 with (fail)
        have Y10 := Lib.hid (Blk.new w9 36 #[.int .i64 y0, .int .i64 y1, .int .i64 y2, .int .i64 y3, .string y4])
        have bq := bnO w9 (.cells #[.int .i64 y0, .int .i64 y1, .int .i64 y2, .int .i64 y3, .string y4] 36)
        have E10 := Lib.hid (E9.out.on bq); have X10 := Lib.hid (X9.out.on bq); have I10 := Lib.hid (I9.out.on bq)
        clear bq E9 X9 I9
        generalize w9.alloc (.cells #[.int .i64 y0, .int .i64 y1, .int .i64 y2, .int .i64 y3, .string y4] 36) = w10 at *
        generalize w9.heap.size = gy at *
        have c1 := X10.out.c1
        go_wp2_with fail
        refine (find_w _ E10.out.2.2 PK.out (by omega)).mono ?_
        rintro e w11 ⟨rfl, b11⟩
        have E11 := Lib.hid (E10.out.on b11); have X11 := Lib.hid (X10.out.on b11); have I11 := Lib.hid (I10.out.on b11); have Y11 := Lib.hid (Y10.out.on b11)
        clear b11 E10 X10 I10 Y10 c1
        obtain ⟨al, hal⟩ : ∃ b, Sk.has (wrap64 (x1 - 1)) M = b := ⟨_, rfl⟩
        obtain ⟨⟨z0, z1, z2, z3, z4⟩, hzz⟩ : ∃ y, Sk.fnd (wrap64 (x1 - 1)) M = y := ⟨_, rfl⟩
        rw [hal, hzz]
        have HAL := Lib.hid hal; have HZZ := Lib.hid hzz
        clear hal hzz
        go_upto_region 17 with (fail)
        have Z12 := Lib.hid (Blk.new w11 36 #[.int .i64 z0, .int .i64 z1, .int .i64 z2, .int .i64 z3, .string z4])
        have bq := bnO w11 (.cells #[.int .i64 z0, .int .i64 z1, .int .i64 z2, .int .i64 z3, .string z4] 36)
        have E12 := Lib.hid (E11.out.on bq); have X12 := Lib.hid (X11.out.on bq); have I12 := Lib.hid (I11.out.on bq); have Y12 := Lib.hid (Y11.out.on bq)
        clear bq E11 X11 I11 Y11
        generalize w11.alloc (.cells #[.int .i64 z0, .int .i64 z1, .int .i64 z2, .int .i64 z3, .string z4] 36) = w12 at *
        generalize w11.heap.size = gz at *
        go_cut [118] from 104 to 118 (fun b wx => b = .bool false ∧ wx = w12)
        case first =>
          cases is
          · go_wp2
            go_meet
            case rel => exact ⟨rfl, rfl⟩
          · have c0 := X12.out.c0; have c1 := X12.out.c1; have c2 := X12.out.c2; have c3 := X12.out.c3; have c4 := X12.out.c4
            have e0 := Y12.out.c0; have e1 := Y12.out.c1; have e2 := Y12.out.c2; have e3 := Y12.out.c3; have e4 := Y12.out.c4
            have d0 := Z12.out.c0; have d1 := Z12.out.c1; have d2 := Z12.out.c2; have d3 := Z12.out.c3; have d4 := Z12.out.c4
            by_cases he : ((y0, y1, y2, y3, y4) : If.I) = (x0, x1, x2, x3, x4)
            · obtain ⟨f1, f2⟩ := Sk.fnd_in HI.out
              rw [HY.out, he] at f1 f2
              have hx01 : x0 < x1 := PK.out.1 _ f1
              have hb := XB.out
              have ew : wrap64 (x1 - 1) = x1 - 1 := by
                have h1 := hb.1; have h2 := hb.2.1
                dsimp only at h1 h2
                unfold wrap64; omega
              obtain ⟨f3, f4⟩ := Sk.at_mem (t := x1 - 1) PK.out f1 (by simp [Sp.hs]; omega)
              have e1 := HAL.out; have e2 := HZZ.out
              rw [ew, f3] at e1
              rw [ew, f4] at e2
              subst e1
              simp only [Prod.mk.injEq] at he e2
              obtain ⟨rfl, rfl, rfl, rfl, rfl⟩ := he
              obtain ⟨rfl, rfl, rfl, rfl, rfl⟩ := e2
              clear f1 f2 f3 f4 ew hb
              go_wp2
              go_meet
              case rel => exact ⟨rfl, rfl⟩
            · have NE := Lib.hid he
              clear he
              by_cases h0 : y0 = x0
              · subst h0
                by_cases h1 : y1 = x1
                · subst h1
                  by_cases h2 : y2 = x2
                  · subst h2
                    by_cases h3 : y3 = x3
                    · subst h3
                      have n2 := str_ne38 (fun e => NE.out (by rw [e]) : ¬ y4 = x4)
                      have n1 := str_ne (fun e => NE.out (by rw [e]) : ¬ y4 = x4)
                      go_wp2
                      go_meet
                      case rel => exact ⟨rfl, rfl⟩
                    · have n2 : (y3 == x3) = false := by rw [beq_eq_false_iff_ne]; exact h3
                      go_wp2
                      go_meet
                      case rel => exact ⟨rfl, rfl⟩
                  · have n2 : (y2 == x2) = false := by rw [beq_eq_false_iff_ne]; exact h2
                    go_wp2
                    go_meet
                    case rel => exact ⟨rfl, rfl⟩
                · have n2 : (y1 == x1) = false := by rw [beq_eq_false_iff_ne]; exact h1
                  go_wp2
                  go_meet
                  case rel => exact ⟨rfl, rfl⟩
              · have n2 : (y0 == x0) = false := by rw [beq_eq_false_iff_ne]; exact h0
                go_wp2
                go_meet
                case rel => exact ⟨rfl, rfl⟩
        case rest =>
          obtain ⟨rfl, rfl⟩ := hcut
          clear X12 Y12 Z12 HI HY HAL HZZ
          go_wp2_with fail
          go_loopw [121] (fun i wr => ∃ (j : Nat), j ≤ L.length ∧ i = .int .i64 j ∧ Hid (Below wc.heap.size wc wr)) (fun i _ => L.length - (intOf i).toNat)
          case atStart => exact ⟨0, Nat.zero_le _, rfl, Lib.hid (Below.refl _ _)⟩
          case round =>
            rename World => w13
            obtain ⟨j, hj, rfl, D⟩ := hrel
            have E13 := Lib.hid (E12.out.on D.out)
            by_cases hjl : j < L.length
            · obtain ⟨al2, rfl, hab2, g1, g2, g3, g4, g5⟩ := (I12.out.on D.out).get j hjl
              have ZM := Lib.hid (PO.out _ (List.getElem_mem hjl))
              generalize L[j] = z at *
              obtain ⟨z0, z1, z2, z3, z4⟩ := z
              dsimp only at g1 g2 g3 g4 g5
              have i3 : (j : Int) < L.length := by omega
              have j60 : j ≤ 60 := by omega
              go_upto_region 22 with (fail)
              have Z14 := Lib.hid (Blk.new w13 36 #[.int .i64 z0, .int .i64 z1, .int .i64 z2, .int .i64 z3, .string z4])
              have bq := bnO w13 (.cells #[.int .i64 z0, .int .i64 z1, .int .i64 z2, .int .i64 z3, .string z4] 36)
              have E14 := Lib.hid (E13.out.on bq); have D14 := Lib.hid (below_step D.out bq)
              clear bq E13 D g1 g2 g3 g4 g5 hab2
              generalize w13.alloc (.cells #[.int .i64 z0, .int .i64 z1, .int .i64 z2, .int .i64 z3, .string z4] 36) = w14 at *
              generalize w13.heap.size = gz2 at *
              have c0 := Z14.out.c0
              go_wp2_with fail
              refine (find_w z0 E14.out.2.2 PK.out (by omega)).mono ?_
              have hz01 : z0 < z1 := PK.out.1 _ ZM.out
              obtain ⟨f3, f4⟩ := Sk.at_mem (t := z0) PK.out ZM.out (by simp [Sp.hs]; omega)
              rw [f3, f4]
              clear f3 f4 hz01
              rintro e w15 ⟨rfl, b15⟩
              have E15 := Lib.hid (E14.out.on b15); have D15 := Lib.hid (below_step D14.out b15); have Z15 := Lib.hid (Z14.out.on b15)
              clear b15 E14 D14 Z14 c0
              go_upto_region 23 with (fail)
              have V16 := Lib.hid (Blk.new w15 36 #[.int .i64 z0, .int .i64 z1, .int .i64 z2, .int .i64 z3, .string z4])
              have bq := bnO w15 (.cells #[.int .i64 z0, .int .i64 z1, .int .i64 z2, .int .i64 z3, .string z4] 36)
              have D16 := Lib.hid (below_step D15.out bq); have Z16 := Lib.hid (Z15.out.on bq)
              clear bq E15 D15 Z15
              generalize w15.alloc (.cells #[.int .i64 z0, .int .i64 z1, .int .i64 z2, .int .i64 z3, .string z4] 36) = w16 at *
              generalize w15.heap.size = gv at *
              have c0 := Z16.out.c0; have c1 := Z16.out.c1; have c2 := Z16.out.c2; have c3 := Z16.out.c3; have c4 := Z16.out.c4
              have e0 := V16.out.c0; have e1 := V16.out.c1; have e2 := V16.out.c2; have e3 := V16.out.c3; have e4 := V16.out.c4
              go_wp2
              go_roundw
              case rel => exact ⟨j + 1, by omega, by go_num, D16⟩
              case measure => simp [intOf]; omega
            · have i3 : ¬ (j : Int) < L.length := by omega
              have k60 : k ≤ 60 := by have := n60.out; omega
              go_wp2
              go_roundw
              case rel => exact ⟨k + 1, M, by omega, by go_num, rfl, E13, PK, hMk, Lib.hid (fun y hy => (PN.out y hy).elim (fun e => by rw [e]; exact XM.out) (fun h => LM.out y h))⟩
              case measure => simp [intOf]; omega
    · have E := E3
      have l60 : L.length ≤ 60 := by have := LL.out; have := n60.out; omega
      go_wp2_with fail
      refine (list_w E3.out.2.2 (by omega)).mono ?_
      rintro e w4 ⟨⟨AL, cL, rfl, hI⟩, b4⟩
      have E4 := Lib.hid (E3.out.on b4); have I4 := Lib.hid (hI w4 (fun b vs h => h))
      clear b4 E3 hI E
      go_wp2_with fail
      go_loopw [146] (fun i wr => ∃ (j : Nat), j ≤ L.length ∧ i = .int .i64 j ∧ Hid (Below w4.heap.size w4 wr)) (fun i _ => L.length - (intOf i).toNat)
      case atStart => exact ⟨0, Nat.zero_le _, rfl, Lib.hid (Below.refl _ _)⟩
      case round =>
        rename World => w5
        obtain ⟨j, hj, rfl, D⟩ := hrel
        have E5 := Lib.hid (E4.out.on D.out)
        by_cases hjl : j < L.length
        · obtain ⟨al2, rfl, hab2, g1, g2, g3, g4, g5⟩ := (I4.out.on D.out).get j hjl
          have YM := Lib.hid (LM.out _ (List.getElem_mem hjl))
          have AH := Lib.hid (show ∀ h : 0 < j, L[j - 1].2.1 ≤ L[j].1 from fun h => Sk.pair_at K3.out (j - 1) j (by omega) hjl (by omega))
          generalize L[j] = y at *
          obtain ⟨y0, y1, y2, y3, y4⟩ := y
          dsimp only at g1 g2 g3 g4 g5
          have i3 : (j : Int) < L.length := by omega
          have j60 : j ≤ 60 := by omega
          go_upto_region 31 with (fail)
          have Y6 := Lib.hid (Blk.new w5 36 #[.int .i64 y0, .int .i64 y1, .int .i64 y2, .int .i64 y3, .string y4])
          have bq := bnO w5 (.cells #[.int .i64 y0, .int .i64 y1, .int .i64 y2, .int .i64 y3, .string y4] 36)
          have E6 := Lib.hid (E5.out.on bq); have D6 := Lib.hid (below_step D.out bq)
          clear bq E5 D g1 g2 g3 g4 g5 hab2
          generalize w5.alloc (.cells #[.int .i64 y0, .int .i64 y1, .int .i64 y2, .int .i64 y3, .string y4] 36) = w6 at *
          generalize w5.heap.size = gy at *
          go_cut [165] from 151 to 165 (fun b wx => b = .bool false ∧ ∃ q, wx = w6.drewN q)
          case first =>
            have c0 := Y6.out.c0
            by_cases h0 : 0 < j
            · obtain ⟨ao, eo, -, -, o2, -⟩ := (I4.out.on D6.out).get (j - 1) (by omega)
              cases eo
              have hle := AH.out h0
              generalize L[j - 1].2.1 = v0 at *
              have hle2 : ¬ (y0 < v0) := by have : v0 ≤ y0 := hle; omega
              have i4 : (0 : Int) < j := by omega
              have j1 : ((j : Int) - 1).toNat = j - 1 := by omega
              have j2 : (0 : Int) ≤ (j : Int) - 1 := by omega
              have j3 : (j : Int) - 1 < L.length := by omega
              have i5 : decide (0 < j) = true := decide_eq_true h0
              have i6 : decide (y0 < v0) = false := decide_eq_false hle2
              go_quiet (fail)
              go_wp2
              go_meet
              case rel => exact ⟨rfl, _, rfl⟩
            · have i4 : ¬ (0 : Int) < j := by omega
              have i5 : decide (0 < j) = false := decide_eq_false h0
              go_quiet (fail)
              go_wp2
              go_meet
              case rel => exact ⟨rfl, _, rfl⟩
          case rest =>
            obtain ⟨rfl, q, hw⟩ := hcut
            have bq : Below w6.heap.size w6 wc := by rw [hw]; exact below_draw _ _
            have E7 := Lib.hid (E6.out.on bq); have D7 := Lib.hid (below_step D6.out bq); have Y7 := Lib.hid (Y6.out.on bq)
            clear bq hw E6 D6 Y6
            go_wp2_with fail
            go_loopw [24, 168] (fun b i wr => ∃ (q : Nat), q ≤ n ∧ i = .int .i64 q ∧ b = .bool (If.isin (y0, y1, y2, y3, y4) (a.take q)) ∧ Hid (Below wc.heap.size wc wr)) (fun _ i _ => n - (intOf i).toNat)
            case atStart => exact ⟨0, Nat.zero_le _, rfl, rfl, Lib.hid (Below.refl _ _)⟩
            case round =>
              rename World => w8
              obtain ⟨q, hq, rfl, rfl, F⟩ := hrel
              have E8 := Lib.hid (E7.out.on F.out)
              by_cases hqn : q < n
              · have hqa : q < a.length := by rw [HN.out]; exact hqn
                obtain ⟨ad, rfl, hab3, g1, g2, g3, g4, g5⟩ := E8.out.2.1.get q hqa
                have TK := Lib.hid (show If.isin (y0, y1, y2, y3, y4) (a.take (q + 1)) = (If.isin (y0, y1, y2, y3, y4) (a.take q) || decide (((y0, y1, y2, y3, y4) : If.I) = a[q])) by
                  unfold If.isin; rw [List.take_succ_eq_append_getElem hqa, List.any_append]; simp)
                generalize a[q] = x at *
                obtain ⟨x0, x1, x2, x3, x4⟩ := x
                dsimp only at g1 g2 g3 g4 g5
                have i6 : (q : Int) < n := by omega
                have q60 : q ≤ 60 := by have := n60.out; omega
                go_upto_region 37 with (fail)
                have X9 := Lib.hid (Blk.new w8 36 #[.int .i64 x0, .int .i64 x1, .int .i64 x2, .int .i64 x3, .string x4])
                have bq := bnO w8 (.cells #[.int .i64 x0, .int .i64 x1, .int .i64 x2, .int .i64 x3, .string x4] 36)
                have F9 := Lib.hid (below_step F.out bq)
                have Y9 := Lib.hid (Y7.out.on F9.out)
                clear bq E8 F g1 g2 g3 g4 g5 hab3
                generalize w8.alloc (.cells #[.int .i64 x0, .int .i64 x1, .int .i64 x2, .int .i64 x3, .string x4] 36) = w9 at *
                generalize w8.heap.size = gx at *
                have c0 := X9.out.c0; have c1 := X9.out.c1; have c2 := X9.out.c2; have c3 := X9.out.c3; have c4 := X9.out.c4
                have e0 := Y9.out.c0; have e1 := Y9.out.c1; have e2 := Y9.out.c2; have e3 := Y9.out.c3; have e4 := Y9.out.c4
                rcases hr1 : If.isin (y0, y1, y2, y3, y4) (a.take q) with _ | _
                · by_cases he : ((x0, x1, x2, x3, x4) : If.I) = (y0, y1, y2, y3, y4)
                  · have T2 := Lib.hid (show If.isin (y0, y1, y2, y3, y4) (a.take (q + 1)) = true by rw [TK.out, hr1, Bool.false_or]; exact decide_eq_true he.symm)
                    clear hr1 TK
                    simp only [Prod.mk.injEq] at he
                    obtain ⟨rfl, rfl, rfl, rfl, rfl⟩ := he
                    go_wp2
                    go_roundw
                    case rel => exact ⟨q + 1, by omega, by go_num, by rw [T2.out], F9⟩
                    case measure => simp [intOf]; omega
                  · have T2 := Lib.hid (show If.isin (y0, y1, y2, y3, y4) (a.take (q + 1)) = false by rw [TK.out, hr1, Bool.false_or]; exact decide_eq_false (fun e => he e.symm))
                    have NE := Lib.hid he
                    clear he hr1 TK
                    by_cases h0 : x0 = y0
                    · subst h0
                      by_cases h1 : x1 = y1
                      · subst h1
                        by_cases h2 : x2 = y2
                        · subst h2
                          by_cases h3 : x3 = y3
                          · subst h3
                            have n2 := str_ne38 (fun e => NE.out (by rw [e]) : ¬ x4 = y4)
                            have n1 := str_ne (fun e => NE.out (by rw [e]) : ¬ x4 = y4)
                            go_wp2
                            go_roundw
                            case rel => exact ⟨q + 1, by omega, by go_num, by rw [T2.out], F9⟩
                            case measure => simp [intOf]; omega
                          · have n2 : (x3 == y3) = false := by rw [beq_eq_false_iff_ne]; exact h3
                            go_wp2
                            go_roundw
                            case rel => exact ⟨q + 1, by omega, by go_num, by rw [T2.out], F9⟩
                            case measure => simp [intOf]; omega
                        · have n2 : (x2 == y2) = false := by rw [beq_eq_false_iff_ne]; exact h2
                          go_wp2
                          go_roundw
                          case rel => exact ⟨q + 1, by omega, by go_num, by rw [T2.out], F9⟩
                          case measure => simp [intOf]; omega
                      · have n2 : (x1 == y1) = false := by rw [beq_eq_false_iff_ne]; exact h1
                        go_wp2
                        go_roundw
                        case rel => exact ⟨q + 1, by omega, by go_num, by rw [T2.out], F9⟩
                        case measure => simp [intOf]; omega
                    · have n2 : (x0 == y0) = false := by rw [beq_eq_false_iff_ne]; exact h0
                      go_wp2
                      go_roundw
                      case rel => exact ⟨q + 1, by omega, by go_num, by rw [T2.out], F9⟩
                      case measure => simp [intOf]; omega
                · have T2 := Lib.hid (show If.isin (y0, y1, y2, y3, y4) (a.take (q + 1)) = true by rw [TK.out, hr1]; rfl)
                  clear hr1 TK
                  go_wp2
                  go_roundw
                  case rel => exact ⟨q + 1, by omega, by go_num, by rw [T2.out], F9⟩
                  case measure => simp [intOf]; omega
              · have hall : If.isin (y0, y1, y2, y3, y4) (a.take q) = true := by
                  rw [List.take_of_length_le (by rw [HN.out]; omega), If.isin_iff]; exact YM.out
                rw [hall]
                have D9 := Lib.hid (below_step D7.out F.out)
                have i6 : ¬ (q : Int) < n := by omega
                go_wp2
                go_roundw
                case rel => exact ⟨j + 1, by omega, by go_num, D9⟩
                case measure => simp [intOf]; omega
        · have i3 : ¬ (j : Int) < L.length := by omega
          clear D
          go_wp2_with fail
          refine (near_w t E5.out.2.2 K3.out (by omega)).mono ?_
          rintro e w6 ⟨rfl, b6⟩
          have E6 := Lib.hid (E5.out.on b6)
          clear b6 E5
          obtain ⟨nA, nB, nAB⟩ := Sk.near_all t L K3.out
          obtain ⟨⟨⟨x0, x1, x2, x3, x4⟩, ra⟩, hA⟩ : ∃ r, Sk.nearA t L = r := ⟨_, rfl⟩
          obtain ⟨⟨⟨y0, y1, y2, y3, y4⟩, rb⟩, hB⟩ : ∃ r, Sk.nearB t L = r := ⟨_, rfl⟩
          rw [hA, hB] at nAB
          rw [hA] at nA
          rw [hB] at nB
          rw [hA, hB]
          dsimp only at nA nB nAB ⊢
          have NA := Lib.hid nA; have NB := Lib.hid nB; have NAB := Lib.hid nAB
          clear hA hB nA nB nAB
          go_upto_region 43 with (fail)
          obtain ⟨np, nq, nn⟩ := two_new w6 36 #[.int .i64 x0, .int .i64 x1, .int .i64 x2, .int .i64 x3, .string x4] #[.int .i64 y0, .int .i64 y1, .int .i64 y2, .int .i64 y3, .string y4]
          have X7 := Lib.hid np; have Y7 := Lib.hid nq; have E7 := Lib.hid (E6.out.on nn)
          clear np nq nn E6
          generalize (w6.alloc (.cells #[.int .i64 x0, .int .i64 x1, .int .i64 x2, .int .i64 x3, .string x4] 36)).alloc (.cells #[.int .i64 y0, .int .i64 y1, .int .i64 y2, .int .i64 y3, .string y4] 36) = w7 at *
          obtain ⟨gy, hgy⟩ : ∃ g, w6.heap.size + 1 = g := ⟨_, rfl⟩
          rw [hgy] at Y7 ⊢
          clear hgy
          generalize w6.heap.size = gx at *
          go_wp2_with fail
          refine (find_w t E7.out.2.2 K3.out (by omega)).mono ?_
          rintro e w8 ⟨rfl, b8⟩
          have E8 := Lib.hid (E7.out.on b8); have X8 := Lib.hid (X7.out.on b8); have Y8 := Lib.hid (Y7.out.on b8)
          clear b8 E7 X7 Y7
          have fin := Sk.fnd_in (t := t) (l := L)
          obtain ⟨is, his⟩ : ∃ b, Sk.has t L = b := ⟨_, rfl⟩
          obtain ⟨⟨z0, z1, z2, z3, z4⟩, hzz⟩ : ∃ y, Sk.fnd t L = y := ⟨_, rfl⟩
          rw [his, hzz] at fin
          rw [his, hzz]
          have FI := Lib.hid (show is = true → z0 ≤ t ∧ t < z1 from fun h => by have := (fin h).2; simpa [Sp.hs] using this)
          clear fin his hzz
          go_upto_region 44 with (fail)
          have Z9 := Lib.hid (Blk.new w8 36 #[.int .i64 z0, .int .i64 z1, .int .i64 z2, .int .i64 z3, .string z4])
          have bq := bnO w8 (.cells #[.int .i64 z0, .int .i64 z1, .int .i64 z2, .int .i64 z3, .string z4] 36)
          have E9 := Lib.hid (E8.out.on bq); have X9 := Lib.hid (X8.out.on bq); have Y9 := Lib.hid (Y8.out.on bq)
          clear bq E8 X8 Y8
          generalize w8.alloc (.cells #[.int .i64 z0, .int .i64 z1, .int .i64 z2, .int .i64 z3, .string z4] 36) = w9 at *
          generalize w8.heap.size = gz at *
          have c1 := X9.out.c1; have e0 := Y9.out.c0; have d0 := Z9.out.c0; have d1 := Z9.out.c1
          cases ra <;> cases rb <;> cases is
          all_goals (
            try have q1 := NA.out rfl
            try have q2 := NB.out rfl
            try have q3 := NAB.out rfl rfl
            try have q4 := (FI.out rfl).1
            try have q5 := (FI.out rfl).2
            go_wp2
            go_ret
            exact ⟨rfl, E9.out.1⟩)
theorem storeOrder_any (room : Int) (va : Value) (a : List If.I) (t : Int) (w : World) (h : InV w va a) (hc : Cap va) (hz : ∀ x ∈ a, If.Bd x) :
    Calls Try.prog 4 #[.int .i64 room, va, .int .i64 t] w fun e w' => e = .returned (.bool true) ∧ Below w.heap.size w w' :=
  store_order room va a t w h hz
end Go.Proofs.Ytmnmmbeageddkaa
