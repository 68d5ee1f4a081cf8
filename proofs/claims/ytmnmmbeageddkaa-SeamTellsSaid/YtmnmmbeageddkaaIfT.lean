/- Infos: the reference's Merge. -/
import Derived.Test.YtmnmmbeageddkaaIfR
import Derived.Test.YtmnmmbeageddkaaIfC
import Derived.Test.YtmnmmbeageddkaaApS
import Derived.Test.YtmnmmbeageddkaaMnG0
import Derived.Deep.CutRange
import Derived.Deep.CutBlock
set_option linter.unusedVariables false
set_option linter.unusedSimpArgs false
namespace Go.Proofs.Ytmnmmbeageddkaa
open Go.RowKit Go.Sort Go.Shelf

theorem own_cap {w : World} {base L c : Nat} {e : TypeId} {A : Option Addr} {xs : List Value} {size : Nat} (h : w.ownsRow base e size (.slice A L c) L xs) : L ≤ c := by
  rcases h.2 with ⟨e, h0⟩ | ⟨g, cap, cur, e, _, _, h1, _⟩
  · cases e; exact Nat.le_refl _
  · cases e; exact h1
theorem own_none {w : World} {base L c : Nat} {e : TypeId} {xs : List Value} {size : Nat} (h : w.ownsRow base e size (.slice none L c) L xs) : L = 0 ∧ c = 0 := by
  rcases h.2 with ⟨e, h0⟩ | ⟨g, cap, cur, e, _⟩
  · cases e; exact ⟨rfl, rfl⟩
  · cases e
theorem own_first {W : World} {N size : Nat} {e : TypeId} (hN : W.heap.size = N) : (W.alloc (.cells #[] e)).ownsRow N e size (.slice (some ⟨N, 0, none⟩) 0 0) 0 [] := by
  subst hN
  exact World.ownsRow_made W #[] 0 (Nat.le_refl _) (Nat.zero_le _) (by simp)
theorem own_second {W : World} {N size : Nat} {e : TypeId} {o : Obj} (hN : W.heap.size = N) : ((W.alloc o).alloc (.cells #[] e)).ownsRow N e size (.slice (some ⟨N + 1, 0, none⟩) 0 0) 0 [] := by
  subst hN
  have hs : (W.alloc o).heap.size = W.heap.size + 1 := by simp
  have := World.ownsRow_made (base := W.heap.size) (e := e) (size := size) (W.alloc o) #[] 0 (by omega) (Nat.zero_le _) (by simp)
  rw [hs] at this
  exact this
theorem blk_new0 {W : World} {N : Nat} {t : TypeId} (hN : W.heap.size = N) (vs : Array Value) : Blk (W.alloc (.cells vs t)) N t vs := by
  subst hN; exact Blk.new W t vs
theorem blk_new1 {W : World} {N : Nat} {t : TypeId} (hN : W.heap.size = N) (o : Obj) (vs : Array Value) : Blk ((W.alloc o).alloc (.cells vs t)) (N + 1) t vs := by
  subst hN
  have := Blk.new (W.alloc o) t vs
  rw [show (W.alloc o).heap.size = W.heap.size + 1 by simp] at this
  exact this
theorem below_gr0 {N : Nat} {w W W' : World} {row : Option Nat} (hN : w.heap.size = N) (h : Below N w W) (g : W.grownBy W' row) (hr : ∀ k, row = some k → N ≤ k) : Below N w W' :=
  h.trans (below_grown g (hN ▸ h.size) hr)
theorem lst_one {W : World} {g : Nat} {y0 y1 y2 y3 : Int} {y4 : ByteArray} (h : Blk W g 36 #[.int .i64 y0, .int .i64 y1, .int .i64 y2, .int .i64 y3, .string y4]) : Lst W (g + 1) (.slice (some ⟨g, 0, none⟩) 1 1) 1 (If.ifc [(y0, y1, y2, y3, y4)]) :=
  ⟨_, 1, rfl, fun _ => ⟨_, rfl, Nat.lt_succ_self _, five_cells h.c0 h.c1 h.c2 h.c3 h.c4⟩⟩
theorem ifc_take (l : List If.I) (j : Nat) : If.ifc (l.take j) = (If.ifc l).take (j * 5) := by
  induction l generalizing j with
  | nil => simp [If.ifc]
  | cons p r ih =>
    cases j with
    | zero => simp [If.ifc]
    | succ j => rw [List.take_succ_cons, If.ifc_cons, If.ifc_cons, ih j, show (j + 1) * 5 = j * 5 + 1 + 1 + 1 + 1 + 1 by omega]; rfl
theorem ifc_drop (l : List If.I) (j : Nat) : If.ifc (l.drop j) = (If.ifc l).drop (j * 5) := by
  induction l generalizing j with
  | nil => simp [If.ifc]
  | cons p r ih =>
    cases j with
    | zero => simp
    | succ j => rw [List.drop_succ_cons, If.ifc_cons, ih j, show (j + 1) * 5 = j * 5 + 1 + 1 + 1 + 1 + 1 by omega]; rfl
theorem lst_take {W : World} {base L c : Nat} {e : TypeId} {ao : Addr} {l : List If.I} (h : W.ownsRow base e 5 (.slice (some ao) L c) L (If.ifc l)) (j : Nat) (hj : j ≤ L) (hl : l.length = L) : Lst W W.heap.size (.slice (some ao) j c) j (If.ifc (l.take j)) := by
  obtain ⟨A', c', hv, ha⟩ := Lst.own h
  cases hv
  refine ⟨_, _, rfl, fun h0 => ?_⟩
  obtain ⟨a, e, h1, h2⟩ := ha (by omega)
  refine ⟨a, e, h1, fun i u hu => h2 i u ?_⟩
  rw [ifc_take, List.getElem?_take] at hu
  split at hu
  · exact hu
  · cases hu
theorem lst_drop {W : World} {base L c : Nat} {e : TypeId} {ao : Addr} {l : List If.I} (h : W.ownsRow base e 5 (.slice (some ao) L c) L (If.ifc l)) (j : Nat) (hj : j ≤ L) (hl : l.length = L) (hLc : L ≤ c) {pp : Addr} (hpp : (if c = j then ao else ao.add (j * 5)) = pp) : Lst W W.heap.size (.slice (some pp) (L - j) (c - j)) (L - j) (If.ifc (l.drop j)) := by
  obtain ⟨A', c', hv, ha⟩ := Lst.own h
  cases hv
  refine ⟨_, _, rfl, fun h0 => ?_⟩
  rw [if_neg (by omega)] at hpp
  subst hpp
  obtain ⟨a, e, h1, h2⟩ := ha (by omega)
  cases e
  refine ⟨_, rfl, by rw [blk_add]; exact h1, fun i u hu => ?_⟩
  rw [add_two]
  refine h2 (j * 5 + i) u ?_
  rwa [ifc_drop, List.getElem?_drop] at hu
theorem own_weak {W : World} {N B size n : Nat} {e : TypeId} {v : Value} {xs : List Value} (hB : B ≤ N) (h : W.ownsRow N e size v n xs) : W.ownsRow B e size v n xs := by
  refine ⟨h.1, ?_⟩
  rcases h.2 with h | ⟨g, cap, cur, h1, h2, h3⟩
  · exact .inl h
  · exact .inr ⟨g, cap, cur, h1, Nat.le_trans hB h2, h3⟩
theorem own_ins {W : World} {N B j L : Nat} {e : TypeId} {v : Value} {l : List If.I} {y : If.I} (hB : B ≤ N) (hl : l.length = L) (hj : j ≤ L) (J : If.ins y l = l.take j ++ y :: l.drop j)
    (h : W.ownsRow N e 5 v (j + 1 + (L - j)) (If.ifc (l.take j) ++ If.ifc [y] ++ If.ifc (l.drop j))) : W.ownsRow B e 5 v (If.ins y l).length (If.ifc (If.ins y l)) := by
  rw [If.ins_len, hl, J, If.ifc_app, show y :: l.drop j = [y] ++ l.drop j from rfl, If.ifc_app, ← List.append_assoc, show L + 1 = j + 1 + (L - j) by omega]
  exact own_weak hB h
def AnsR (a b : List If.I) (w : World) (e : Ending) (w' : World) : Prop :=
  Below w.heap.size w w' ∧ (((If.so none a && If.so none b) = false ∧ e = .returned (.tuple #[.slice none 0 0, .int .i64 4])) ∨
    ((If.so none a && If.so none b) = true ∧ ((If.so none (If.mgl a a b) = false ∧ e = .returned (.tuple #[.slice none 0 0, .int .i64 21])) ∨
      (If.so none (If.mgl a a b) = true ∧ ∃ v, e = .returned (.tuple #[v, .int .i64 0]) ∧ InV w' v (If.mgl a a b)))))
set_option maxRecDepth 100000 in
set_option maxHeartbeats 16000000 in
theorem rseam_merge (va vb : Value) (a b : List If.I) (w : World) (h : InV w va a) (k : InV w vb b) (ha : a.length ≤ 100) (hb : b.length ≤ 100) :
    Calls Try.prog 24 #[va, vb] w (AnsR a b w) := by
  obtain ⟨i0, hi, hz0, hz1, hz2⟩ := info_parts info_inf
  obtain ⟨A, c, rfl, -⟩ := id h
  obtain ⟨B, d, rfl, -⟩ := id k
  have H := Lib.hid h; have K := Lib.hid k
  have HA := Lib.hid ha; have HB := Lib.hid hb
  clear h k ha hb
  go_enter Try.func24, Try.ntmps24
  go_wp2_with fail
  refine (rseam_sound _ _ _ H.out (by have := HA.out; omega)).mono ?_
  rintro e w1 ⟨rfl, b1⟩
  have B1 := Lib.hid b1
  clear b1
  rcases hsa : If.so none a with _ | _
  · go_wp2
    go_ret2
    exact ⟨B1.out, .inl ⟨by rw [hsa]; rfl, rfl⟩⟩
  have SA := Lib.hid hsa
  clear hsa
  go_wp2_with fail
  refine (rseam_sound _ _ _ (K.out.on B1.out) (by have := HB.out; omega)).mono ?_
  rintro e w2 ⟨rfl, b2⟩
  have B2 := Lib.hid (below_step B1.out b2)
  clear b2 B1
  rcases hsb : If.so none b with _ | _
  · go_wp2
    go_ret2
    exact ⟨B2.out, .inl ⟨by rw [SA.out, hsb]; rfl, rfl⟩⟩
  have SB := Lib.hid (show (If.so none a && If.so none b) = true by rw [SA.out, hsb]; rfl)
  clear hsb SA
  have B3 := Lib.hid (show Below w.heap.size w (w2.alloc (.cells #[] 36)) from B2.out.alloc B2.out.size _)
  have O3 := Lib.hid (show (w2.alloc (.cells #[] 36)).ownsRow w.heap.size 36 5 (.slice (some ⟨w2.heap.size, 0, none⟩) 0 0) 0 [] from World.ownsRow_lit w2 #[] 0 B2.out.size (by unfold maxLen; omega) rfl)
  clear B2
  obtain ⟨n, hn⟩ : ∃ n, a.length = n := ⟨_, rfl⟩
  obtain ⟨m, hm⟩ : ∃ m, b.length = m := ⟨_, rfl⟩
  rw [hn] at HA H ⊢; rw [hm] at HB K ⊢
  have HN := Lib.hid hn; have HM := Lib.hid hm
  have G3 := Lib.hid (show Lst (w2.alloc (.cells #[] 36)) (w2.alloc (.cells #[] 36)).heap.size (.slice A n c) n (If.ifc a) by have := H.out.on B3.out; unfold InV at this; rw [hn] at this; exact this)
  clear hn hm
  go_wp2_with (at_builtin; refine wpList_append_lst rfl _ _ 46 rfl w.heap.size 36 i0 (.agg #[.int .i64 0, .int .i64 0, .int .i64 0, .int .i64 0, .string ⟨#[]⟩]) 5 48 Try.underlying46 hi hz0 hz1 hz2 rfl (by decide) _ 0 [] rfl O3.out _ n _ (If.ifc a) rfl G3.out (by rw [If.ifc_len, HN.out]) (If.ifc_one a) (by have := HA.out; unfold maxLen; omega) (by have := HA.out; omega) B3.out.size ?_)
  intro v4 w4 own4 grow4
  obtain ⟨A4, c4, rfl⟩ := po_form own4
  have B4 := Lib.hid (show Below w.heap.size w w4 from B3.out.trans (below_grown grow4 B3.out.size (own_row O3.out)))
  have O4 := Lib.hid (show w4.ownsRow w.heap.size 36 5 (.slice A4 n c4) a.length (If.ifc a) by rw [HN.out]; simpa using own4)
  clear own4 grow4 O3 B3 G3

  obtain ⟨fin, hf⟩ : ∃ fin, If.mgl a a b = fin := ⟨_, rfl⟩
  have HF0 := Lib.hid hf
  have HF := Lib.hid (show If.mgl a a (b.drop 0) = fin by rw [List.drop_zero]; exact hf)
  have HL := Lib.hid (show fin.length ≤ 200 by rw [← hf]; have := If.mgl_len a b a; have := HN.out; have := HM.out; have := HA.out; have := HB.out; omega)
  clear hf
  go_wp2_with fail
  go_loopw [6, 23] (fun u i wr => ∃ (k : Nat) (l : List If.I), k ≤ m ∧ i = .int .i64 k ∧ Hid (wr.ownsRow w.heap.size 36 5 u l.length (If.ifc l)) ∧ Hid (If.mgl a l (b.drop k) = fin) ∧ Hid (l.length ≤ n + k) ∧ Hid (Below w.heap.size w wr)) (fun _ i _ => m - (intOf i).toNat)
  case atStart => exact ⟨0, a, Nat.zero_le _, rfl, O4, HF, Lib.hid (by have := HN.out; omega), B4⟩
  case round =>
    rename World => w5
    obtain ⟨k, l, hk, rfl, O, F, LL, B5⟩ := hrel
    obtain ⟨A5, c5, rfl⟩ := po_form O.out
    obtain ⟨L, hL⟩ : ∃ L, l.length = L := ⟨_, rfl⟩
    rw [hL] at O LL ⊢
    have HLl := Lib.hid hL
    clear hL
    by_cases hlt : k < m
    · have hkl : k < b.length := by rw [HM.out]; exact hlt
      have hd := F.out
      rw [If.mgl_drop a l b k hkl] at hd
      obtain ⟨ad, rfl, hab, g1, g2, g3, g4, g5⟩ := (K.out.on B5.out).get k hkl
      generalize hp : b[k] = p at *
      obtain ⟨y0, y1, y2, y3, y4⟩ := p
      dsimp only at g1 g2 g3 g4 g5 hd
      clear hp F
      have DD := Lib.hid hd
      clear hd
      have i1 : (k : Int) < m := by omega
      have i0' : (k : Int) < 100 := by have := HB.out; omega
      go_upto_region 7 with (fail)
      have P6 := Lib.hid (Blk.new w5 36 #[.int .i64 y0, .int .i64 y1, .int .i64 y2, .int .i64 y3, .string y4])
      have B6 := Lib.hid (B5.out.alloc B5.out.size (.cells #[.int .i64 y0, .int .i64 y1, .int .i64 y2, .int .i64 y3, .string y4] 36))
      have O6 := Lib.hid (O.out.alloc (.cells #[.int .i64 y0, .int .i64 y1, .int .i64 y2, .int .i64 y3, .string y4] 36))
      clear O B5 g1 g2 g3 g4 g5 hab
      generalize w5.alloc (.cells #[.int .i64 y0, .int .i64 y1, .int .i64 y2, .int .i64 y3, .string y4] 36) = w6 at *
      generalize w5.heap.size = gx at *
      have c0 := P6.out.c0; have c1 := P6.out.c1; have c2 := P6.out.c2; have c3 := P6.out.c3; have c4 := P6.out.c4
      go_wp2_with fail
      refine (rhas_any _ a y0 y1 y2 y3 y4 _ (H.out.on B6.out) (by have := HN.out; have := HA.out; omega)).mono ?_
      rintro e w7 ⟨rfl, b7⟩
      have P7 := Lib.hid (P6.out.on b7); have B7 := Lib.hid (below_step B6.out b7)
      have O7 := Lib.hid (own_on O6.out b7)
      clear c0 c1 c2 c3 c4 P6 B6 O6 b7
      cases hi7 : If.isin (y0, y1, y2, y3, y4) a
      · have D7 := Lib.hid (show If.mgl a (If.ins (y0, y1, y2, y3, y4) l) (b.drop (k + 1)) = fin by have := DD.out; rw [hi7] at this; simpa using this)
        clear hi7 DD
        go_upto_block 2 with fail
        go_cut [9, 23] from 23 to 60 (fun i kk wx => ∃ (j q : Nat), i = .int .i64 j ∧ kk = .int .i64 k ∧ j ≤ L ∧ Hid (If.ins (y0, y1, y2, y3, y4) l = l.take j ++ (y0, y1, y2, y3, y4) :: l.drop j) ∧ Hid (wx = w7.drewN q))
        case first =>
          go_wp2_with fail
          go_loopw [9] (fun i wr => ∃ (j q : Nat), j ≤ L ∧ i = .int .i64 j ∧ Hid (∀ i, (h : i < l.length) → i < j → l[i].1 < y0) ∧ Hid (wr = w7.drewN q)) (fun i _ => L - (intOf i).toNat)
          case atStart => exact ⟨0, 0, Nat.zero_le _, rfl, Lib.hid (fun i _ h => absurd h (by omega)), Lib.hid rfl⟩
          case round =>
            rename World => w8
            obtain ⟨j, q, hj, rfl, J, E8⟩ := hrel
            have bd : Below w7.heap.size w7 w8 := by rw [E8.out]; exact below_draw _ _
            have P8 := Lib.hid (P7.out.on bd); have B8 := Lib.hid (below_step B7.out bd)
            have O8 := Lib.hid (own_on O7.out bd)
            clear bd
            have c0 := P8.out.c0
            have lb : L ≤ 200 := by have := LL.out; have := HA.out; omega
            by_cases hlt2 : j < L
            · have hjl : j < l.length := by rw [HLl.out]; exact hlt2
              have I8 : InV w8 (.slice A5 L c5) l := InV.own (by rw [HLl.out]; exact O8.out)
              obtain ⟨ao, rfl, hao, o1, -, -, -, -⟩ := I8.get j hjl
              clear I8
              have i2 : (j : Int) < L := by omega
              have i3 : decide (j < L) = true := decide_eq_true (by omega)
              by_cases hlt3 : l[j].1 < y0
              · have J2 := Lib.hid (show ∀ i, (h : i < l.length) → i < j + 1 → l[i].1 < y0 from fun i h hi => by
                  by_cases e : i = j
                  · subst e; exact hlt3
                  · exact J.out i h (by omega))
                generalize l[j].1 = f0 at *
                have i4 : decide (f0 < y0) = true := decide_eq_true hlt3
                go_wp2
                go_quiet (fail)
                go_wp2
                go_roundw
                case rel => exact ⟨j + 1, q + nq, by omega, by go_num, J2, Lib.hid (by rw [E8.out, World.drewN_drewN])⟩
                case measure => simp [intOf]; omega
              · have J2 := Lib.hid (show If.ins (y0, y1, y2, y3, y4) l = l.take j ++ (y0, y1, y2, y3, y4) :: l.drop j from If.ins_at _ l j (by omega) (fun i h hi => J.out i h hi) (fun h => hlt3))
                generalize l[j].1 = f0 at *
                have i4 : decide (f0 < y0) = false := decide_eq_false hlt3
                go_wp2
                go_quiet (fail)
                go_wp2
                go_meet
                case rel => exact ⟨j, q + nq, rfl, rfl, hj, J2, Lib.hid (by rw [E8.out, World.drewN_drewN])⟩
            · have ej : j = L := by omega
              subst ej
              have J2 := Lib.hid (show If.ins (y0, y1, y2, y3, y4) l = l.take j ++ (y0, y1, y2, y3, y4) :: l.drop j from If.ins_at _ l j (by rw [HLl.out]; exact Nat.le_refl _) (fun i h hi => J.out i h hi) (fun h => by rw [HLl.out] at h; omega))
              go_wp2
              go_quiet (fail)
              go_wp2
              go_meet
              case rel => exact ⟨j, q + nq, rfl, rfl, hj, J2, Lib.hid (by rw [E8.out, World.drewN_drewN])⟩
        case rest =>
          obtain ⟨j, q, rfl, rfl, hj, J, E8⟩ := hcut
          have bd : Below w7.heap.size w7 wc := by rw [E8.out]; exact below_draw _ _
          have PC := Lib.hid (P7.out.on bd); have B8 := Lib.hid (below_step B7.out bd)
          have O8 := Lib.hid (own_on O7.out bd)
          clear bd E8 O7 P7
          obtain ⟨N, hNs⟩ : ∃ N, wc.heap.size = N := ⟨_, rfl⟩
          have lb : L ≤ 200 := by have := LL.out; have := HA.out; omega
          have c0 := PC.out.c0; have c1 := PC.out.c1; have c2 := PC.out.c2; have c3 := PC.out.c3; have c4 := PC.out.c4
          have bq : Below wc.heap.size wc (wc.alloc (.cells #[] 36)).drew := by repeat (first | exact Below.refl _ _ | refine Below.drew ?_ | refine Below.alloc ?_ (by first | omega | (simp; omega)) _)
          have d0 := (PC.out.on bq).c0; have d1 := (PC.out.on bq).c1; have d2 := (PC.out.on bq).c2; have d3 := (PC.out.on bq).c3; have d4 := (PC.out.on bq).c4
          have HT := Lib.hid (show (If.ifc (l.take j)).length = j * 5 ∧ (If.ifc (l.drop j)).length = (L - j) * 5 by rw [If.ifc_len, If.ifc_len, List.length_take, List.length_drop, HLl.out]; exact ⟨by congr 1; omega, rfl⟩)
          have hc5 := own_cap O8.out
          rcases A5 with _ | ao
          · obtain ⟨rfl, rfl⟩ := own_none O8.out
            have ej : j = 0 := by omega
            subst ej
            have el : l = [] := List.eq_nil_of_length_eq_zero HLl.out
            subst el
            have IT := Lib.hid (Lst.nil wc N)
            have ID := Lib.hid (Lst.nil wc N)
            go_wp2_with fail
            go_region_law (first
            | (
               refine step_append_lst rfl (.tmp 52) (.tmp 54) 46 rfl N 36 i0 (.agg #[.int .i64 0, .int .i64 0, .int .i64 0, .int .i64 0, .string ⟨#[]⟩]) 5 48 Try.underlying46 hi hz0 hz1 hz2 rfl (by decide) (.slice (some ⟨N, 0, none⟩) 0 0) 0 [] ?_ ?_ ((N + 1) + 1) 1 (.slice (some ⟨(N + 1), 0, none⟩) 1 1) (If.ifc [(y0, y1, y2, y3, y4)]) ?_ ?_ ?_ ?_ ?_ ?_ ?_ ?_
               · simp [Act.eval, Act.put]; done
               · exact (own_first hNs).alloc _
               · simp [Act.eval, Act.put]; done
               · exact lst_one (blk_new1 hNs _ _)
               · rfl
               · exact If.ifc_one _
               · unfold maxLen; omega
               · omega
               · first | omega | (simp <;> omega)
               intro v2 W2 own grow
               have D2 := Lib.hid (show Below N wc W2 from below_gr0 hNs (by repeat (first | exact Below.refl _ _ | refine Below.drew ?_ | refine Below.alloc ?_ (by first | omega | (simp; omega)) _)) grow (by intro g hg; have e : N = g := Option.some.inj hg; omega))
               have O2 := Lib.hid (show W2.ownsRow N 36 5 v2 1 (If.ifc [(y0, y1, y2, y3, y4)]) by simpa using own)
               clear own grow)
            | (
               refine step_append_lst rfl (.tmp 52) (.tmp 54) 46 rfl N 36 i0 (.agg #[.int .i64 0, .int .i64 0, .int .i64 0, .int .i64 0, .string ⟨#[]⟩]) 5 48 Try.underlying46 hi hz0 hz1 hz2 rfl (by decide) (.slice (some ⟨(N + 1), 0, none⟩) 0 0) 0 [] ?_ ?_ (N + 1) 1 (.slice (some ⟨N, 0, none⟩) 1 1) (If.ifc [(y0, y1, y2, y3, y4)]) ?_ ?_ ?_ ?_ ?_ ?_ ?_ ?_
               · simp [Act.eval, Act.put]; done
               · exact own_second hNs
               · simp [Act.eval, Act.put]; done
               · exact lst_one ((blk_new0 hNs _).alloc _)
               · rfl
               · exact If.ifc_one _
               · unfold maxLen; omega
               · omega
               · first | omega | (simp <;> omega)
               intro v2 W2 own grow
               have D2 := Lib.hid (show Below N wc W2 from below_gr0 hNs (by repeat (first | exact Below.refl _ _ | refine Below.drew ?_ | refine Below.alloc ?_ (by first | omega | (simp; omega)) _)) grow (by intro g hg; have e : (N + 1) = g := Option.some.inj hg; omega))
               have O2 := Lib.hid (show W2.ownsRow N 36 5 v2 1 (If.ifc [(y0, y1, y2, y3, y4)]) by simpa using own)
               clear own grow)
            | (
               refine step_append_lst rfl (.tmp 55) (.tmp 58) 46 rfl N 36 i0 (.agg #[.int .i64 0, .int .i64 0, .int .i64 0, .int .i64 0, .string ⟨#[]⟩]) 5 48 Try.underlying46 hi hz0 hz1 hz2 rfl (by decide) v2 1 (If.ifc [(y0, y1, y2, y3, y4)]) ?_ ?_ N 0 (.slice none 0 0) [] ?_ ?_ ?_ ?_ ?_ ?_ ?_ ?_
               · simp [Act.eval, Act.put]; done
               · exact O2.out
               · simp [Act.eval, Act.put]; done
               · exact Lst.nil _ _
               · rfl
               · intro u hu; cases hu
               · unfold maxLen; omega
               · omega
               · have := D2.out.size; omega
               intro v3 W3 own grow
               have D3 := Lib.hid (show Below N wc W3 from below_gr0 hNs D2.out grow (own_row O2.out))
               have O3 := Lib.hid (show W3.ownsRow N 36 5 v3 1 (If.ifc [(y0, y1, y2, y3, y4)]) by simpa using own)
               clear own grow)
              )
            all_goals (
              have O9 := Lib.hid (show W3.ownsRow w.heap.size 36 5 v3 (If.ins (y0, y1, y2, y3, y4) []).length (If.ifc (If.ins (y0, y1, y2, y3, y4) [])) from own_weak (hNs ▸ B8.out.size) O3.out)
              have B9 := Lib.hid (below_step B8.out (by rw [hNs]; exact D3.out))
              have i9 : (k : Int) < 100 := by have := HB.out; omega
              clear c0 c1 c2 c3 c4 d0 d1 d2 d3 d4 O3 D3 O2 D2 IT ID
              go_wp2_with fail
              go_roundw
              case rel => exact ⟨k + 1, _, by omega, by go_num, O9, D7, Lib.hid (by rw [If.ins_len]; have := LL.out; have := HLl.out; omega), B9⟩
              case measure => simp [intOf]; omega)
          · have IT := Lib.hid (show Lst wc N (.slice (some ao) j c5) j (If.ifc (l.take j)) from hNs ▸ lst_take O8.out j hj (by rw [HLl.out]))
            obtain ⟨pp, hpp⟩ : ∃ pp, (if c5 = j then ao else ao.add (j * 5)) = pp := ⟨_, rfl⟩
            have ID := Lib.hid (show Lst wc N (.slice (some pp) (L - j) (c5 - j)) (L - j) (If.ifc (l.drop j)) from hNs ▸ lst_drop O8.out j hj (by rw [HLl.out]) hc5 hpp)
            have s1 : (j : Int) ≤ L := by omega
            have s2 : (j : Int) ≤ c5 := by omega
            have s3 : (L : Int) ≤ c5 := by omega
            go_wp2_with fail
            go_region_law (first
            | (
               refine step_append_lst rfl (.tmp 48) (.tmp 51) 46 rfl N 36 i0 (.agg #[.int .i64 0, .int .i64 0, .int .i64 0, .int .i64 0, .string ⟨#[]⟩]) 5 48 Try.underlying46 hi hz0 hz1 hz2 rfl (by decide) (.slice (some ⟨N, 0, none⟩) 0 0) 0 [] ?_ ?_ N j (.slice (some ao) j c5) (If.ifc (l.take j)) ?_ ?_ ?_ ?_ ?_ ?_ ?_ ?_
               · simp [Act.eval, Act.put]; done
               · exact own_first hNs
               · simp [Act.eval, Act.put]; done
               · exact IT.out.below (by repeat (first | exact Below.refl _ _ | refine Below.drew ?_ | refine Below.alloc ?_ (by first | omega | (simp; omega)) _))
               · exact HT.out.1
               · exact If.ifc_one _
               · unfold maxLen; omega
               · omega
               · first | omega | (simp <;> omega)
               intro v1 W1 own grow
               have D1 := Lib.hid (show Below N wc W1 from below_gr0 hNs (by repeat (first | exact Below.refl _ _ | refine Below.drew ?_ | refine Below.alloc ?_ (by first | omega | (simp; omega)) _)) grow (by intro g hg; have e : N = g := Option.some.inj hg; omega))
               have O1 := Lib.hid (show W1.ownsRow N 36 5 v1 j (If.ifc (l.take j)) by simpa using own)
               have x0 := (PC.out.on (hNs ▸ D1.out)).c0; have x1 := (PC.out.on (hNs ▸ D1.out)).c1; have x2 := (PC.out.on (hNs ▸ D1.out)).c2; have x3 := (PC.out.on (hNs ▸ D1.out)).c3; have x4 := (PC.out.on (hNs ▸ D1.out)).c4
               clear own grow)
            | (
               refine step_append_lst rfl (.tmp 48) (.tmp 51) 46 rfl N 36 i0 (.agg #[.int .i64 0, .int .i64 0, .int .i64 0, .int .i64 0, .string ⟨#[]⟩]) 5 48 Try.underlying46 hi hz0 hz1 hz2 rfl (by decide) (.slice (some ⟨N, 0, none⟩) 0 0) 0 [] ?_ ?_ N j (.slice (some ao) j c5) (If.ifc (l.take j)) ?_ ?_ ?_ ?_ ?_ ?_ ?_ ?_
               · simp [Act.eval, Act.put]; done
               · exact (own_first hNs).alloc _
               · simp [Act.eval, Act.put]; done
               · exact IT.out.below (by repeat (first | exact Below.refl _ _ | refine Below.drew ?_ | refine Below.alloc ?_ (by first | omega | (simp; omega)) _))
               · exact HT.out.1
               · exact If.ifc_one _
               · unfold maxLen; omega
               · omega
               · first | omega | (simp <;> omega)
               intro v1 W1 own grow
               have D1 := Lib.hid (show Below N wc W1 from below_gr0 hNs (by repeat (first | exact Below.refl _ _ | refine Below.drew ?_ | refine Below.alloc ?_ (by first | omega | (simp; omega)) _)) grow (by intro g hg; have e : N = g := Option.some.inj hg; omega))
               have O1 := Lib.hid (show W1.ownsRow N 36 5 v1 j (If.ifc (l.take j)) by simpa using own)
               have X1 := Lib.hid (show Blk W1 (N + 1) 36 #[.int .i64 y0, .int .i64 y1, .int .i64 y2, .int .i64 y3, .string y4] from Blk.kept (by first | exact blk_new0 hNs _ | exact (blk_new0 hNs _).alloc _ | exact blk_new1 hNs _ _) grow (by intro h; have e : (N + 1) = N := Option.some.inj h; omega))
               have x0 := (PC.out.on (hNs ▸ D1.out)).c0; have x1 := (PC.out.on (hNs ▸ D1.out)).c1; have x2 := (PC.out.on (hNs ▸ D1.out)).c2; have x3 := (PC.out.on (hNs ▸ D1.out)).c3; have x4 := (PC.out.on (hNs ▸ D1.out)).c4
               clear own grow)
            | (
               refine step_append_lst rfl (.tmp 48) (.tmp 51) 46 rfl N 36 i0 (.agg #[.int .i64 0, .int .i64 0, .int .i64 0, .int .i64 0, .string ⟨#[]⟩]) 5 48 Try.underlying46 hi hz0 hz1 hz2 rfl (by decide) (.slice (some ⟨(N + 1), 0, none⟩) 0 0) 0 [] ?_ ?_ N j (.slice (some ao) j c5) (If.ifc (l.take j)) ?_ ?_ ?_ ?_ ?_ ?_ ?_ ?_
               · simp [Act.eval, Act.put]; done
               · exact own_second hNs
               · simp [Act.eval, Act.put]; done
               · exact IT.out.below (by repeat (first | exact Below.refl _ _ | refine Below.drew ?_ | refine Below.alloc ?_ (by first | omega | (simp; omega)) _))
               · exact HT.out.1
               · exact If.ifc_one _
               · unfold maxLen; omega
               · omega
               · first | omega | (simp <;> omega)
               intro v1 W1 own grow
               have D1 := Lib.hid (show Below N wc W1 from below_gr0 hNs (by repeat (first | exact Below.refl _ _ | refine Below.drew ?_ | refine Below.alloc ?_ (by first | omega | (simp; omega)) _)) grow (by intro g hg; have e : (N + 1) = g := Option.some.inj hg; omega))
               have O1 := Lib.hid (show W1.ownsRow N 36 5 v1 j (If.ifc (l.take j)) by simpa using own)
               have X1 := Lib.hid (show Blk W1 N 36 #[.int .i64 y0, .int .i64 y1, .int .i64 y2, .int .i64 y3, .string y4] from Blk.kept (by first | exact blk_new0 hNs _ | exact (blk_new0 hNs _).alloc _ | exact blk_new1 hNs _ _) grow (by intro h; have e : N = (N + 1) := Option.some.inj h; omega))
               have x0 := (PC.out.on (hNs ▸ D1.out)).c0; have x1 := (PC.out.on (hNs ▸ D1.out)).c1; have x2 := (PC.out.on (hNs ▸ D1.out)).c2; have x3 := (PC.out.on (hNs ▸ D1.out)).c3; have x4 := (PC.out.on (hNs ▸ D1.out)).c4
               clear own grow)
            | (
               refine step_append_lst rfl (.tmp 52) (.tmp 54) 46 rfl N 36 i0 (.agg #[.int .i64 0, .int .i64 0, .int .i64 0, .int .i64 0, .string ⟨#[]⟩]) 5 48 Try.underlying46 hi hz0 hz1 hz2 rfl (by decide) v1 j (If.ifc (l.take j)) ?_ ?_ (W1.heap.size + 1) 1 (.slice (some ⟨W1.heap.size, 0, none⟩) 1 1) (If.ifc [(y0, y1, y2, y3, y4)]) ?_ ?_ ?_ ?_ ?_ ?_ ?_ ?_
               · simp [Act.eval, Act.put]; done
               · exact O1.out.alloc _
               · simp [Act.eval, Act.put]; done
               · exact lst_one (Blk.new W1 36 #[.int .i64 y0, .int .i64 y1, .int .i64 y2, .int .i64 y3, .string y4])
               · rfl
               · exact If.ifc_one _
               · unfold maxLen; omega
               · omega
               · have := D1.out.size; first | omega | (simp <;> omega)
               intro v2 W2 own grow
               have D2 := Lib.hid (show Below N wc W2 from below_gr0 hNs (by first | exact D1.out | exact D1.out.alloc (hNs ▸ D1.out.size) _) grow (own_row O1.out))
               have O2 := Lib.hid (show W2.ownsRow N 36 5 v2 (j + 1) (If.ifc (l.take j) ++ If.ifc [(y0, y1, y2, y3, y4)]) from own)
               clear own grow)
            | (
               refine step_append_lst rfl (.tmp 52) (.tmp 54) 46 rfl N 36 i0 (.agg #[.int .i64 0, .int .i64 0, .int .i64 0, .int .i64 0, .string ⟨#[]⟩]) 5 48 Try.underlying46 hi hz0 hz1 hz2 rfl (by decide) v1 j (If.ifc (l.take j)) ?_ ?_ (N + 1) 1 (.slice (some ⟨N, 0, none⟩) 1 1) (If.ifc [(y0, y1, y2, y3, y4)]) ?_ ?_ ?_ ?_ ?_ ?_ ?_ ?_
               · simp [Act.eval, Act.put]; done
               · exact O1.out
               · simp [Act.eval, Act.put]; done
               · exact lst_one X1.out
               · rfl
               · exact If.ifc_one _
               · unfold maxLen; omega
               · omega
               · have := D1.out.size; first | omega | (simp <;> omega)
               intro v2 W2 own grow
               have D2 := Lib.hid (show Below N wc W2 from below_gr0 hNs (by first | exact D1.out | exact D1.out.alloc (hNs ▸ D1.out.size) _) grow (own_row O1.out))
               have O2 := Lib.hid (show W2.ownsRow N 36 5 v2 (j + 1) (If.ifc (l.take j) ++ If.ifc [(y0, y1, y2, y3, y4)]) from own)
               clear own grow)
            | (
               refine step_append_lst rfl (.tmp 52) (.tmp 54) 46 rfl N 36 i0 (.agg #[.int .i64 0, .int .i64 0, .int .i64 0, .int .i64 0, .string ⟨#[]⟩]) 5 48 Try.underlying46 hi hz0 hz1 hz2 rfl (by decide) v1 j (If.ifc (l.take j)) ?_ ?_ ((N + 1) + 1) 1 (.slice (some ⟨(N + 1), 0, none⟩) 1 1) (If.ifc [(y0, y1, y2, y3, y4)]) ?_ ?_ ?_ ?_ ?_ ?_ ?_ ?_
               · simp [Act.eval, Act.put]; done
               · exact O1.out
               · simp [Act.eval, Act.put]; done
               · exact lst_one X1.out
               · rfl
               · exact If.ifc_one _
               · unfold maxLen; omega
               · omega
               · have := D1.out.size; first | omega | (simp <;> omega)
               intro v2 W2 own grow
               have D2 := Lib.hid (show Below N wc W2 from below_gr0 hNs (by first | exact D1.out | exact D1.out.alloc (hNs ▸ D1.out.size) _) grow (own_row O1.out))
               have O2 := Lib.hid (show W2.ownsRow N 36 5 v2 (j + 1) (If.ifc (l.take j) ++ If.ifc [(y0, y1, y2, y3, y4)]) from own)
               clear own grow)
            | (
               refine step_append_lst rfl (.tmp 55) (.tmp 58) 46 rfl N 36 i0 (.agg #[.int .i64 0, .int .i64 0, .int .i64 0, .int .i64 0, .string ⟨#[]⟩]) 5 48 Try.underlying46 hi hz0 hz1 hz2 rfl (by decide) v2 (j + 1) (If.ifc (l.take j) ++ If.ifc [(y0, y1, y2, y3, y4)]) ?_ ?_ N (L - j) (.slice (some pp) (L - j) (c5 - j)) (If.ifc (l.drop j)) ?_ ?_ ?_ ?_ ?_ ?_ ?_ ?_
               · simp [Act.eval, Act.put]; done
               · exact O2.out
               · first | (simp [Act.eval, Act.put]; done) | (simp [Act.eval, Act.put]; rw [← hpp]; split <;> rfl)
               · exact ID.out.below D2.out
               · exact HT.out.2
               · exact If.ifc_one _
               · unfold maxLen; omega
               · omega
               · have := D2.out.size; omega
               intro v3 W3 own grow
               have D3 := Lib.hid (show Below N wc W3 from below_gr0 hNs D2.out grow (own_row O2.out))
               have O3 := Lib.hid (show W3.ownsRow N 36 5 v3 (j + 1 + (L - j)) (If.ifc (l.take j) ++ If.ifc [(y0, y1, y2, y3, y4)] ++ If.ifc (l.drop j)) from own)
               clear own grow)
              )
            all_goals (
              have O9 := Lib.hid (show W3.ownsRow w.heap.size 36 5 v3 (If.ins (y0, y1, y2, y3, y4) l).length (If.ifc (If.ins (y0, y1, y2, y3, y4) l)) from own_ins (hNs ▸ B8.out.size) HLl.out hj J.out O3.out)
              have B9 := Lib.hid (below_step B8.out (by rw [hNs]; exact D3.out))
              have i9 : (k : Int) < 100 := by have := HB.out; omega
              clear c0 c1 c2 c3 c4 d0 d1 d2 d3 d4 O3 D3 O2 D2 IT ID
              go_wp2_with fail
              go_roundw
              case rel => exact ⟨k + 1, _, by omega, by go_num, O9, D7, Lib.hid (by rw [If.ins_len]; have := LL.out; have := HLl.out; omega), B9⟩
              case measure => simp [intOf]; omega)
      · have D7 := Lib.hid (show If.mgl a l (b.drop (k + 1)) = fin by have := DD.out; rw [hi7] at this; simpa using this)
        clear hi7 DD
        go_wp2
        go_roundw
        case rel => exact ⟨k + 1, l, by omega, by go_num, by rw [HLl.out]; exact O7, D7, Lib.hid (by have := LL.out; have := HLl.out; omega), B7⟩
        case measure => simp [intOf]; omega
    · have E := Lib.hid (show l = fin by have := F.out; rw [List.drop_of_length_le (by rw [HM.out]; omega)] at this; exact this)
      have e1 := E.out
      subst e1
      clear F E
      have I9 := Lib.hid (show InV w5 (.slice A5 l.length c5) l from InV.own (by rw [HLl.out]; exact O.out))
      rw [← HLl.out]
      go_wp2_with fail
      refine (rseam_sound _ _ _ I9.out (by have := HL.out; omega)).mono ?_
      rintro e wa ⟨rfl, ba⟩
      have Ia := Lib.hid (I9.out.on ba); have Ba := Lib.hid (below_step B5.out ba)
      clear ba I9 O
      rcases hsl : If.so none l with _ | _
      · have R := Lib.hid hsl
        go_wp2
        go_ret2
        exact ⟨Ba.out, .inr ⟨SB.out, .inl ⟨by rw [HF0.out]; exact R.out, rfl⟩⟩⟩
      · have R := Lib.hid hsl
        go_wp2
        go_ret2
        exact ⟨Ba.out, .inr ⟨SB.out, .inr ⟨by rw [HF0.out]; exact R.out, _, rfl, by rw [HF0.out]; exact Ia.out⟩⟩⟩
end Go.Proofs.Ytmnmmbeageddkaa
