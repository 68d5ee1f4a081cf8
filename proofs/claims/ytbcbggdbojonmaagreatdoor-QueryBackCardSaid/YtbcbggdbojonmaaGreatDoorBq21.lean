/- Joined: QyE, QyF. -/
import Derived.Test.YtbcbggdbojonmaaGreatDoorBq18
import Derived.Test.YtbcbggdbojonmaaGreatDoorBq01
import Derived.Laws.AppendOwn
set_option linter.unusedVariables false
set_option linter.unusedSimpArgs false
namespace Go.Proofs.YtbcbggdbojonmaaGreatDoor
open Go.RowKit Go.Sort
def AnsSt (b c : Nat) (v : Value) (y : Int) (w : World) (e : Ending) (w' : World) : Prop := (y = 0 ∧ e = .returned (.tuple #[]) ∧ ∃ w1, Below w.heap.size w w1 ∧ w' = w1.setCell ⟨b, c, none⟩ v) ∨ (y ≠ 0 ∧ e = .panicked (gvP y) ∧ Below w.heap.size w w')
set_option maxHeartbeats 1000000 in
set_option maxRecDepth 100000 in
theorem qsread_z (b : Nat) (v0 v1 v2 v3 v4 v5 : Value) (s : ByteArray) (w : World) (X : Bk6 w b v0 v1 v2 v3 v4 v5) (hs : s.size ≤ 1000) :
  Calls Tryz.prog 48 #[.int .i64 0, .pointer (some ⟨b, 0, none⟩), .string s] w (AnsSt b 1 (.string s) (Lk.nm s.data.toList) w) := by
 have C := Lib.hid (fun W => rname_any s W (by unfold maxLen; omega))
 generalize Lk.nm s.data.toList = y at C ⊢
 by_cases h : y = 0
 ·
  subst h
  go_enter Tryz.func48, Tryz.ntmps48
  go_wp2_with fail
  refine (C.out _).mono ?_; rintro e w1 ⟨rfl, rfl⟩
  go_wp2_with fail
  refine (for_yes _).mono ?_; rintro e w1 ⟨rfl, rfl⟩
  have X1 := X.keep (Below.refl w.heap.size w)
  have cb := X1.hb; have cf := X1.fz; have c0 := X1.k0; have c1 := X1.k1; have c2 := X1.k2; have c3 := X1.k3; have c4 := X1.k4; have c5 := X1.k5
  have BX := Lib.hid ((Below.refl w.heap.size w))
  clear X1
  go_wp2_with fail
  exact bodyPost_ret (v := .tuple #[]) (by simp [results, Tryz.results48, go_sem]) rfl (.inl ⟨rfl, rfl, _, BX.out, rfl⟩)
 ·
  go_enter Tryz.func48, Tryz.ntmps48
  go_wp2_with fail
  refine (C.out _).mono ?_; rintro e w1 ⟨rfl, rfl⟩
  go_wp2_with fail
  refine (for_no _ _ h).mono ?_; rintro e w1 ⟨rfl, rfl⟩
  refine (show bodyPost _ _ _ (Exit.panic (gvP _)) _ _ from ?_)
  simp only [bodyPost]
  exact ⟨trivial, .inr ⟨h, by first | rfl | trivial, Below.refl _ _⟩⟩
set_option maxHeartbeats 1000000 in
set_option maxRecDepth 100000 in
theorem qsread_s (b : Nat) (v0 v1 v2 v3 v4 v5 : Value) (s : ByteArray) (w : World) (X : Bk6 w b v0 v1 v2 v3 v4 v5) (hs : s.size ≤ 1000) (tp : TypeId) (pp : Value) (hvar : w.var? Tryz.prog "strconv.ErrRange" = some #[.iface tp pp]) :
  Calls Tryz.prog 48 #[.int .i64 1, .pointer (some ⟨b, 0, none⟩), .string s] w (AnsSt b 2 (.int .i64 (Qy.sc s.data.toList).1) ((Qy.sc s.data.toList).2) w) := by
 have C := Lib.hid (qsecond_any s w hs tp pp hvar)
 generalize Qy.sc s.data.toList = q at C ⊢
 obtain ⟨n, y⟩ := q
 clear hvar
 go_enter Tryz.func48, Tryz.ntmps48
 go_wp2_with fail
 refine C.out.mono ?_; rintro e w1 ⟨b1, ⟨h0, rfl⟩ | ⟨h0, rfl⟩⟩
 ·
  have X1 := X.keep b1
  have cb := X1.hb; have cf := X1.fz; have c0 := X1.k0; have c1 := X1.k1; have c2 := X1.k2; have c3 := X1.k3; have c4 := X1.k4; have c5 := X1.k5
  have BX := Lib.hid (b1)
  clear X1
  clear b1
  go_wp2_with fail
  exact bodyPost_ret (v := .tuple #[]) (by simp [results, Tryz.results48, go_sem]) rfl (.inl ⟨h0, rfl, _, BX.out, rfl⟩)
 ·
  have B1 := Lib.hid b1
  refine (show bodyPost _ _ _ (Exit.panic (gvP _)) _ _ from ?_)
  simp only [bodyPost]
  exact ⟨trivial, .inr ⟨h0, by first | rfl | trivial, B1.out⟩⟩
set_option maxHeartbeats 1000000 in
set_option maxRecDepth 100000 in
theorem qsread_n5 (b : Nat) (v0 v1 v2 v3 v4 v5 : Value) (s : ByteArray) (w : World) (X : Bk6 w b v0 v1 v2 v3 v4 v5) (hs : s.size ≤ 1000) (tp : TypeId) (pp : Value) (hvar : w.var? Tryz.prog "strconv.ErrRange" = some #[.iface tp pp]) :
  Calls Tryz.prog 48 #[.int .i64 5, .pointer (some ⟨b, 0, none⟩), .string s] w (AnsSt b 2 (.int .i64 (Num.rd s.data.toList).1) ((Num.rd s.data.toList).2) w) := by
 have C := Lib.hid (qy_read s w (by omega) tp pp hvar)
 generalize Num.rd s.data.toList = q at C ⊢
 obtain ⟨n, y⟩ := q
 have MU := Lib.hid (fun W => must64_ans n y W)
 clear hvar
 go_enter Tryz.func48, Tryz.ntmps48
 go_wp2_with fail
 refine C.out.mono ?_; rintro e w1 ⟨rfl, b1⟩
 go_wp2_with fail
 refine (MU.out _).mono ?_; rintro e w2 ⟨b2, ⟨h0, rfl⟩ | ⟨h0, rfl⟩⟩
 ·
  have d2 := below_step b1 b2
  have X2 := X.keep d2
  have cb := X2.hb; have cf := X2.fz; have c0 := X2.k0; have c1 := X2.k1; have c2 := X2.k2; have c3 := X2.k3; have c4 := X2.k4; have c5 := X2.k5
  have BX := Lib.hid (d2)
  clear X2
  clear d2 b1 b2
  go_wp2_with fail
  exact bodyPost_ret (v := .tuple #[]) (by simp [results, Tryz.results48, go_sem]) rfl (.inl ⟨h0, rfl, _, BX.out, rfl⟩)
 ·
  have B2 := Lib.hid (below_step b1 b2)
  refine (show bodyPost _ _ _ (Exit.panic (gvP _)) _ _ from ?_)
  simp only [bodyPost]
  exact ⟨trivial, .inr ⟨h0, by first | rfl | trivial, B2.out⟩⟩
set_option maxHeartbeats 1000000 in
set_option maxRecDepth 100000 in
theorem qsread_n2 (b : Nat) (v0 v1 v2 v3 v4 v5 : Value) (s : ByteArray) (w : World) (X : Bk6 w b v0 v1 v2 v3 v4 v5) (hs : s.size ≤ 1000) (tp : TypeId) (pp : Value) (hvar : w.var? Tryz.prog "strconv.ErrRange" = some #[.iface tp pp]) :
  Calls Tryz.prog 48 #[.int .i64 2, .pointer (some ⟨b, 0, none⟩), .string s] w (AnsSt b 3 (.int .i64 (Num.rd s.data.toList).1) ((Num.rd s.data.toList).2) w) := by
 have C := Lib.hid (qy_read s w (by omega) tp pp hvar)
 generalize Num.rd s.data.toList = q at C ⊢
 obtain ⟨n, y⟩ := q
 have MU := Lib.hid (fun W => must64_ans n y W)
 clear hvar
 go_enter Tryz.func48, Tryz.ntmps48
 go_wp2_with fail
 refine C.out.mono ?_; rintro e w1 ⟨rfl, b1⟩
 go_wp2_with fail
 refine (MU.out _).mono ?_; rintro e w2 ⟨b2, ⟨h0, rfl⟩ | ⟨h0, rfl⟩⟩
 ·
  have d2 := below_step b1 b2
  have X2 := X.keep d2
  have cb := X2.hb; have cf := X2.fz; have c0 := X2.k0; have c1 := X2.k1; have c2 := X2.k2; have c3 := X2.k3; have c4 := X2.k4; have c5 := X2.k5
  have BX := Lib.hid (d2)
  clear X2
  clear d2 b1 b2
  go_wp2_with fail
  exact bodyPost_ret (v := .tuple #[]) (by simp [results, Tryz.results48, go_sem]) rfl (.inl ⟨h0, rfl, _, BX.out, rfl⟩)
 ·
  have B2 := Lib.hid (below_step b1 b2)
  refine (show bodyPost _ _ _ (Exit.panic (gvP _)) _ _ from ?_)
  simp only [bodyPost]
  exact ⟨trivial, .inr ⟨h0, by first | rfl | trivial, B2.out⟩⟩
set_option maxHeartbeats 1000000 in
set_option maxRecDepth 100000 in
theorem qsread_n6 (b : Nat) (v0 v1 v2 v3 v4 v5 : Value) (s : ByteArray) (w : World) (X : Bk6 w b v0 v1 v2 v3 v4 v5) (hs : s.size ≤ 1000) (tp : TypeId) (pp : Value) (hvar : w.var? Tryz.prog "strconv.ErrRange" = some #[.iface tp pp]) :
  Calls Tryz.prog 48 #[.int .i64 6, .pointer (some ⟨b, 0, none⟩), .string s] w (AnsSt b 3 (.int .i64 (Num.rd s.data.toList).1) ((Num.rd s.data.toList).2) w) := by
 have C := Lib.hid (qy_read s w (by omega) tp pp hvar)
 generalize Num.rd s.data.toList = q at C ⊢
 obtain ⟨n, y⟩ := q
 have MU := Lib.hid (fun W => must64_ans n y W)
 clear hvar
 go_enter Tryz.func48, Tryz.ntmps48
 go_wp2_with fail
 refine C.out.mono ?_; rintro e w1 ⟨rfl, b1⟩
 go_wp2_with fail
 refine (MU.out _).mono ?_; rintro e w2 ⟨b2, ⟨h0, rfl⟩ | ⟨h0, rfl⟩⟩
 ·
  have d2 := below_step b1 b2
  have X2 := X.keep d2
  have cb := X2.hb; have cf := X2.fz; have c0 := X2.k0; have c1 := X2.k1; have c2 := X2.k2; have c3 := X2.k3; have c4 := X2.k4; have c5 := X2.k5
  have BX := Lib.hid (d2)
  clear X2
  clear d2 b1 b2
  go_wp2_with fail
  exact bodyPost_ret (v := .tuple #[]) (by simp [results, Tryz.results48, go_sem]) rfl (.inl ⟨h0, rfl, _, BX.out, rfl⟩)
 ·
  have B2 := Lib.hid (below_step b1 b2)
  refine (show bodyPost _ _ _ (Exit.panic (gvP _)) _ _ from ?_)
  simp only [bodyPost]
  exact ⟨trivial, .inr ⟨h0, by first | rfl | trivial, B2.out⟩⟩
set_option maxHeartbeats 1000000 in
set_option maxRecDepth 100000 in
theorem qsread_u (b : Nat) (v0 v1 v2 v3 v4 v5 : Value) (s : ByteArray) (w : World) (X : Bk6 w b v0 v1 v2 v3 v4 v5) (hs : s.size ≤ 1000) :
  Calls Tryz.prog 48 #[.int .i64 3, .pointer (some ⟨b, 0, none⟩), .string s] w (AnsSt b 4 (.int .i64 ((Wd.mat s.data.toList Qy.units).1 + 1)) ((Wd.mat s.data.toList Qy.units).2) w) := by
 have CU := Lib.hid (fun W => qunits_any W)
 have CM := Lib.hid (fun v W S => qmeant_any s v Qy.units W S hs (by decide) (by decide))
 generalize Wd.mat s.data.toList Qy.units = q at CM ⊢
 obtain ⟨n, y⟩ := q
 dsimp only at CM ⊢
 generalize n + 1 = n1 at CM ⊢
 go_enter Tryz.func48, Tryz.ntmps48
 go_wp2_with fail
 refine (CU.out _).mono ?_; rintro e w1 ⟨v, rfl, hv, b1⟩
 go_wp2_with fail
 refine (CM.out _ _ hv).mono ?_; rintro e w2 ⟨b2, ⟨h0, rfl⟩ | ⟨h0, rfl⟩⟩
 ·
  have d2 := below_step b1 b2
  have X2 := X.keep d2
  have cb := X2.hb; have cf := X2.fz; have c0 := X2.k0; have c1 := X2.k1; have c2 := X2.k2; have c3 := X2.k3; have c4 := X2.k4; have c5 := X2.k5
  have BX := Lib.hid (d2)
  clear X2
  clear d2 b1 b2 hv
  go_wp2_with fail
  exact bodyPost_ret (v := .tuple #[]) (by simp [results, Tryz.results48, go_sem]) rfl (.inl ⟨h0, rfl, _, BX.out, rfl⟩)
 ·
  have B2 := Lib.hid (below_step b1 b2)
  refine (show bodyPost _ _ _ (Exit.panic (gvP _)) _ _ from ?_)
  simp only [bodyPost]
  exact ⟨trivial, .inr ⟨h0, by first | rfl | trivial, B2.out⟩⟩
set_option maxHeartbeats 1000000 in
set_option maxRecDepth 100000 in
theorem qsread_p (b : Nat) (v0 v1 v2 v3 v4 v5 : Value) (s : ByteArray) (w : World) (X : Bk6 w b v0 v1 v2 v3 v4 v5) (hs : s.size ≤ 1000) :
  Calls Tryz.prog 48 #[.int .i64 4, .pointer (some ⟨b, 0, none⟩), .string s] w (AnsSt b 5 (.int .i64 ((Wd.mat s.data.toList Qy.pols).1 + 1)) ((Wd.mat s.data.toList Qy.pols).2) w) := by
 have CU := Lib.hid (fun W => qpols_any W)
 have CM := Lib.hid (fun v W S => qmeant_any s v Qy.pols W S hs (by decide) (by decide))
 generalize Wd.mat s.data.toList Qy.pols = q at CM ⊢
 obtain ⟨n, y⟩ := q
 dsimp only at CM ⊢
 generalize n + 1 = n1 at CM ⊢
 go_enter Tryz.func48, Tryz.ntmps48
 go_wp2_with fail
 refine (CU.out _).mono ?_; rintro e w1 ⟨v, rfl, hv, b1⟩
 go_wp2_with fail
 refine (CM.out _ _ hv).mono ?_; rintro e w2 ⟨b2, ⟨h0, rfl⟩ | ⟨h0, rfl⟩⟩
 ·
  have d2 := below_step b1 b2
  have X2 := X.keep d2
  have cb := X2.hb; have cf := X2.fz; have c0 := X2.k0; have c1 := X2.k1; have c2 := X2.k2; have c3 := X2.k3; have c4 := X2.k4; have c5 := X2.k5
  have BX := Lib.hid (d2)
  clear X2
  clear d2 b1 b2 hv
  go_wp2_with fail
  exact bodyPost_ret (v := .tuple #[]) (by simp [results, Tryz.results48, go_sem]) rfl (.inl ⟨h0, rfl, _, BX.out, rfl⟩)
 ·
  have B2 := Lib.hid (below_step b1 b2)
  refine (show bodyPost _ _ _ (Exit.panic (gvP _)) _ _ from ?_)
  simp only [bodyPost]
  exact ⟨trivial, .inr ⟨h0, by first | rfl | trivial, B2.out⟩⟩
def NsS (base : Nat) (w : World) (v : Value) (l : List Int) : Prop := ∃ A c, v = .slice A l.length c ∧ (0 < l.length → ∃ a, A = some a ∧ base ≤ a.block ∧ a.block < w.heap.size ∧ (a.off = 0 ∧ a.spot = none) ∧ ∀ i x, l[i]? = some x → w.cell? (a.add i) = some (.int .i64 x))
theorem NsS.on {base : Nat} {w w' : World} {v : Value} {l : List Int} (h : NsS base w v l) (k : Below w.heap.size w w') : NsS base w' v l := by
 obtain ⟨A, c, hv, ha⟩ := h
 refine ⟨A, c, hv, fun hp => ?_⟩
 obtain ⟨a, h1, h0, h2, hz, h3⟩ := ha hp
 exact ⟨a, h1, h0, Nat.lt_of_lt_of_le h2 k.size, hz, fun i x hx => (k.cell (by rw [blk_add]; exact h2)).trans (h3 i x hx)⟩
theorem NsS.low {base b0 : Nat} {w : World} {v : Value} {l : List Int} (h : NsS base w v l) (k : b0 ≤ base) : NsS b0 w v l := by
 obtain ⟨A, c, hv, ha⟩ := h
 refine ⟨A, c, hv, fun hp => ?_⟩
 obtain ⟨a, h1, h0, h2, hz, h3⟩ := ha hp
 exact ⟨a, h1, Nat.le_trans k h0, h2, hz, h3⟩
theorem NsS.other {base b j : Nat} {w : World} {v u : Value} {l : List Int} (h : NsS base w v l) (hb : b < base) : NsS base (w.setCell ⟨b, j, none⟩ u) v l := by
 obtain ⟨A, c, hv, ha⟩ := h
 refine ⟨A, c, hv, fun hp => ?_⟩
 obtain ⟨a, h1, h0, h2, hz, h3⟩ := ha hp
 refine ⟨a, h1, h0, by simpa using h2, hz, fun i x hx => ?_⟩
 have hne : b ≠ a.block := by omega
 have hk := h3 i x hx
 have e : a.add i = ⟨a.block, (a.add i).off, (a.add i).spot⟩ := by rw [← blk_add a i]
 rw [e] at hk ⊢
 simp [go_sem, hk, hne, hne.symm]
theorem NsS.mk {base : Nat} {W : World} (b c : Nat) (l : List Int) (h0 : base ≤ b) (hb : b < W.heap.size) (h : ∀ i (hi : i < l.length), W.cell? ⟨b, i, none⟩ = some (.int .i64 l[i])) : NsS base W (.slice (some ⟨b, 0, none⟩) l.length c) l := by
 refine ⟨_, c, rfl, fun _ => ⟨_, rfl, h0, hb, ⟨rfl, rfl⟩, fun i x hx => ?_⟩⟩
 obtain ⟨hi, rfl⟩ := List.getElem?_eq_some_iff.1 hx
 rw [show (⟨b, 0, none⟩ : Addr).add i = ⟨b, i, none⟩ by simp [Addr.add]; exact fun h => h.symm]
 exact h i hi
theorem NsS.grown {base : Nat} {w w' : World} {v : Value} {l : List Int} {row : Option Nat} (h : NsS base w v l) (g : w.grownBy w' row) (hr : ∀ b, row = some b → ∃ s, w.cell? ⟨b, 0, none⟩ = some (.string s)) : NsS base w' v l := by
 obtain ⟨A, c, hv, ha⟩ := h
 refine ⟨A, c, hv, fun hp => ?_⟩
 obtain ⟨a, h1, h0, h2, hz, h3⟩ := ha hp
 have hne : some a.block ≠ row := by
  intro e
  obtain ⟨s, hs⟩ := hr a.block e.symm
  have := h3 0 l[0] (List.getElem?_eq_getElem hp)
  rw [Addr.add_zero'] at this
  have ea : a = ⟨a.block, 0, none⟩ := by rcases a with ⟨ab, ao, asp⟩; obtain ⟨e1, e2⟩ := hz; subst e1; subst e2; rfl
  rw [ea, hs] at this
  cases this
 exact ⟨a, h1, h0, Nat.lt_of_lt_of_le h2 g.size, hz, fun i x hx => g.cell (h3 i x hx) (by rw [blk_add]; exact hne)⟩
theorem NsS.nil (base : Nat) (W : World) : NsS base W (.slice none 0 0) [] := ⟨none, 0, rfl, fun h => absurd h (by simp)⟩
def Qy.sl (k : Nat) : List Int := if k = 1 ∨ k = 2 ∨ k = 4 then [0, 1] else if k = 3 then [0, 1, 4] else if k = 5 then [0, 1, 2, 3, 4] else if k = 7 then [0, 5, 6] else []
set_option maxHeartbeats 2000000 in
set_option maxRecDepth 100000 in
theorem qslots_any (w : World) : Calls Tryz.prog 47 #[] w fun e w' => ∃ vs : List Value, vs.length = 8 ∧ e = .returned (.agg vs.toArray) ∧ (∀ k (h : k < vs.length), NsS w.heap.size w' vs[k] (Qy.sl k)) ∧ Below w.heap.size w w' := by
 go_enter Tryz.func47, Tryz.ntmps47
 go_wp2_with fail
 refine bodyPost_ret (v := .agg #[.slice none 0 0, .slice (some ⟨w.heap.size + 1, 0, none⟩) 2 2, .slice (some ⟨w.heap.size + 1 + 1, 0, none⟩) 2 2, .slice (some ⟨w.heap.size + 1 + 1 + 1, 0, none⟩) 3 3, .slice (some ⟨w.heap.size + 1 + 1 + 1 + 1, 0, none⟩) 2 2, .slice (some ⟨w.heap.size + 1 + 1 + 1 + 1 + 1, 0, none⟩) 5 5, .slice none 0 0, .slice (some ⟨w.heap.size + 1 + 1 + 1 + 1 + 1 + 1, 0, none⟩) 3 3]) (by simp [results, Tryz.results47, go_sem]) rfl ⟨[.slice none 0 0, .slice (some ⟨w.heap.size + 1, 0, none⟩) 2 2, .slice (some ⟨w.heap.size + 1 + 1, 0, none⟩) 2 2, .slice (some ⟨w.heap.size + 1 + 1 + 1, 0, none⟩) 3 3, .slice (some ⟨w.heap.size + 1 + 1 + 1 + 1, 0, none⟩) 2 2, .slice (some ⟨w.heap.size + 1 + 1 + 1 + 1 + 1, 0, none⟩) 5 5, .slice none 0 0, .slice (some ⟨w.heap.size + 1 + 1 + 1 + 1 + 1 + 1, 0, none⟩) 3 3], rfl, rfl, ?_, gr0⟩
 intro k h
 match k, h with
 | 0, _ => exact NsS.nil _ _
 | 1, _ => exact NsS.mk (w.heap.size + 1) 2 [0, 1] (by omega) (by simp <;> omega) (fun i hi => by
   match i, hi with
   | 0, _ => simp [go_sem]
   | 1, _ => simp [go_sem]
   | i + 2, hi => exact absurd hi (by simp))
 | 2, _ => exact NsS.mk (w.heap.size + 1 + 1) 2 [0, 1] (by omega) (by simp <;> omega) (fun i hi => by
   match i, hi with
   | 0, _ => simp [go_sem]
   | 1, _ => simp [go_sem]
   | i + 2, hi => exact absurd hi (by simp))
 | 3, _ => exact NsS.mk (w.heap.size + 1 + 1 + 1) 3 [0, 1, 4] (by omega) (by simp <;> omega) (fun i hi => by
   match i, hi with
   | 0, _ => simp [go_sem]
   | 1, _ => simp [go_sem]
   | 2, _ => simp [go_sem]
   | i + 3, hi => exact absurd hi (by simp))
 | 4, _ => exact NsS.mk (w.heap.size + 1 + 1 + 1 + 1) 2 [0, 1] (by omega) (by simp <;> omega) (fun i hi => by
   match i, hi with
   | 0, _ => simp [go_sem]
   | 1, _ => simp [go_sem]
   | i + 2, hi => exact absurd hi (by simp))
 | 5, _ => exact NsS.mk (w.heap.size + 1 + 1 + 1 + 1 + 1) 5 [0, 1, 2, 3, 4] (by omega) (by simp <;> omega) (fun i hi => by
   match i, hi with
   | 0, _ => simp [go_sem]
   | 1, _ => simp [go_sem]
   | 2, _ => simp [go_sem]
   | 3, _ => simp [go_sem]
   | 4, _ => simp [go_sem]
   | i + 5, hi => exact absurd hi (by simp))
 | 6, _ => exact NsS.nil _ _
 | 7, _ => exact NsS.mk (w.heap.size + 1 + 1 + 1 + 1 + 1 + 1) 3 [0, 5, 6] (by omega) (by simp <;> omega) (fun i hi => by
   match i, hi with
   | 0, _ => simp [go_sem]
   | 1, _ => simp [go_sem]
   | 2, _ => simp [go_sem]
   | i + 3, hi => exact absurd hi (by simp))
 | k + 8, h => exact absurd h (by simp)
end Go.Proofs.YtbcbggdbojonmaaGreatDoor
