/- The answers that noontidelaw15.lives asks for: it is true. -/
import Derived.Test.YtldpchkapcnfbaaDoorWdC
import Derived.Lib.Builder
set_option linter.unusedVariables false
set_option linter.unusedSimpArgs false
namespace Go.Proofs.YtldpchkapcnfbaaDoor
open Go.RowKit Go.Sort

theorem StS.new (W : World) (l : List ByteArray) (t : TypeId) (c : Nat) : StS (W.alloc (.cells (l.map Value.string).toArray t)) (.slice (some ⟨W.heap.size, 0, none⟩) l.length c) l :=
  ⟨_, _, rfl, fun _ => ⟨_, rfl, by simp, by
    intro j u hj
    rw [show (⟨W.heap.size, 0, none⟩ : Addr).add j = ⟨W.heap.size, j, none⟩ by simp [Addr.add]; exact fun h => h.symm]
    rw [Lib.cell_of_heap (heap_alloc_new W _)]
    simpa using hj⟩⟩
theorem StS.none (W : World) : StS W (.slice none 0 0) [] := Lst.nil _ _
theorem month_c (s : ByteArray) (p q : Int) (h : Wd.up (Wd.mat s.data.toList Wd.months) = p) (h2 : (Wd.mat s.data.toList Wd.months).2 = q) (hs : s.size ≤ maxLen) (w : World) (T : Wd.Tabs w) :
    Calls Tryd.prog 15 #[.string s] w fun e w' => e = .returned (.tuple #[.int .i64 p, .int .i64 q]) ∧ Below w.heap.size w w' := by
  have := month_any s w hs T
  rw [h, h2] at this
  exact this
theorem weekday_c (s : ByteArray) (p q : Int) (h : (Wd.mat s.data.toList Wd.days).1 = p) (h2 : (Wd.mat s.data.toList Wd.days).2 = q) (hs : s.size ≤ maxLen) (w : World) (T : Wd.Tabs w) :
    Calls Tryd.prog 17 #[.string s] w fun e w' => e = .returned (.tuple #[.int .i64 p, .int .i64 q]) ∧ Below w.heap.size w w' := by
  have := weekday_any s w hs T
  rw [h, h2] at this
  exact this
theorem match_c (s : ByteArray) (l : List ByteArray) (p q : Int) (h : Wd.mat s.data.toList l = (p, q)) (hs : s.size ≤ maxLen) (hz : ∀ x ∈ l, x.size ≤ maxLen) (hm : l.length ≤ maxLen) (w : World) (v : Value) (hv : StS w v l) :
    Calls Tryd.prog 19 #[.string s, v] w fun e w' => e = .returned (.tuple #[.int .i64 p, .int .i64 q]) ∧ Below w.heap.size w w' := by
  have := match_any s v l w hv hs hz hm
  rw [h] at this
  exact this.mono fun _ _ ⟨a, k, b⟩ => ⟨a, by rw [b]; exact below_draw _ _⟩
theorem wsame_c (a b : ByteArray) (r : Bool) (h : Wd.same a.data.toList b.data.toList = r) (ha : a.size ≤ maxLen) (hb : b.size ≤ maxLen) (w : World) :
    Calls Tryd.prog 20 #[.string a, .string b] w fun e w' => e = .returned (.bool r) ∧ Below w.heap.size w w' := by
  have := wsame_any a b w ha hb
  rw [h] at this
  exact this.mono fun _ _ ⟨a, k, b⟩ => ⟨a, by rw [b]; exact below_draw _ _⟩
theorem mtext_c (n : Int) (r : ByteArray) (h : Wd.t3 Wd.months (n - 1) = r) (w : World) (T : Wd.Tabs w) : Calls Tryd.prog 16 #[.int .i64 n] w fun e w' => e = .returned (.string r) ∧ Below w.heap.size w w' := by
  have := mtext_any n w T
  rw [h] at this
  exact this
theorem dtext_c (n : Int) (r : ByteArray) (h : Wd.t3 Wd.days (n - 0) = r) (w : World) (T : Wd.Tabs w) : Calls Tryd.prog 18 #[.int .i64 n] w fun e w' => e = .returned (.string r) ∧ Below w.heap.size w w' := by
  have := dtext_any n w T
  rw [h] at this
  exact this

set_option maxHeartbeats 4000000 in
set_option maxRecDepth 100000 in
theorem lives15 (w : World) (T : Wd.Tabs w) : Calls Tryd.prog 14 #[] w fun e w' => e = .returned (.bool true) ∧ Below w.heap.size w w' := by
  have T0 := Lib.hid T; clear T
  have M0 := Lib.hid (month_c ⟨#[70]⟩ 2 0 (by decide +kernel) (by decide +kernel) (by unfold maxLen; decide))
  have M1 := Lib.hid (month_c ⟨#[70, 69, 66, 82, 85, 65, 82, 89]⟩ 2 0 (by decide +kernel) (by decide +kernel) (by unfold maxLen; decide))
  have M2 := Lib.hid (month_c ⟨#[74, 117]⟩ 0 3 (by decide +kernel) (by decide +kernel) (by unfold maxLen; decide))
  have M3 := Lib.hid (month_c ⟨#[106, 117, 110]⟩ 6 0 (by decide +kernel) (by decide +kernel) (by unfold maxLen; decide))
  have M4 := Lib.hid (month_c ⟨#[]⟩ 0 3 (by decide +kernel) (by decide +kernel) (by unfold maxLen; decide))
  have M5 := Lib.hid (month_c ⟨#[74, 97, 110, 117, 97, 114, 121, 120]⟩ 0 3 (by decide +kernel) (by decide +kernel) (by unfold maxLen; decide))
  have D0 := Lib.hid (weekday_c ⟨#[83, 97, 116]⟩ 6 0 (by decide +kernel) (by decide +kernel) (by unfold maxLen; decide))
  have D1 := Lib.hid (weekday_c ⟨#[83]⟩ 0 3 (by decide +kernel) (by decide +kernel) (by unfold maxLen; decide))
  have D2 := Lib.hid (weekday_c ⟨#[84, 117]⟩ 2 0 (by decide +kernel) (by decide +kernel) (by unfold maxLen; decide))
  have X0 := Lib.hid (match_c ⟨#[105, 110]⟩ [⟨#[105, 110, 110, 101, 114]⟩, ⟨#[105, 110]⟩, ⟨#[120]⟩] 1 0 (by decide +kernel) (by unfold maxLen; decide) (by intro x hx; simp at hx; rcases hx with rfl | rfl | rfl <;> (unfold maxLen; decide)) (by unfold maxLen; decide))
  have X1 := Lib.hid (match_c ⟨#[105]⟩ [⟨#[105, 110, 110, 101, 114]⟩, ⟨#[105, 110]⟩] 0 3 (by decide +kernel) (by unfold maxLen; decide) (by intro x hx; simp at hx; rcases hx with rfl | rfl <;> (unfold maxLen; decide)) (by unfold maxLen; decide))
  have X2 := Lib.hid (match_c ⟨#[105]⟩ [⟨#[120]⟩, ⟨#[73, 110]⟩, ⟨#[105, 78]⟩] 1 0 (by decide +kernel) (by unfold maxLen; decide) (by intro x hx; simp at hx; rcases hx with rfl | rfl | rfl <;> (unfold maxLen; decide)) (by unfold maxLen; decide))
  have X3 := Lib.hid (match_c ⟨#[97]⟩ [] 0 3 (by decide +kernel) (by unfold maxLen; decide) (by intro x hx; cases hx) (by unfold maxLen; decide))
  have S0 := Lib.hid (wsame_c ⟨#[97, 66]⟩ ⟨#[65, 98]⟩ true (by decide +kernel) (by unfold maxLen; decide) (by unfold maxLen; decide))
  have S1 := Lib.hid (wsame_c ⟨#[97]⟩ ⟨#[97, 98]⟩ false (by decide +kernel) (by unfold maxLen; decide) (by unfold maxLen; decide))
  have S2 := Lib.hid (wsame_c ⟨#[91]⟩ ⟨#[123]⟩ false (by decide +kernel) (by unfold maxLen; decide) (by unfold maxLen; decide))
  have Y0 := Lib.hid (mtext_c 9 ⟨#[83, 101, 112]⟩ (by decide +kernel))
  have Y1 := Lib.hid (mtext_c 0 ⟨#[]⟩ (by decide +kernel))
  have Z0 := Lib.hid (dtext_c 0 ⟨#[83, 117, 110]⟩ (by decide +kernel))
  have Z1 := Lib.hid (dtext_c 7 ⟨#[]⟩ (by decide +kernel))
  go_enter Tryd.func14, Tryd.ntmps14
  go_wp2_with fail
  refine (M0.out _ T0.out).mono ?_; rintro e w1 ⟨rfl, b1⟩
  have d1 : Below w.heap.size w w1 := below_step (by repeat (first | exact Below.refl _ _ | refine below_drewN ?_ _ | refine Below.drew ?_ | refine Below.setCell ?_ (by first | (simp; done) | (simp; omega) | omega) _ | refine Below.alloc ?_ (by first | (simp; done) | (simp; omega) | omega) _)) b1
  have B1 := Lib.hid d1
  clear b1 d1
  go_wp2_with fail
  refine (M1.out _ (Wd.Tabs.on (Wd.Tabs.on T0.out B1.out) (by repeat (first | exact Below.refl _ _ | refine below_drewN ?_ _ | refine Below.drew ?_ | refine Below.setCell ?_ (by first | (simp; done) | (simp; omega) | omega) _ | refine Below.alloc ?_ (by first | (simp; done) | (simp; omega) | omega) _)))).mono ?_; rintro e w2 ⟨rfl, b2⟩
  have d2 : Below w1.heap.size w1 w2 := below_step (by repeat (first | exact Below.refl _ _ | refine below_drewN ?_ _ | refine Below.drew ?_ | refine Below.setCell ?_ (by first | (simp; done) | (simp; omega) | omega) _ | refine Below.alloc ?_ (by first | (simp; done) | (simp; omega) | omega) _)) b2
  have B2 := Lib.hid (below_step B1.out d2)
  clear b2 d2 B1
  go_wp2_with fail
  refine (M2.out _ (Wd.Tabs.on (Wd.Tabs.on T0.out B2.out) (by repeat (first | exact Below.refl _ _ | refine below_drewN ?_ _ | refine Below.drew ?_ | refine Below.setCell ?_ (by first | (simp; done) | (simp; omega) | omega) _ | refine Below.alloc ?_ (by first | (simp; done) | (simp; omega) | omega) _)))).mono ?_; rintro e w3 ⟨rfl, b3⟩
  have d3 : Below w2.heap.size w2 w3 := below_step (by repeat (first | exact Below.refl _ _ | refine below_drewN ?_ _ | refine Below.drew ?_ | refine Below.setCell ?_ (by first | (simp; done) | (simp; omega) | omega) _ | refine Below.alloc ?_ (by first | (simp; done) | (simp; omega) | omega) _)) b3
  have B3 := Lib.hid (below_step B2.out d3)
  clear b3 d3 B2
  go_wp2_with fail
  refine (M3.out _ (Wd.Tabs.on (Wd.Tabs.on T0.out B3.out) (by repeat (first | exact Below.refl _ _ | refine below_drewN ?_ _ | refine Below.drew ?_ | refine Below.setCell ?_ (by first | (simp; done) | (simp; omega) | omega) _ | refine Below.alloc ?_ (by first | (simp; done) | (simp; omega) | omega) _)))).mono ?_; rintro e w4 ⟨rfl, b4⟩
  have d4 : Below w3.heap.size w3 w4 := below_step (by repeat (first | exact Below.refl _ _ | refine below_drewN ?_ _ | refine Below.drew ?_ | refine Below.setCell ?_ (by first | (simp; done) | (simp; omega) | omega) _ | refine Below.alloc ?_ (by first | (simp; done) | (simp; omega) | omega) _)) b4
  have B4 := Lib.hid (below_step B3.out d4)
  clear b4 d4 B3
  go_wp2_with fail
  refine (M4.out _ (Wd.Tabs.on (Wd.Tabs.on T0.out B4.out) (by repeat (first | exact Below.refl _ _ | refine below_drewN ?_ _ | refine Below.drew ?_ | refine Below.setCell ?_ (by first | (simp; done) | (simp; omega) | omega) _ | refine Below.alloc ?_ (by first | (simp; done) | (simp; omega) | omega) _)))).mono ?_; rintro e w5 ⟨rfl, b5⟩
  have d5 : Below w4.heap.size w4 w5 := below_step (by repeat (first | exact Below.refl _ _ | refine below_drewN ?_ _ | refine Below.drew ?_ | refine Below.setCell ?_ (by first | (simp; done) | (simp; omega) | omega) _ | refine Below.alloc ?_ (by first | (simp; done) | (simp; omega) | omega) _)) b5
  have B5 := Lib.hid (below_step B4.out d5)
  clear b5 d5 B4
  go_wp2_with fail
  refine (M5.out _ (Wd.Tabs.on (Wd.Tabs.on T0.out B5.out) (by repeat (first | exact Below.refl _ _ | refine below_drewN ?_ _ | refine Below.drew ?_ | refine Below.setCell ?_ (by first | (simp; done) | (simp; omega) | omega) _ | refine Below.alloc ?_ (by first | (simp; done) | (simp; omega) | omega) _)))).mono ?_; rintro e w6 ⟨rfl, b6⟩
  have d6 : Below w5.heap.size w5 w6 := below_step (by repeat (first | exact Below.refl _ _ | refine below_drewN ?_ _ | refine Below.drew ?_ | refine Below.setCell ?_ (by first | (simp; done) | (simp; omega) | omega) _ | refine Below.alloc ?_ (by first | (simp; done) | (simp; omega) | omega) _)) b6
  have B6 := Lib.hid (below_step B5.out d6)
  clear b6 d6 B5
  go_wp2_with fail
  refine (D0.out _ (Wd.Tabs.on (Wd.Tabs.on T0.out B6.out) (by repeat (first | exact Below.refl _ _ | refine below_drewN ?_ _ | refine Below.drew ?_ | refine Below.setCell ?_ (by first | (simp; done) | (simp; omega) | omega) _ | refine Below.alloc ?_ (by first | (simp; done) | (simp; omega) | omega) _)))).mono ?_; rintro e w7 ⟨rfl, b7⟩
  have d7 : Below w6.heap.size w6 w7 := below_step (by repeat (first | exact Below.refl _ _ | refine below_drewN ?_ _ | refine Below.drew ?_ | refine Below.setCell ?_ (by first | (simp; done) | (simp; omega) | omega) _ | refine Below.alloc ?_ (by first | (simp; done) | (simp; omega) | omega) _)) b7
  have B7 := Lib.hid (below_step B6.out d7)
  clear b7 d7 B6
  go_wp2_with fail
  refine (D1.out _ (Wd.Tabs.on (Wd.Tabs.on T0.out B7.out) (by repeat (first | exact Below.refl _ _ | refine below_drewN ?_ _ | refine Below.drew ?_ | refine Below.setCell ?_ (by first | (simp; done) | (simp; omega) | omega) _ | refine Below.alloc ?_ (by first | (simp; done) | (simp; omega) | omega) _)))).mono ?_; rintro e w8 ⟨rfl, b8⟩
  have d8 : Below w7.heap.size w7 w8 := below_step (by repeat (first | exact Below.refl _ _ | refine below_drewN ?_ _ | refine Below.drew ?_ | refine Below.setCell ?_ (by first | (simp; done) | (simp; omega) | omega) _ | refine Below.alloc ?_ (by first | (simp; done) | (simp; omega) | omega) _)) b8
  have B8 := Lib.hid (below_step B7.out d8)
  clear b8 d8 B7
  go_wp2_with fail
  refine (D2.out _ (Wd.Tabs.on (Wd.Tabs.on T0.out B8.out) (by repeat (first | exact Below.refl _ _ | refine below_drewN ?_ _ | refine Below.drew ?_ | refine Below.setCell ?_ (by first | (simp; done) | (simp; omega) | omega) _ | refine Below.alloc ?_ (by first | (simp; done) | (simp; omega) | omega) _)))).mono ?_; rintro e w9 ⟨rfl, b9⟩
  have d9 : Below w8.heap.size w8 w9 := below_step (by repeat (first | exact Below.refl _ _ | refine below_drewN ?_ _ | refine Below.drew ?_ | refine Below.setCell ?_ (by first | (simp; done) | (simp; omega) | omega) _ | refine Below.alloc ?_ (by first | (simp; done) | (simp; omega) | omega) _)) b9
  have B9 := Lib.hid (below_step B8.out d9)
  clear b9 d9 B8
  go_wp2_with fail
  refine (X0.out _ _ (StS.new _ _ _ _)).mono ?_; rintro e w10 ⟨rfl, b10⟩
  have d10 : Below w9.heap.size w9 w10 := below_step (by repeat (first | exact Below.refl _ _ | refine below_drewN ?_ _ | refine Below.drew ?_ | refine Below.setCell ?_ (by first | (simp; done) | (simp; omega) | omega) _ | refine Below.alloc ?_ (by first | (simp; done) | (simp; omega) | omega) _)) b10
  have B10 := Lib.hid (below_step B9.out d10)
  clear b10 d10 B9
  go_wp2_with fail
  refine (X1.out _ _ (StS.new _ _ _ _)).mono ?_; rintro e w11 ⟨rfl, b11⟩
  have d11 : Below w10.heap.size w10 w11 := below_step (by repeat (first | exact Below.refl _ _ | refine below_drewN ?_ _ | refine Below.drew ?_ | refine Below.setCell ?_ (by first | (simp; done) | (simp; omega) | omega) _ | refine Below.alloc ?_ (by first | (simp; done) | (simp; omega) | omega) _)) b11
  have B11 := Lib.hid (below_step B10.out d11)
  clear b11 d11 B10
  go_wp2_with fail
  refine (X2.out _ _ (StS.new _ _ _ _)).mono ?_; rintro e w12 ⟨rfl, b12⟩
  have d12 : Below w11.heap.size w11 w12 := below_step (by repeat (first | exact Below.refl _ _ | refine below_drewN ?_ _ | refine Below.drew ?_ | refine Below.setCell ?_ (by first | (simp; done) | (simp; omega) | omega) _ | refine Below.alloc ?_ (by first | (simp; done) | (simp; omega) | omega) _)) b12
  have B12 := Lib.hid (below_step B11.out d12)
  clear b12 d12 B11
  go_wp2_with fail
  refine (X3.out _ _ (StS.none _)).mono ?_; rintro e w13 ⟨rfl, b13⟩
  have d13 : Below w12.heap.size w12 w13 := below_step (by repeat (first | exact Below.refl _ _ | refine below_drewN ?_ _ | refine Below.drew ?_ | refine Below.setCell ?_ (by first | (simp; done) | (simp; omega) | omega) _ | refine Below.alloc ?_ (by first | (simp; done) | (simp; omega) | omega) _)) b13
  have B13 := Lib.hid (below_step B12.out d13)
  clear b13 d13 B12
  go_wp2_with fail
  refine (S0.out _).mono ?_; rintro e w14 ⟨rfl, b14⟩
  have d14 : Below w13.heap.size w13 w14 := below_step (by repeat (first | exact Below.refl _ _ | refine below_drewN ?_ _ | refine Below.drew ?_ | refine Below.setCell ?_ (by first | (simp; done) | (simp; omega) | omega) _ | refine Below.alloc ?_ (by first | (simp; done) | (simp; omega) | omega) _)) b14
  have B14 := Lib.hid (below_step B13.out d14)
  clear b14 d14 B13
  go_wp2_with fail
  refine (S1.out _).mono ?_; rintro e w15 ⟨rfl, b15⟩
  have d15 : Below w14.heap.size w14 w15 := below_step (by repeat (first | exact Below.refl _ _ | refine below_drewN ?_ _ | refine Below.drew ?_ | refine Below.setCell ?_ (by first | (simp; done) | (simp; omega) | omega) _ | refine Below.alloc ?_ (by first | (simp; done) | (simp; omega) | omega) _)) b15
  have B15 := Lib.hid (below_step B14.out d15)
  clear b15 d15 B14
  go_wp2_with fail
  refine (S2.out _).mono ?_; rintro e w16 ⟨rfl, b16⟩
  have d16 : Below w15.heap.size w15 w16 := below_step (by repeat (first | exact Below.refl _ _ | refine below_drewN ?_ _ | refine Below.drew ?_ | refine Below.setCell ?_ (by first | (simp; done) | (simp; omega) | omega) _ | refine Below.alloc ?_ (by first | (simp; done) | (simp; omega) | omega) _)) b16
  have B16 := Lib.hid (below_step B15.out d16)
  clear b16 d16 B15
  go_wp2_with fail
  refine (Y0.out _ (Wd.Tabs.on (Wd.Tabs.on T0.out B16.out) (by repeat (first | exact Below.refl _ _ | refine below_drewN ?_ _ | refine Below.drew ?_ | refine Below.setCell ?_ (by first | (simp; done) | (simp; omega) | omega) _ | refine Below.alloc ?_ (by first | (simp; done) | (simp; omega) | omega) _)))).mono ?_; rintro e w17 ⟨rfl, b17⟩
  have d17 : Below w16.heap.size w16 w17 := below_step (by repeat (first | exact Below.refl _ _ | refine below_drewN ?_ _ | refine Below.drew ?_ | refine Below.setCell ?_ (by first | (simp; done) | (simp; omega) | omega) _ | refine Below.alloc ?_ (by first | (simp; done) | (simp; omega) | omega) _)) b17
  have B17 := Lib.hid (below_step B16.out d17)
  clear b17 d17 B16
  go_wp2_with fail
  refine (Y1.out _ (Wd.Tabs.on (Wd.Tabs.on T0.out B17.out) (by repeat (first | exact Below.refl _ _ | refine below_drewN ?_ _ | refine Below.drew ?_ | refine Below.setCell ?_ (by first | (simp; done) | (simp; omega) | omega) _ | refine Below.alloc ?_ (by first | (simp; done) | (simp; omega) | omega) _)))).mono ?_; rintro e w18 ⟨rfl, b18⟩
  have d18 : Below w17.heap.size w17 w18 := below_step (by repeat (first | exact Below.refl _ _ | refine below_drewN ?_ _ | refine Below.drew ?_ | refine Below.setCell ?_ (by first | (simp; done) | (simp; omega) | omega) _ | refine Below.alloc ?_ (by first | (simp; done) | (simp; omega) | omega) _)) b18
  have B18 := Lib.hid (below_step B17.out d18)
  clear b18 d18 B17
  go_wp2_with fail
  refine (Z0.out _ (Wd.Tabs.on (Wd.Tabs.on T0.out B18.out) (by repeat (first | exact Below.refl _ _ | refine below_drewN ?_ _ | refine Below.drew ?_ | refine Below.setCell ?_ (by first | (simp; done) | (simp; omega) | omega) _ | refine Below.alloc ?_ (by first | (simp; done) | (simp; omega) | omega) _)))).mono ?_; rintro e w19 ⟨rfl, b19⟩
  have d19 : Below w18.heap.size w18 w19 := below_step (by repeat (first | exact Below.refl _ _ | refine below_drewN ?_ _ | refine Below.drew ?_ | refine Below.setCell ?_ (by first | (simp; done) | (simp; omega) | omega) _ | refine Below.alloc ?_ (by first | (simp; done) | (simp; omega) | omega) _)) b19
  have B19 := Lib.hid (below_step B18.out d19)
  clear b19 d19 B18
  go_wp2_with fail
  refine (Z1.out _ (Wd.Tabs.on (Wd.Tabs.on T0.out B19.out) (by repeat (first | exact Below.refl _ _ | refine below_drewN ?_ _ | refine Below.drew ?_ | refine Below.setCell ?_ (by first | (simp; done) | (simp; omega) | omega) _ | refine Below.alloc ?_ (by first | (simp; done) | (simp; omega) | omega) _)))).mono ?_; rintro e w20 ⟨rfl, b20⟩
  have d20 : Below w19.heap.size w19 w20 := below_step (by repeat (first | exact Below.refl _ _ | refine below_drewN ?_ _ | refine Below.drew ?_ | refine Below.setCell ?_ (by first | (simp; done) | (simp; omega) | omega) _ | refine Below.alloc ?_ (by first | (simp; done) | (simp; omega) | omega) _)) b20
  have B20 := Lib.hid (below_step B19.out d20)
  clear b20 d20 B19
  go_wp2_with fail
  go_ret
  exact ⟨rfl, (by have hz := B20.out.size; repeat (first | exact B20.out | refine below_drewN ?_ _ | refine Below.drew ?_ | refine Below.setCell ?_ (by first | omega | (simp; done) | (simp; omega)) _ | refine Below.alloc ?_ (by first | omega | (simp; done) | (simp; omega)) _))⟩
end Go.Proofs.YtldpchkapcnfbaaDoor

