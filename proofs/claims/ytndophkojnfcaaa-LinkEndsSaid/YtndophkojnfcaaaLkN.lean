/- The answers that noontidelaw23.lives asks for: it is true. -/
import Derived.Test.YtndophkojnfcaaaLkI
import Derived.Test.YtndophkojnfcaaaLkE
import Derived.Test.YtndophkojnfcaaaSm13
set_option linter.unusedVariables false
set_option linter.unusedSimpArgs false
namespace Go.Proofs.Ytndophkojnfcaaa
open Go.RowKit Go.Sort

theorem lk_info : (Try.prog.info? 47).map (fun i => (i.zero, i.size, i.bytes)) = some (some (.agg #[.string ⟨#[]⟩, .string ⟨#[]⟩]), 2, 32) := by kernel_rfl
theorem StS.rowk (W : World) (l : List ByteArray) (t : TypeId) (c : Nat) : StS (W.alloc (.cells (l.map Value.string).toArray t)) (.slice (some ⟨W.heap.size, 0, none⟩) l.length c) l :=
  ⟨_, _, rfl, fun _ => ⟨_, rfl, by simp, by
    intro j u hj
    rw [show (⟨W.heap.size, 0, none⟩ : Addr).add j = ⟨W.heap.size, j, none⟩ by simp [Addr.add]; exact fun h => h.symm]
    rw [Lib.cell_of_heap (heap_alloc_new W _)]
    simpa using hj⟩⟩
theorem StS.rowb (b : Nat) (W : World) (hb : b = W.heap.size) (l : List ByteArray) (t : TypeId) (c : Nat) : StS (W.alloc (.cells (l.map Value.string).toArray t)) (.slice (some ⟨b, 0, none⟩) l.length c) l := by
  subst hb
  exact StS.rowk W l t c
theorem LkS.row (W : World) (l : List (ByteArray × ByteArray)) (t : TypeId) (c : Nat) : LkS (W.alloc (.cells (Lk.cs l).toArray t)) (.slice (some ⟨W.heap.size, 0, none⟩) l.length c) l :=
  ⟨_, _, rfl, fun _ => ⟨_, rfl, by simp, by
    intro j u hj
    rw [show (⟨W.heap.size, 0, none⟩ : Addr).add j = ⟨W.heap.size, j, none⟩ by simp [Addr.add]; exact fun h => h.symm]
    rw [Lib.cell_of_heap (heap_alloc_new W _)]
    simpa using hj⟩⟩
theorem LkS.own {w : World} {base : Nat} {v : Value} {l : List (ByteArray × ByteArray)} {n : Nat} {xs : List Value} (h : w.ownsRow base 47 2 v n xs) (hn : n = l.length) (hx : xs = Lk.cs l) : LkS w v l := by
  subst hn; subst hx
  exact Lst.own h
theorem LkS.nil (w : World) : LkS w (.slice none 0 0) [] := Lst.nil w _
/-- The cells of a list of links, at its address. -/
theorem LkS.src {w : World} {a : Addr} {n c : Nat} {l : List (ByteArray × ByteArray)} (h : LkS w (.slice (some a) n c) l) (hl : 0 < l.length) : ∀ (j : Nat) (u : Value), (Lk.cs l)[j]? = some u → w.cell? (a.add j) = some u := by
  obtain ⟨A', c', hv, ha⟩ := h
  cases hv
  obtain ⟨a', e, hb, hc⟩ := ha hl
  injection e with e
  subst e
  exact hc
theorem cs_len (l : List (ByteArray × ByteArray)) : (Lk.cs l).length = l.length * 2 := by
  induction l with
  | nil => rfl
  | cons p r ih => show (Lk.cs r).length + 2 = _; rw [ih, List.length_cons]; omega
theorem cs_one (l : List (ByteArray × ByteArray)) : ∀ u ∈ Lk.cs l, u.oneCell' = true := by
  intro u hu
  unfold Lk.cs at hu
  obtain ⟨p, _, hp⟩ := List.mem_flatMap.1 hu
  rcases List.mem_cons.1 hp with rfl | hp
  · rfl
  · rw [List.mem_singleton.1 hp]; rfl
theorem follow_at (l : List (ByteArray × ByteArray)) (s r : ByteArray) (y : Int) (h : Lk.ans (Lk.flw (Lk.fst l) (l.length + 1) s) = (r, y)) (hl : l.length ≤ 1000) (hz : ∀ p ∈ l, p.1.size ≤ 1000 ∧ p.2.size ≤ 1000) (hs : s.size ≤ 1000) (v : Value) (W : World) (S : LkS W v l) :
    Calls Try.prog 38 #[v, .string s] W fun e w' => e = .returned (.tuple #[.string r, .int .i64 y]) ∧ Below W.heap.size W w' := by
  have := lfollow_any v l s W S (by omega) (fun p hp => ⟨Nat.le_trans (hz p hp).1 (by unfold maxLen; omega), Nat.le_trans (hz p hp).2 (by unfold maxLen; omega)⟩) (by unfold maxLen; omega)
  rw [h] at this
  exact this
theorem lread_at (l : List ByteArray) (x y : ByteArray) (q : Int) (h : Lk.rd l = ((x, y), q)) (hl : l.length ≤ 1000) (hz : ∀ p ∈ l, p.size ≤ 1000) (v : Value) (W : World) (S : StS W v l) :
    Calls Try.prog 34 #[v] W fun e w' => e = .returned (.tuple #[.agg #[.string x, .string y], .int .i64 q]) ∧ Below W.heap.size W w' := by
  have := lread_any v l W S (by omega) (fun p hp => Nat.le_trans (hz p hp) (by unfold maxLen; omega))
  rw [h] at this
  exact this
theorem lfields_at (a b : ByteArray) (L : List ByteArray) (q : Int) (h : Lk.fs a b = (L.map (·.data.toList), q)) (ha : a.size ≤ 1000) (hb : b.size ≤ 1000) (W : World) :
    Calls Try.prog 36 #[.agg #[.string a, .string b]] W fun e w' => ∃ v, StS w' v L ∧ e = .returned (.tuple #[v, .int .i64 q]) ∧ Below W.heap.size W w' :=
  (pfields_any a b W (by unfold maxLen; omega) (by unfold maxLen; omega)).mono fun e w' ⟨v, l, S, hl, he, hb⟩ => by
    rw [h] at hl he
    exact ⟨v, by rw [← fd_bytes (hl.trans rfl)]; exact S, he, hb⟩
theorem lright_at (a b : ByteArray) (q : Bool) (h : Lk.rt a b = q) (ha : a.size ≤ 1000) (hb : b.size ≤ 1000) (W : World) :
    Calls Try.prog 40 #[.agg #[.string a, .string b]] W fun e w' => e = .returned (.bool q) ∧ Below W.heap.size W w' := by
  have := pright_any a b W (by unfold maxLen; omega) (by unfold maxLen; omega)
  rw [h] at this
  exact this
set_option maxHeartbeats 4000000 in
set_option maxRecDepth 100000 in
theorem lives23 (w : World) :
    Calls Try.prog 33 #[] w fun e w' => e = .returned (.bool true) ∧ Below w.heap.size w w' := by
  obtain ⟨i0, hi, hz0, hz1, hz2⟩ := fd_parts lk_info
  have F1 := Lib.hid (follow_at [(⟨#[98]⟩, ⟨#[97]⟩), (⟨#[99]⟩, ⟨#[98]⟩)] ⟨#[97]⟩ ⟨#[99]⟩ 0 (by decide +kernel) (by decide) (by decide +kernel) (by decide))
  have F2 := Lib.hid (follow_at [(⟨#[98]⟩, ⟨#[97]⟩), (⟨#[99]⟩, ⟨#[98]⟩), (⟨#[97]⟩, ⟨#[99]⟩)] ⟨#[97]⟩ ⟨#[]⟩ 13 (by decide +kernel) (by decide) (by decide +kernel) (by decide))
  have F3 := Lib.hid (follow_at [] ⟨#[120]⟩ ⟨#[120]⟩ 0 (by decide +kernel) (by decide) (by decide +kernel) (by decide))
  have R1 := Lib.hid (lread_at [⟨#[65, 47, 66]⟩, ⟨#[67]⟩] ⟨#[65, 47, 66]⟩ ⟨#[67]⟩ 0 (by decide +kernel) (by decide) (by decide +kernel))
  have R2 := Lib.hid (lread_at [⟨#[65]⟩] ⟨#[]⟩ ⟨#[]⟩ 5 (by decide +kernel) (by decide) (by decide +kernel))
  have R3 := Lib.hid (lread_at [⟨#[65]⟩, ⟨#[66]⟩, ⟨#[67]⟩] ⟨#[]⟩ ⟨#[]⟩ 6 (by decide +kernel) (by decide) (by decide +kernel))
  have R4 := Lib.hid (lread_at [⟨#[49]⟩, ⟨#[66]⟩] ⟨#[]⟩ ⟨#[]⟩ 10 (by decide +kernel) (by decide) (by decide +kernel))
  have R5 := Lib.hid (lread_at [⟨#[66]⟩, ⟨#[66]⟩] ⟨#[]⟩ ⟨#[]⟩ 13 (by decide +kernel) (by decide) (by decide +kernel))
  have G1 := Lib.hid (lfields_at ⟨#[65, 47, 66]⟩ ⟨#[67]⟩ [⟨#[65, 47, 66]⟩, ⟨#[67]⟩] 0 (by decide +kernel) (by decide) (by decide))
  have G2 := Lib.hid (lfields_at ⟨#[]⟩ ⟨#[]⟩ [] 4 (by decide +kernel) (by decide) (by decide))
  have T1 := Lib.hid (lright_at ⟨#[65, 47, 66]⟩ ⟨#[67]⟩ true (by decide +kernel) (by decide) (by decide))
  have T2 := Lib.hid (lright_at ⟨#[97]⟩ ⟨#[97]⟩ false (by decide +kernel) (by decide) (by decide))
  have L0 := LkS.row w [(⟨#[98]⟩, ⟨#[97]⟩), (⟨#[99]⟩, ⟨#[98]⟩)] 47 2
  have b0 : Below w.heap.size w (w.alloc (.cells (Lk.cs [(⟨#[98]⟩, ⟨#[97]⟩), (⟨#[99]⟩, ⟨#[98]⟩)]).toArray 47)) := (Below.refl _ _).alloc (Nat.le_refl _) _
  have L0 := Lib.hid L0
  go_enter Try.func33, Try.ntmps33
  go_wp2_with fail
  refine (F1.out _ _ L0.out).mono ?_; rintro e w1 ⟨rfl, b1⟩
  have SL := Lib.hid (L0.out.on b1)
  have B1 := Lib.hid (below_step b0 b1)
  have hz := b1.size
  have hsrc := SL.out.src (by decide)
  clear b0 b1 L0
  have O0 : (w1.alloc (.cells #[] 47)).ownsRow w1.heap.size 47 2 (.slice (some ⟨w1.heap.size, 0, none⟩) 0 0) 0 [] := World.ownsRow_made w1 #[] 0 (Nat.le_refl _) (by unfold maxLen; decide) rfl
  have hsrc2 : ∀ (j : Nat) (u : Value), (Lk.cs [(⟨#[98]⟩, ⟨#[97]⟩), (⟨#[99]⟩, ⟨#[98]⟩)])[j]? = some u → (w1.alloc (.cells #[] 47)).cell? ((⟨w.heap.size, 0, none⟩ : Addr).add j) = some u := fun j u hu => fd_keep (hsrc j u hu) ((Below.refl _ _).alloc (Nat.le_refl _) _)
  go_wp2_with (at_builtin; refine wpList_append_own _ rfl _ _ 48 rfl w1.heap.size 47 i0 (.agg #[.string ⟨#[]⟩, .string ⟨#[]⟩]) 2 32 Try.underlying48 hi hz0 hz1 hz2 rfl (by decide) _ _ _ rfl O0 ⟨w.heap.size, 0, none⟩ 2 2 (Lk.cs [(⟨#[98]⟩, ⟨#[97]⟩), (⟨#[99]⟩, ⟨#[98]⟩)]) rfl rfl hsrc2 (cs_one _) (by unfold maxLen; omega) (by omega) (by simp) ?_)
  intro v2 w2 own2 grow2 _
  have b2 : Below w1.heap.size w1 w2 := ((Below.refl _ _).alloc (Nat.le_refl _) _).trans (below_grown grow2 (by simp) (fun g hg => (O0.lt g hg).1))
  have hz2' := b2.size
  clear hsrc hsrc2 grow2 O0
  go_wp2_with (at_builtin; refine wpList_append_own _ rfl _ _ 48 rfl w1.heap.size 47 i0 (.agg #[.string ⟨#[]⟩, .string ⟨#[]⟩]) 2 32 Try.underlying48 hi hz0 hz1 hz2 rfl (by decide) _ _ _ rfl (own2.alloc _) ⟨w2.heap.size, 0, none⟩ 1 1 [.string ⟨#[97]⟩, .string ⟨#[99]⟩] rfl rfl (by intro j u hj; match j, hj with | 0, hj => (simp at hj; subst hj; simp [go_sem]) | 1, hj => (simp at hj; subst hj; simp [go_sem])) (by intro u hu; simp at hu; rcases hu with rfl | rfl <;> rfl) (by unfold maxLen; omega) (by omega) (by simp; omega) ?_)
  intro v3 w3 own3 grow3 _
  have b3 : Below w1.heap.size w2 w3 := ((Below.refl _ _).alloc hz2' _).trans (below_grown grow3 (by simp; omega) (fun g hg => (own2.lt g hg).1))
  have L3 := Lib.hid (LkS.own (l := [(⟨#[98]⟩, ⟨#[97]⟩), (⟨#[99]⟩, ⟨#[98]⟩), (⟨#[97]⟩, ⟨#[99]⟩)]) own3 rfl rfl)
  have B3 := Lib.hid (below_step B1.out (b2.trans b3))
  clear b2 b3 grow3 own2 own3 hz hz2' SL B1
  go_wp2_with fail
  refine (F2.out _ _ L3.out).mono ?_; rintro e w4 ⟨rfl, b4⟩
  have B4 := Lib.hid (below_step B3.out b4)
  clear b4 L3 B3
  go_wp2_with fail
  refine (F3.out _ _ (LkS.nil _)).mono ?_; rintro e w5 ⟨rfl, b5⟩
  have B5 := Lib.hid (below_step B4.out b5)
  clear b5 B4
  go_wp2_with fail
  refine (R1.out _ _ (StS.rowk _ [⟨#[65, 47, 66]⟩, ⟨#[67]⟩] _ _)).mono ?_; rintro e w6 ⟨rfl, b6⟩
  have d6 : Below w5.heap.size w5 w6 := below_step (by repeat (first | exact Below.refl _ _ | refine below_drewN ?_ _ | refine Below.drew ?_ | refine Below.setCell ?_ (by first | (simp; done) | (simp; omega) | omega) _ | refine Below.alloc ?_ (by first | (simp; done) | (simp; omega) | omega) _)) b6
  have B6 := Lib.hid (below_step B5.out d6)
  clear d6 b6 B5
  go_wp2_with fail
  refine (R2.out (.slice (some ⟨w6.heap.size + 1, 0, none⟩) 1 1) _ (StS.rowb (w6.heap.size + 1) (w6.alloc (.cells _ 47)) (by simp) [⟨#[65]⟩] 9 1)).mono ?_; rintro e w7 ⟨rfl, b7⟩
  have d7 : Below w6.heap.size w6 w7 := below_step (by repeat (first | exact Below.refl _ _ | refine below_drewN ?_ _ | refine Below.drew ?_ | refine Below.setCell ?_ (by first | (simp; done) | (simp; omega) | omega) _ | refine Below.alloc ?_ (by first | (simp; done) | (simp; omega) | omega) _)) b7
  have B7 := Lib.hid (below_step B6.out d7)
  have Q : Bk2 w7 w6.heap.size (.string ⟨#[65, 47, 66]⟩) (.string ⟨#[67]⟩) := Bk2.of b7 (by simp <;> omega) (by intro j; simp [go_sem]) (by simp [go_sem]) (by simp [go_sem])
  have Q := Lib.hid Q
  clear d7 b7 B6
  go_wp2_with fail
  refine (R3.out (.slice (some ⟨w7.heap.size + 1, 0, none⟩) 3 3) _ (StS.rowb (w7.heap.size + 1) (w7.alloc (.cells _ 47)) (by simp) [⟨#[65]⟩, ⟨#[66]⟩, ⟨#[67]⟩] 9 3)).mono ?_; rintro e w8 ⟨rfl, b8⟩
  have d8 : Below w7.heap.size w7 w8 := below_step (by repeat (first | exact Below.refl _ _ | refine below_drewN ?_ _ | refine Below.drew ?_ | refine Below.setCell ?_ (by first | (simp; done) | (simp; omega) | omega) _ | refine Below.alloc ?_ (by first | (simp; done) | (simp; omega) | omega) _)) b8
  have B8 := Lib.hid (below_step B7.out d8)
  have Q := Lib.hid (Q.out.keep d8)
  clear d8 b8 B7
  go_wp2_with fail
  refine (R4.out (.slice (some ⟨w8.heap.size + 1, 0, none⟩) 2 2) _ (StS.rowb (w8.heap.size + 1) (w8.alloc (.cells _ 47)) (by simp) [⟨#[49]⟩, ⟨#[66]⟩] 9 2)).mono ?_; rintro e w9 ⟨rfl, b9⟩
  have d9 : Below w8.heap.size w8 w9 := below_step (by repeat (first | exact Below.refl _ _ | refine below_drewN ?_ _ | refine Below.drew ?_ | refine Below.setCell ?_ (by first | (simp; done) | (simp; omega) | omega) _ | refine Below.alloc ?_ (by first | (simp; done) | (simp; omega) | omega) _)) b9
  have B9 := Lib.hid (below_step B8.out d9)
  have Q := Lib.hid (Q.out.keep d9)
  clear d9 b9 B8
  go_wp2_with fail
  refine (R5.out (.slice (some ⟨w9.heap.size + 1, 0, none⟩) 2 2) _ (StS.rowb (w9.heap.size + 1) (w9.alloc (.cells _ 47)) (by simp) [⟨#[66]⟩, ⟨#[66]⟩] 9 2)).mono ?_; rintro e w10 ⟨rfl, b10⟩
  have d10 : Below w9.heap.size w9 w10 := below_step (by repeat (first | exact Below.refl _ _ | refine below_drewN ?_ _ | refine Below.drew ?_ | refine Below.setCell ?_ (by first | (simp; done) | (simp; omega) | omega) _ | refine Below.alloc ?_ (by first | (simp; done) | (simp; omega) | omega) _)) b10
  have B10 := Lib.hid (below_step B9.out d10)
  have Q := Lib.hid (Q.out.keep d10)
  clear d10 b10 B9
  have c_b := Q.out.hb; have c_f := Q.out.fz; have c_0 := Q.out.k0; have c_1 := Q.out.k1
  go_wp2_with fail
  refine (G1.out _).mono ?_; rintro e w11 ⟨v8, s8, rfl, b11⟩
  clear c_b c_f c_0 c_1
  have d11 : Below w10.heap.size w10 w11 := below_step (by repeat (first | exact Below.refl _ _ | refine below_drewN ?_ _ | refine Below.drew ?_ | refine Below.setCell ?_ (by first | (simp; done) | (simp; omega) | omega) _ | refine Below.alloc ?_ (by first | (simp; done) | (simp; omega) | omega) _)) b11
  have B11 := Lib.hid (below_step B10.out d11)
  have Q := Lib.hid (Q.out.keep d11)
  have S8 := Lib.hid s8
  clear d11 b11 B10 s8
  have c_b := Q.out.hb; have c_f := Q.out.fz; have c_0 := Q.out.k0; have c_1 := Q.out.k1
  go_wp2_with fail
  refine (G2.out _).mono ?_; rintro e w12 ⟨v9, s9, rfl, b12⟩
  clear c_b c_f c_0 c_1
  have d12 : Below w11.heap.size w11 w12 := below_step (by repeat (first | exact Below.refl _ _ | refine below_drewN ?_ _ | refine Below.drew ?_ | refine Below.setCell ?_ (by first | (simp; done) | (simp; omega) | omega) _ | refine Below.alloc ?_ (by first | (simp; done) | (simp; omega) | omega) _)) b12
  have B12 := Lib.hid (below_step B11.out d12)
  have Q := Lib.hid (Q.out.keep d12)
  have S8 := Lib.hid (S8.out.on d12)
  clear d12 b12 B11 s9
  have c_b := Q.out.hb; have c_f := Q.out.fz; have c_0 := Q.out.k0; have c_1 := Q.out.k1
  go_wp2_with fail
  refine (same13_yes _ _ [⟨#[65, 47, 66]⟩, ⟨#[67]⟩] _ (by decide) (S8.out.on (by repeat (first | exact Below.refl _ _ | refine below_drewN ?_ _ | refine Below.drew ?_ | refine Below.setCell ?_ (by first | (simp; done) | (simp; omega) | omega) _ | refine Below.alloc ?_ (by first | (simp; done) | (simp; omega) | omega) _))) (StS.rowk _ [⟨#[65, 47, 66]⟩, ⟨#[67]⟩] _ _)).mono ?_; rintro e w13 ⟨rfl, b13⟩
  clear c_b c_f c_0 c_1
  have d13 : Below w12.heap.size w12 w13 := below_step (by repeat (first | exact Below.refl _ _ | refine below_drewN ?_ _ | refine Below.drew ?_ | refine Below.setCell ?_ (by first | (simp; done) | (simp; omega) | omega) _ | refine Below.alloc ?_ (by first | (simp; done) | (simp; omega) | omega) _)) b13
  have B13 := Lib.hid (below_step B12.out d13)
  have Q := Lib.hid (Q.out.keep d13)
  clear d13 b13 B12 S8
  have c_b := Q.out.hb; have c_f := Q.out.fz; have c_0 := Q.out.k0; have c_1 := Q.out.k1
  go_wp2_with fail
  refine (T1.out _).mono ?_; rintro e w14 ⟨rfl, b14⟩
  clear c_b c_f c_0 c_1 Q
  have d14 : Below w13.heap.size w13 w14 := below_step (by repeat (first | exact Below.refl _ _ | refine below_drewN ?_ _ | refine Below.drew ?_ | refine Below.setCell ?_ (by first | (simp; done) | (simp; omega) | omega) _ | refine Below.alloc ?_ (by first | (simp; done) | (simp; omega) | omega) _)) b14
  have B14 := Lib.hid (below_step B13.out d14)
  clear d14 b14 B13
  go_wp2_with fail
  refine (T2.out _).mono ?_; rintro e w15 ⟨rfl, b15⟩
  have d15 : Below w14.heap.size w14 w15 := below_step (by repeat (first | exact Below.refl _ _ | refine below_drewN ?_ _ | refine Below.drew ?_ | refine Below.setCell ?_ (by first | (simp; done) | (simp; omega) | omega) _ | refine Below.alloc ?_ (by first | (simp; done) | (simp; omega) | omega) _)) b15
  have B15 := Lib.hid (below_step B14.out d15)
  clear d15 b15 B14
  go_wp2_with fail
  go_ret
  exact ⟨rfl, B15.out⟩
end Go.Proofs.Ytndophkojnfcaaa

