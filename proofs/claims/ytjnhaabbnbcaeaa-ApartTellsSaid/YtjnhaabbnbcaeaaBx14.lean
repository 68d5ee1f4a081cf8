/- Joined: AwC. -/
import Derived.Test.YtjnhaabbnbcaeaaBx09
import Derived.Test.YtjnhaabbnbcaeaaBx10
import Derived.Test.YtjnhaabbnbcaeaaBx12
import Derived.Test.YtjnhaabbnbcaeaaBx01
import Derived.Test.YtjnhaabbnbcaeaaBx13
/- Rules far enough from each other: Check of the program. -/
set_option linter.unusedVariables false
set_option linter.unusedSimpArgs false
namespace Go.Proofs.Ytjnhaabbnbcaeaa
open Go.RowKit Go.Sort Go.Pairs

namespace Aw
/-- The five cells of one of a row, and that they lie there. -/
structure ReC (w : World) (a : Addr) (c0 c1 c2 c3 c4 : Int) : Prop where
  k0 : w.cell? a = some (.int .i64 c0)
  k1 : w.cell? ⟨a.block, a.off + 1, none⟩ = some (.int .i64 c1)
  k2 : w.cell? ⟨a.block, a.off + 2, none⟩ = some (.int .i64 c2)
  k3 : w.cell? ⟨a.block, a.off + 3, none⟩ = some (.int .i64 c3)
  k4 : w.cell? ⟨a.block, a.off + 4, none⟩ = some (.int .i64 c4)
theorem Rows.slice {W : World} {N : Nat} {f : ByteArray → Value} {pre : List R} (h : Rows W N f pre) (s : ByteArray) : ∃ A c, f s = .slice A (named s pre).length c := by
  rcases (h.own s).2 with ⟨h1, h0⟩ | ⟨g, cap, cur, h1, _⟩
  · exact ⟨none, 0, by rw [h1, h0]⟩
  · exact ⟨_, _, h1⟩
theorem Rows.get {W : World} {N : Nat} {f : ByteArray → Value} {pre : List R} (h : Rows W N f pre) (s : ByteArray) {A : Option Addr} {n c : Nat} (e : f s = .slice A n c) (q : Nat) (hq : q < (named s pre).length) {c0 c1 c2 c3 c4 : Int}
    (eq : (named s pre)[q] = (c0, c1, c2, c3, c4)) : ∃ a, A = some a ∧ a.block < W.heap.size ∧ ReC W (a.add (q * 5)) c0 c1 c2 c3 c4 := by
  have o := h.own s
  rw [e] at o
  rcases id o.2 with ⟨h1, h0⟩ | ⟨g, cap, cur, h1, -⟩
  · omega
  · injection h1 with h1 h2 h3
    subst h1
    have ob : (Value.slice (some ⟨g, 0, none⟩) n c).ownBlock = some g := rfl
    have cells : ∀ j u, (cc (named s pre))[j]? = some u → W.cell? ((⟨g, 0, none⟩ : Addr).add j) = some u := o.cells (g := g) rfl
    have k : ∀ i u, i < 5 → (encC (c0, c1, c2, c3, c4))[i]? = some u → W.cell? ((⟨g, 0, none⟩ : Addr).add (q * 5 + i)) = some u := fun i u h1 h2 => cells _ u (by rw [cc_at _ q i hq h1, eq]; exact h2)
    have e1 : ∀ i, 0 < i → (⟨((⟨g, 0, none⟩ : Addr).add (q * 5)).block, ((⟨g, 0, none⟩ : Addr).add (q * 5)).off + i, none⟩ : Addr) = (⟨g, 0, none⟩ : Addr).add (q * 5 + i) := fun i hi => by
      rw [← add_two]
      have : ∀ b : Addr, (⟨b.block, b.off + i, none⟩ : Addr) = b.add i := fun b => by unfold Addr.add; rw [if_neg (by omega)]
      exact this _
    refine ⟨_, rfl, (o.lt g rfl).2, ?_, ?_, ?_, ?_, ?_⟩
    · exact k 0 _ (by decide) rfl
    · rw [e1 1 (by decide)]; exact k 1 _ (by decide) rfl
    · rw [e1 2 (by decide)]; exact k 2 _ (by decide) rfl
    · rw [e1 3 (by decide)]; exact k 3 _ (by decide) rfl
    · rw [e1 4 (by decide)]; exact k 4 _ (by decide) rfl
theorem named_ok {s : ByteArray} {l : List R} {c : C} (h : c ∈ named s l) : Ok c := by
  unfold named at h
  obtain ⟨r, -, rfl⟩ := List.mem_map.1 h
  exact ok_rc r
theorem named_le (s : ByteArray) (l : List R) : (named s l).length ≤ l.length := by
  unfold named
  rw [List.length_map]
  exact List.length_filter_le _ _
theorem fst0_at (c : C) (l : List C) (q : Nat) (h : q < l.length) : fst0 c (l.drop q) = if pr l[q] c = 0 then fst0 c (l.drop (q + 1)) else pr l[q] c := by
  rw [List.drop_eq_getElem_cons h]; rfl
theorem Rows.kept {W W' : World} {N b : Nat} {f : ByteArray → Value} {pre : List R} (h : Rows W N f pre) (g : W.grownBy W' (some b)) (hb : b < N) : Rows W' N f pre :=
  ⟨fun s => (h.own s).kept g (by
    cases hv : (f s).ownBlock with
    | none => exact .inl rfl
    | some x => exact .inr (fun e => by
        have e : x = b := by injection e
        have := ((h.own s).lt x hv).1
        omega)), h.ne⟩
theorem info_reach : (Try.prog.info? 44).map (fun i => (i.zero, i.size, i.bytes)) = some (some (.agg #[.int .i64 0, .int .i64 0, .int .i64 0, .int .i64 0, .int .i64 0]), 5, 40) := by kernel_rfl
end Aw
theorem below_grownB {B : Nat} {w w' : World} {row : Option Nat} (g : w.grownBy w' row) (hB : B ≤ w.heap.size) (hr : ∀ b, row = some b → B ≤ b) : Below B w w' :=
  ⟨g.os, g.tape, g.output, g.size, fun i hi => g.block i (by omega) (fun e => by have := hr i e.symm; omega)⟩
/-- Where the world stands, by what has come. -/
def cW (W4 W3 W2 wd : World) (ld : Nat → Bool) (W : World) : Prop := W = if ld 10 = true then W4 else if ld 9 = true then W3 else if ld 8 = true then W2 else wd
theorem come_other {ld : Nat → Bool} {i j : Nat} (h : j ≠ i) : come ld i j = ld j := if_neg h
theorem come_same {ld : Nat → Bool} {i : Nat} : come ld i i = true := if_pos rfl
theorem cW_keep {W4 W3 W2 wd W : World} {ld : Nat → Bool} (i : Nat) (h : cW W4 W3 W2 wd ld W) (h8 : 8 ≠ i) (h9 : 9 ≠ i) (h10 : 10 ≠ i) : cW W4 W3 W2 wd (come ld i) W := by
  unfold cW at h ⊢
  rw [come_other h8, come_other h9, come_other h10]; exact h
theorem cW_all {W4 W3 W2 wd W : World} {ld : Nat → Bool} {p : World → Prop} (h : cW W4 W3 W2 wd ld W) (p4 : p W4) (p3 : p W3) (p2 : p W2) (pd : p wd) : p W := by
  unfold cW at h
  rw [h]
  split
  · exact p4
  · split
    · exact p3
    · split
      · exact p2
      · exact pd
theorem cW_two {W4 W3 W2 wd W : World} {ld : Nat → Bool} {p : World → Prop} (h : cW W4 W3 W2 wd ld W) (h9 : ld 9 = false) (h10 : ld 10 = false) (p2 : p W2) (pd : p wd) : p W := by
  unfold cW at h
  rw [h, h10, h9]
  show p (if ld 8 = true then W2 else wd)
  split
  · exact p2
  · exact pd
theorem shape_ds (x : Nat → Value) : ∀ (ds : List Nat) (b : Act) (tm : Array Value), b.tmps.size = tm.size → (∀ i, i < tm.size → tm[i]? = some (x i)) → (∀ i, ds.contains i = false → tm[i]? = b.tmps[i]?) →
    (ds.foldl (fun b d => b.put (some d) (x d)) b).tmps = tm ∧ (ds.foldl (fun b d => b.put (some d) (x d)) b).defers = b.defers := by
  intro ds
  induction ds with
  | nil => intro b tm hs hx h; exact ⟨Array.ext_getElem? (fun i => (h i rfl).symm), rfl⟩
  | cons d ds ih =>
    intro b tm hs hx h
    have := ih (b.put (some d) (x d)) tm (by simpa [Act.put] using hs) hx (fun i hi => by
      by_cases e : i = d
      · subst e
        by_cases hlt : i < tm.size
        · rw [put_same (a := b) (by rw [hs]; exact hlt)]; exact hx i hlt
        · rw [Array.getElem?_eq_none (by omega), Array.getElem?_eq_none (by simp [Act.put]; omega)]
      · rw [put_other (by simpa using fun e' => e e'.symm)]
        exact h i (by simpa [e] using hi))
    exact ⟨this.1, this.2⟩
theorem Same_shape {l : List Oper} {a0 a : Act} (h : Same l a0 a) : a = (l.filterMap (·.dst)).foldl (fun b d => b.put (some d) (a.tmps.getD d undef)) a0 := by
  obtain ⟨h1, h2⟩ := shape_ds (fun d => a.tmps.getD d undef) (l.filterMap (·.dst)) a0 a.tmps h.size.symm (fun i hi => by simp [hi]) h.base
  obtain ⟨tm, df⟩ := a
  have := h.defers
  generalize List.foldl _ _ _ = z at *
  obtain ⟨zt, zd⟩ := z
  dsimp only at h1 h2 this ⊢
  subst h1; subst h2; rw [this]
set_option maxHeartbeats 4000000 in
set_option maxRecDepth 100000 in
theorem acheck_any (v : Value) (l : List Aw.R) (w : World) (S : RuV w v l) (hl : l.length ≤ 1000000) (hz : ∀ r ∈ l, r.1.size ≤ maxLen ∧ r.2.2.2.2.2.2.2.2.2.2.size ≤ maxLen) :
    Calls Try.prog 11 #[v] w fun e w' => e = .returned (.tuple #[.int .i64 (Aw.ck [] l).1, .int .i64 (Aw.ck [] l).2]) ∧ Below w.heap.size w w' := by
  have T := S
  obtain ⟨A, c, rfl, -⟩ := T
  obtain ⟨N, hN⟩ : ∃ N, N = l.length := ⟨_, rfl⟩
  have HN := Lib.hid hN
  have HS : Hid (RuV w (.slice A N c) l) := by rw [hN]; exact S
  rw [← hN]
  have hNb : N ≤ 1000000 := by omega
  have HZ := Lib.hid hz
  obtain ⟨tot, htot⟩ : ∃ tot, tot = Aw.ck [] l := ⟨_, rfl⟩
  rw [← htot]
  have HT : Hid (Aw.ck (l.take 0) (l.drop 0) = tot) := Lib.hid htot.symm
  clear hN S hl hz htot
  obtain ⟨ans, hans⟩ : ∃ ans : Value, ans = .tuple #[.int .i64 tot.1, .int .i64 tot.2] := ⟨_, rfl⟩
  rw [← hans]
  have HA := Lib.hid hans; clear hans
  have M0 : MpR (w.alloc (.map #[] 0)) w.heap.size 0 (.map []) := World.ownsMap_made w _ _ _
  have M0 := Lib.hid M0
  have N0 := Lib.hid (show Below w.heap.size w (w.alloc (.map #[] 0)) from (Below.refl _ _).alloc (Nat.le_refl _) _)
  have K0 := Lib.hid Aw.kr_nil
  have R0 := Lib.hid (Aw.Rows.nil (w.alloc (.map #[] 0)) (w.heap.size + 1))
  have MKM : ∀ W, (Instr.makeMap 59 none).run Try.prog W = .ok (.map (some W.heap.size)) (W.alloc (.map #[] 0)) := fun W => run_makeMap _ W
  go_enter Try.func11, Try.ntmps11
  go_wp2_with fail
  go_loopw [14] (fun i wr => ∃ (k n : Nat) (D : DataW Unit) (f : ByteArray → Value), k ≤ N ∧ n ≤ k ∧ i = .int .i64 k ∧ Hid (MpR wr w.heap.size n D) ∧ Hid (Aw.KR f D) ∧ Hid (Aw.Rows wr (w.heap.size + 1) f (l.take k)) ∧ Hid (Below w.heap.size w wr) ∧ Hid (w.heap.size < wr.heap.size) ∧ Hid (Aw.ck (l.take k) (l.drop k) = tot)) (fun i _ => N - (intOf i).toNat)
  case atStart => exact ⟨0, 0, .map [], _, Nat.zero_le _, Nat.le_refl _, rfl, M0, K0, R0, N0, Lib.hid (by simp), HT⟩
  case round =>
    obtain ⟨k, n, D, f, hk, hnk, rfl, hM, hK, hR, hbw, hgt, hck⟩ := hrel
    by_cases hlt : k < N
    · have hkl : k < l.length := by have := HN.out; omega
      have hz := HZ.out l[k] (List.getElem_mem hkl)
      have htk := Lib.hid (List.take_succ_eq_append_getElem hkl)
      have hck := hck.out
      rw [Aw.ck_at l k hkl] at hck
      have hGet := @RuV.get wr A N c l (HS.out.on hbw.out) k hkl
      generalize l[k] = r at hGet hz htk hck
      obtain ⟨s, fy, ty, m, d0, wk, d, sec, base, save, t⟩ := r
      obtain ⟨a, rfl, hab, X⟩ := hGet rfl
      have hs : s.size ≤ maxLen := hz.1
      have ht : t.size ≤ maxLen := hz.2
      have AR := Lib.hid (fun W => areach_any s fy ty m d0 wk d sec base save t W hs ht)
      have hck := Lib.hid hck
      have OKr := Lib.hid (Aw.ok_rc (s, fy, ty, m, d0, wk, d, sec, base, save, t))
      have htk := Lib.hid htk.out
      obtain ⟨x2, h2⟩ : ∃ x, x = Aw.lo (s, fy, ty, m, d0, wk, d, sec, base, save, t) := ⟨_, rfl⟩
      obtain ⟨x3, h3⟩ : ∃ x, x = Aw.hi (s, fy, ty, m, d0, wk, d, sec, base, save, t) := ⟨_, rfl⟩
      obtain ⟨x4, h4⟩ : ∃ x, x = Aw.wy (s, fy, ty, m, d0, wk, d, sec, base, save, t) := ⟨_, rfl⟩
      have eC : Hid (Aw.rc (s, fy, ty, m, d0, wk, d, sec, base, save, t) = (fy, ty, x2, x3, x4)) := Lib.hid (by rw [h2, h3, h4]; rfl)
      rw [← h2, ← h3, ← h4] at AR
      clear h2 h3 h4 hz ht hGet
      obtain ⟨k0, k1, k2, k3, k4, k5, k6, k7, k8, k9, k10⟩ := X
      go_upto_region 5 with (fail)
      refine wp_named ?_; intro w1 hw1
      have d1 : Below wr.heap.size wr w1 := by rw [hw1]; exact (by repeat (first | exact Below.refl _ _ | refine below_drewN ?_ _ | refine Below.drew ?_ | refine Below.setCell ?_ (by first | (simp; done) | (simp; omega) | omega) _ | refine Below.alloc ?_ (by first | (simp; done) | (simp; omega) | omega) _))
      have X1 : Bk11 w1 wr.heap.size (.string s) (.int .i64 fy) (.int .i64 ty) (.int .i64 m) (.int .i64 d0) (.int .i64 wk) (.int .i64 d) (.int .i64 sec) (.int .i64 base) (.int .i64 save) (.string t) := by rw [hw1]; exact ⟨by simp <;> omega, by intro j; simp [go_sem], by simp [go_sem], by simp [go_sem], by simp [go_sem], by simp [go_sem], by simp [go_sem], by simp [go_sem], by simp [go_sem], by simp [go_sem], by simp [go_sem], by simp [go_sem], by simp [go_sem]⟩
      have D1 := Lib.hid d1
      clear d1 hw1 k0 k1 k2 k3 k4 k5 k6 k7 k8 k9 k10
      have cX_b := X1.hb
      have cX_f := X1.fz
      have cX_0 := X1.k0
      have cX_1 := X1.k1
      have cX_2 := X1.k2
      have cX_3 := X1.k3
      have cX_4 := X1.k4
      have cX_5 := X1.k5
      have cX_6 := X1.k6
      have cX_7 := X1.k7
      have cX_8 := X1.k8
      have cX_9 := X1.k9
      have cX_10 := X1.k10
      go_wp2_with fail
      clear cX_b cX_f cX_0 cX_1 cX_2 cX_3 cX_4 cX_5 cX_6 cX_7 cX_8 cX_9 cX_10
      refine (AR.out _).mono ?_; rintro e w2 ⟨rfl, b2⟩
      have d2 : Below w1.heap.size w1 w2 := below_step (by repeat (first | exact Below.refl _ _ | refine below_drewN ?_ _ | refine Below.drew ?_ | refine Below.setCell ?_ (by first | (simp; done) | (simp; omega) | omega) _ | refine Below.alloc ?_ (by first | (simp; done) | (simp; omega) | omega) _)) b2
      have D2 := Lib.hid (below_step D1.out d2)
      have X2 := X1.keep d2
      clear X1 d2 b2 D1 AR
      go_upto_region 6 with (fail)
      refine wp_named ?_; intro w3 hw3
      have d3 : Below w2.heap.size w2 w3 := by rw [hw3]; exact (by repeat (first | exact Below.refl _ _ | refine below_drewN ?_ _ | refine Below.drew ?_ | refine Below.setCell ?_ (by first | (simp; done) | (simp; omega) | omega) _ | refine Below.alloc ?_ (by first | (simp; done) | (simp; omega) | omega) _))
      have Y3 : Bk5 w3 w2.heap.size (.int .i64 fy) (.int .i64 ty) (.int .i64 x2) (.int .i64 x3) (.int .i64 x4) := by rw [hw3]; exact ⟨by simp <;> omega, by intro j; simp [go_sem], by simp [go_sem], by simp [go_sem], by simp [go_sem], by simp [go_sem], by simp [go_sem]⟩
      have X3 := X2.keep d3
      have D3 := Lib.hid (below_step D2.out d3)
      have hp0 := X3.hb
      have hp1 := Y3.hb
      have hlt01 : wr.heap.size < w2.heap.size := X2.hb
      clear d3 hw3 X2
      have HM := Lib.hid (mpr_on hM.out D3.out)
      have HRr := Lib.hid (hR.out.on D3.out)
      have LKF := mpr_look HM.out hK.out s hs
      obtain ⟨A2, c2, ef⟩ := HRr.out.slice s
      rw [ef] at LKF
      have ef := Lib.hid ef
      obtain ⟨M, eM⟩ : ∃ M, M = (Aw.named s (l.take k)).length := ⟨_, rfl⟩
      rw [← eM] at LKF
      have hMb : M ≤ k := by rw [eM]; have := Aw.named_le s (l.take k); rw [List.length_take] at this; omega
      have eM := Lib.hid eM
      have F0 : Hid (Aw.fst0 (fy, ty, x2, x3, x4) ((Aw.named s (l.take k)).drop 0) = Aw.fst0 (fy, ty, x2, x3, x4) (Aw.named s (l.take k))) := Lib.hid rfl
      have hck := hck.out
      rw [eC.out] at hck
      try dsimp only at hck
      have OKr := OKr.out
      rw [eC.out] at OKr
      have OKr := Lib.hid OKr
      obtain ⟨tt, htt⟩ : ∃ tt, tt = Aw.fst0 (fy, ty, x2, x3, x4) (Aw.named s (l.take k)) := ⟨_, rfl⟩
      rw [← htt] at hck F0
      have hck := Lib.hid hck
      have Hs := Lib.hid hs
      have hblk := Lib.hid (fun g hg => (hR.out.own s).lt g hg)
      clear hs HS hab hM hR htt
      have cX_b := X3.hb
      have cX_f := X3.fz
      have cX_0 := X3.k0
      have cX_1 := X3.k1
      have cX_2 := X3.k2
      have cX_3 := X3.k3
      have cX_4 := X3.k4
      have cX_5 := X3.k5
      have cX_6 := X3.k6
      have cX_7 := X3.k7
      have cX_8 := X3.k8
      have cX_9 := X3.k9
      have cX_10 := X3.k10
      go_wp2_with fail
      clear cX_b cX_f cX_0 cX_1 cX_2 cX_3 cX_4 cX_5 cX_6 cX_7 cX_8 cX_9 cX_10
      have hgt1 := hgt.out
      generalize hb0 : wr.heap.size = b0 at X3 hlt01 hgt1 hp0 ⊢
      generalize hb1 : w2.heap.size = b1 at Y3 hlt01 hp1 ⊢
      have hb0 := Lib.hid hb0
      have hb1 := Lib.hid hb1
      go_loopw [26] (fun i wq => ∃ q : Nat, q ≤ M ∧ i = .int .i64 q ∧ Hid (Below w3.heap.size w3 wq) ∧ Hid (Aw.fst0 (fy, ty, x2, x3, x4) ((Aw.named s (l.take k)).drop q) = tt)) (fun i _ => M - (intOf i).toNat)
      case atStart => exact ⟨0, Nat.zero_le _, rfl, Lib.hid (Below.refl _ _), F0⟩
      case round =>
        obtain ⟨q, hq, rfl, hbq, hf⟩ := hrel
        have Xq := X3.keep hbq.out
        have Yq := Y3.keep hbq.out
        have hszq := hbq.out.size
        by_cases hqM : q < M
        · have hql : q < (Aw.named s (l.take k)).length := by have := eM.out; omega
          have hf := hf.out
          rw [Aw.fst0_at _ _ q hql] at hf
          have hGet := @Aw.Rows.get wr _ _ _ (HRr.out.on hbq.out) s A2 _ c2 ef.out q hql
          have hOk := Aw.named_ok (List.getElem_mem hql)
          generalize (Aw.named s (l.take k))[q] = o at hf hGet hOk
          obtain ⟨o0, o1, o2, o3, o4⟩ := o
          obtain ⟨g, rfl, hg, O⟩ := hGet rfl
          have PR := Lib.hid (fun W => apair_any o0 o1 o2 o3 o4 fy ty x2 x3 x4 W hOk OKr.out)
          obtain ⟨pp, hpp⟩ : ∃ pp, pp = Aw.pr (o0, o1, o2, o3, o4) (fy, ty, x2, x3, x4) := ⟨_, rfl⟩
          rw [← hpp] at PR hf
          have hf := Lib.hid hf
          obtain ⟨j0, j1, j2, j3, j4⟩ := O
          clear hGet hOk hpp
          go_upto_region 9 with (fail)
          refine wp_named ?_; intro w4 hw4
          have d4 : Below wr.heap.size wr w4 := by rw [hw4]; exact (by repeat (first | exact Below.refl _ _ | refine below_drewN ?_ _ | refine Below.drew ?_ | refine Below.setCell ?_ (by first | (simp; done) | (simp; omega) | omega) _ | refine Below.alloc ?_ (by first | (simp; done) | (simp; omega) | omega) _))
          have Z4 : Bk5 w4 wr.heap.size (.int .i64 o0) (.int .i64 o1) (.int .i64 o2) (.int .i64 o3) (.int .i64 o4) := by rw [hw4]; exact ⟨by simp <;> omega, by intro j; simp [go_sem], by simp [go_sem], by simp [go_sem], by simp [go_sem], by simp [go_sem], by simp [go_sem]⟩
          have Y4 := Yq.keep d4
          have D4 := Lib.hid d4
          clear hw4 d4 j0 j1 j2 j3 j4
          have cY_b := Y4.hb
          have cY_f := Y4.fz
          have cY_0 := Y4.k0
          have cY_1 := Y4.k1
          have cY_2 := Y4.k2
          have cY_3 := Y4.k3
          have cY_4 := Y4.k4
          have cZ_b := Z4.hb
          have cZ_f := Z4.fz
          have cZ_0 := Z4.k0
          have cZ_1 := Z4.k1
          have cZ_2 := Z4.k2
          have cZ_3 := Z4.k3
          have cZ_4 := Z4.k4
          go_wp2_with fail
          clear cY_b cY_f cY_0 cY_1 cY_2 cY_3 cY_4
          clear cZ_b cZ_f cZ_0 cZ_1 cZ_2 cZ_3 cZ_4
          refine (PR.out _).mono ?_; rintro e w5 ⟨rfl, b5⟩
          have d5 : Below w4.heap.size w4 w5 := below_step (by repeat (first | exact Below.refl _ _ | refine below_drewN ?_ _ | refine Below.drew ?_ | refine Below.setCell ?_ (by first | (simp; done) | (simp; omega) | omega) _ | refine Below.alloc ?_ (by first | (simp; done) | (simp; omega) | omega) _)) b5
          have D5 := Lib.hid (below_step hbq.out (below_step D4.out d5))
          clear d5 b5 D4 PR
          by_cases hp0 : pp = 0
          · subst hp0
            have HF := Lib.hid (show Aw.fst0 (fy, ty, x2, x3, x4) ((Aw.named s (l.take k)).drop (q + 1)) = tt by have := hf.out; rwa [if_pos rfl] at this)
            clear hf
            go_wp2_with fail
            go_roundw
            case rel => exact ⟨q + 1, by omega, by go_num, D5, HF⟩
            case measure => simp [intOf]; omega
          · have g : (pp == 0) = false := by rw [beq_eq_false_iff_ne]; exact hp0
            have HF := Lib.hid (show pp = tt by have := hf.out; rwa [if_neg hp0] at this)
            have HI := Lib.hid (show ((k : Int), pp) = tot by have h1 := hck.out; rw [← HF.out, if_neg hp0] at h1; exact h1)
            clear hf
            go_wp2_with fail
            go_ret2
            exact ⟨by rw [HA.out, ← HI.out]; rfl, below_step hbw.out (below_step D3.out D5.out)⟩
        · have HF := Lib.hid (show tt = 0 by rw [← hf.out, List.drop_of_length_le (by have := eM.out; omega)]; rfl)
          have HI := Lib.hid (show Aw.ck (l.take (k + 1)) (l.drop (k + 1)) = tot by have h1 := hck.out; rw [HF.out, if_pos rfl] at h1; exact h1)
          go_upto_region 13 with (fail)
          obtain ⟨wd, hwd⟩ : ∃ x, x = wr.drew := ⟨_, rfl⟩
          have dd : Below wr.heap.size wr wd := by rw [hwd]; exact (Below.refl _ _).drew
          have hsd : wr.heap.size ≤ wd.heap.size := dd.size
          have Xd := Xq.keep dd
          have Yd := Yq.keep dd
          have Md := mpr_on (mpr_on HM.out hbq.out) dd
          have Rd := (HRr.out.on hbq.out).on dd
          obtain ⟨W2, hW2⟩ : ∃ x, x = wd.alloc (.cells #[.int .i64 fy, .int .i64 ty, .int .i64 x2, .int .i64 x3, .int .i64 x4] 44) := ⟨_, rfl⟩
          have d2 : Below wd.heap.size wd W2 := by rw [hW2]; exact (Below.refl _ _).alloc (Nat.le_refl _) _
          have P2 : Bk5 W2 wd.heap.size (.int .i64 fy) (.int .i64 ty) (.int .i64 x2) (.int .i64 x3) (.int .i64 x4) := by rw [hW2]; exact ⟨by simp <;> omega, by intro j; simp [go_sem], by simp [go_sem], by simp [go_sem], by simp [go_sem], by simp [go_sem], by simp [go_sem]⟩
          have X2 := Xd.keep d2
          have M2 := mpr_on Md d2
          have R2 := Rd.on d2
          obtain ⟨i0, hi, hz0, hz1, hz2⟩ := info_parts Aw.info_reach
          have hsz2 : w.heap.size + 1 ≤ W2.heap.size := by have := X2.hb; omega
          obtain ⟨v3, W3, hr3, own3, g3, fr3⟩ := run_append_fresh (P := Try.prog) W2 (w.heap.size + 1) 60 60 44 i0 _ 5 40 Try.underlying60 hi hz0 hz1 hz2 rfl (by decide) (f s) _ _ (R2.own s) ⟨wd.heap.size, 0, none⟩ 1 1 [.int .i64 fy, .int .i64 ty, .int .i64 x2, .int .i64 x3, .int .i64 x4] rfl
            (fun j u hj => by
              match j, hj with
              | 0, hj => cases hj; exact P2.k0
              | 1, hj => cases hj; exact P2.k1
              | 2, hj => cases hj; exact P2.k2
              | 3, hj => cases hj; exact P2.k3
              | 4, hj => cases hj; exact P2.k4) (by intro u hu; simp at hu; rcases hu with rfl | rfl | rfl | rfl | rfl <;> rfl) (by have := eM.out; unfold maxLen; omega) (by have := eM.out; omega) hsz2
          rw [ef.out] at hr3
          obtain ⟨d3, hd3⟩ := Aw.hdR_own own3
          have M3 := M2.kept g3 (by intro e; have := (hblk.out _ e.symm).1; omega)
          obtain ⟨W4, hr4, M4, g4⟩ := World.ownsMap.update M3 (Maps.string_keyed Try.underlying9) Try.underlying59 (by unfold maxLen; omega) (WideMaps.keyOf_string_mk Try.underlying9 Hs.out) hd3
          have R3 := R2.push (s, fy, ty, m, d0, wk, d, sec, base, save, t) (v := v3) (by rw [eC.out]; exact own3) g3 fr3
          have R4 := Lib.hid (show Aw.Rows W4 (w.heap.size + 1) (Aw.upd f s v3) (l.take (k + 1)) by rw [htk.out]; exact R3.kept g4 (by omega))
          have K4 := Lib.hid (show Aw.KR (Aw.upd f s v3) (D.put (Aw.key s) d3) from Aw.kr_put hK.out s hd3)
          have M4 := Lib.hid M4
          have hB2 : Below w.heap.size w W2 := (hbw.out.trans ((D3.out.mono (by omega)).trans ((hbq.out.mono (by omega)).trans ((dd.mono (by omega)).trans (d2.mono (by omega))))))
          have hB3 : Below w.heap.size W2 W3 := below_grownB g3 (by omega) (fun b e => by have := (hblk.out b e).1; omega)
          have hB4 : Below w.heap.size W3 W4 := below_grownB g4 (by have := hB3.size; omega) (fun b e => by injection e with e; omega)
          have B4 := Lib.hid (hB2.trans (hB3.trans hB4))
          have hgt4 := Lib.hid (show w.heap.size < W4.heap.size by have := hB3.size; have := hB4.size; omega)
          have hb0v := hb0.out
          have nb : ∀ g, (f s).ownBlock = some g → g < b0 := fun g e => by have := (hblk.out g e).2; omega
          have Y2 := Yd.keep d2
          have hz3 := g3.size
          have c3 : ∀ b i, b0 ≤ b → b < W2.heap.size → W3.cell? ⟨b, i, none⟩ = W2.cell? ⟨b, i, none⟩ := fun b i h1 h2 => World.cell?_of_block (g3.block b h2 (fun e => by have := nb b e.symm; omega))
          have c4 : ∀ b i, b0 ≤ b → b < W3.heap.size → W4.cell? ⟨b, i, none⟩ = W3.cell? ⟨b, i, none⟩ := fun b i h1 h2 => World.cell?_of_block (g4.block b h2 (fun e => by injection e with e; omega))
          have hx0 := X2.hb
          have hy1 := Y2.hb
          have FS := Lib.hid (fun (ld : Nat → Bool) (W : World) (h : cW W4 W3 W2 wd ld W) => cW_all (p := fun W => W.cell? ⟨b0, 0, none⟩ = some (.string s)) h ((c4 b0 0 (Nat.le_refl _) (by omega)).trans ((c3 b0 0 (Nat.le_refl _) hx0).trans X2.k0)) ((c3 b0 0 (Nat.le_refl _) hx0).trans X2.k0) X2.k0 Xd.k0)
          have FY : ∀ i v, W2.cell? ⟨b1, i, none⟩ = some v → wd.cell? ⟨b1, i, none⟩ = some v → ∀ (ld : Nat → Bool) (W : World), cW W4 W3 W2 wd ld W → W.cell? ⟨b1, i, none⟩ = some v := fun i v h2 hd ld W h => cW_all (p := fun W => W.cell? ⟨b1, i, none⟩ = some v) h ((c4 b1 i (by omega) (by omega)).trans ((c3 b1 i (by omega) hy1).trans h2)) ((c3 b1 i (by omega) hy1).trans h2) h2 hd
          have FY0 := Lib.hid (FY 0 _ Y2.k0 Yd.k0)
          have FY1 := Lib.hid (FY 1 _ Y2.k1 Yd.k1)
          have FY2 := Lib.hid (FY 2 _ Y2.k2 Yd.k2)
          have FY3 := Lib.hid (FY 3 _ Y2.k3 Yd.k3)
          have FY4 := Lib.hid (FY 4 _ Y2.k4 Yd.k4)
          have L2 := mpr_look M2 hK.out s Hs.out
          have Ld := mpr_look Md hK.out s Hs.out
          rw [ef.out] at L2 Ld
          have FL := Lib.hid (fun (ld : Nat → Bool) (W : World) (h : cW W4 W3 W2 wd ld W) (h9 : ld 9 = false) (h10 : ld 10 = false) => cW_two (p := fun W => (Instr.lookup 59 (.map (some w.heap.size)) (.string s) false).run Try.prog W = .ok (.slice A2 (Aw.named s (l.take k)).length c2) W) h h9 h10 L2 Ld)
          replace hr3 := Lib.hid hr3
          replace hr4 := Lib.hid hr4
          replace hwd := Lib.hid hwd
          replace hW2 := Lib.hid hW2
          clear hz3 c3 c4 hx0 hy1 FY L2 Ld nb hb0v hB2 hB3 hB4 M3 R3 R2 M2 X2 P2 Y2 Rd Md Xd Yd dd hsd d2 own3 hd3 g3 g4 fr3 hi hz0 hz1 hz2 hsz2 Xq Yq X3 Y3 hbq HRr HM D3 hck OKr F0 hf HF
          refine wp_region_chain (C := cW W4 W3 W2 wd) (R := markV [(fun v => v = Value.map (some w.heap.size)), (fun v => v = Value.pointer (some ⟨b0, 0, none⟩)), (fun v => v = Value.string s), (fun v => v = Value.map (some w.heap.size)), (fun v => v = Value.pointer (some ⟨b0, 0, none⟩)), (fun v => v = Value.string s), (fun v => v = Value.slice A2 (Aw.named s (l.take k)).length c2), (fun v => v = Value.agg #[.int .i64 fy, .int .i64 ty, .int .i64 x2, .int .i64 x3, .int .i64 x4]), (fun v => v = Value.slice (some ⟨wd.heap.size, 0, none⟩) 1 1), (fun v => v = v3), (fun v => True)]) (by rfl) ?hbeg ⟨by kernel_rfl, by kernel_rfl, by kernel_rfl, ObsW.all ?hobs, ?hlast⟩
          case hbeg => exact hwd.out.symm
          case hobs =>
            refine ObsW.cons (k' := 1) rfl ?_ ?_
            · intro ld fa W hC hi hw hcl hSame hRR KK hKK
              have fb4 := hSame.base 4 (by kernel_rfl)
              simp only [List.getElem?_toArray, List.getElem?_cons_succ, List.getElem?_cons_zero] at fb4
              clear hSame hRR hcl hw
              rw [if_pos (wanted_plain rfl)]
              go_simp
              exact hKK _ _ rfl (cW_keep 0 hC (by decide) (by decide) (by decide))
            refine ObsW.cons (k' := 2) rfl ?_ ?_
            · intro ld fa W hC hi hw hcl hSame hRR KK hKK
              have fb6 := hSame.base 6 (by kernel_rfl)
              simp only [List.getElem?_toArray, List.getElem?_cons_succ, List.getElem?_cons_zero] at fb6
              clear hSame hRR hcl hw
              rw [if_pos (wanted_plain rfl)]
              go_simp
              exact hKK _ _ rfl (cW_keep 1 hC (by decide) (by decide) (by decide))
            refine ObsW.cons (k' := 3) rfl ?_ ?_
            · intro ld fa W hC hi hw hcl hSame hRR KK hKK
              obtain ⟨fv1, ft1, fm1⟩ := hRR 1 _ 39 rfl rfl (by kernel_rfl)
              replace fm1 : fv1 = Value.pointer (some ⟨b0, 0, none⟩) := fm1
              subst fm1
              have cS := FS.out _ _ hC
              clear hSame hRR hcl hw
              rw [if_pos (wanted_plain rfl)]
              go_simp
              exact hKK _ _ rfl (cW_keep 2 hC (by decide) (by decide) (by decide))
            refine ObsW.cons (k' := 4) rfl ?_ ?_
            · intro ld fa W hC hi hw hcl hSame hRR KK hKK
              have fb4 := hSame.base 4 (by kernel_rfl)
              simp only [List.getElem?_toArray, List.getElem?_cons_succ, List.getElem?_cons_zero] at fb4
              clear hSame hRR hcl hw
              rw [if_pos (wanted_plain rfl)]
              go_simp
              exact hKK _ _ rfl (cW_keep 3 hC (by decide) (by decide) (by decide))
            refine ObsW.cons (k' := 5) rfl ?_ ?_
            · intro ld fa W hC hi hw hcl hSame hRR KK hKK
              have fb6 := hSame.base 6 (by kernel_rfl)
              simp only [List.getElem?_toArray, List.getElem?_cons_succ, List.getElem?_cons_zero] at fb6
              clear hSame hRR hcl hw
              rw [if_pos (wanted_plain rfl)]
              go_simp
              exact hKK _ _ rfl (cW_keep 4 hC (by decide) (by decide) (by decide))
            refine ObsW.cons (k' := 6) rfl ?_ ?_
            · intro ld fa W hC hi hw hcl hSame hRR KK hKK
              obtain ⟨fv4, ft4, fm4⟩ := hRR 4 _ 42 rfl rfl (by kernel_rfl)
              replace fm4 : fv4 = Value.pointer (some ⟨b0, 0, none⟩) := fm4
              subst fm4
              have cS := FS.out _ _ hC
              clear hSame hRR hcl hw
              rw [if_pos (wanted_plain rfl)]
              go_simp
              exact hKK _ _ rfl (cW_keep 5 hC (by decide) (by decide) (by decide))
            refine ObsW.cons (k' := 7) rfl ?_ ?_
            · intro ld fa W hC hi hw hcl hSame hRR KK hKK
              obtain ⟨fv3, ft3, fm3⟩ := hRR 3 _ 41 rfl rfl (by kernel_rfl)
              replace fm3 : fv3 = Value.map (some w.heap.size) := fm3
              subst fm3
              obtain ⟨fv5, ft5, fm5⟩ := hRR 5 _ 43 rfl rfl (by kernel_rfl)
              replace fm5 : fv5 = Value.string s := fm5
              subst fm5
              have h9 : ld 9 = false := by cases h : ld 9 with | false => rfl | true => exact absurd (hcl 9 _ 6 rfl h (by kernel_rfl)) (by rw [hi]; decide)
              have h10 : ld 10 = false := by cases h : ld 10 with | false => rfl | true => exact absurd (hcl 10 _ 9 rfl h (by kernel_rfl)) (by rw [h9]; decide)
              have FLw := FL.out _ _ hC h9 h10
              clear hSame hRR hcl hw
              rw [if_pos (wanted_plain rfl)]
              go_simp
              exact hKK _ _ rfl (cW_keep 6 hC (by decide) (by decide) (by decide))
            refine ObsW.cons (k' := 8) rfl ?_ ?_
            · intro ld fa W hC hi hw hcl hSame hRR KK hKK
              have fb7 := hSame.base 7 (by kernel_rfl)
              simp only [List.getElem?_toArray, List.getElem?_cons_succ, List.getElem?_cons_zero] at fb7
              have cY0 := FY0.out _ _ hC
              have cY1 := FY1.out _ _ hC
              have cY2 := FY2.out _ _ hC
              have cY3 := FY3.out _ _ hC
              have cY4 := FY4.out _ _ hC
              clear hSame hRR hcl hw
              rw [if_pos (wanted_plain rfl)]
              go_simp
              exact hKK _ _ rfl (cW_keep 7 hC (by decide) (by decide) (by decide))
            refine ObsW.cons (k' := 9) rfl ?_ ?_
            · intro ld fa W hC hi hw hcl hSame hRR KK hKK
              obtain ⟨fv7, ft7, fm7⟩ := hRR 7 _ 45 rfl rfl (by kernel_rfl)
              replace fm7 : fv7 = Value.agg #[.int .i64 fy, .int .i64 ty, .int .i64 x2, .int .i64 x3, .int .i64 x4] := fm7
              subst fm7
              have h9 : ld 9 = false := by cases h : ld 9 with | false => rfl | true => exact absurd (hcl 9 _ 8 rfl h (by kernel_rfl)) (by rw [hi]; decide)
              have h10 : ld 10 = false := by cases h : ld 10 with | false => rfl | true => exact absurd (hcl 10 _ 9 rfl h (by kernel_rfl)) (by rw [h9]; decide)
              have eW : W = wd := by unfold cW at hC; rw [h10, h9, hi] at hC; exact hC
              subst eW
              clear hSame hRR hcl hw
              rw [if_pos (wanted_plain rfl)]
              go_simp
              exact hKK _ _ rfl (by unfold cW; rw [come_other (by decide), h10, come_other (by decide), h9, come_same]; exact hW2.out.symm)
            refine ObsW.cons (k' := 10) rfl ?_ ?_
            · intro ld fa W hC hi hw hcl hSame hRR KK hKK
              obtain ⟨fv6, ft6, fm6⟩ := hRR 6 _ 44 rfl rfl (by kernel_rfl)
              replace fm6 : fv6 = Value.slice A2 (Aw.named s (l.take k)).length c2 := fm6
              subst fm6
              obtain ⟨fv8, ft8, fm8⟩ := hRR 8 _ 46 rfl rfl (by kernel_rfl)
              replace fm8 : fv8 = Value.slice (some ⟨wd.heap.size, 0, none⟩) 1 1 := fm8
              subst fm8
              have h8 : ld 8 = true := hw 8 (by kernel_rfl)
              have h10 : ld 10 = false := by cases h : ld 10 with | false => rfl | true => exact absurd (hcl 10 _ 9 rfl h (by kernel_rfl)) (by rw [hi]; decide)
              have eW : W = W2 := by unfold cW at hC; rw [h10, hi, h8] at hC; exact hC
              subst eW
              clear hSame hRR hcl hw
              rw [if_pos (wanted_plain rfl)]
              have h3 := hr3.out
              have e1 : fa.eval (.tmp 44) = .slice A2 (Aw.named s (l.take k)).length c2 := by simp [Act.eval, ft6]
              have e2 : fa.eval (.tmp 46) = .slice (some ⟨wd.heap.size, 0, none⟩) 1 1 := by simp [Act.eval, ft8]
              unfold Oper.wp execOp
              simp only [resolve, invoke, builtin, Sem.run_bind, Sem.run_pure, Result.andThen_ok, List.map_toArray, List.map_cons, List.map_nil, e1, e2, h3]
              exact hKK _ _ rfl (by unfold cW; rw [come_other (by decide), h10, come_same]; rfl)
            refine ObsW.cons (k' := 11) rfl ?_ ?_
            · intro ld fa W hC hi hw hcl hSame hRR KK hKK
              obtain ⟨fv0, ft0, fm0⟩ := hRR 0 _ 38 rfl rfl (by kernel_rfl)
              replace fm0 : fv0 = Value.map (some w.heap.size) := fm0
              subst fm0
              obtain ⟨fv2, ft2, fm2⟩ := hRR 2 _ 40 rfl rfl (by kernel_rfl)
              replace fm2 : fv2 = Value.string s := fm2
              subst fm2
              obtain ⟨fv9, ft9, fm9⟩ := hRR 9 _ 47 rfl rfl (by kernel_rfl)
              replace fm9 : fv9 = v3 := fm9
              subst fm9
              have h9 : ld 9 = true := hw 9 (by kernel_rfl)
              have eW : W = W3 := by unfold cW at hC; rw [hi, h9] at hC; exact hC
              subst eW
              clear hSame hRR hcl hw
              rw [if_pos (wanted_plain rfl)]
              have h4 := hr4.out
              go_simp
              exact hKK undef W4 trivial (by unfold cW; rw [come_same]; rfl)
            exact ObsW.nil
          case hlast =>
            intro ld fa W hC hld hSame hRR
            have h10 := hld 10 (by decide)
            have eW : W = W4 := by unfold cW at hC; rw [h10] at hC; exact hC
            subst eW
            rw [Same_shape hSame]
            simp only [List.filterMap_cons, List.filterMap_nil, List.foldl_cons, List.foldl_nil]
            generalize fa.tmps.getD 38 undef = y38
            generalize fa.tmps.getD 39 undef = y39
            generalize fa.tmps.getD 40 undef = y40
            generalize fa.tmps.getD 41 undef = y41
            generalize fa.tmps.getD 42 undef = y42
            generalize fa.tmps.getD 43 undef = y43
            generalize fa.tmps.getD 44 undef = y44
            generalize fa.tmps.getD 45 undef = y45
            generalize fa.tmps.getD 46 undef = y46
            generalize fa.tmps.getD 47 undef = y47
            clear hSame hRR hld h10 hC hr3 hr4 FS FY0 FY1 FY2 FY3 FY4 FL
            go_wp2_with fail
            go_roundw
            case rel => exact ⟨k + 1, n + 1, _, _, by omega, by omega, by go_num, M4, K4, R4, B4, hgt4, HI⟩
            case measure => simp [intOf]; omega
    · have HI := Lib.hid (show ((-1 : Int), (0 : Int)) = tot by rw [← hck.out]; exact (Aw.ck_end _ l k (by have := HN.out; omega)).symm)
      go_wp2_with fail
      go_ret2
      exact ⟨by rw [HA.out, ← HI.out]; rfl, hbw.out⟩
end Go.Proofs.Ytjnhaabbnbcaeaa
