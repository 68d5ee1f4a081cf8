/- Joined: AwR, AwD, AwE. -/
import Derived.Test.YtjnhaabbnbcaeaaBx07
import Derived.Test.YtjnhaabbnbcaeaaBx02
import Derived.Test.YtjnhaabbnbcaeaaBx01
/- Rules in memory. -/
set_option linter.unusedVariables false
set_option linter.unusedSimpArgs false
namespace Go.Proofs.Ytjnhaabbnbcaeaa
open Go.RowKit Go.Sort

namespace Aw
def rcs (l : List R) : List Value := l.flatMap enc
theorem enc_len (r : R) : (enc r).length = 11 := by obtain ⟨s, fy, ty, m, k, wk, d, sec, base, save, t⟩ := r; rfl
theorem rcs_cons (p : R) (l : List R) : rcs (p :: l) = enc p ++ rcs l := rfl
theorem rcs_at (l : List R) (k c : Nat) (h : k < l.length) (hc : c < 11) : (rcs l)[k * 11 + c]? = (enc l[k])[c]? := by
  induction l generalizing k with
  | nil => exact absurd h (by simp)
  | cons p l ih =>
    rw [rcs_cons]
    cases k with
    | zero =>
      rw [Nat.zero_mul, Nat.zero_add, List.getElem?_append_left (by rw [enc_len]; exact hc)]; rfl
    | succ k =>
      have := ih k (by simpa using h)
      rw [List.getElem?_append_right (by rw [enc_len]; omega), enc_len, show (k + 1) * 11 + c - 11 = k * 11 + c by omega, this]
      rfl
end Aw
def RuV (w : World) (v : Value) (l : List Aw.R) : Prop := Lst w w.heap.size v l.length (Aw.rcs l)
theorem RuV.on {w w' : World} {v : Value} {l : List Aw.R} (h : RuV w v l) (k : Below w.heap.size w w') : RuV w' v l := Lst.on h k
/-- The cells of a rule, from an address on. -/
structure RuC (w : World) (a : Addr) (s : ByteArray) (fy ty m k wk d sec base save : Int) (t : ByteArray) : Prop where
  k0 : w.cell? a = some (.string s)
  k1 : w.cell? ⟨a.block, a.off + 1, none⟩ = some (.int .i64 fy)
  k2 : w.cell? ⟨a.block, a.off + 2, none⟩ = some (.int .i64 ty)
  k3 : w.cell? ⟨a.block, a.off + 3, none⟩ = some (.int .i64 m)
  k4 : w.cell? ⟨a.block, a.off + 4, none⟩ = some (.int .i64 k)
  k5 : w.cell? ⟨a.block, a.off + 5, none⟩ = some (.int .i64 wk)
  k6 : w.cell? ⟨a.block, a.off + 6, none⟩ = some (.int .i64 d)
  k7 : w.cell? ⟨a.block, a.off + 7, none⟩ = some (.int .i64 sec)
  k8 : w.cell? ⟨a.block, a.off + 8, none⟩ = some (.int .i64 base)
  k9 : w.cell? ⟨a.block, a.off + 9, none⟩ = some (.int .i64 save)
  k10 : w.cell? ⟨a.block, a.off + 10, none⟩ = some (.string t)
theorem RuV.get {w : World} {A : Option Addr} {n c : Nat} {l : List Aw.R} (h : RuV w (.slice A n c) l) (j : Nat) (hj : j < l.length) {s : ByteArray} {fy ty m k wk d sec base save : Int} {t : ByteArray}
    (e : l[j] = (s, fy, ty, m, k, wk, d, sec, base, save, t)) : ∃ a, A = some a ∧ a.block < w.heap.size ∧ RuC w (a.add (j * 11)) s fy ty m k wk d sec base save t := by
  obtain ⟨A', c', hv, ha⟩ := h
  obtain ⟨a, e0, hb, hc⟩ := ha (by omega)
  cases hv
  subst e0
  have e1 : ∀ i, 0 < i → (⟨(a.add (j * 11)).block, (a.add (j * 11)).off + i, none⟩ : Addr) = a.add (j * 11 + i) := fun i hi => by
    rw [← add_two]
    have : ∀ b : Addr, (⟨b.block, b.off + i, none⟩ : Addr) = b.add i := fun b => by unfold Addr.add; rw [if_neg (by omega)]
    exact this _
  have g : ∀ c u, c < 11 → (Aw.enc (s, fy, ty, m, k, wk, d, sec, base, save, t))[c]? = some u → w.cell? (a.add (j * 11 + c)) = some u := fun c u h1 h2 => hc (j * 11 + c) u (by rw [Aw.rcs_at l j c hj h1, e]; exact h2)
  refine ⟨a, rfl, hb, ?_, ?_, ?_, ?_, ?_, ?_, ?_, ?_, ?_, ?_, ?_⟩
  · exact g 0 _ (by decide) rfl
  · rw [e1 1 (by decide)]; exact g 1 _ (by decide) rfl
  · rw [e1 2 (by decide)]; exact g 2 _ (by decide) rfl
  · rw [e1 3 (by decide)]; exact g 3 _ (by decide) rfl
  · rw [e1 4 (by decide)]; exact g 4 _ (by decide) rfl
  · rw [e1 5 (by decide)]; exact g 5 _ (by decide) rfl
  · rw [e1 6 (by decide)]; exact g 6 _ (by decide) rfl
  · rw [e1 7 (by decide)]; exact g 7 _ (by decide) rfl
  · rw [e1 8 (by decide)]; exact g 8 _ (by decide) rfl
  · rw [e1 9 (by decide)]; exact g 9 _ (by decide) rfl
  · rw [e1 10 (by decide)]; exact g 10 _ (by decide) rfl
end Go.Proofs.Ytjnhaabbnbcaeaa

/- Rules far enough from each other: what the statements ask for beside the program: light lists, the rules of a life. -/
set_option linter.unusedVariables false
set_option linter.unusedSimpArgs false
namespace Go.Proofs.Ytjnhaabbnbcaeaa
open Go.RowKit Go.Sort

namespace Aw
def lightOne (r : R) : Bool := decide (r.1.size ≤ 200) && decide (r.2.2.2.2.2.2.2.2.2.2.size ≤ 200)
def light (l : List R) : Bool := decide (l.length ≤ 12) && l.all lightOne
theorem all_at (l : List R) (k : Nat) (h : k < l.length) : (l.drop k).all lightOne = (lightOne l[k] && (l.drop (k + 1)).all lightOne) := by
  rw [List.drop_eq_getElem_cons h]; rfl
end Aw
set_option maxHeartbeats 4000000 in
set_option maxRecDepth 100000 in
theorem alight_any (v : Value) (l : List Aw.R) (w : World) (S : RuV w v l) (hz : ∀ r ∈ l, r.1.size ≤ maxLen ∧ r.2.2.2.2.2.2.2.2.2.2.size ≤ maxLen) (hm : l.length ≤ maxLen) :
    Calls Try.prog 6 #[v] w fun e w' => e = .returned (.bool (Aw.light l)) ∧ Below w.heap.size w w' := by
  have T := S
  obtain ⟨A, c, rfl, -⟩ := T
  unfold maxLen at hm
  obtain ⟨N, hN⟩ : ∃ N, N = l.length := ⟨_, rfl⟩
  have HN := Lib.hid hN
  have HS : Hid (RuV w (.slice A N c) l) := by rw [hN]; exact S
  rw [← hN] at hm ⊢
  have HZ := Lib.hid hz
  by_cases h12 : N ≤ 12
  case neg =>
    have e : Aw.light l = false := by unfold Aw.light; rw [decide_eq_false (by have := HN.out; omega)]; rfl
    rw [e]
    clear hN S hz e
    go_enter Try.func6, Try.ntmps6
    go_wp2_with fail
    go_ret
    exact ⟨rfl, Below.refl _ _⟩
  obtain ⟨tot, htot⟩ : ∃ tot, tot = Aw.light l := ⟨_, rfl⟩
  have HT : Hid ((l.drop 0).all Aw.lightOne = tot) := Lib.hid (by rw [htot]; unfold Aw.light; rw [decide_eq_true (by omega)]; rfl)
  rw [← htot]
  clear hN S hz htot
  have N0 := Lib.hid (Below.refl w.heap.size w)
  go_enter Try.func6, Try.ntmps6
  go_wp2_with fail
  go_loopw [10] (fun i wr => ∃ k : Nat, k ≤ N ∧ i = .int .i64 k ∧ Hid (Below w.heap.size w wr) ∧ Hid ((l.drop k).all Aw.lightOne = tot)) (fun i _ => N - (intOf i).toNat)
  case atStart => exact ⟨0, Nat.zero_le _, rfl, N0, HT⟩
  case round =>
    obtain ⟨k, hk, rfl, hbw, ht⟩ := hrel
    have hszw := hbw.out.size
    by_cases hlt : k < N
    · have hkl : k < l.length := by have := HN.out; omega
      have hz := HZ.out l[k] (List.getElem_mem hkl)
      have ht := ht.out
      rw [Aw.all_at l k hkl] at ht
      have hGet := @RuV.get wr A N c l (HS.out.on hbw.out) k hkl
      generalize l[k] = r at hGet hz ht
      obtain ⟨s, fy, ty, m, d0, wk, d, sec, base, save, t⟩ := r
      obtain ⟨a, rfl, hab, X⟩ := hGet rfl
      have hs : s.size ≤ maxLen := hz.1
      have htt : t.size ≤ maxLen := hz.2
      unfold maxLen at hs htt
      have ht := Lib.hid ht
      obtain ⟨k0, k1, k2, k3, k4, k5, k6, k7, k8, k9, k10⟩ := X
      clear hGet hz
      go_upto_region 6 with (fail)
      refine wp_named ?_; intro w1 hw1
      have d1 : Below wr.heap.size wr w1 := by rw [hw1]; exact (by repeat (first | exact Below.refl _ _ | refine below_drewN ?_ _ | refine Below.drew ?_ | refine Below.setCell ?_ (by first | (simp; done) | (simp; omega) | omega) _ | refine Below.alloc ?_ (by first | (simp; done) | (simp; omega) | omega) _))
      have X1 : Bk11 w1 wr.heap.size (.string s) (.int .i64 fy) (.int .i64 ty) (.int .i64 m) (.int .i64 d0) (.int .i64 wk) (.int .i64 d) (.int .i64 sec) (.int .i64 base) (.int .i64 save) (.string t) := by rw [hw1]; exact ⟨by simp <;> omega, by intro j; simp [go_sem], by simp [go_sem], by simp [go_sem], by simp [go_sem], by simp [go_sem], by simp [go_sem], by simp [go_sem], by simp [go_sem], by simp [go_sem], by simp [go_sem], by simp [go_sem], by simp [go_sem]⟩
      have D1 := Lib.hid (below_step hbw.out d1)
      clear d1 hw1 k0 k1 k2 k3 k4 k5 k6 k7 k8 k9 k10
      have cX_b := X1.hb
      have cX_f := X1.fz
      have cX_0 := X1.k0
      have cX_1 := X1.k1
      have cX_2 := X1.k2
      have cX_3 := X1.k3
      have cX_4 := X1.k4
      have cX_5 := X1.k5
      have cX_6 := X1.k6
      have cX_7 := X1.k7
      have cX_8 := X1.k8
      have cX_9 := X1.k9
      have cX_10 := X1.k10
      by_cases g1 : s.size ≤ 200
      · by_cases g2 : t.size ≤ 200
        · have HI := Lib.hid (show (l.drop (k + 1)).all Aw.lightOne = tot by have := ht.out; unfold Aw.lightOne at this; rw [decide_eq_true g1, decide_eq_true g2] at this; exact this)
          clear ht
          go_wp2_with fail
          go_roundw
          case rel => exact ⟨k + 1, by omega, by go_num, D1, HI⟩
          case measure => simp [intOf]; omega
        · have HI := Lib.hid (show false = tot by have := ht.out; unfold Aw.lightOne at this; rw [decide_eq_true g1, decide_eq_false g2] at this; exact this)
          clear ht
          go_wp2_with fail
          go_ret
          exact ⟨by rw [← HI.out]; rfl, D1.out⟩
      · have HI := Lib.hid (show false = tot by have := ht.out; unfold Aw.lightOne at this; rw [decide_eq_false g1] at this; exact this)
        clear ht
        go_wp2_with fail
        go_ret
        exact ⟨by rw [← HI.out]; rfl, D1.out⟩
    · have HI := Lib.hid (show true = tot by rw [← ht.out, List.drop_of_length_le (by have := HN.out; omega)]; rfl)
      go_wp2_with fail
      go_ret
      exact ⟨by rw [← HI.out]; rfl, hbw.out⟩
theorem eu_any (W : World) : Calls Try.prog 15 #[] W fun e w' => e = .returned (.agg #[.string ⟨#[69, 85]⟩, .int .i64 1981, .int .i64 32767, .int .i64 3, .int .i64 1, .int .i64 0, .int .i64 0, .int .i64 3600, .int .i64 2, .int .i64 3600, .string ⟨#[83]⟩]) ∧ Below W.heap.size W w' := by
  go_enter Try.func15, Try.ntmps15
  go_wp2_with fail
  exact bodyPost_ret (v := .agg #[.string ⟨#[69, 85]⟩, .int .i64 1981, .int .i64 32767, .int .i64 3, .int .i64 1, .int .i64 0, .int .i64 0, .int .i64 3600, .int .i64 2, .int .i64 3600, .string ⟨#[83]⟩]) (by simp [results, Try.results15, go_sem]) rfl ⟨rfl, by repeat (first | exact Below.refl _ _ | refine Below.setCell ?_ (by first | (simp; done) | (simp; omega) | omega) _ | refine Below.alloc ?_ (by first | (simp; done) | (simp; omega) | omega) _)⟩
def Aw.us : List Aw.R := [(⟨#[85, 83]⟩, 2007, 32767, 3, 2, 0, 8, 7200, 0, 3600, ⟨#[68]⟩), (⟨#[85, 83]⟩, 2007, 32767, 11, 2, 0, 1, 7200, 0, 0, ⟨#[83]⟩)]
set_option maxRecDepth 100000 in
theorem us_any (w : World) : Calls Try.prog 14 #[] w fun e w' => e = .returned (.slice (some ⟨w.heap.size, 0, none⟩) 2 2) ∧ RuV w' (.slice (some ⟨w.heap.size, 0, none⟩) 2 2) Aw.us ∧ Below w.heap.size w w' := by
  go_enter Try.func14, Try.ntmps14
  go_wp2_with fail
  go_ret
  have ad : ∀ i, (⟨w.heap.size, 0, none⟩ : Addr).add i = ⟨w.heap.size, i, none⟩ := fun i => by
    unfold Addr.add
    by_cases h : i = 0
    · subst h; rfl
    · simp [h]
  refine ⟨rfl, ⟨some ⟨w.heap.size, 0, none⟩, 2, rfl, fun _ => ⟨_, rfl, by simp, fun j u hu => ?_⟩⟩, (Below.refl _ _).alloc (Nat.le_refl _) _⟩
  obtain ⟨hj, -⟩ := List.getElem?_eq_some_iff.1 hu
  have hj : j < 22 := hj
  match j, hj, hu with
  | 0, _, hu => cases hu; rw [ad]; simp [go_sem]
  | 1, _, hu => cases hu; rw [ad]; simp [go_sem]
  | 2, _, hu => cases hu; rw [ad]; simp [go_sem]
  | 3, _, hu => cases hu; rw [ad]; simp [go_sem]
  | 4, _, hu => cases hu; rw [ad]; simp [go_sem]
  | 5, _, hu => cases hu; rw [ad]; simp [go_sem]
  | 6, _, hu => cases hu; rw [ad]; simp [go_sem]
  | 7, _, hu => cases hu; rw [ad]; simp [go_sem]
  | 8, _, hu => cases hu; rw [ad]; simp [go_sem]
  | 9, _, hu => cases hu; rw [ad]; simp [go_sem]
  | 10, _, hu => cases hu; rw [ad]; simp [go_sem]
  | 11, _, hu => cases hu; rw [ad]; simp [go_sem]
  | 12, _, hu => cases hu; rw [ad]; simp [go_sem]
  | 13, _, hu => cases hu; rw [ad]; simp [go_sem]
  | 14, _, hu => cases hu; rw [ad]; simp [go_sem]
  | 15, _, hu => cases hu; rw [ad]; simp [go_sem]
  | 16, _, hu => cases hu; rw [ad]; simp [go_sem]
  | 17, _, hu => cases hu; rw [ad]; simp [go_sem]
  | 18, _, hu => cases hu; rw [ad]; simp [go_sem]
  | 19, _, hu => cases hu; rw [ad]; simp [go_sem]
  | 20, _, hu => cases hu; rw [ad]; simp [go_sem]
  | 21, _, hu => cases hu; rw [ad]; simp [go_sem]
end Go.Proofs.Ytjnhaabbnbcaeaa

/- Rules far enough from each other: either way, in plain numbers. -/
set_option linter.unusedVariables false
set_option linter.unusedSimpArgs false
namespace Go.Proofs.Ytjnhaabbnbcaeaa
open Go.RowKit

namespace Aw
theorem inY_comm0 (a b : C) : inY a b 0 = inY b a 0 := by
  unfold inY
  congr 1
  exact propext ⟨fun h => by omega, fun h => by omega⟩
theorem near_comm (a b : C) : near a b = near b a := by
  unfold near
  rw [inY_comm0 a b]
  cases inY b a 0 <;> cases isB a b 0 <;> cases isB b a 0 <;> cases inY a b 1 <;> cases inY b a 1 <;> cases isB a b 1 <;> cases isB b a 1 <;> rfl
theorem pr_comm (a b : C) : pr a b = pr b a := by
  unfold pr
  rw [near_comm a b]
  by_cases h : a.2.2.2.2 = 0 ∧ b.2.2.2.2 = 0
  · have h' := And.intro h.2 h.1
    rw [if_pos (c := a.2.2.2.2 = 0 ∧ b.2.2.2.2 = 0) h, if_pos (c := b.2.2.2.2 = 0 ∧ a.2.2.2.2 = 0) h']
  · rw [if_neg (c := a.2.2.2.2 = 0 ∧ b.2.2.2.2 = 0) h, if_neg (c := b.2.2.2.2 = 0 ∧ a.2.2.2.2 = 0) (fun k => h ⟨k.2, k.1⟩)]
theorem wy_0 (r : R) : wy r = 0 ↔ rt r = true := by
  unfold wy
  by_cases h : rt r = true
  · simp [h]
  · simp [h]
/-- There is no answer where one is not right. -/
theorem pr_4 (a b : R) : (pr (rc a) (rc b) == 4) = (!rt a || !rt b) := by
  have e : ∀ r : R, (rc r).2.2.2.2 = wy r := fun _ => rfl
  unfold pr
  simp only [e, wy_0]
  cases rt a <;> cases rt b <;> simp
  split <;> simp
/-- Too close: in one year, or next to each other. -/
theorem pr_15 (a b : R) (h : pr (rc a) (rc b) = 15) : a.2.1 ≤ b.2.2.1 + 1 ∧ b.2.1 ≤ a.2.2.1 + 1 := by
  unfold pr at h
  split at h
  case isFalse => exact absurd h (by decide)
  split at h
  case isFalse => exact absurd h (by decide)
  rename_i hn
  unfold near at hn
  have i0 : inY (rc a) (rc b) 0 = true → a.2.1 ≤ b.2.2.1 + 1 ∧ b.2.1 ≤ a.2.2.1 + 1 := fun h => by
    have h := of_decide_eq_true h
    have h : max (a.2.1 + 0) b.2.1 ≤ min (a.2.2.1 + 0) b.2.2.1 := h
    omega
  have i1 : inY (rc a) (rc b) 1 = true → a.2.1 ≤ b.2.2.1 + 1 ∧ b.2.1 ≤ a.2.2.1 + 1 := fun h => by
    have h := of_decide_eq_true h
    have h : max (a.2.1 + 1) b.2.1 ≤ min (a.2.2.1 + 1) b.2.2.1 := h
    omega
  have i2 : inY (rc b) (rc a) 1 = true → a.2.1 ≤ b.2.2.1 + 1 ∧ b.2.1 ≤ a.2.2.1 + 1 := fun h => by
    have h := of_decide_eq_true h
    have h : max (b.2.1 + 1) a.2.1 ≤ min (b.2.2.1 + 1) a.2.2.1 := h
    omega
  simp only [Bool.or_eq_true, Bool.and_eq_true] at hn
  rcases hn with ⟨h, -⟩ | ⟨h, -⟩ | ⟨h, -⟩
  · exact i0 h
  · exact i1 h
  · exact i2 h
def named1 (s : ByteArray) : R → R
  | (_, fy, ty, m, k, wk, d, sec, base, save, t) => (s, fy, ty, m, k, wk, d, sec, base, save, t)
/-- A name that may be has no part. -/
theorem rc_name (s : ByteArray) (hn : (Lk.nm s.data.toList == 0) = true) (r : R) (h : rt r = true) : rc (named1 s r) = rc r ∧ rt (named1 s r) = true := by
  obtain ⟨s0, fy, ty, m, k, wk, d, sec, base, save, t⟩ := r
  have h : Ru.rB s0 t fy ty m k wk d sec base save = true := h
  have h' : Ru.rB s t fy ty m k wk d sec base save = true := by
    unfold Ru.rB at h ⊢
    rw [Bool.and_eq_true] at h ⊢
    exact ⟨hn, h.2⟩
  refine ⟨?_, h'⟩
  have e1 : lo (s, fy, ty, m, k, wk, d, sec, base, save, t) = lo (s0, fy, ty, m, k, wk, d, sec, base, save, t) := (if_pos h').trans (if_pos h).symm
  have e2 : hi (s, fy, ty, m, k, wk, d, sec, base, save, t) = hi (s0, fy, ty, m, k, wk, d, sec, base, save, t) := (if_pos h').trans (if_pos h).symm
  have e3 : wy (s, fy, ty, m, k, wk, d, sec, base, save, t) = wy (s0, fy, ty, m, k, wk, d, sec, base, save, t) := (if_pos h').trans (if_pos h).symm
  show (fy, ty, lo (s, fy, ty, m, k, wk, d, sec, base, save, t), hi (s, fy, ty, m, k, wk, d, sec, base, save, t), wy (s, fy, ty, m, k, wk, d, sec, base, save, t)) = (fy, ty, lo (s0, fy, ty, m, k, wk, d, sec, base, save, t), hi (s0, fy, ty, m, k, wk, d, sec, base, save, t), wy (s0, fy, ty, m, k, wk, d, sec, base, save, t))
  rw [e1, e2, e3]
theorem nm_else : (Lk.nm (⟨#[69, 108, 115, 101]⟩ : ByteArray).data.toList == 0) = true := by decide +kernel
theorem pr_name (a b : R) (h : pr (rc a) (rc b) ≠ 4) : pr (rc (named1 ⟨#[69, 108, 115, 101]⟩ a)) (rc b) = pr (rc a) (rc b) := by
  have h4 := pr_4 a b
  rw [beq_eq_false_iff_ne.2 h] at h4
  cases ha : rt a with
  | false => rw [ha] at h4; cases h4
  | true => rw [(rc_name _ nm_else a ha).1]
end Aw
end Go.Proofs.Ytjnhaabbnbcaeaa
