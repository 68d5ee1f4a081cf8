/- Rules far enough from each other: what the statements ask for beside the program: light lists, the rules of a life. -/
import Derived.Test.YtjnhaabbnbcaeaaAwR
import Derived.Test.YtjnhaabbnbcaeaaBkR
set_option linter.unusedVariables false
set_option linter.unusedSimpArgs false
namespace Go.Proofs.Ytjnhaabbnbcaeaa
open Go.RowKit Go.Sort

namespace Aw
def lightOne (r : R) : Bool := decide (r.1.size ≤ 200) && decide (r.2.2.2.2.2.2.2.2.2.2.size ≤ 200)
def light (l : List R) : Bool := decide (l.length ≤ 12) && l.all lightOne
theorem all_at (l : List R) (k : Nat) (h : k < l.length) : (l.drop k).all lightOne = (lightOne l[k] && (l.drop (k + 1)).all lightOne) := by
  rw [List.drop_eq_getElem_cons h]; rfl
end Aw
set_option maxHeartbeats 4000000 in
set_option maxRecDepth 100000 in
theorem alight_any (v : Value) (l : List Aw.R) (w : World) (S : RuV w v l) (hz : ∀ r ∈ l, r.1.size ≤ maxLen ∧ r.2.2.2.2.2.2.2.2.2.2.size ≤ maxLen) (hm : l.length ≤ maxLen) :
    Calls Try.prog 6 #[v] w fun e w' => e = .returned (.bool (Aw.light l)) ∧ Below w.heap.size w w' := by
  have T := S
  obtain ⟨A, c, rfl, -⟩ := T
  unfold maxLen at hm
  obtain ⟨N, hN⟩ : ∃ N, N = l.length := ⟨_, rfl⟩
  have HN := Lib.hid hN
  have HS : Hid (RuV w (.slice A N c) l) := by rw [hN]; exact S
  rw [← hN] at hm ⊢
  have HZ := Lib.hid hz
  by_cases h12 : N ≤ 12
  case neg =>
    have e : Aw.light l = false := by unfold Aw.light; rw [decide_eq_false (by have := HN.out; omega)]; rfl
    rw [e]
    clear hN S hz e
    go_enter Try.func6, Try.ntmps6
    go_wp2_with fail
    go_ret
    exact ⟨rfl, Below.refl _ _⟩
  obtain ⟨tot, htot⟩ : ∃ tot, tot = Aw.light l := ⟨_, rfl⟩
  have HT : Hid ((l.drop 0).all Aw.lightOne = tot) := Lib.hid (by rw [htot]; unfold Aw.light; rw [decide_eq_true (by omega)]; rfl)
  rw [← htot]
  clear hN S hz htot
  have N0 := Lib.hid (Below.refl w.heap.size w)
  go_enter Try.func6, Try.ntmps6
  go_wp2_with fail
  go_loopw [10] (fun i wr => ∃ k : Nat, k ≤ N ∧ i = .int .i64 k ∧ Hid (Below w.heap.size w wr) ∧ Hid ((l.drop k).all Aw.lightOne = tot)) (fun i _ => N - (intOf i).toNat)
  case atStart => exact ⟨0, Nat.zero_le _, rfl, N0, HT⟩
  case round =>
    obtain ⟨k, hk, rfl, hbw, ht⟩ := hrel
    have hszw := hbw.out.size
    by_cases hlt : k < N
    · have hkl : k < l.length := by have := HN.out; omega
      have hz := HZ.out l[k] (List.getElem_mem hkl)
      have ht := ht.out
      rw [Aw.all_at l k hkl] at ht
      have hGet := @RuV.get wr A N c l (HS.out.on hbw.out) k hkl
      generalize l[k] = r at hGet hz ht
      obtain ⟨s, fy, ty, m, d0, wk, d, sec, base, save, t⟩ := r
      obtain ⟨a, rfl, hab, X⟩ := hGet rfl
      have hs : s.size ≤ maxLen := hz.1
      have htt : t.size ≤ maxLen := hz.2
      unfold maxLen at hs htt
      have ht := Lib.hid ht
      obtain ⟨k0, k1, k2, k3, k4, k5, k6, k7, k8, k9, k10⟩ := X
      clear hGet hz
      go_upto_region 6 with (fail)
      refine wp_named ?_; intro w1 hw1
      have d1 : Below wr.heap.size wr w1 := by rw [hw1]; exact (by repeat (first | exact Below.refl _ _ | refine below_drewN ?_ _ | refine Below.drew ?_ | refine Below.setCell ?_ (by first | (simp; done) | (simp; omega) | omega) _ | refine Below.alloc ?_ (by first | (simp; done) | (simp; omega) | omega) _))
      have X1 : Bk11 w1 wr.heap.size (.string s) (.int .i64 fy) (.int .i64 ty) (.int .i64 m) (.int .i64 d0) (.int .i64 wk) (.int .i64 d) (.int .i64 sec) (.int .i64 base) (.int .i64 save) (.string t) := by rw [hw1]; exact ⟨by simp <;> omega, by intro j; simp [go_sem], by simp [go_sem], by simp [go_sem], by simp [go_sem], by simp [go_sem], by simp [go_sem], by simp [go_sem], by simp [go_sem], by simp [go_sem], by simp [go_sem], by simp [go_sem], by simp [go_sem]⟩
      have D1 := Lib.hid (below_step hbw.out d1)
      clear d1 hw1 k0 k1 k2 k3 k4 k5 k6 k7 k8 k9 k10
      have cX_b := X1.hb
      have cX_f := X1.fz
      have cX_0 := X1.k0
      have cX_1 := X1.k1
      have cX_2 := X1.k2
      have cX_3 := X1.k3
      have cX_4 := X1.k4
      have cX_5 := X1.k5
      have cX_6 := X1.k6
      have cX_7 := X1.k7
      have cX_8 := X1.k8
      have cX_9 := X1.k9
      have cX_10 := X1.k10
      by_cases g1 : s.size ≤ 200
      · by_cases g2 : t.size ≤ 200
        · have HI := Lib.hid (show (l.drop (k + 1)).all Aw.lightOne = tot by have := ht.out; unfold Aw.lightOne at this; rw [decide_eq_true g1, decide_eq_true g2] at this; exact this)
          clear ht
          go_wp2_with fail
          go_roundw
          case rel => exact ⟨k + 1, by omega, by go_num, D1, HI⟩
          case measure => simp [intOf]; omega
        · have HI := Lib.hid (show false = tot by have := ht.out; unfold Aw.lightOne at this; rw [decide_eq_true g1, decide_eq_false g2] at this; exact this)
          clear ht
          go_wp2_with fail
          go_ret
          exact ⟨by rw [← HI.out]; rfl, D1.out⟩
      · have HI := Lib.hid (show false = tot by have := ht.out; unfold Aw.lightOne at this; rw [decide_eq_false g1] at this; exact this)
        clear ht
        go_wp2_with fail
        go_ret
        exact ⟨by rw [← HI.out]; rfl, D1.out⟩
    · have HI := Lib.hid (show true = tot by rw [← ht.out, List.drop_of_length_le (by have := HN.out; omega)]; rfl)
      go_wp2_with fail
      go_ret
      exact ⟨by rw [← HI.out]; rfl, hbw.out⟩
theorem eu_any (W : World) : Calls Try.prog 15 #[] W fun e w' => e = .returned (.agg #[.string ⟨#[69, 85]⟩, .int .i64 1981, .int .i64 32767, .int .i64 3, .int .i64 1, .int .i64 0, .int .i64 0, .int .i64 3600, .int .i64 2, .int .i64 3600, .string ⟨#[83]⟩]) ∧ Below W.heap.size W w' := by
  go_enter Try.func15, Try.ntmps15
  go_wp2_with fail
  exact bodyPost_ret (v := .agg #[.string ⟨#[69, 85]⟩, .int .i64 1981, .int .i64 32767, .int .i64 3, .int .i64 1, .int .i64 0, .int .i64 0, .int .i64 3600, .int .i64 2, .int .i64 3600, .string ⟨#[83]⟩]) (by simp [results, Try.results15, go_sem]) rfl ⟨rfl, by repeat (first | exact Below.refl _ _ | refine Below.setCell ?_ (by first | (simp; done) | (simp; omega) | omega) _ | refine Below.alloc ?_ (by first | (simp; done) | (simp; omega) | omega) _)⟩
def Aw.us : List Aw.R := [(⟨#[85, 83]⟩, 2007, 32767, 3, 2, 0, 8, 7200, 0, 3600, ⟨#[68]⟩), (⟨#[85, 83]⟩, 2007, 32767, 11, 2, 0, 1, 7200, 0, 0, ⟨#[83]⟩)]
set_option maxRecDepth 100000 in
theorem us_any (w : World) : Calls Try.prog 14 #[] w fun e w' => e = .returned (.slice (some ⟨w.heap.size, 0, none⟩) 2 2) ∧ RuV w' (.slice (some ⟨w.heap.size, 0, none⟩) 2 2) Aw.us ∧ Below w.heap.size w w' := by
  go_enter Try.func14, Try.ntmps14
  go_wp2_with fail
  go_ret
  have ad : ∀ i, (⟨w.heap.size, 0, none⟩ : Addr).add i = ⟨w.heap.size, i, none⟩ := fun i => by
    unfold Addr.add
    by_cases h : i = 0
    · subst h; rfl
    · simp [h]
  refine ⟨rfl, ⟨some ⟨w.heap.size, 0, none⟩, 2, rfl, fun _ => ⟨_, rfl, by simp, fun j u hu => ?_⟩⟩, (Below.refl _ _).alloc (Nat.le_refl _) _⟩
  obtain ⟨hj, -⟩ := List.getElem?_eq_some_iff.1 hu
  have hj : j < 22 := hj
  match j, hj, hu with
  | 0, _, hu => cases hu; rw [ad]; simp [go_sem]
  | 1, _, hu => cases hu; rw [ad]; simp [go_sem]
  | 2, _, hu => cases hu; rw [ad]; simp [go_sem]
  | 3, _, hu => cases hu; rw [ad]; simp [go_sem]
  | 4, _, hu => cases hu; rw [ad]; simp [go_sem]
  | 5, _, hu => cases hu; rw [ad]; simp [go_sem]
  | 6, _, hu => cases hu; rw [ad]; simp [go_sem]
  | 7, _, hu => cases hu; rw [ad]; simp [go_sem]
  | 8, _, hu => cases hu; rw [ad]; simp [go_sem]
  | 9, _, hu => cases hu; rw [ad]; simp [go_sem]
  | 10, _, hu => cases hu; rw [ad]; simp [go_sem]
  | 11, _, hu => cases hu; rw [ad]; simp [go_sem]
  | 12, _, hu => cases hu; rw [ad]; simp [go_sem]
  | 13, _, hu => cases hu; rw [ad]; simp [go_sem]
  | 14, _, hu => cases hu; rw [ad]; simp [go_sem]
  | 15, _, hu => cases hu; rw [ad]; simp [go_sem]
  | 16, _, hu => cases hu; rw [ad]; simp [go_sem]
  | 17, _, hu => cases hu; rw [ad]; simp [go_sem]
  | 18, _, hu => cases hu; rw [ad]; simp [go_sem]
  | 19, _, hu => cases hu; rw [ad]; simp [go_sem]
  | 20, _, hu => cases hu; rw [ad]; simp [go_sem]
  | 21, _, hu => cases hu; rw [ad]; simp [go_sem]
end Go.Proofs.Ytjnhaabbnbcaeaa
