/- The reference's sets: the contracts of Less and Gaps. -/
import Derived.Test.YtmnmmbeageddkaaSrC
set_option linter.unusedVariables false
set_option linter.unusedSimpArgs false
namespace Go.Proofs.Ytmnmmbeageddkaa
open Go.RowKit Go.Sort Go.Shelf

namespace Ss
theorem lss_eq (x0 x1 y0 y1 : Int) : Sp.less x0 x1 y0 y1 = lss (x0, x1) (y0, y1) := by
  unfold Sp.less lss
  by_cases h : x0 < x1
  · by_cases h2 : max x0 y0 < min x1 y1
    · rw [if_pos (show Sp.mt x0 x1 y0 y1 = true from decide_eq_true h2), if_pos (show Sp.rb x0 x1 = true from decide_eq_true h), if_pos (show Sp.mt x0 x1 y0 y1 = true from decide_eq_true h2)]
      unfold Sp.one Sp.rb
      by_cases c : x0 < y0 <;> by_cases d : y1 < x1
      · rw [if_pos c, if_pos d, show max x0 y0 = y0 by omega, show min x1 y1 = y1 by omega, if_pos (decide_eq_true c), if_pos (decide_eq_true d)]
      · rw [if_pos c, if_neg d, show max x0 y0 = y0 by omega, if_pos (decide_eq_true c), if_neg (by simp; omega)]
      · rw [if_neg c, if_pos d, show min x1 y1 = y1 by omega, if_neg (by simp; omega), if_pos (decide_eq_true d)]
      · rw [if_neg c, if_neg d, if_neg (by simp; omega), if_neg (by simp; omega)]
    · rw [if_neg (show ¬ Sp.mt x0 x1 y0 y1 = true from fun e => h2 (of_decide_eq_true e)), if_pos (show Sp.rb x0 x1 = true from decide_eq_true h), if_neg (show ¬ Sp.mt x0 x1 y0 y1 = true from fun e => h2 (of_decide_eq_true e))]
      unfold Sp.one
      rw [if_pos (show Sp.rb x0 x1 = true from decide_eq_true h)]
  · rw [Sp.mt_no1 h, if_neg (by decide), if_neg (show ¬ Sp.rb x0 x1 = true from fun e => h (of_decide_eq_true e))]
    unfold Sp.one
    rw [if_neg (show ¬ Sp.rb x0 x1 = true from fun e => h (of_decide_eq_true e))]
theorem lss_one (x y : S) (h : ¬ (x.1 < y.1 ∧ y.2 < x.2 ∧ y.1 < y.2)) : (lss x y).length ≤ 1 := by
  unfold lss
  split
  · split
    · rename_i hmt
      have hy : y.1 < y.2 := by have := of_decide_eq_true hmt; omega
      by_cases c : x.1 < y.1
      · rw [if_pos c, if_neg (fun d => h ⟨c, d, hy⟩)]; simp
      · rw [if_neg c]; split <;> simp
    · simp
  · simp
theorem lss_two (x y : S) : (lss x y).length ≤ 2 := by
  unfold lss
  split
  · split
    · rw [List.length_append]; split <;> split <;> simp
    · simp
  · simp
theorem lss_grow (y : S) : ∀ l : List S, Rs l → (l.flatMap fun x => lss x y).length ≤ l.length + 1 := by
  intro l
  induction l with
  | nil => intro _; simp
  | cons x l ih =>
    intro h
    obtain ⟨p1, p2⟩ := List.pairwise_cons.1 h.1
    have hr : Rs l := ⟨p2, fun s hs => h.2 s (List.mem_cons_of_mem _ hs)⟩
    rw [List.flatMap_cons, List.length_append, List.length_cons]
    by_cases c : x.1 < y.1 ∧ y.2 < x.2
    · have key : ∀ k : List S, (∀ z ∈ k, x.2 < z.1) → (k.flatMap fun x => lss x y).length ≤ k.length := by
        intro k
        induction k with
        | nil => intro _; simp
        | cons z k ih2 =>
          intro hz
          have := ih2 fun u hu => hz u (List.mem_cons_of_mem _ hu)
          have h1 := hz z (List.mem_cons_self ..)
          have := lss_one z y (by omega)
          rw [List.flatMap_cons, List.length_append, List.length_cons]; omega
      have := key l p1
      have := lss_two x y
      omega
    · have := lss_one x y (by omega)
      have := ih hr
      omega
theorem rls_drop (b out : List S) (k : Nat) (h : k < b.length) : rls out (b.drop k) = rls (out.flatMap fun x => lss x b[k]) (b.drop (k + 1)) := by
  rw [List.drop_eq_getElem_cons h]; rfl
theorem rs_take {l : List S} (h : Rs l) (k : Nat) : Rs (l.take k) := ⟨h.1.sublist (List.take_sublist k l), fun s hs => h.2 s (List.mem_of_mem_take hs)⟩
end Ss
set_option maxRecDepth 100000 in
set_option maxHeartbeats 8000000 in
theorem rless_set (va vb : Value) (a b : List Ss.S) (w : World) (h : SpV w va a) (k : SpV w vb b) (ha : a.length ≤ 1000) (hb : b.length ≤ 1000) :
    Calls Try.prog 72 #[va, vb] w (AnsS (Ss.rls (Ss.rof [] a) b) w) := by
  obtain ⟨i0, hi, hz0, hz1, hz2⟩ := info_parts info_span
  obtain ⟨A, c, rfl, -⟩ := id h
  obtain ⟨B, d, rfl, -⟩ := id k
  obtain ⟨m, hm⟩ : ∃ m, b.length = m := ⟨_, rfl⟩
  rw [hm] at hb k ⊢
  have HM := Lib.hid hm
  have HA := Lib.hid h; have HB := Lib.hid k
  obtain ⟨P, hP⟩ : ∃ P, Ss.rls (Ss.rof [] a) b = P := ⟨_, rfl⟩
  rw [hP]
  have HP := Lib.hid hP
  have HL := Lib.hid (show a.length ≤ 100000 by omega)
  clear h k hm hP
  go_enter Try.func72, Try.ntmps72
  go_wp2_with fail
  refine (rof_any _ a _ HA.out HL.out).mono ?_
  rintro e w1 ⟨v1, h1, rfl, b1⟩
  obtain ⟨A1, c1, hv1, -⟩ := id h1
  subst hv1
  have S1 := Lib.hid h1; have B1 := Lib.hid b1
  have R1 := Lib.hid (Ss.rof_nil a).1
  have L1 := Lib.hid (show (Ss.rof [] a).length ≤ 1000 by have := Ss.rof_len a; omega)
  clear h1 b1 HA
  generalize Ss.rof [] a = o1 at *
  go_wp2
  go_loopw [5, 15] (fun u i wr => ∃ (k : Nat) (out : List Ss.S), k ≤ m ∧ i = .int .i64 k ∧ out.length ≤ 1000 + k ∧ Hid (Ss.rls out (b.drop k) = P) ∧ Hid (Ss.Rs out) ∧ Hid (SpV wr u out) ∧ Hid (Below w.heap.size w wr)) (fun _ i _ => m - (intOf i).toNat)
  case atStart => exact ⟨0, o1, Nat.zero_le _, rfl, by have := L1.out; omega, HP, R1, S1, B1⟩
  case round =>
    rename World => w2
    obtain ⟨k, out, hk, rfl, hlen, E, R, O, BB⟩ := hrel
    obtain ⟨A2, c2, hv2, -⟩ := id O.out
    subst hv2
    by_cases hlt : k < m
    · have hkl : k < b.length := by rw [HM.out]; exact hlt
      obtain ⟨ad, rfl, hab, g1, g2⟩ := (HB.out.on BB.out).get k hkl
      have EQ := Lib.hid ((Ss.rls_drop b out k hkl).symm.trans E.out)
      generalize hp : b[k] = p at *
      obtain ⟨y0, y1⟩ := p
      simp only at g1 g2
      clear hp E
      have i1 : (k : Int) < m := by omega
      have bb : Below w2.heap.size w2 (w2.alloc (.cells #[.int .i64 y0, .int .i64 y1] 32)) := (Below.refl _ _).alloc (Nat.le_refl _) _
      have P2 := Lib.hid (Blk.new w2 32 #[.int .i64 y0, .int .i64 y1])
      have O2 := Lib.hid (O.out.on bb); have B2 := Lib.hid (below_step BB.out bb)
      obtain ⟨n, hn⟩ : ∃ n, out.length = n := ⟨_, rfl⟩
      have HN := Lib.hid hn
      rw [hn] at O2 hlen ⊢
      clear O BB bb hn
      go_wp2_with fail
      generalize hw3 : w2.alloc (.cells #[.int .i64 y0, .int .i64 y1] 32) = w3 at *
      have O3 := Lib.hid (World.ownsRow_nil w3 w3.heap.size 32 2)
      have GG := Lib.hid (show w2.heap.size < w3.heap.size by rw [← hw3]; simp)
      clear hw3
      go_loopw [8, 21] (fun u i wr => ∃ (j : Nat) (ou : List Ss.S), j ≤ n ∧ i = .int .i64 j ∧ ou.length ≤ 1001 + k + j ∧ Hid (((out.take j).flatMap fun x => Ss.lss x (y0, y1)) = ou) ∧ Hid (wr.ownsRow w3.heap.size 32 2 u ou.length (spc ou)) ∧ Hid (Below w3.heap.size w3 wr)) (fun _ i _ => n - (intOf i).toNat)
      case atStart => exact ⟨0, [], Nat.zero_le _, rfl, by simp, Lib.hid rfl, O3, Lib.hid (Below.refl _ _)⟩
      case round =>
        rename World => w4
        obtain ⟨j, ou, hj, rfl, hlen2, E, O, D⟩ := hrel
        obtain ⟨A4, c4, rfl⟩ := po_form O.out
        by_cases hlt2 : j < n
        · have hkl2 : j < out.length := by rw [HN.out]; exact hlt2
          obtain ⟨ad2, rfl, hab2, g3, g4⟩ := (O2.out.on D.out).get j hkl2
          have E2 := Lib.hid (show ((out.take (j + 1)).flatMap fun x => Ss.lss x (y0, y1)) = ou ++ Ss.lss out[j] (y0, y1) by rw [List.take_succ_eq_append_getElem hkl2, List.flatMap_append, E.out]; simp)
          have E3 := Lib.hid (show ((out.take (j + 1)).flatMap fun x => Ss.lss x (y0, y1)).length ≤ j + 2 by have := Ss.lss_grow (y0, y1) _ (Ss.rs_take R.out (j + 1)); rw [List.length_take] at this; omega)
          generalize hp : out[j] = p at *
          obtain ⟨x0, x1⟩ := p
          simp only at g3 g4
          clear hp E
          have i2 : (j : Int) < n := by omega
          have bb : Below w4.heap.size w4 (w4.alloc (.cells #[.int .i64 x0, .int .i64 x1] 32)) := (Below.refl _ _).alloc (Nat.le_refl _) _
          have O5 := Lib.hid (own_on O.out bb); have K5 := Lib.hid (P2.out.on (below_step D.out bb)); have D5 := Lib.hid (below_step D.out bb)
          have c0 := K5.out.c0; have c1 := K5.out.c1
          clear O D bb
          go_wp2_with fail
          refine (rless_any x0 x1 y0 y1 _).mono ?_
          rintro e w6 ⟨v6, h6, rfl, bw⟩
          rw [Ss.lss_eq] at h6
          obtain ⟨A6, c6, hv6, -⟩ := id h6
          subst hv6
          have S6 := Lib.hid h6
          have O6 := Lib.hid (own_on O5.out bw); have D6 := Lib.hid (below_step D5.out bw)
          have L6 := Lib.hid (Ss.lss_two (x0, x1) (y0, y1))
          clear O5 K5 D5 c0 c1 bw h6
          generalize Ss.lss (x0, x1) (y0, y1) = q at *
          go_wp2_with (at_builtin; refine wpList_append_lst rfl _ _ 57 rfl w3.heap.size 32 i0 (.agg #[.int .i64 0, .int .i64 0]) 2 16 Try.underlying57 hi hz0 hz1 hz2 rfl (by decide) _ _ _ rfl O6.out _ q.length _ (spc q) rfl S6.out (spc_len q) (spc_one q) (by have := L6.out; unfold maxLen; omega) (by have := L6.out; omega) D6.out.size ?_)
          intro v8 w8 own8 grow8
          have D8 := Lib.hid (show Below w3.heap.size w3 w8 from D6.out.trans (below_grown grow8 D6.out.size (own_row O6.out)))
          have O8 := Lib.hid (show w8.ownsRow w3.heap.size 32 2 v8 (ou ++ q).length (spc (ou ++ q)) by rw [spc_app, List.length_append]; exact own8)
          have L8 := Lib.hid (show (ou ++ q).length ≤ 1001 + k + (j + 1) by have h := E3.out; rw [E2.out] at h; omega)
          clear own8 grow8 O6 D6 S6 L6
          go_wp2
          go_roundw
          case rel => exact ⟨j + 1, ou ++ q, by omega, by go_num, L8.out, E2, O8, D8⟩
          case measure => simp [intOf]; omega
        · have E2 := E.out
          rw [List.take_of_length_le (by rw [HN.out]; omega)] at E2
          have L3 := Lib.hid (show ou.length ≤ 1000 + (k + 1) by have := Ss.lss_grow (y0, y1) out R.out; rw [E2, HN.out] at this; omega)
          have R3 := Lib.hid (show Ss.Rs ou by rw [← E2]; exact (Ss.flat_set (fun x => Ss.lss x (y0, y1)) (fun x => Ss.lss_set x (y0, y1)) out R.out).1)
          have E4 := Lib.hid (show Ss.rls ou (b.drop (k + 1)) = P by rw [← E2]; exact EQ.out)
          clear E2 E EQ
          go_wp2
          refine ⟨?_, by simp [intOf]; omega⟩
          exact ⟨k + 1, ou, by omega, by go_num, L3.out, E4, R3, Lib.hid (SpV.own O.out), Lib.hid (below_step B2.out D.out)⟩
    · have E2 := Lib.hid (show out = P by have := E.out; rw [List.drop_of_length_le (by rw [HM.out]; omega)] at this; exact this)
      go_wp2
      go_ret
      exact ⟨_, E2.out ▸ O.out, rfl, BB.out⟩
set_option maxHeartbeats 2000000 in
theorem rgaps_set (va : Value) (a : List Ss.S) (s0 s1 : Int) (w : World) (h : SpV w va a) (ha : a.length ≤ 1000) :
    Calls Try.prog 58 #[va, .agg #[.int .i64 s0, .int .i64 s1]] w (AnsS (Ss.rls (Ss.rof [] [(s0, s1)]) a) w) := by
  obtain ⟨A, c, rfl, -⟩ := id h
  have H := Lib.hid h
  have HA := Lib.hid ha
  clear h ha
  go_enter Try.func58, Try.ntmps58
  go_wp2_with fail
  have b1 : Below w.heap.size w (w.alloc (.cells #[.int .i64 s0, .int .i64 s1] 32)) := (Below.refl _ _).alloc (Nat.le_refl _) _
  have b2 : Below w.heap.size w ((w.alloc (.cells #[.int .i64 s0, .int .i64 s1] 32)).alloc (.cells #[.int .i64 s0, .int .i64 s1] 32)) := b1.alloc b1.size _
  have B2 := Lib.hid b2
  have e9 : w.heap.size + 1 = (w.alloc (.cells #[.int .i64 s0, .int .i64 s1] 32)).heap.size := by simp
  refine (rless_set (.slice (some ⟨w.heap.size + 1, 0, none⟩) 1 1) _ [(s0, s1)] a _ (by rw [e9]; exact ⟨some ⟨_, 0, none⟩, 1, rfl, fun _ => ⟨_, rfl, by simp, two_cells (by simp [go_sem]) (by simp [go_sem])⟩⟩) (H.out.on b2) (by simp) HA.out).mono ?_
  clear b1 b2 e9
  rintro e w1 ⟨v, h1, rfl, h5⟩
  obtain ⟨A1, c1, hv, -⟩ := id h1
  subst hv
  go_wp2
  go_ret
  exact ⟨_, h1, rfl, below_step B2.out h5⟩
end Go.Proofs.Ytmnmmbeageddkaa
