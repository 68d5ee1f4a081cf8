/- The contract of real.Sum. -/
import Derived.Test.YtnfjdjfajkdiiaaLst0
set_option linter.unusedVariables false
set_option linter.unusedSimpArgs false
namespace Go.Proofs.Ytnfjdjfajkdiiaa
open Go.RowKit Go.Sort

namespace Fl
def csum : List Nat → Nat
  | [] => 0
  | x :: l => l.foldl (fun s y => cop .add s y) x
theorem csum_take (l : List Nat) (k : Nat) (h0 : 1 ≤ k) (h : k < l.length) : csum (l.take (k + 1)) = cop .add (csum (l.take k)) l[k] := by
  rw [List.take_succ_eq_append_getElem h]
  have hne := take_ne (l := l) h0 (by omega)
  generalize l.take k = q at *
  cases q with
  | nil => exact absurd rfl hne
  | cons x q =>
    show (q ++ [l[k]]).foldl _ x = _
    rw [List.foldl_append]; rfl
end Fl
theorem FlS.at1 {w : World} {a : Addr} {n c : Nat} {l : List Nat} (h : FlS w (.slice (some a) n c) l) (k : Nat) (hk : k + 1 < l.length) : w.cell? ⟨a.block, a.off + 1 + k, none⟩ = some (.float .f64 l[k + 1]) := by
  obtain ⟨a', e, g⟩ := h.get (k + 1) hk
  cases e
  have e : (⟨a.block, a.off + 1 + k, none⟩ : Addr) = a.add (k + 1) := by
    unfold Addr.add
    rw [if_neg (by omega)]
    simp only [Nat.add_assoc, Nat.add_comm 1 k]
  rw [e]; exact g
set_option maxHeartbeats 4000000 in
theorem sum_any (a : Addr) (n c : Nat) (l : List Nat) (w : World) (h : FlS w (.slice (some a) n c) l) (hl : 1 ≤ n) (hc : n ≤ c) (hm : c ≤ maxLen) (hw : ∀ x ∈ l, x < 18446744073709551616) :
    Calls Try.prog 47 #[.slice (some a) n c] w (fun e w' => ∃ r, Fl.Eqv r (Fl.csum l) ∧ e = .returned (.float .f64 r) ∧ ∃ k, w' = w.drewN k) := by
  have H := Lib.hid h
  have hn := h.len
  obtain ⟨a', ha', g0⟩ := h.get 0 (by omega)
  cases ha'
  have HN := Lib.hid hn
  unfold maxLen at hm
  have E1 := Lib.hid (show Fl.csum (l.take 1) = l[0]'(by omega) from by
    match l, hn, hl with
    | x :: l, _, _ => rfl)
  have W0 := Lib.hid (hw (l[0]'(by omega)) (List.getElem_mem _))
  generalize hx : l[0]'(by omega) = x0 at g0 E1 W0
  have g00 : w.cell? a = some (.float .f64 x0) := by rw [← g0]; congr 1
  have c0 : (1 : Int) ≤ (n : Int) := by omega
  have c1 : ((n : Int) == 0) = false := by rw [beq_eq_false_iff_ne]; omega
  have c2 : (n == 0) = false := by rw [beq_eq_false_iff_ne]; omega
  clear hx hn h hw
  by_cases hc1 : c = 1
  · have hn1 : n = 1 := by omega
    subst hc1
    subst hn1
    have E2 := Lib.hid (show Fl.csum l = x0 by rw [← E1.out, show l.take 1 = l from by rw [HN.out, List.take_length]])
    go_enter Try.func47, Try.ntmps47
    go_wp2
    refine wp_loop_rounds 2 ?_
    rw [rounds_succ]
    go_wp2
    go_ret
    exact ⟨x0, by rw [E2.out]; exact Fl.Eqv.refl W0.out, rfl, 0, rfl⟩
  · have hc2 : ¬ (c : Int) = 1 := by omega
    go_enter Try.func47, Try.ntmps47
    go_wp2
    obtain ⟨p, hp⟩ : ∃ p, n - 1 = p := ⟨_, rfl⟩
    rw [hp]
    have HP := Lib.hid (show n = p + 1 by omega)
    have p0 : p ≤ 9223372036854775806 := by omega
    clear hp
    go_loopw [3, 15] (fun s i wr => ∃ (k : Nat) (r : Nat), k ≤ p ∧ i = .int .i64 k ∧ s = .float .f64 r ∧ Fl.Eqv r (Fl.csum (l.take (k + 1))) ∧ ∃ m, wr = w.drewN m) (fun _ i _ => p - (intOf i).toNat)
    case atStart => exact ⟨0, x0, Nat.zero_le _, rfl, rfl, by rw [E1.out]; exact Fl.Eqv.refl W0.out, 0, rfl⟩
    case round =>
      obtain ⟨k, r, hk, rfl, rfl, hr, m, rfl⟩ := hrel
      have HR := Lib.hid hr
      clear hr
      by_cases hlt : k < p
      · have hl2 : k + 1 < l.length := by have := HN.out; have := HP.out; omega
        have g1 := H.out.at1 k hl2
        have SN := Lib.hid (Fl.csum_take l (k + 1) (by omega) hl2)
        generalize l[k + 1]'hl2 = y at *
        obtain ⟨r', n1, hr', r1⟩ := Fl.fop_run Try.prog .add (.inl rfl) 43 r y (w.drewN m)
        have HR' := Lib.hid hr'
        have i0 : (0 : Int) ≤ k := by omega
        have i1 : (k : Int) < p := by omega
        clear hl2 hr'
        go_wp2
        go_roundw
        case rel => exact ⟨k + 1, r', by omega, by go_num, rfl, by rw [SN.out]; exact HR'.out.eqv (.inl rfl) HR.out, _, rfl⟩
        case measure => simp [intOf]; omega
      · have hkk : k + 1 = l.length := by have := HN.out; have := HP.out; omega
        have HK := Lib.hid (show Fl.csum (l.take (k + 1)) = Fl.csum l by rw [hkk, List.take_length])
        clear hkk
        go_wp2
        go_ret
        exact ⟨r, by rw [← HK.out]; exact HR.out, rfl, m, rfl⟩
set_option maxHeartbeats 1000000 in
theorem sum_none (w : World) : Calls Try.prog 47 #[.slice none 0 0] w fun e w' => e = .returned (.float .f64 0) ∧ w = w' := by
  go_enter Try.func47, Try.ntmps47
  go_wp2
  go_ret
  exact ⟨rfl, rfl⟩
end Go.Proofs.Ytnfjdjfajkdiiaa
