/- The reference's Sum, at any list. -/
import Derived.Test.YtckcmhnhmobadaaRlD
set_option linter.unusedVariables false
set_option linter.unusedSimpArgs false
namespace Go.Proofs.Ytckcmhnhmobadaa
open Go.RowKit Go.Sort

namespace Fl
/-- The least one of the first k, and at nought the first one. -/
def mn1 (l : List Nat) (k : Nat) : Nat := if k = 0 then mn (l.take 1) else mn (l.take k)
theorem mn_one {l : List Nat} (h : 0 < l.length) : mn (l.take 1) = l[0] := by
  match l, h with
  | x :: l, _ => rfl
theorem mn1_step {l : List Nat} {k : Nat} (h : k < l.length) : mn1 l (k + 1) = if rk l[k] < rk (mn1 l k) then l[k] else mn1 l k := by
  by_cases h0 : k = 0
  · subst h0
    have e : mn1 l 0 = l[0] := mn_one h
    rw [e, if_neg (by omega)]
    show (if 0 + 1 = 0 then _ else mn (l.take 1)) = _
    rw [if_neg (by omega)]
    exact mn_one h
  · unfold mn1
    rw [if_neg (by omega), if_neg h0]
    exact mn_take l k (by omega) h
theorem mn1_mem {l : List Nat} {k : Nat} (h : 0 < l.length) (hk : k ≤ l.length) : mn1 l k ∈ l := by
  unfold mn1
  split
  · rw [mn_one h]; exact List.getElem_mem _
  · exact List.mem_of_mem_take (mn_mem (l.take k) (take_ne (by omega) hk)).1
theorem csum_one {l : List Nat} (h : 0 < l.length) : csum (l.take 1) = l[0] := by
  match l, h with
  | x :: l, _ => rfl
end Fl
set_option maxHeartbeats 4000000 in
theorem rsum_all (A : Option Addr) (n c : Nat) (l : List Nat) (w : World) (h : FlS w (.slice A n c) l) (hc : n ≤ c) (hm : c ≤ maxLen) (hw : ∀ x ∈ l, x < 18446744073709551616) :
    Calls Try.prog 73 #[.slice A n c] w (SumP l w) := by
  have H := Lib.hid h
  have hn := h.len
  have HN := Lib.hid hn
  have HW := Lib.hid hw
  unfold maxLen at hm
  have m0 : n ≤ 9223372036854775807 := by omega
  clear h hn hw hc hm
  go_enter Try.func73, Try.ntmps73
  go_wp2
  go_loopw [3, 8] (fun s i wr => ∃ (k : Nat) (r : Nat), k ≤ n ∧ i = .int .i64 k ∧ s = .float .f64 r ∧ Fl.Eqv r (Fl.csum (l.take k)) ∧ ∃ m, wr = w.drewN m) (fun _ i _ => n - (intOf i).toNat)
  case atStart => exact ⟨0, 0, Nat.zero_le _, rfl, rfl, Fl.Eqv.refl (by decide), 0, rfl⟩
  case round =>
    obtain ⟨k, r, hk, rfl, rfl, hr, m, rfl⟩ := hrel
    have HR := Lib.hid hr
    clear hr
    by_cases hlt : k < n
    · have hl2 : k < l.length := by have := HN.out; omega
      obtain ⟨a, rfl, g1⟩ := H.out.get k hl2
      have W1 := Lib.hid (HW.out (l[k]) (List.getElem_mem _))
      by_cases h0 : k = 0
      · subst h0
        have E1 := Lib.hid (Fl.csum_one hl2)
        generalize l[0] = y at *
        have g0 : w.cell? a = some (.float .f64 y) := by rw [← g1]; congr 1
        have i1 : (0 : Int) < n := by omega
        have i2 : 0 < n := by omega
        clear hl2 g1 HR
        go_wp2
        go_roundw
        case rel => exact ⟨1, y, by omega, by go_num, rfl, by rw [E1.out]; exact Fl.Eqv.refl W1.out, _, rfl⟩
        case measure => simp [intOf]; omega
      · have SN := Lib.hid (Fl.csum_take l k (by omega) hl2)
        generalize l[k] = y at *
        obtain ⟨r', n1, hr', r1⟩ := Fl.fop_run Try.prog .add (.inl rfl) 40 r y (w.drewN m)
        have HR' := Lib.hid hr'
        have i0 : (0 : Int) ≤ k := by omega
        have i1 : (k : Int) < n := by omega
        have i2 : ((k : Int) == 0) = false := by rw [beq_eq_false_iff_ne]; omega
        have i3 : (k == 0) = false := by rw [beq_eq_false_iff_ne]; omega
        clear hl2 hr'
        go_wp2
        go_roundw
        case rel => exact ⟨k + 1, r', by omega, by go_num, rfl, by rw [SN.out]; exact HR'.out.eqv (.inl rfl) HR.out, _, rfl⟩
        case measure => simp [intOf]; omega
    · have hkk : k = l.length := by have := HN.out; omega
      have HK := Lib.hid (show Fl.csum (l.take k) = Fl.csum l by rw [hkk, List.take_length])
      have i1 : decide ((k : Int) < (n : Int)) = false := decide_eq_false (by omega)
      have i2 : decide (k < n) = false := decide_eq_false (by omega)
      clear hkk hk hlt
      go_wp2
      go_ret
      exact ⟨r, by rw [← HK.out]; exact HR.out, rfl, m, rfl⟩
end Go.Proofs.Ytckcmhnhmobadaa
