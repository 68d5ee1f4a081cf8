/- Amounts: parts of texts, and what they mean. -/
import Derived.Test.YtfcabofhlgmkjaaDoorByt
import Derived.Lib.OthersKept
import Derived.Laws.RangeAny
set_option linter.unusedVariables false
set_option linter.unusedSimpArgs false
namespace Go.Proofs.YtfcabofhlgmkjaaDoor
open Go.RowKit

namespace Am
/-- Is it a part of an amount's text, the first one (0) or another? -/
def isP (i : Int) (l : List UInt8) : Bool := l.all Num.dig && (if i = 0 then decide (1 ≤ l.length ∧ l.length ≤ 3) else decide (l.length = 2))
end Am
set_option maxHeartbeats 2000000 in
set_option maxRecDepth 100000 in
theorem ispart_any (i : Int) (s : ByteArray) (w : World) (hs : s.size ≤ maxLen) :
    Calls Tryd.prog 153 #[.int .i64 i, .string s] w fun e w' => e = .returned (.bool (Am.isP i s.data.toList)) ∧ Below w.heap.size w w' := by
  unfold maxLen at hs
  obtain ⟨ans, hans⟩ : ∃ ans, ans = Am.isP i s.data.toList := ⟨_, rfl⟩
  rw [← hans]
  obtain ⟨D, hD⟩ : ∃ D, D = s.data.toList.all Num.dig := ⟨_, rfl⟩
  have HQ := Lib.hid (show ans = (D && if i = 0 then decide (1 ≤ s.size ∧ s.size ≤ 3) else decide (s.size = 2)) by rw [hans, hD]; unfold Am.isP; rw [ab_len])
  have HA := Lib.hid hD; clear hD hans
  go_enter Tryd.func153, Tryd.ntmps153
  go_wp2_with fail
  go_loopw [] (fun wr => ∃ pos : Nat, pos ≤ s.size ∧ wr.heap[w.heap.size]? = some (.stringIter s pos) ∧ Hid ((s.data.toList.drop pos).all Num.dig = D) ∧ Hid (Below w.heap.size w wr)) (fun wr => s.size - wr.iterPos w.heap.size)
  case atStart =>
    refine ⟨0, Nat.zero_le _, ?_, HA.out.symm, (Below.refl _ _).alloc (Nat.le_refl _) _⟩
    have := World.iter_heap w s 0
    simpa using this
  case round =>
    obtain ⟨pos, hk, hit, hr, hbw⟩ := hrel
    by_cases hp : pos < s.size
    · have hb := s[pos].toNat_lt
      have hd := ab_dig s[pos]
      have hn : (Num.dig s[pos] && (s.data.toList.drop (pos + 1)).all Num.dig) = D := by rw [← hr.out, ab_drop s pos hp]; rfl
      by_cases ha : s[pos].toNat < 128
      · have hnx : ∀ ty, (Instr.next (.pointer (some ⟨w.heap.size, 0, none⟩)) true ty).run Tryd.prog wr = _ := fun ty => Lib.run_next_ascii_at wr w.heap.size s pos ty hit hp ha
        have hit2 := Lib.iterAt_heap wr w.heap.size s pos (pos + 1) hit
        have hbw2 := Lib.hid (Lib.below_iterAt hbw.out (k := w.heap.size) (Nat.le_refl _) s (pos + 1))
        generalize hc : (s[pos].toNat : Int) = c at hnx hd
        by_cases c1 : c < 48
        · have hno := Lib.hid (show ans = false by rw [HQ.out, show D = false by rw [← hn, hd, decide_eq_false (by omega)]; rfl]; rfl)
          clear hn hd hb
          go_wp2_with fail
          go_ret
          exact ⟨by rw [hno.out]; rfl, hbw2.out⟩
        · by_cases c2 : 57 < c
          · have hno := Lib.hid (show ans = false by rw [HQ.out, show D = false by rw [← hn, hd, decide_eq_false (show ¬ c ≤ 57 by omega)]; simp]; rfl)
            clear hn hd hb
            go_wp2_with fail
            go_ret
            exact ⟨by rw [hno.out]; rfl, hbw2.out⟩
          · have hyes := Lib.hid (show (s.data.toList.drop (pos + 1)).all Num.dig = D by rw [← hn, hd, decide_eq_true (show 48 ≤ c by omega), decide_eq_true (show c ≤ 57 by omega)]; rfl)
            clear hn hd hb
            go_wp2_with fail
            go_roundw
            case rel => exact ⟨pos + 1, by omega, hit2, hyes, hbw2⟩
            case measure =>
              simp only [World.iterPos, hit2, hit]
              omega
      · have hnx : ∀ ty, (Instr.next (.pointer (some ⟨w.heap.size, 0, none⟩)) true ty).run Tryd.prog wr = _ := fun ty => Lib.run_next_any_at wr w.heap.size s pos ty hit hp
        obtain ⟨r1, r2⟩ := decode_high s pos hp (by omega)
        have hbw2 := Lib.hid (Lib.below_iterAt hbw.out (k := w.heap.size) (Nat.le_refl _) s (pos + (Utf8.decode s pos).2))
        have r3 := decode_le s pos
        have hno := Lib.hid (show ans = false by rw [HQ.out, show D = false by rw [← hn, hd, decide_eq_false (show ¬ (s[pos].toNat : Int) ≤ 57 by omega)]; simp]; rfl)
        clear hn hd hb
        generalize (Utf8.decode s pos).1 = rn at hnx r1 r3
        generalize (Utf8.decode s pos).2 = wd at hnx hbw2 r2
        have c1 : ¬ (rn : Int) < 48 := by omega
        have c2 : 57 < (rn : Int) := by omega
        go_wp2_with fail
        go_ret
        exact ⟨by rw [hno.out]; rfl, hbw2.out⟩
    · have hnx : ∀ ty, (Instr.next (.pointer (some ⟨w.heap.size, 0, none⟩)) true ty).run Tryd.prog wr = _ := fun ty => Lib.run_next_end_at wr w.heap.size s pos ty hit hp
      have hyes := Lib.hid (show D = true by rw [← hr.out, List.drop_of_length_le (by rw [ab_len]; omega)]; rfl)
      have HQ2 := Lib.hid (show ans = if i = 0 then decide (1 ≤ s.size ∧ s.size ≤ 3) else decide (s.size = 2) by rw [HQ.out, hyes.out]; rfl)
      clear HQ
      by_cases hi : i = 0
      · subst hi
        by_cases z1 : 1 ≤ (s.size : Int)
        · by_cases z2 : (s.size : Int) ≤ 3
          · have e := Lib.hid (show ans = true by rw [HQ2.out, if_pos rfl]; exact decide_eq_true (by omega))
            clear HQ2
            go_wp2_with fail
            go_ret
            exact ⟨by rw [e.out]; rfl, hbw.out⟩
          · have e := Lib.hid (show ans = false by rw [HQ2.out, if_pos rfl]; exact decide_eq_false (by omega))
            clear HQ2
            go_wp2_with fail
            go_ret
            exact ⟨by rw [e.out]; rfl, hbw.out⟩
        · have e := Lib.hid (show ans = false by rw [HQ2.out, if_pos rfl]; exact decide_eq_false (by omega))
          clear HQ2
          go_wp2_with fail
          go_ret
          exact ⟨by rw [e.out]; rfl, hbw.out⟩
      · have gi : (i == 0) = false := by rw [beq_eq_false_iff_ne]; exact hi
        by_cases z1 : s.size = 2
        · have e := Lib.hid (show ans = true by rw [HQ2.out, if_neg hi]; exact decide_eq_true z1)
          have z2 : ((s.size : Int) == 2) = true := by rw [beq_iff_eq]; omega
          clear hi HQ2
          go_wp2_with fail
          go_ret
          exact ⟨by rw [e.out]; rfl, hbw.out⟩
        · have e := Lib.hid (show ans = false by rw [HQ2.out, if_neg hi]; exact decide_eq_false z1)
          have z2 : ((s.size : Int) == 2) = false := by rw [beq_eq_false_iff_ne]; omega
          clear hi HQ2
          go_wp2_with fail
          go_ret
          exact ⟨by rw [e.out]; rfl, hbw.out⟩
set_option maxHeartbeats 2000000 in
set_option maxRecDepth 100000 in
theorem aval_any (s : ByteArray) (w : World) (hs : s.size ≤ 5) (hd : s.data.toList.all Num.dig = true) :
    Calls Tryd.prog 154 #[.string s] w fun e w' => e = .returned (.int .i64 (Num.val 0 s.data.toList)) ∧ Below w.heap.size w w' := by
  obtain ⟨ans, hans⟩ : ∃ ans, ans = Num.val 0 s.data.toList := ⟨_, rfl⟩
  rw [← hans]
  have HA := Lib.hid hans; clear hans
  have HD := Lib.hid hd; clear hd
  go_enter Tryd.func154, Tryd.ntmps154
  go_wp2_with fail
  go_loopw [3] (fun n wr => ∃ pos a : Nat, pos ≤ s.size ∧ n = .int .i64 a ∧ wr.heap[w.heap.size]? = some (.stringIter s pos) ∧ Hid (a + 1 ≤ 10 ^ pos) ∧ Hid (Num.val a (s.data.toList.drop pos) = ans) ∧ Hid (Below w.heap.size w wr)) (fun _ wr => s.size - wr.iterPos w.heap.size)
  case atStart =>
    refine ⟨0, 0, Nat.zero_le _, rfl, ?_, Nat.le_refl 1, HA.out.symm, (Below.refl _ _).alloc (Nat.le_refl _) _⟩
    have := World.iter_heap w s 0
    simpa using this
  case round =>
    obtain ⟨pos, a, hk, rfl, hit, hp', hr, hbw⟩ := hrel
    by_cases hp : pos < s.size
    · have hdk : Num.dig s[pos] = true := by
        have h := HD.out
        have := List.all_eq_true.1 h s[pos] (by
          have e : s[pos] = s.data.toList[pos]'(by rw [ab_len]; exact hp) := rfl
          rw [e]; exact List.getElem_mem _)
        exact this
      obtain ⟨l48, l57⟩ : 48 ≤ s[pos].toNat ∧ s[pos].toNat ≤ 57 := by unfold Num.dig at hdk; exact of_decide_eq_true hdk
      have hnx : ∀ ty, (Instr.next (.pointer (some ⟨w.heap.size, 0, none⟩)) true ty).run Tryd.prog wr = _ := fun ty => Lib.run_next_ascii_at wr w.heap.size s pos ty hit hp (by omega)
      have hit2 := Lib.iterAt_heap wr w.heap.size s pos (pos + 1) hit
      have hbw2 := Lib.hid (Lib.below_iterAt hbw.out (k := w.heap.size) (Nat.le_refl _) s (pos + 1))
      have ha : a ≤ 99999 := by
        have h := hp'.out
        have := Nat.pow_le_pow_right (n := 10) (by omega) (show pos ≤ 5 by omega)
        omega
      have hp2 := Lib.hid (show Num.stp a s[pos] + 1 ≤ 10 ^ (pos + 1) by rw [Num.stp_eq, Nat.pow_succ]; have := hp'.out; omega)
      have hr2 := Lib.hid (show Num.val (Num.stp a s[pos]) (s.data.toList.drop (pos + 1)) = ans by rw [← hr.out, ab_drop s pos hp, Num.val_cons])
      have hs2 := Lib.hid (show (a : Int) * 10 + ((s[pos].toNat : Int) - 48) = (Num.stp a s[pos] : Int) by rw [Num.stp_eq]; omega)
      have b48 : (48 : Int) ≤ (s[pos].toNat : Int) := by omega
      have b57 : (s[pos].toNat : Int) ≤ 57 := by omega
      clear hdk
      generalize (s[pos].toNat : Int) = c at hnx hs2 b48 b57
      generalize Num.stp a s[pos] = a2 at hp2 hr2 hs2
      clear l48 l57
      go_wp2_with fail
      go_roundw
      case rel => exact ⟨pos + 1, a2, by omega, by first | (rw [← hs2.out]; done) | (rw [← hs2.out]; rfl), hit2, hp2, hr2, hbw2⟩
      case measure =>
        simp only [World.iterPos, hit2, hit]
        omega
    · have hnx : ∀ ty, (Instr.next (.pointer (some ⟨w.heap.size, 0, none⟩)) true ty).run Tryd.prog wr = _ := fun ty => Lib.run_next_end_at wr w.heap.size s pos ty hit hp
      have hyes := Lib.hid (show a = ans by rw [← hr.out, List.drop_of_length_le (by rw [ab_len]; omega)]; rfl)
      go_wp2_with fail
      go_ret
      exact ⟨by rw [hyes.out]; rfl, hbw.out⟩
end Go.Proofs.YtfcabofhlgmkjaaDoor
