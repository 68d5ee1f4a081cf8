/- strings.IndexAny over ASCII characters, two or more, at whatever bytes. -/
import Derived.Test.YtafnnnbefabofaaDoorIxA
import Derived.Test.YtafnnnbefabofaaDoorLaid4
import Derived.Shelf.Strings.IndexAnyAll
set_option linter.unusedVariables false
set_option linter.unusedSimpArgs false
namespace Go.Proofs.YtafnnnbefabofaaDoor
open Go.RowKit Go.Sort

namespace Ix
theorem get_in (s : ByteArray) (k : Nat) (h : k < s.size) : s.get! k = s[k] := by
  simp [ByteArray.get!, getElem!_pos, h]
  rfl
/-- What is decoded from a byte that is no ASCII character on: bytes that are none. -/
theorem dec_bytes (s : ByteArray) (pos : Nat) (h : pos < s.size) (ha : 128 ≤ (s[pos]'h).toNat) : ∀ j, j < (Utf8.decode s pos).2 → pos + j < s.size ∧ 128 ≤ (s.get! (pos + j)).toNat := by
  have h0 : pos + 0 < s.size ∧ 128 ≤ (s.get! (pos + 0)).toNat := ⟨h, by rw [Go.get_at s pos h]; exact ha⟩
  have hc : ∀ k, (decide (pos + k < s.size) && (s.get! (pos + k)).toNat / 64 == 2) = true → pos + k < s.size ∧ 128 ≤ (s.get! (pos + k)).toNat := by
    intro k hk
    rw [Bool.and_eq_true, decide_eq_true_eq, beq_iff_eq] at hk
    exact ⟨hk.1, by omega⟩
  have hn : ¬ (s.get! (pos + 0)).toNat < 128 := by have := h0.2; omega
  intro j
  unfold Utf8.decode
  simp only
  rw [if_neg hn]
  split
  · rename_i c
    rw [Bool.and_eq_true] at c
    have c1 := hc 1 c.2
    split
    · intro hj
      obtain rfl | rfl : j = 0 ∨ j = 1 := by simp at hj; omega
      · exact h0
      · exact c1
    · intro hj
      obtain rfl : j = 0 := by simp at hj; omega
      exact h0
  · split
    · rename_i _ c
      rw [Bool.and_eq_true, Bool.and_eq_true] at c
      have c1 := hc 1 c.1.2
      have c2 := hc 2 c.2
      split
      · intro hj
        obtain rfl | rfl | rfl : j = 0 ∨ j = 1 ∨ j = 2 := by simp at hj; omega
        · exact h0
        · exact c1
        · exact c2
      · intro hj
        obtain rfl : j = 0 := by simp at hj; omega
        exact h0
    · split
      · rename_i _ _ c
        rw [Bool.and_eq_true, Bool.and_eq_true, Bool.and_eq_true] at c
        have c1 := hc 1 c.1.1.2
        have c2 := hc 2 c.1.2
        have c3 := hc 3 c.2
        split
        · intro hj
          obtain rfl | rfl | rfl | rfl : j = 0 ∨ j = 1 ∨ j = 2 ∨ j = 3 := by simp at hj; omega
          · exact h0
          · exact c1
          · exact c2
          · exact c3
        · intro hj
          obtain rfl : j = 0 := by simp at hj; omega
          exact h0
      · intro hj
        obtain rfl : j = 0 := by simp at hj; omega
        exact h0
theorem noany_dec {s : ByteArray} {chars : List UInt8} {pos : Nat} (h : pos < s.size) (ha : 128 ≤ (s[pos]'h).toNat) (hs : ∀ x ∈ chars, x.toNat < 128) (hn : Lib.NoAny s.data.toList chars pos) : Lib.NoAny s.data.toList chars (pos + (Utf8.decode s pos).2) ∧ pos + (Utf8.decode s pos).2 ≤ s.size := by
  have hd := dec_bytes s pos h ha
  refine ⟨?_, ?_⟩
  · intro j b hj hb
    by_cases hlt : j < pos
    · exact hn j b hlt hb
    · obtain ⟨h1, h2⟩ := hd (j - pos) (by omega)
      have e : pos + (j - pos) = j := by omega
      rw [e] at h1 h2
      have hb2 : b = s.get! j := by
        rw [get_in s j h1]
        have : s.data.toList[j]? = some s[j] := by rw [List.getElem?_eq_getElem (by rw [ab_len]; exact h1)]; rfl
        rw [this] at hb; exact (Option.some.inj hb).symm
      rw [Bool.eq_false_iff]
      intro hc
      have := hs b (by simpa using hc)
      rw [hb2] at this; omega
  · rcases Nat.eq_zero_or_pos (Utf8.decode s pos).2 with hz | hz
    · omega
    · have := (hd ((Utf8.decode s pos).2 - 1) (by omega)).1
      omega
end Ix
theorem irune_lo (s : ByteArray) (c : UInt8) (w : World) (h : c.toNat < 128) :
    Calls Tryd.prog 184 #[.string s, .int .i32 (c.toNat : Int)] w fun e w' => e = .returned (.int .i64 (Lib.indexByte s.data.toList c)) ∧ w = w' :=
  (Any.strings_IndexRune_ascii Tryd.lays152 s (c.toNat : Int) w (by omega) (by omega)).mono fun _ _ ⟨h, e⟩ => ⟨by rw [h]; simp, e.symm⟩
theorem sascii_no (n : Int) (w : World) (h : n ≤ 8) : Calls Tryd.prog 185 #[.int .i64 n] w fun e w' => e = .returned (.bool false) ∧ w = w' := by
  have h' : ¬ 8 < n := by omega
  go_enter Tryd.func185, Tryd.ntmps185
  go_wp2_with fail
  go_ret
  exact ⟨by simp [h'], rfl⟩
set_option maxHeartbeats 4000000 in
set_option maxRecDepth 100000 in
theorem ixany_short (s chars : ByteArray) (w : World) (h2 : 2 ≤ chars.size) (h8 : s.size ≤ 8) (hs : ∀ x ∈ chars.data.toList, x.toNat < 128) :
    Calls Tryd.prog 148 #[.string s, .string chars] w fun e w' => e = .returned (.int .i64 (Lib.indexAny s.data.toList chars.data.toList)) ∧ Below w.heap.size w w' := by
  obtain ⟨hn1, hn2⟩ := dne (ds := chars) (by omega)
  obtain ⟨ans, hans⟩ : ∃ ans, ans = Lib.indexAny s.data.toList chars.data.toList := ⟨_, rfl⟩
  rw [← hans]
  have HA := Lib.hid hans; clear hans
  have HS := Lib.hid hs; clear hs
  have CS := Lib.hid (fun W => sascii_no (s.size : Int) W (by omega))
  have g1 : ((chars.size : Int) == 1) = false := beq_eq_false_iff_ne.2 (by omega)
  clear h2 h8
  go_enter Tryd.func148, Tryd.ntmps148
  go_wp2_with fail
  refine (CS.out _).mono ?_; rintro e w1 ⟨rfl, rfl⟩
  go_wp2_with fail
  go_loopw [] (fun wr => ∃ pos : Nat, pos ≤ s.size ∧ wr.heap[w.heap.size]? = some (.stringIter s pos) ∧ Hid (Lib.NoAny s.data.toList chars.data.toList pos) ∧ Hid (Below w.heap.size w wr)) (fun wr => s.size - wr.iterPos w.heap.size)
  case atStart =>
    refine ⟨0, Nat.zero_le _, ?_, Lib.NoAny.zero _ _, (Below.refl _ _).alloc (Nat.le_refl _) _⟩
    have := World.iter_heap w s 0
    simpa using this
  case round =>
    obtain ⟨pos, hk, hit, hno, hbw⟩ := hrel
    by_cases hp : pos < s.size
    · by_cases ha : s[pos].toNat < 128
      · have hnx : ∀ ty, (Instr.next (.pointer (some ⟨w.heap.size, 0, none⟩)) true ty).run Tryd.prog wr = _ := fun ty => Lib.run_next_ascii_at wr w.heap.size s pos ty hit hp ha
        have hit2 := Lib.iterAt_heap wr w.heap.size s pos (pos + 1) hit
        have hbw2 := Lib.hid (Lib.below_iterAt hbw.out (k := w.heap.size) (Nat.le_refl _) s (pos + 1))
        have CR := Lib.hid (fun W => irune_lo chars s[pos] W ha)
        have hx : s.data.toList[pos]? = some s[pos] := by rw [List.getElem?_eq_getElem (by rw [ab_len]; exact hp)]; rfl
        have hcon := Lib.contains_iff_indexByte chars.data.toList s[pos]
        generalize hj : Lib.indexByte chars.data.toList s[pos] = j at CR hcon
        by_cases hin : 0 ≤ j
        · have he := Lib.hid (show ans = (pos : Int) by rw [HA.out]; exact Lib.indexAny_hit hno.out hx (by rw [hcon]; exact decide_eq_true hin))
          clear hcon hx hj
          generalize hc : (s[pos].toNat : Int) = c at hnx CR
          go_wp2_with fail
          refine (CR.out _).mono ?_; rintro e w3 ⟨rfl, rfl⟩
          go_wp2_with fail
          go_ret
          exact ⟨by rw [he.out]; rfl, hbw2.out⟩
        · have hno2 := Lib.hid (hno.out.succ hx (by rw [hcon]; exact decide_eq_false hin))
          clear hcon hx hj
          generalize hc : (s[pos].toNat : Int) = c at hnx CR
          go_wp2_with fail
          refine (CR.out _).mono ?_; rintro e w3 ⟨rfl, rfl⟩
          go_wp2_with fail
          go_roundw
          case rel => exact ⟨pos + 1, by omega, hit2, hno2, hbw2⟩
          case measure =>
            simp only [World.iterPos, hit2, hit]
            omega
      · have hnx : ∀ ty, (Instr.next (.pointer (some ⟨w.heap.size, 0, none⟩)) true ty).run Tryd.prog wr = _ := fun ty => Lib.run_next_any_at wr w.heap.size s pos ty hit hp
        obtain ⟨r1, r2⟩ := decode_high s pos hp (by omega)
        obtain ⟨n1, n2⟩ := Ix.noany_dec hp (by omega) HS.out hno.out
        have hno2 := Lib.hid n1; clear n1
        have hit2 := Lib.iterAt_heap wr w.heap.size s pos (pos + (Utf8.decode s pos).2) hit
        have hbw2 := Lib.hid (Lib.below_iterAt hbw.out (k := w.heap.size) (Nat.le_refl _) s (pos + (Utf8.decode s pos).2))
        have r3 := decode_le s pos
        generalize (Utf8.decode s pos).1 = rn at hnx r1 r3
        generalize (Utf8.decode s pos).2 = wd at hnx hbw2 r2 hno2 n2 hit2
        have CR := Lib.hid (fun W => irune_hi chars (rn : Int) W HS.out (by omega) (by omega))
        go_wp2_with fail
        refine (CR.out _).mono ?_; rintro e w3 ⟨rfl, b3⟩
        have hlt : w.heap.size < (wr.iterAt w.heap.size s (pos + wd)).heap.size := by
          have := (Array.getElem?_eq_some_iff.1 hit2).1
          exact this
        have hit3 : w3.heap[w.heap.size]? = some (.stringIter s (pos + wd)) := (b3.block _ hlt).trans hit2
        have hbw3 := Lib.hid (hbw2.out.trans (b3.mono (Nat.le_of_lt hlt)))
        clear b3
        go_wp2_with fail
        go_roundw
        case rel => exact ⟨pos + wd, n2, hit3, hno2, hbw3⟩
        case measure =>
          simp only [World.iterPos, hit3, hit]
          omega
    · have hnx : ∀ ty, (Instr.next (.pointer (some ⟨w.heap.size, 0, none⟩)) true ty).run Tryd.prog wr = _ := fun ty => Lib.run_next_end_at wr w.heap.size s pos ty hit hp
      have he := Lib.hid (show ans = -1 by
        rw [HA.out]
        refine Lib.indexAny_none ?_
        rw [ab_len, show s.size = pos by omega]
        exact hno.out)
      go_wp2_with fail
      go_ret
      exact ⟨by rw [he.out]; rfl, hbw.out⟩
set_option maxRecDepth 100000 in
theorem ixany (s chars : ByteArray) (w : World) (h2 : 2 ≤ chars.size) (hz : s.size < 4294967281) (hc : chars.size < 4294967281) (hs : ∀ x ∈ chars.data.toList, x.toNat < 128) :
    Calls Tryd.prog 148 #[.string s, .string chars] w fun e w' => e = .returned (.int .i64 (Lib.indexAny s.data.toList chars.data.toList)) ∧ Below w.heap.size w w' := by
  by_cases h8 : s.size ≤ 8
  · exact ixany_short s chars w h2 h8 hs
  · have hac : ∀ (j : Nat) b, chars.data.toList[j]? = some b → b.toNat < 128 := fun j b hb => hs b (List.mem_of_getElem? hb)
    have h116 : (Tryd.prog.info? 176).map (fun i => (i.zero, i.size)) = some (some (.agg (Array.replicate 256 (.bool false))), 256) := by kernel_rfl
    refine (Any.strings_IndexAny_long Tryd.lays153 (zero_of_info h116).1 (zero_of_info h116).2 s chars w h2 (by omega) hz hc hac).mono fun e w' ⟨h1, h3⟩ => ⟨h1, ?_⟩
    rw [h3]
    exact ((Below.refl _ _).alloc (Nat.le_refl _) _).alloc (by simp) _
end Go.Proofs.YtafnnnbefabofaaDoor

