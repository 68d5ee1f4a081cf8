/- Joined: IxB, NumN, Tx. -/
import Derived.Test.YtedbohfcbfegjaaGreatDoorBe08
import Derived.Test.YtedbohfcbfegjaaGreatDoorLaid4
import Derived.Shelf.Strings.IndexAnyAll
import Derived.Test.YtedbohfcbfegjaaGreatDoorBe06
import Derived.Lib.ItoaLen
/- strings.IndexAny over ASCII characters, two or more, at whatever bytes. -/
set_option linter.unusedVariables false
set_option linter.unusedSimpArgs false
namespace Go.Proofs.YtedbohfcbfegjaaGreatDoor
open Go.RowKit Go.Sort

namespace Ix
theorem get_in (s : ByteArray) (k : Nat) (h : k < s.size) : s.get! k = s[k] := by
  simp [ByteArray.get!, getElem!_pos, h]
  rfl
/-- What is decoded from a byte that is no ASCII character on: bytes that are none. -/
theorem dec_bytes (s : ByteArray) (pos : Nat) (h : pos < s.size) (ha : 128 ≤ (s[pos]'h).toNat) : ∀ j, j < (Utf8.decode s pos).2 → pos + j < s.size ∧ 128 ≤ (s.get! (pos + j)).toNat := by
  have h0 : pos + 0 < s.size ∧ 128 ≤ (s.get! (pos + 0)).toNat := ⟨h, by rw [Go.get_at s pos h]; exact ha⟩
  have hc : ∀ k, (decide (pos + k < s.size) && (s.get! (pos + k)).toNat / 64 == 2) = true → pos + k < s.size ∧ 128 ≤ (s.get! (pos + k)).toNat := by
    intro k hk
    rw [Bool.and_eq_true, decide_eq_true_eq, beq_iff_eq] at hk
    exact ⟨hk.1, by omega⟩
  have hn : ¬ (s.get! (pos + 0)).toNat < 128 := by have := h0.2; omega
  intro j
  unfold Utf8.decode
  simp only
  rw [if_neg hn]
  split
  · rename_i c
    rw [Bool.and_eq_true] at c
    have c1 := hc 1 c.2
    split
    · intro hj
      obtain rfl | rfl : j = 0 ∨ j = 1 := by simp at hj; omega
      · exact h0
      · exact c1
    · intro hj
      obtain rfl : j = 0 := by simp at hj; omega
      exact h0
  · split
    · rename_i _ c
      rw [Bool.and_eq_true, Bool.and_eq_true] at c
      have c1 := hc 1 c.1.2
      have c2 := hc 2 c.2
      split
      · intro hj
        obtain rfl | rfl | rfl : j = 0 ∨ j = 1 ∨ j = 2 := by simp at hj; omega
        · exact h0
        · exact c1
        · exact c2
      · intro hj
        obtain rfl : j = 0 := by simp at hj; omega
        exact h0
    · split
      · rename_i _ _ c
        rw [Bool.and_eq_true, Bool.and_eq_true, Bool.and_eq_true] at c
        have c1 := hc 1 c.1.1.2
        have c2 := hc 2 c.1.2
        have c3 := hc 3 c.2
        split
        · intro hj
          obtain rfl | rfl | rfl | rfl : j = 0 ∨ j = 1 ∨ j = 2 ∨ j = 3 := by simp at hj; omega
          · exact h0
          · exact c1
          · exact c2
          · exact c3
        · intro hj
          obtain rfl : j = 0 := by simp at hj; omega
          exact h0
      · intro hj
        obtain rfl : j = 0 := by simp at hj; omega
        exact h0
theorem noany_dec {s : ByteArray} {chars : List UInt8} {pos : Nat} (h : pos < s.size) (ha : 128 ≤ (s[pos]'h).toNat) (hs : ∀ x ∈ chars, x.toNat < 128) (hn : Lib.NoAny s.data.toList chars pos) : Lib.NoAny s.data.toList chars (pos + (Utf8.decode s pos).2) ∧ pos + (Utf8.decode s pos).2 ≤ s.size := by
  have hd := dec_bytes s pos h ha
  refine ⟨?_, ?_⟩
  · intro j b hj hb
    by_cases hlt : j < pos
    · exact hn j b hlt hb
    · obtain ⟨h1, h2⟩ := hd (j - pos) (by omega)
      have e : pos + (j - pos) = j := by omega
      rw [e] at h1 h2
      have hb2 : b = s.get! j := by
        rw [get_in s j h1]
        have : s.data.toList[j]? = some s[j] := by rw [List.getElem?_eq_getElem (by rw [ab_len]; exact h1)]; rfl
        rw [this] at hb; exact (Option.some.inj hb).symm
      rw [Bool.eq_false_iff]
      intro hc
      have := hs b (by simpa using hc)
      rw [hb2] at this; omega
  · rcases Nat.eq_zero_or_pos (Utf8.decode s pos).2 with hz | hz
    · omega
    · have := (hd ((Utf8.decode s pos).2 - 1) (by omega)).1
      omega
end Ix
theorem irune_lo (s : ByteArray) (c : UInt8) (w : World) (h : c.toNat < 128) :
    Calls Tryz.prog 185 #[.string s, .int .i32 (c.toNat : Int)] w fun e w' => e = .returned (.int .i64 (Lib.indexByte s.data.toList c)) ∧ w = w' :=
  (Any.strings_IndexRune_ascii Tryz.lays152 s (c.toNat : Int) w (by omega) (by omega)).mono fun _ _ ⟨h, e⟩ => ⟨by rw [h]; simp, e.symm⟩
theorem sascii_no (n : Int) (w : World) (h : n ≤ 8) : Calls Tryz.prog 186 #[.int .i64 n] w fun e w' => e = .returned (.bool false) ∧ w = w' := by
  have h' : ¬ 8 < n := by omega
  go_enter Tryz.func186, Tryz.ntmps186
  go_wp2_with fail
  go_ret
  exact ⟨by simp [h'], rfl⟩
set_option maxHeartbeats 4000000 in
set_option maxRecDepth 100000 in
theorem ixany_short (s chars : ByteArray) (w : World) (h2 : 2 ≤ chars.size) (h8 : s.size ≤ 8) (hs : ∀ x ∈ chars.data.toList, x.toNat < 128) :
    Calls Tryz.prog 158 #[.string s, .string chars] w fun e w' => e = .returned (.int .i64 (Lib.indexAny s.data.toList chars.data.toList)) ∧ Below w.heap.size w w' := by
  obtain ⟨hn1, hn2⟩ := dne (ds := chars) (by omega)
  obtain ⟨ans, hans⟩ : ∃ ans, ans = Lib.indexAny s.data.toList chars.data.toList := ⟨_, rfl⟩
  rw [← hans]
  have HA := Lib.hid hans; clear hans
  have HS := Lib.hid hs; clear hs
  have CS := Lib.hid (fun W => sascii_no (s.size : Int) W (by omega))
  have g1 : ((chars.size : Int) == 1) = false := beq_eq_false_iff_ne.2 (by omega)
  clear h2 h8
  go_enter Tryz.func158, Tryz.ntmps158
  go_wp2_with fail
  refine (CS.out _).mono ?_; rintro e w1 ⟨rfl, rfl⟩
  go_wp2_with fail
  go_loopw [] (fun wr => ∃ pos : Nat, pos ≤ s.size ∧ wr.heap[w.heap.size]? = some (.stringIter s pos) ∧ Hid (Lib.NoAny s.data.toList chars.data.toList pos) ∧ Hid (Below w.heap.size w wr)) (fun wr => s.size - wr.iterPos w.heap.size)
  case atStart =>
    refine ⟨0, Nat.zero_le _, ?_, Lib.NoAny.zero _ _, (Below.refl _ _).alloc (Nat.le_refl _) _⟩
    have := World.iter_heap w s 0
    simpa using this
  case round =>
    obtain ⟨pos, hk, hit, hno, hbw⟩ := hrel
    by_cases hp : pos < s.size
    · by_cases ha : s[pos].toNat < 128
      · have hnx : ∀ ty, (Instr.next (.pointer (some ⟨w.heap.size, 0, none⟩)) true ty).run Tryz.prog wr = _ := fun ty => Lib.run_next_ascii_at wr w.heap.size s pos ty hit hp ha
        have hit2 := Lib.iterAt_heap wr w.heap.size s pos (pos + 1) hit
        have hbw2 := Lib.hid (Lib.below_iterAt hbw.out (k := w.heap.size) (Nat.le_refl _) s (pos + 1))
        have CR := Lib.hid (fun W => irune_lo chars s[pos] W ha)
        have hx : s.data.toList[pos]? = some s[pos] := by rw [List.getElem?_eq_getElem (by rw [ab_len]; exact hp)]; rfl
        have hcon := Lib.contains_iff_indexByte chars.data.toList s[pos]
        generalize hj : Lib.indexByte chars.data.toList s[pos] = j at CR hcon
        by_cases hin : 0 ≤ j
        · have he := Lib.hid (show ans = (pos : Int) by rw [HA.out]; exact Lib.indexAny_hit hno.out hx (by rw [hcon]; exact decide_eq_true hin))
          clear hcon hx hj
          generalize hc : (s[pos].toNat : Int) = c at hnx CR
          go_wp2_with fail
          refine (CR.out _).mono ?_; rintro e w3 ⟨rfl, rfl⟩
          go_wp2_with fail
          go_ret
          exact ⟨by rw [he.out]; rfl, hbw2.out⟩
        · have hno2 := Lib.hid (hno.out.succ hx (by rw [hcon]; exact decide_eq_false hin))
          clear hcon hx hj
          generalize hc : (s[pos].toNat : Int) = c at hnx CR
          go_wp2_with fail
          refine (CR.out _).mono ?_; rintro e w3 ⟨rfl, rfl⟩
          go_wp2_with fail
          go_roundw
          case rel => exact ⟨pos + 1, by omega, hit2, hno2, hbw2⟩
          case measure =>
            simp only [World.iterPos, hit2, hit]
            omega
      · have hnx : ∀ ty, (Instr.next (.pointer (some ⟨w.heap.size, 0, none⟩)) true ty).run Tryz.prog wr = _ := fun ty => Lib.run_next_any_at wr w.heap.size s pos ty hit hp
        obtain ⟨r1, r2⟩ := decode_high s pos hp (by omega)
        obtain ⟨n1, n2⟩ := Ix.noany_dec hp (by omega) HS.out hno.out
        have hno2 := Lib.hid n1; clear n1
        have hit2 := Lib.iterAt_heap wr w.heap.size s pos (pos + (Utf8.decode s pos).2) hit
        have hbw2 := Lib.hid (Lib.below_iterAt hbw.out (k := w.heap.size) (Nat.le_refl _) s (pos + (Utf8.decode s pos).2))
        have r3 := decode_le s pos
        generalize (Utf8.decode s pos).1 = rn at hnx r1 r3
        generalize (Utf8.decode s pos).2 = wd at hnx hbw2 r2 hno2 n2 hit2
        have CR := Lib.hid (fun W => irune_hi chars (rn : Int) W HS.out (by omega) (by omega))
        go_wp2_with fail
        refine (CR.out _).mono ?_; rintro e w3 ⟨rfl, b3⟩
        have hlt : w.heap.size < (wr.iterAt w.heap.size s (pos + wd)).heap.size := by
          have := (Array.getElem?_eq_some_iff.1 hit2).1
          exact this
        have hit3 : w3.heap[w.heap.size]? = some (.stringIter s (pos + wd)) := (b3.block _ hlt).trans hit2
        have hbw3 := Lib.hid (hbw2.out.trans (b3.mono (Nat.le_of_lt hlt)))
        clear b3
        go_wp2_with fail
        go_roundw
        case rel => exact ⟨pos + wd, n2, hit3, hno2, hbw3⟩
        case measure =>
          simp only [World.iterPos, hit3, hit]
          omega
    · have hnx : ∀ ty, (Instr.next (.pointer (some ⟨w.heap.size, 0, none⟩)) true ty).run Tryz.prog wr = _ := fun ty => Lib.run_next_end_at wr w.heap.size s pos ty hit hp
      have he := Lib.hid (show ans = -1 by
        rw [HA.out]
        refine Lib.indexAny_none ?_
        rw [ab_len, show s.size = pos by omega]
        exact hno.out)
      go_wp2_with fail
      go_ret
      exact ⟨by rw [he.out]; rfl, hbw.out⟩
set_option maxRecDepth 100000 in
theorem ixany (s chars : ByteArray) (w : World) (h2 : 2 ≤ chars.size) (hz : s.size < 4294967281) (hc : chars.size < 4294967281) (hs : ∀ x ∈ chars.data.toList, x.toNat < 128) :
    Calls Tryz.prog 158 #[.string s, .string chars] w fun e w' => e = .returned (.int .i64 (Lib.indexAny s.data.toList chars.data.toList)) ∧ Below w.heap.size w w' := by
  by_cases h8 : s.size ≤ 8
  · exact ixany_short s chars w h2 h8 hs
  · have hac : ∀ (j : Nat) b, chars.data.toList[j]? = some b → b.toNat < 128 := fun j b hb => hs b (List.mem_of_getElem? hb)
    have h116 : (Tryz.prog.info? 164).map (fun i => (i.zero, i.size)) = some (some (.agg (Array.replicate 256 (.bool false))), 256) := by kernel_rfl
    refine (Any.strings_IndexAny_long Tryz.lays153 (zero_of_info h116).1 (zero_of_info h116).2 s chars w h2 (by omega) hz hc hac).mono fun e w' ⟨h1, h3⟩ => ⟨h1, ?_⟩
    rw [h3]
    exact ((Below.refl _ _).alloc (Nat.le_refl _) _).alloc (by simp) _
end Go.Proofs.YtedbohfcbfegjaaGreatDoor

/- Numbers' texts, in plain arithmetic: what is read is written as it was; what is no text. -/
set_option linter.unusedVariables false
namespace Go.Proofs.YtedbohfcbfegjaaGreatDoor.Num
open Go Go.Lib

theorem isT_nought {l : List UInt8} (h : l ≠ []) : isT (48 :: l) = false := by
  unfold isT
  rw [hp_cons, tp_other 48 l (by decide)]
  cases l with
  | nil => exact absurd rfl h
  | cons c r =>
    show numT ((48 : UInt8) == 45) (48 :: c :: r) = false
    unfold numT
    show (!((48 : UInt8) == 48 && (_ || !(c :: r).isEmpty)) && (48 :: c :: r).all dig) = false
    simp
theorem isT_minus (l : List UInt8) : isT (45 :: 45 :: l) = false := by
  unfold isT
  rw [hp_cons, tp_minus]
  show (!((45 : UInt8) == 48 && (((45 : UInt8) == 45) || !l.isEmpty)) && (45 :: l).all dig) = false
  have : dig 45 = false := by decide
  simp [this]
theorem itoa_ne (n : Int) : itoa n ≠ [] := by
  unfold itoa
  split
  · simp
  · exact (dec_all n.toNat n.toNat (Nat.le_refl _)).2.1
/-- What numT says of a text. -/
theorem numT_yes {b : Bool} {d : List UInt8} (h : numT b d = true) : d ≠ [] ∧ d.all dig = true ∧ (∀ c r, d = c :: r → r ≠ [] → c ≠ 48) ∧ (b = true → ∀ c r, d = c :: r → c ≠ 48) := by
  cases d with
  | nil => have h2 : false = true := h; cases h2
  | cons c r =>
    have h' : (!(c == 48 && (b || !r.isEmpty)) && (c :: r).all dig) = true := h
    rw [Bool.and_eq_true] at h'
    obtain ⟨h1, h2⟩ := h'
    refine ⟨by simp, h2, ?_, ?_⟩
    · intro c' r' e hr hc
      injection e with e1 e2
      subst e1 e2
      rw [hc] at h1
      have : r.isEmpty = false := by simpa using hr
      rw [this] at h1; simp at h1
    · intro hb c' r' e hc
      injection e with e1 e2
      subst e1 e2
      rw [hc, hb] at h1; simp at h1
theorem parseU (d : List UInt8) (h : d ≠ []) (ha : d.all dig = true) : parseUintB 64 d = .ok (val 0 d) ∨ parseUintB 64 d = .range := by
  unfold parseUintB
  rw [if_neg h]
  exact parse_all _ d 0 ha
theorem val_pos {d : List UInt8} (h : d ≠ []) (ha : d.all dig = true) (hz : ∀ c r, d = c :: r → c ≠ 48) : 1 ≤ val 0 d := by
  cases d with
  | nil => exact absurd rfl h
  | cons c r =>
    have hc := hz c r rfl
    have hd : 48 ≤ c.toNat ∧ c.toNat ≤ 57 := by
      simp only [List.all_cons, Bool.and_eq_true, dig, decide_eq_true_eq] at ha; exact ha.1
    have hc' : c.toNat ≠ 48 := fun e => hc (UInt8.toNat_inj.1 (by rw [e]; rfl))
    have hs : 1 ≤ stp 0 c := by rw [stp_eq]; omega
    rw [val_cons]; exact Nat.le_trans hs (val_ge r _)
/-- A number's text has a number, or one that is too far; what is read is written as it was. -/
theorem isT_read {l : List UInt8} (h : isT l = true) : parseIntB 64 l = .range ∨ ∃ x, parseIntB 64 l = .ok x ∧ itoa x = l ∧ -9223372036854775808 ≤ x ∧ x ≤ 9223372036854775807 := by
  cases l with
  | nil => exact absurd h (by decide)
  | cons c d =>
    by_cases hc : c = 45
    · subst hc
      unfold isT at h
      rw [hp_cons, tp_minus] at h
      obtain ⟨a, b, e, f⟩ := numT_yes h
      have f := f rfl
      have hp := val_pos a b f
      have hv := dec_of_val d b a e
      unfold parseIntB
      simp only [show (45 : UInt8).toNat = 45 from rfl, or_true, if_true]
      rcases parseU d a b with hu | hu
      · rw [hu]
        simp only [not_true_eq_false, false_and, if_false, true_and]
        by_cases hb : 2 ^ (64 - 1) < val 0 d
        · left; rw [if_pos hb]
        · right
          rw [if_neg hb]
          have hb2 : val 0 d ≤ 9223372036854775808 := by
            have : (2 : Nat) ^ (64 - 1) = 9223372036854775808 := by decide
            omega
          refine ⟨_, rfl, ?_, by omega, by omega⟩
          unfold itoa
          rw [if_pos (by omega), Int.natAbs_neg, Int.natAbs_natCast, hv]
      · left; rw [hu]
    · unfold isT at h
      rw [hp_cons, tp_other c d hc] at h
      obtain ⟨a, b, e, _⟩ := numT_yes h
      have hv := dec_of_val (c :: d) b a e
      have hd : 48 ≤ c.toNat ∧ c.toNat ≤ 57 := by
        simp only [List.all_cons, Bool.and_eq_true, dig, decide_eq_true_eq] at b; exact b.1
      have n43 : ¬ (c.toNat = 43 ∨ c.toNat = 45) := by omega
      have n45 : ¬ c.toNat = 45 := by omega
      unfold parseIntB
      simp only [if_neg n43]
      rcases parseU (c :: d) a b with hu | hu
      · rw [hu]
        simp only [n45, not_false_eq_true, true_and, false_and, if_false]
        by_cases hb : 2 ^ (64 - 1) ≤ val 0 (c :: d)
        · left; rw [if_pos hb]
        · right
          rw [if_neg hb]
          have hb2 : val 0 (c :: d) < 9223372036854775808 := by
            have : (2 : Nat) ^ (64 - 1) = 9223372036854775808 := by decide
            omega
          refine ⟨_, rfl, ?_, by omega, by omega⟩
          unfold itoa
          rw [if_neg (by omega), Int.toNat_natCast, hv]
      · left; rw [hu]
end Go.Proofs.YtedbohfcbfegjaaGreatDoor.Num

/- Stamps' texts, in plain lists of bytes. -/
set_option linter.unusedVariables false
set_option linter.unusedSimpArgs false
namespace Go.Proofs.YtedbohfcbfegjaaGreatDoor.Tx
open Go Go.Lib

/-- A number's digits, so many at least. -/
def dg (k : Nat) (n : Int) : List UInt8 := List.replicate (k - (itoa n).length) 48 ++ itoa n
def beh (m d h i s : Int) : List UInt8 := 45 :: (dg 2 m ++ (45 :: (dg 2 d ++ (84 :: (dg 2 h ++ (58 :: (dg 2 i ++ (58 :: dg 2 s))))))))
def yr (y : Int) : List UInt8 := if y < 0 then 45 :: dg 4 (-y) else dg 4 y
def txt (y m d h i s : Int) : List UInt8 := yr y ++ beh m d h i s
theorem two_tab : ∀ n : Fin 100, (dg 2 (n.val : Int)).length = 2 := by decide +kernel
theorem dg_two {n : Int} (h0 : 0 ≤ n) (h1 : n < 100) : (dg 2 n).length = 2 := by
  have := two_tab ⟨n.toNat, by omega⟩
  rwa [show ((n.toNat : Nat) : Int) = n by omega] at this
theorem beh_len {m d h i s : Int} (m0 : 0 ≤ m) (m1 : m < 100) (d0 : 0 ≤ d) (d1 : d < 100) (h0 : 0 ≤ h) (h1 : h < 100) (i0 : 0 ≤ i) (i1 : i < 100) (s0 : 0 ≤ s) (s1 : s < 100) : (beh m d h i s).length = 15 := by
  unfold beh
  simp [dg_two m0 m1, dg_two d0 d1, dg_two h0 h1, dg_two i0 i1, dg_two s0 s1]
theorem dg_len (k : Nat) (n : Int) (h0 : -9223372036854775808 ≤ n) (h1 : n ≤ 9223372036854775807) : (dg k n).length ≤ k + 21 := by
  have := itoa_length_le n h0 h1
  unfold dg; simp; omega
theorem dg_ne (k : Nat) (n : Int) : dg k n ≠ [] := by
  unfold dg
  intro h
  exact Num.itoa_ne n (List.append_eq_nil_iff.1 h).2
theorem yr_ne (y : Int) : yr y ≠ [] := by unfold yr; split <;> simp [dg_ne]
theorem yr_len (y : Int) (h0 : -9223372036854775807 ≤ y) (h1 : y ≤ 9223372036854775807) : 1 ≤ (yr y).length ∧ (yr y).length ≤ 30 := by
  refine ⟨List.length_pos_iff.2 (yr_ne y), ?_⟩
  unfold yr
  split
  · have := dg_len 4 (-y) (by omega) (by omega); simp; omega
  · have := dg_len 4 y (by omega) (by omega); omega
theorem txt_drop (y m d h i s : Int) (hl : (beh m d h i s).length = 15) : (txt y m d h i s).drop ((txt y m d h i s).length - 15) = beh m d h i s := by
  unfold txt
  rw [List.length_append, hl, Nat.add_sub_cancel, List.drop_left]
theorem trim_app (a p : List UInt8) : trimSuffix (a ++ p) p = a := by
  have h : hasSuffix (a ++ p) p = true := by unfold hasSuffix; simp
  unfold trimSuffix
  rw [if_pos h]; simp
theorem new_year : beh 1 1 0 0 0 = [45, 48, 49, 45, 48, 49, 84, 48, 48, 58, 48, 48, 58, 48, 48] := by decide +kernel
theorem trim_year (y : Int) : trimSuffix (txt y 1 1 0 0 0) [45, 48, 49, 45, 48, 49, 84, 48, 48, 58, 48, 48, 58, 48, 48] = yr y := by
  unfold txt; rw [new_year]; exact trim_app _ _
end Go.Proofs.YtedbohfcbfegjaaGreatDoor.Tx
