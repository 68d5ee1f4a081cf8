/- Joined: Byt, AmA, AmB. -/
import Derived.Test.YtjggjkeopbcmoaaGreatDoorBt03
import Derived.Test.YtjggjkeopbcmoaaGreatDoorBt02
import Derived.Lib.OthersKept
import Derived.Laws.RangeAny
import Derived.Test.YtjggjkeopbcmoaaGreatDoorLaid2
import Derived.Test.YtjggjkeopbcmoaaGreatDoorBt01
import Derived.Shelf.Strings.Split
set_option linter.unusedVariables false
set_option linter.unusedSimpArgs false
namespace Go.Proofs.YtjggjkeopbcmoaaGreatDoor
open Go.RowKit
theorem ab_dig (c : UInt8) : Num.dig c = (decide (48 ≤ (c.toNat : Int)) && decide ((c.toNat : Int) ≤ 57)) := by
 unfold Num.dig
 by_cases h1 : 48 ≤ c.toNat <;> by_cases h2 : c.toNat ≤ 57 <;> simp [h1, h2] <;> omega
theorem ab_trim (l p : List UInt8) : (Lib.trimPrefix l p).length ≤ l.length := by
 unfold Lib.trimPrefix
 split
 ·
  rw [List.length_drop]; omega
 ·
  omega
theorem ab_val_lt : ∀ (l : List UInt8) (a : Nat), l.all Num.dig = true → Num.val a l < (a + 1) * 10 ^ l.length := by
 intro l
 induction l with
 | nil => intro a _; rw [Num.val_nil]; simp
 | cons c r ih =>
  intro a h
  simp only [List.all_cons, Bool.and_eq_true] at h
  have hc : 48 ≤ c.toNat ∧ c.toNat ≤ 57 := by have := h.1; unfold Num.dig at this; exact of_decide_eq_true this
  have := ih (Num.stp a c) h.2
  rw [Num.val_cons, List.length_cons, Nat.pow_succ]
  have h1 : Num.stp a c + 1 ≤ (a + 1) * 10 := by rw [Num.stp_eq]; omega
  have h2 := Nat.mul_le_mul_right (10 ^ r.length) h1
  calc Num.val (Num.stp a c) r < (Num.stp a c + 1) * 10 ^ r.length := this
   _ ≤ (a + 1) * 10 * 10 ^ r.length := h2
   _ = (a + 1) * (10 ^ r.length * 10) := by rw [Nat.mul_assoc, Nat.mul_comm 10]
theorem ab_val_bd {l : List UInt8} {k : Nat} (hd : l.all Num.dig = true) (hl : l.length ≤ k) : Num.val 0 l < 10 ^ k := by
 have := ab_val_lt l 0 hd
 have h2 := Nat.pow_le_pow_right (n := 10) (by omega) hl
 omega
namespace Am
def isP (i : Int) (l : List UInt8) : Bool := l.all Num.dig && (if i = 0 then decide (1 ≤ l.length ∧ l.length ≤ 3) else decide (l.length = 2))
end Am
set_option maxHeartbeats 2000000 in
set_option maxRecDepth 100000 in
theorem ispart_any (i : Int) (s : ByteArray) (w : World) (hs : s.size ≤ maxLen) :
  Calls Tryz.prog 145 #[.int .i64 i, .string s] w fun e w' => e = .returned (.bool (Am.isP i s.data.toList)) ∧ Below w.heap.size w w' := by
 unfold maxLen at hs
 obtain ⟨ans, hans⟩ : ∃ ans, ans = Am.isP i s.data.toList := ⟨_, rfl⟩
 rw [← hans]
 obtain ⟨D, hD⟩ : ∃ D, D = s.data.toList.all Num.dig := ⟨_, rfl⟩
 have HQ := Lib.hid (show ans = (D && if i = 0 then decide (1 ≤ s.size ∧ s.size ≤ 3) else decide (s.size = 2)) by rw [hans, hD]; unfold Am.isP; rw [ab_len])
 have HA := Lib.hid hD; clear hD hans
 go_enter Tryz.func145, Tryz.ntmps145
 go_wp2_with fail
 go_loopw [] (fun wr => ∃ pos : Nat, pos ≤ s.size ∧ wr.heap[w.heap.size]? = some (.stringIter s pos) ∧ Hid ((s.data.toList.drop pos).all Num.dig = D) ∧ Hid (Below w.heap.size w wr)) (fun wr => s.size - wr.iterPos w.heap.size)
 case atStart =>
  refine ⟨0, Nat.zero_le _, ?_, HA.out.symm, (Below.refl _ _).alloc (Nat.le_refl _) _⟩
  have := World.iter_heap w s 0
  simpa using this
 case round =>
  obtain ⟨pos, hk, hit, hr, hbw⟩ := hrel
  by_cases hp : pos < s.size
  ·
   have hb := s[pos].toNat_lt
   have hd := ab_dig s[pos]
   have hn : (Num.dig s[pos] && (s.data.toList.drop (pos + 1)).all Num.dig) = D := by rw [← hr.out, ab_drop s pos hp]; rfl
   by_cases ha : s[pos].toNat < 128
   ·
    have hnx : ∀ ty, (Instr.next (.pointer (some ⟨w.heap.size, 0, none⟩)) true ty).run Tryz.prog wr = _ := fun ty => Lib.run_next_ascii_at wr w.heap.size s pos ty hit hp ha
    have hit2 := Lib.iterAt_heap wr w.heap.size s pos (pos + 1) hit
    have hbw2 := Lib.hid (Lib.below_iterAt hbw.out (k := w.heap.size) (Nat.le_refl _) s (pos + 1))
    generalize hc : (s[pos].toNat : Int) = c at hnx hd
    by_cases c1 : c < 48
    ·
     have hno := Lib.hid (show ans = false by rw [HQ.out, show D = false by rw [← hn, hd, decide_eq_false (by omega)]; rfl]; rfl)
     clear hn hd hb
     go_wp2_with fail
     go_ret
     exact ⟨by rw [hno.out]; rfl, hbw2.out⟩
    ·
     by_cases c2 : 57 < c
     ·
      have hno := Lib.hid (show ans = false by rw [HQ.out, show D = false by rw [← hn, hd, decide_eq_false (show ¬ c ≤ 57 by omega)]; simp]; rfl)
      clear hn hd hb
      go_wp2_with fail
      go_ret
      exact ⟨by rw [hno.out]; rfl, hbw2.out⟩
     ·
      have hyes := Lib.hid (show (s.data.toList.drop (pos + 1)).all Num.dig = D by rw [← hn, hd, decide_eq_true (show 48 ≤ c by omega), decide_eq_true (show c ≤ 57 by omega)]; rfl)
      clear hn hd hb
      go_wp2_with fail
      go_roundw
      case rel => exact ⟨pos + 1, by omega, hit2, hyes, hbw2⟩
      case measure =>
       simp only [World.iterPos, hit2, hit]
       omega
   ·
    have hnx : ∀ ty, (Instr.next (.pointer (some ⟨w.heap.size, 0, none⟩)) true ty).run Tryz.prog wr = _ := fun ty => Lib.run_next_any_at wr w.heap.size s pos ty hit hp
    obtain ⟨r1, r2⟩ := decode_high s pos hp (by omega)
    have hbw2 := Lib.hid (Lib.below_iterAt hbw.out (k := w.heap.size) (Nat.le_refl _) s (pos + (Utf8.decode s pos).2))
    have r3 := decode_le s pos
    have hno := Lib.hid (show ans = false by rw [HQ.out, show D = false by rw [← hn, hd, decide_eq_false (show ¬ (s[pos].toNat : Int) ≤ 57 by omega)]; simp]; rfl)
    clear hn hd hb
    generalize (Utf8.decode s pos).1 = rn at hnx r1 r3
    generalize (Utf8.decode s pos).2 = wd at hnx hbw2 r2
    have c1 : ¬ (rn : Int) < 48 := by omega
    have c2 : 57 < (rn : Int) := by omega
    go_wp2_with fail
    go_ret
    exact ⟨by rw [hno.out]; rfl, hbw2.out⟩
  ·
   have hnx : ∀ ty, (Instr.next (.pointer (some ⟨w.heap.size, 0, none⟩)) true ty).run Tryz.prog wr = _ := fun ty => Lib.run_next_end_at wr w.heap.size s pos ty hit hp
   have hyes := Lib.hid (show D = true by rw [← hr.out, List.drop_of_length_le (by rw [ab_len]; omega)]; rfl)
   have HQ2 := Lib.hid (show ans = if i = 0 then decide (1 ≤ s.size ∧ s.size ≤ 3) else decide (s.size = 2) by rw [HQ.out, hyes.out]; rfl)
   clear HQ
   by_cases hi : i = 0
   ·
    subst hi
    by_cases z1 : 1 ≤ (s.size : Int)
    ·
     by_cases z2 : (s.size : Int) ≤ 3
     ·
      have e := Lib.hid (show ans = true by rw [HQ2.out, if_pos rfl]; exact decide_eq_true (by omega))
      clear HQ2
      go_wp2_with fail
      go_ret
      exact ⟨by rw [e.out]; rfl, hbw.out⟩
     ·
      have e := Lib.hid (show ans = false by rw [HQ2.out, if_pos rfl]; exact decide_eq_false (by omega))
      clear HQ2
      go_wp2_with fail
      go_ret
      exact ⟨by rw [e.out]; rfl, hbw.out⟩
    ·
     have e := Lib.hid (show ans = false by rw [HQ2.out, if_pos rfl]; exact decide_eq_false (by omega))
     clear HQ2
     go_wp2_with fail
     go_ret
     exact ⟨by rw [e.out]; rfl, hbw.out⟩
   ·
    have gi : (i == 0) = false := by rw [beq_eq_false_iff_ne]; exact hi
    by_cases z1 : s.size = 2
    ·
     have e := Lib.hid (show ans = true by rw [HQ2.out, if_neg hi]; exact decide_eq_true z1)
     have z2 : ((s.size : Int) == 2) = true := by rw [beq_iff_eq]; omega
     clear hi HQ2
     go_wp2_with fail
     go_ret
     exact ⟨by rw [e.out]; rfl, hbw.out⟩
    ·
     have e := Lib.hid (show ans = false by rw [HQ2.out, if_neg hi]; exact decide_eq_false z1)
     have z2 : ((s.size : Int) == 2) = false := by rw [beq_eq_false_iff_ne]; omega
     clear hi HQ2
     go_wp2_with fail
     go_ret
     exact ⟨by rw [e.out]; rfl, hbw.out⟩
set_option maxHeartbeats 2000000 in
set_option maxRecDepth 100000 in
theorem aval_any (s : ByteArray) (w : World) (hs : s.size ≤ 5) (hd : s.data.toList.all Num.dig = true) :
  Calls Tryz.prog 146 #[.string s] w fun e w' => e = .returned (.int .i64 (Num.val 0 s.data.toList)) ∧ Below w.heap.size w w' := by
 obtain ⟨ans, hans⟩ : ∃ ans, ans = Num.val 0 s.data.toList := ⟨_, rfl⟩
 rw [← hans]
 have HA := Lib.hid hans; clear hans
 have HD := Lib.hid hd; clear hd
 go_enter Tryz.func146, Tryz.ntmps146
 go_wp2_with fail
 go_loopw [3] (fun n wr => ∃ pos a : Nat, pos ≤ s.size ∧ n = .int .i64 a ∧ wr.heap[w.heap.size]? = some (.stringIter s pos) ∧ Hid (a + 1 ≤ 10 ^ pos) ∧ Hid (Num.val a (s.data.toList.drop pos) = ans) ∧ Hid (Below w.heap.size w wr)) (fun _ wr => s.size - wr.iterPos w.heap.size)
 case atStart =>
  refine ⟨0, 0, Nat.zero_le _, rfl, ?_, Nat.le_refl 1, HA.out.symm, (Below.refl _ _).alloc (Nat.le_refl _) _⟩
  have := World.iter_heap w s 0
  simpa using this
 case round =>
  obtain ⟨pos, a, hk, rfl, hit, hp', hr, hbw⟩ := hrel
  by_cases hp : pos < s.size
  ·
   have hdk : Num.dig s[pos] = true := by
    have h := HD.out
    have := List.all_eq_true.1 h s[pos] (by
     have e : s[pos] = s.data.toList[pos]'(by rw [ab_len]; exact hp) := rfl
     rw [e]; exact List.getElem_mem _)
    exact this
   obtain ⟨l48, l57⟩ : 48 ≤ s[pos].toNat ∧ s[pos].toNat ≤ 57 := by unfold Num.dig at hdk; exact of_decide_eq_true hdk
   have hnx : ∀ ty, (Instr.next (.pointer (some ⟨w.heap.size, 0, none⟩)) true ty).run Tryz.prog wr = _ := fun ty => Lib.run_next_ascii_at wr w.heap.size s pos ty hit hp (by omega)
   have hit2 := Lib.iterAt_heap wr w.heap.size s pos (pos + 1) hit
   have hbw2 := Lib.hid (Lib.below_iterAt hbw.out (k := w.heap.size) (Nat.le_refl _) s (pos + 1))
   have ha : a ≤ 99999 := by
    have h := hp'.out
    have := Nat.pow_le_pow_right (n := 10) (by omega) (show pos ≤ 5 by omega)
    omega
   have hp2 := Lib.hid (show Num.stp a s[pos] + 1 ≤ 10 ^ (pos + 1) by rw [Num.stp_eq, Nat.pow_succ]; have := hp'.out; omega)
   have hr2 := Lib.hid (show Num.val (Num.stp a s[pos]) (s.data.toList.drop (pos + 1)) = ans by rw [← hr.out, ab_drop s pos hp, Num.val_cons])
   have hs2 := Lib.hid (show (a : Int) * 10 + ((s[pos].toNat : Int) - 48) = (Num.stp a s[pos] : Int) by rw [Num.stp_eq]; omega)
   have b48 : (48 : Int) ≤ (s[pos].toNat : Int) := by omega
   have b57 : (s[pos].toNat : Int) ≤ 57 := by omega
   clear hdk
   generalize (s[pos].toNat : Int) = c at hnx hs2 b48 b57
   generalize Num.stp a s[pos] = a2 at hp2 hr2 hs2
   clear l48 l57
   go_wp2_with fail
   go_roundw
   case rel => exact ⟨pos + 1, a2, by omega, by first | (rw [← hs2.out]; done) | (rw [← hs2.out]; rfl), hit2, hp2, hr2, hbw2⟩
   case measure =>
    simp only [World.iterPos, hit2, hit]
    omega
  ·
   have hnx : ∀ ty, (Instr.next (.pointer (some ⟨w.heap.size, 0, none⟩)) true ty).run Tryz.prog wr = _ := fun ty => Lib.run_next_end_at wr w.heap.size s pos ty hit hp
   have hyes := Lib.hid (show a = ans by rw [← hr.out, List.drop_of_length_le (by rw [ab_len]; omega)]; rfl)
   go_wp2_with fail
   go_ret
   exact ⟨by rw [hyes.out]; rfl, hbw.out⟩
end Go.Proofs.YtjggjkeopbcmoaaGreatDoor
set_option linter.unusedVariables false
set_option linter.unusedSimpArgs false
namespace Go.Proofs.YtjggjkeopbcmoaaGreatDoor
open Go.RowKit Go.Sort
namespace Am
def pcs (s : ByteArray) : List ByteArray := Lib.splitB ⟨#[58]⟩ 0 (min 3 (s.size + 1) - 1) s
theorem pcs_len (s : ByteArray) : (pcs s).length ≤ 3 := by
 have := Lib.splitB_length_le ⟨#[58]⟩ 0 (min 3 (s.size + 1) - 1) s
 unfold pcs; omega
theorem split_size (sep : ByteArray) (save : Nat) : ∀ (k : Nat) (s : ByteArray), ∀ x ∈ Lib.splitB sep save k s, x.size ≤ s.size := by
 intro k
 induction k with
 | zero => intro s x hx; rw [Lib.splitB_zero] at hx; simp at hx; rw [hx]; exact Nat.le_refl _
 | succ k ih =>
  intro s x hx
  unfold Lib.splitB at hx
  split at hx
  ·
   simp at hx; rw [hx]; exact Nat.le_refl _
  ·
   rcases List.mem_cons.1 hx with rfl | hx
   ·
    rw [ByteArray.size_extract]; omega
   ·
    have := ih _ x hx
    rw [ByteArray.size_extract] at this; omega
theorem pcs_size (s : ByteArray) : ∀ x ∈ pcs s, x.size ≤ s.size := split_size _ _ _ s
def isK (s : ByteArray) (k : Nat) : Bool := match (pcs s)[k]? with | some x => isP k x.data.toList | none => true
def vK (s : ByteArray) (k : Nat) : Int := match (pcs s)[k]? with | some x => (Num.val 0 x.data.toList : Int) | none => 0
def okK (s : ByteArray) : Bool := isK s 0 && (isK s 1 && isK s 2)
def vk (s : ByteArray) (j k : Nat) : Int := if j < k then vK s j else 0
def va (s : ByteArray) (k : Nat) : Int := if okK s then vK s k else 0
theorem isK_at {s : ByteArray} {k : Nat} (h : k < (pcs s).length) : isK s k = isP k (pcs s)[k].data.toList := by unfold isK; rw [List.getElem?_eq_getElem h]
theorem vK_at {s : ByteArray} {k : Nat} (h : k < (pcs s).length) : vK s k = (Num.val 0 (pcs s)[k].data.toList : Int) := by unfold vK; rw [List.getElem?_eq_getElem h]
theorem isK_no {s : ByteArray} {k : Nat} (h : ¬ k < (pcs s).length) : isK s k = true := by unfold isK; rw [List.getElem?_eq_none (by omega)]
theorem vK_no {s : ByteArray} {k : Nat} (h : ¬ k < (pcs s).length) : vK s k = 0 := by unfold vK; rw [List.getElem?_eq_none (by omega)]
theorem vk_end {s : ByteArray} {j k : Nat} (h : k = (pcs s).length) : vk s j k = vK s j := by
 unfold vk
 split
 ·
  rfl
 ·
  rw [vK_no (by omega)]
theorem okK_no {s : ByteArray} {k : Nat} (hk : k < 3) (h : isK s k = false) : okK s = false := by
 unfold okK
 obtain rfl | rfl | rfl : k = 0 ∨ k = 1 ∨ k = 2 := by omega
 all_goals simp [h]
theorem okK_yes {s : ByteArray} {n : Nat} (hn : n = (pcs s).length) (h : ∀ j, j < n → isK s j = true) : okK s = true := by
 have : ∀ j, isK s j = true := fun j => by
  by_cases hj : j < n
  ·
   exact h j hj
  ·
   exact isK_no (by omega)
 unfold okK; rw [this 0, this 1, this 2]; rfl
theorem isP_size {i : Nat} {l : List UInt8} (h : isP i l = true) : l.all Num.dig = true ∧ l.length ≤ 5 := by
 unfold isP at h
 rw [Bool.and_eq_true] at h
 refine ⟨h.1, ?_⟩
 have := h.2
 split at this
 ·
  have := of_decide_eq_true this; omega
 ·
  have := of_decide_eq_true this; omega
end Am
theorem splitN_any (s : ByteArray) (w : World) (m : Int) (hs : s.size < 4294967281) (hm : w.cell? ⟨3, 0, none⟩ = some (.int .i64 m)) :
  Calls Tryz.prog 144 #[.string s, .string ⟨#[58]⟩, .int .i64 3] w fun e w' => ∃ c : Nat, e = .returned (.slice (some ⟨w.heap.size, 0, none⟩) (Am.pcs s).length c) ∧ Below w.heap.size w w' ∧ (∀ j x, (Am.pcs s)[j]? = some x → w'.cell? ⟨w.heap.size, j, none⟩ = some (.string x)) ∧ w'.heap.size = w.heap.size + 1 := by
 refine (Any.strings_SplitN Tryz.lays147 Tryz.laysM147.i9 s ⟨#[58]⟩ 3 m w hs hm (Nat.le_refl 1) (by omega) (by omega)).mono ?_
 rintro e w' ⟨rfl, rfl⟩
 refine ⟨_, rfl, (Below.refl _ _).alloc (Nat.le_refl _) _, ?_, by simp⟩
 intro j x hx
 rw [Lib.cell_of_heap (heap_alloc_new w _)]
 have hl : j < (Am.pcs s).length := by
  rcases Nat.lt_or_ge j (Am.pcs s).length with h | h
  ·
   exact h
  ·
   rw [List.getElem?_eq_none h] at hx; cases hx
 show (Lib.cellsOf (Am.pcs s) _)[j]? = _
 unfold Lib.cellsOf
 rw [List.getElem?_toArray, List.getElem?_append_left (by simpa using hl), List.getElem?_map, hx]
 rfl
set_option maxHeartbeats 8000000 in
set_option maxRecDepth 100000 in
theorem rparts_any (s : ByteArray) (w : World) (m : Int) (hs : s.size < 4294967281) (hm : w.cell? ⟨3, 0, none⟩ = some (.int .i64 m)) :
  Calls Tryz.prog 116 #[.string s] w fun e w' => e = .returned (.tuple #[.agg #[.int .i64 (Am.va s 0), .int .i64 (Am.va s 1), .int .i64 (Am.va s 2)], .bool (Am.okK s)]) ∧ Below w.heap.size w w' := by
 have SN := Lib.hid (fun W h => splitN_any s W m hs h)
 have SZ := Lib.hid (fun x hx => Nat.le_trans (Am.pcs_size s x hx) (show s.size ≤ maxLen by unfold maxLen; omega))
 have HM := Lib.hid hm
 have n3 := Am.pcs_len s
 clear hs hm
 go_enter Tryz.func116, Tryz.ntmps116
 go_wp2_with fail
 refine (SN.out _ (by exact ((Below.refl _ _).alloc (Nat.le_refl _) _).cell (World.block_lt_of_cell? _ _ HM.out) |>.trans HM.out)).mono ?_
 rintro e w1 ⟨c, rfl, b1, g0, z1⟩
 obtain ⟨n, hn⟩ : ∃ n, n = (Am.pcs s).length := ⟨_, rfl⟩
 rw [← hn] at n3 ⊢
 have HN := Lib.hid hn
 have G := Lib.hid g0
 have B1 := Lib.hid (below_step ((Below.refl _ _).alloc (Nat.le_refl _) _) b1)
 have Q1 := Lib.hid (show Bk3 w1 w.heap.size (.int .i64 0) (.int .i64 0) (.int .i64 0) from Bk3.of b1 (by simp) (by intro j; simp [go_sem]) (by simp [go_sem]) (by simp [go_sem]) (by simp [go_sem]))
 have E1 : (w.alloc (Obj.cells #[.int .i64 0, .int .i64 0, .int .i64 0] 98)).heap.size = w.heap.size + 1 := by simp
 clear b1 g0 hn
 rw [E1] at G z1 ⊢
 clear E1
 go_wp2_with fail
 go_loopw [9] (fun i wr => ∃ k : Nat, k ≤ n ∧ i = .int .i64 k ∧ Hid (∀ j, j < k → Am.isK s j = true) ∧ Hid (Bk3 wr w.heap.size (.int .i64 (Am.vk s 0 k)) (.int .i64 (Am.vk s 1 k)) (.int .i64 (Am.vk s 2 k))) ∧ Hid (∀ j x, (Am.pcs s)[j]? = some x → wr.cell? ⟨w.heap.size + 1, j, none⟩ = some (.string x)) ∧ w.heap.size + 1 < wr.heap.size ∧ Hid (Below w.heap.size w wr)) (fun i _ => n - (intOf i).toNat)
 case atStart => exact ⟨0, Nat.zero_le _, rfl, fun j hj => absurd hj (Nat.not_lt_zero _), Q1, G, by omega, B1⟩
 case round =>
  obtain ⟨k, hk, rfl, hok, hbk, hg, hsz, hbel⟩ := hrel
  by_cases hlt : k < n
  ·
   obtain rfl | rfl | rfl : k = 0 ∨ k = 1 ∨ k = 2 := by omega
   ·
    have B : Bk3 wr w.heap.size (.int .i64 0) (.int .i64 0) (.int .i64 0) := hbk.out
    have c_b := B.hb; have c_f := B.fz; have c_0 := B.k0; have c_1 := B.k1; have c_2 := B.k2
    clear B
    have hl : 0 < (Am.pcs s).length := by rw [← HN.out]; exact hlt
    have gx := hg.out 0 _ (List.getElem?_eq_getElem hl)
    have xs := SZ.out _ (List.getElem_mem hl)
    have iK := Lib.hid (Am.isK_at hl)
    have vK := Lib.hid (Am.vK_at hl)
    generalize (Am.pcs s)[0]'hl = x at gx xs iK vK
    clear hl
    cases hp : Am.isP (0 : Nat) x.data.toList
    ·
     have hno := Lib.hid (Am.okK_no (s := s) (k := 0) (by omega) (by rw [iK.out, hp]))
     have CP : Hid (∀ W, Calls Tryz.prog 145 #[.int .i64 0, .string x] W fun e w' => e = .returned (.bool false) ∧ Below W.heap.size W w') := fun W => hp ▸ ispart_any 0 x W xs
     clear hp
     go_wp2_with fail
     refine (CP.out _).mono ?_; rintro e w2 ⟨rfl, b2⟩
     have B2 := Lib.hid (below_step hbel.out b2)
     have Q2 : Bk3 w2 w.heap.size (.int .i64 0) (.int .i64 0) (.int .i64 0) := Bk3.of b2 c_b c_f c_0 c_1 c_2
     clear c_b c_f c_0 c_1 c_2 b2
     have c_b := Q2.hb; have c_f := Q2.fz; have c_0 := Q2.k0; have c_1 := Q2.k1; have c_2 := Q2.k2
     clear Q2
     go_wp2_with fail
     refine bodyPost_ret (v := .tuple #[.agg #[.int .i64 0, .int .i64 0, .int .i64 0], .bool false]) (by simp [results, Tryz.results116, go_sem, c_b, c_f, c_0, c_1, c_2]) rfl ⟨by unfold Am.va; rw [hno.out]; rfl, ?_⟩
     repeat (first | refine Below.setCell ?_ (by first | (simp; done) | (simp; omega) | omega) _ | refine below_drewN ?_ _ | refine Below.drew ?_)
     exact B2.out
    ·
     obtain ⟨hd, h5⟩ := Am.isP_size hp
     have CP : Hid (∀ W, Calls Tryz.prog 145 #[.int .i64 0, .string x] W fun e w' => e = .returned (.bool true) ∧ Below W.heap.size W w') := fun W => hp ▸ ispart_any 0 x W xs
     have CV : Hid (∀ W, Calls Tryz.prog 146 #[.string x] W fun e w' => e = .returned (.int .i64 (Am.vK s 0)) ∧ Below W.heap.size W w') := fun W => by
      have := aval_any x W (by rw [ab_len] at h5; exact h5) hd
      rw [← vK.out] at this
      exact this
     have hok' := Lib.hid (show ∀ j, j < 1 → Am.isK s j = true by
      intro j hj
      by_cases h : j = 0
      ·
       subst h; rw [iK.out, hp]
      ·
       exact hok.out j (by omega))
     generalize hv : Am.vK s 0 = v at CV
     have HV := Lib.hid hv
     clear hp hd h5 hv vK
     go_wp2_with fail
     refine (CP.out _).mono ?_; rintro e w2 ⟨rfl, b2⟩
     have B2 := Lib.hid (below_step hbel.out b2)
     have Q2 : Bk3 w2 w.heap.size (.int .i64 0) (.int .i64 0) (.int .i64 0) := Bk3.of b2 c_b c_f c_0 c_1 c_2
     have G2 := Lib.hid (show ∀ j y, (Am.pcs s)[j]? = some y → w2.cell? ⟨w.heap.size + 1, j, none⟩ = some (.string y) from fun j y h => (b2.cell (p := ⟨w.heap.size + 1, j, none⟩) hsz).trans (hg.out j y h))
     have z2 := Nat.lt_of_lt_of_le hsz b2.size
     clear c_b c_f c_0 c_1 c_2 b2
     go_wp2_with fail
     refine (CV.out _).mono ?_; rintro e w3 ⟨rfl, b3⟩
     have B3 := Lib.hid (below_step B2.out b3)
     have Q3 : Bk3 w3 w.heap.size (.int .i64 0) (.int .i64 0) (.int .i64 0) := Q2.keep b3
     have G3 := Lib.hid (show ∀ j y, (Am.pcs s)[j]? = some y → w3.cell? ⟨w.heap.size + 1, j, none⟩ = some (.string y) from fun j y h => (b3.cell (p := ⟨w.heap.size + 1, j, none⟩) z2).trans (G2.out j y h))
     have z3 := Nat.lt_of_lt_of_le z2 b3.size
     clear b3 Q2
     have c_b := Q3.hb; have c_f := Q3.fz; have c_0 := Q3.k0; have c_1 := Q3.k1; have c_2 := Q3.k2
     clear Q3
     go_wp2_with fail
     go_roundw
     case rel =>
      refine ⟨1, by omega, rfl, hok', ?_, ?_, ?_, ?_⟩
      ·
       exact Bk3.of (Below.refl _ _) (by simp; omega) (by intro j; simp [go_sem, c_f]) (by simp [go_sem, Am.vk, c_b, c_0, HV.out]) (by simp [go_sem, Am.vk, c_b, c_1, HV.out]) (by simp [go_sem, Am.vk, c_b, c_2, HV.out])
      ·
       refine Lib.hid (fun j y h => ?_)
       rw [World.cell?_setCell_other _ _ _ _ (by intro e; injection e with e1; omega)]
       exact G3.out j y h
      ·
       simp; omega
      ·
       refine Lib.hid ?_
       repeat (first | refine Below.setCell ?_ (by first | (simp; done) | (simp; omega) | omega) _ | refine below_drewN ?_ _ | refine Below.drew ?_)
       exact B3.out
     case measure => simp [intOf]; omega
   ·
    have B : Bk3 wr w.heap.size (.int .i64 (Am.vK s 0)) (.int .i64 0) (.int .i64 0) := hbk.out
    have c_b := B.hb; have c_f := B.fz; have c_0 := B.k0; have c_1 := B.k1; have c_2 := B.k2
    clear B
    have hl : 1 < (Am.pcs s).length := by rw [← HN.out]; exact hlt
    have gx := hg.out 1 _ (List.getElem?_eq_getElem hl)
    have xs := SZ.out _ (List.getElem_mem hl)
    have iK := Lib.hid (Am.isK_at hl)
    have vK := Lib.hid (Am.vK_at hl)
    generalize (Am.pcs s)[1]'hl = x at gx xs iK vK
    clear hl
    cases hp : Am.isP (1 : Nat) x.data.toList
    ·
     have hno := Lib.hid (Am.okK_no (s := s) (k := 1) (by omega) (by rw [iK.out, hp]))
     have CP : Hid (∀ W, Calls Tryz.prog 145 #[.int .i64 1, .string x] W fun e w' => e = .returned (.bool false) ∧ Below W.heap.size W w') := fun W => hp ▸ ispart_any 1 x W xs
     clear hp
     go_wp2_with fail
     refine (CP.out _).mono ?_; rintro e w2 ⟨rfl, b2⟩
     have B2 := Lib.hid (below_step hbel.out b2)
     have Q2 : Bk3 w2 w.heap.size (.int .i64 (Am.vK s 0)) (.int .i64 0) (.int .i64 0) := Bk3.of b2 c_b c_f c_0 c_1 c_2
     clear c_b c_f c_0 c_1 c_2 b2
     have c_b := Q2.hb; have c_f := Q2.fz; have c_0 := Q2.k0; have c_1 := Q2.k1; have c_2 := Q2.k2
     clear Q2
     go_wp2_with fail
     refine bodyPost_ret (v := .tuple #[.agg #[.int .i64 0, .int .i64 0, .int .i64 0], .bool false]) (by simp [results, Tryz.results116, go_sem, c_b, c_f, c_0, c_1, c_2]) rfl ⟨by unfold Am.va; rw [hno.out]; rfl, ?_⟩
     repeat (first | refine Below.setCell ?_ (by first | (simp; done) | (simp; omega) | omega) _ | refine below_drewN ?_ _ | refine Below.drew ?_)
     exact B2.out
    ·
     obtain ⟨hd, h5⟩ := Am.isP_size hp
     have CP : Hid (∀ W, Calls Tryz.prog 145 #[.int .i64 1, .string x] W fun e w' => e = .returned (.bool true) ∧ Below W.heap.size W w') := fun W => hp ▸ ispart_any 1 x W xs
     have CV : Hid (∀ W, Calls Tryz.prog 146 #[.string x] W fun e w' => e = .returned (.int .i64 (Am.vK s 1)) ∧ Below W.heap.size W w') := fun W => by
      have := aval_any x W (by rw [ab_len] at h5; exact h5) hd
      rw [← vK.out] at this
      exact this
     have hok' := Lib.hid (show ∀ j, j < 2 → Am.isK s j = true by
      intro j hj
      by_cases h : j = 1
      ·
       subst h; rw [iK.out, hp]
      ·
       exact hok.out j (by omega))
     generalize hv : Am.vK s 1 = v at CV
     have HV := Lib.hid hv
     clear hp hd h5 hv vK
     go_wp2_with fail
     refine (CP.out _).mono ?_; rintro e w2 ⟨rfl, b2⟩
     have B2 := Lib.hid (below_step hbel.out b2)
     have Q2 : Bk3 w2 w.heap.size (.int .i64 (Am.vK s 0)) (.int .i64 0) (.int .i64 0) := Bk3.of b2 c_b c_f c_0 c_1 c_2
     have G2 := Lib.hid (show ∀ j y, (Am.pcs s)[j]? = some y → w2.cell? ⟨w.heap.size + 1, j, none⟩ = some (.string y) from fun j y h => (b2.cell (p := ⟨w.heap.size + 1, j, none⟩) hsz).trans (hg.out j y h))
     have z2 := Nat.lt_of_lt_of_le hsz b2.size
     clear c_b c_f c_0 c_1 c_2 b2
     go_wp2_with fail
     refine (CV.out _).mono ?_; rintro e w3 ⟨rfl, b3⟩
     have B3 := Lib.hid (below_step B2.out b3)
     have Q3 : Bk3 w3 w.heap.size (.int .i64 (Am.vK s 0)) (.int .i64 0) (.int .i64 0) := Q2.keep b3
     have G3 := Lib.hid (show ∀ j y, (Am.pcs s)[j]? = some y → w3.cell? ⟨w.heap.size + 1, j, none⟩ = some (.string y) from fun j y h => (b3.cell (p := ⟨w.heap.size + 1, j, none⟩) z2).trans (G2.out j y h))
     have z3 := Nat.lt_of_lt_of_le z2 b3.size
     clear b3 Q2
     have c_b := Q3.hb; have c_f := Q3.fz; have c_0 := Q3.k0; have c_1 := Q3.k1; have c_2 := Q3.k2
     clear Q3
     go_wp2_with fail
     go_roundw
     case rel =>
      refine ⟨2, by omega, rfl, hok', ?_, ?_, ?_, ?_⟩
      ·
       exact Bk3.of (Below.refl _ _) (by simp; omega) (by intro j; simp [go_sem, c_f]) (by simp [go_sem, Am.vk, c_b, c_0, HV.out]) (by simp [go_sem, Am.vk, c_b, c_1, HV.out]) (by simp [go_sem, Am.vk, c_b, c_2, HV.out])
      ·
       refine Lib.hid (fun j y h => ?_)
       rw [World.cell?_setCell_other _ _ _ _ (by intro e; injection e with e1; omega)]
       exact G3.out j y h
      ·
       simp; omega
      ·
       refine Lib.hid ?_
       repeat (first | refine Below.setCell ?_ (by first | (simp; done) | (simp; omega) | omega) _ | refine below_drewN ?_ _ | refine Below.drew ?_)
       exact B3.out
     case measure => simp [intOf]; omega
   ·
    have B : Bk3 wr w.heap.size (.int .i64 (Am.vK s 0)) (.int .i64 (Am.vK s 1)) (.int .i64 0) := hbk.out
    have c_b := B.hb; have c_f := B.fz; have c_0 := B.k0; have c_1 := B.k1; have c_2 := B.k2
    clear B
    have hl : 2 < (Am.pcs s).length := by rw [← HN.out]; exact hlt
    have gx := hg.out 2 _ (List.getElem?_eq_getElem hl)
    have xs := SZ.out _ (List.getElem_mem hl)
    have iK := Lib.hid (Am.isK_at hl)
    have vK := Lib.hid (Am.vK_at hl)
    generalize (Am.pcs s)[2]'hl = x at gx xs iK vK
    clear hl
    cases hp : Am.isP (2 : Nat) x.data.toList
    ·
     have hno := Lib.hid (Am.okK_no (s := s) (k := 2) (by omega) (by rw [iK.out, hp]))
     have CP : Hid (∀ W, Calls Tryz.prog 145 #[.int .i64 2, .string x] W fun e w' => e = .returned (.bool false) ∧ Below W.heap.size W w') := fun W => hp ▸ ispart_any 2 x W xs
     clear hp
     go_wp2_with fail
     refine (CP.out _).mono ?_; rintro e w2 ⟨rfl, b2⟩
     have B2 := Lib.hid (below_step hbel.out b2)
     have Q2 : Bk3 w2 w.heap.size (.int .i64 (Am.vK s 0)) (.int .i64 (Am.vK s 1)) (.int .i64 0) := Bk3.of b2 c_b c_f c_0 c_1 c_2
     clear c_b c_f c_0 c_1 c_2 b2
     have c_b := Q2.hb; have c_f := Q2.fz; have c_0 := Q2.k0; have c_1 := Q2.k1; have c_2 := Q2.k2
     clear Q2
     go_wp2_with fail
     refine bodyPost_ret (v := .tuple #[.agg #[.int .i64 0, .int .i64 0, .int .i64 0], .bool false]) (by simp [results, Tryz.results116, go_sem, c_b, c_f, c_0, c_1, c_2]) rfl ⟨by unfold Am.va; rw [hno.out]; rfl, ?_⟩
     repeat (first | refine Below.setCell ?_ (by first | (simp; done) | (simp; omega) | omega) _ | refine below_drewN ?_ _ | refine Below.drew ?_)
     exact B2.out
    ·
     obtain ⟨hd, h5⟩ := Am.isP_size hp
     have CP : Hid (∀ W, Calls Tryz.prog 145 #[.int .i64 2, .string x] W fun e w' => e = .returned (.bool true) ∧ Below W.heap.size W w') := fun W => hp ▸ ispart_any 2 x W xs
     have CV : Hid (∀ W, Calls Tryz.prog 146 #[.string x] W fun e w' => e = .returned (.int .i64 (Am.vK s 2)) ∧ Below W.heap.size W w') := fun W => by
      have := aval_any x W (by rw [ab_len] at h5; exact h5) hd
      rw [← vK.out] at this
      exact this
     have hok' := Lib.hid (show ∀ j, j < 3 → Am.isK s j = true by
      intro j hj
      by_cases h : j = 2
      ·
       subst h; rw [iK.out, hp]
      ·
       exact hok.out j (by omega))
     generalize hv : Am.vK s 2 = v at CV
     have HV := Lib.hid hv
     clear hp hd h5 hv vK
     go_wp2_with fail
     refine (CP.out _).mono ?_; rintro e w2 ⟨rfl, b2⟩
     have B2 := Lib.hid (below_step hbel.out b2)
     have Q2 : Bk3 w2 w.heap.size (.int .i64 (Am.vK s 0)) (.int .i64 (Am.vK s 1)) (.int .i64 0) := Bk3.of b2 c_b c_f c_0 c_1 c_2
     have G2 := Lib.hid (show ∀ j y, (Am.pcs s)[j]? = some y → w2.cell? ⟨w.heap.size + 1, j, none⟩ = some (.string y) from fun j y h => (b2.cell (p := ⟨w.heap.size + 1, j, none⟩) hsz).trans (hg.out j y h))
     have z2 := Nat.lt_of_lt_of_le hsz b2.size
     clear c_b c_f c_0 c_1 c_2 b2
     go_wp2_with fail
     refine (CV.out _).mono ?_; rintro e w3 ⟨rfl, b3⟩
     have B3 := Lib.hid (below_step B2.out b3)
     have Q3 : Bk3 w3 w.heap.size (.int .i64 (Am.vK s 0)) (.int .i64 (Am.vK s 1)) (.int .i64 0) := Q2.keep b3
     have G3 := Lib.hid (show ∀ j y, (Am.pcs s)[j]? = some y → w3.cell? ⟨w.heap.size + 1, j, none⟩ = some (.string y) from fun j y h => (b3.cell (p := ⟨w.heap.size + 1, j, none⟩) z2).trans (G2.out j y h))
     have z3 := Nat.lt_of_lt_of_le z2 b3.size
     clear b3 Q2
     have c_b := Q3.hb; have c_f := Q3.fz; have c_0 := Q3.k0; have c_1 := Q3.k1; have c_2 := Q3.k2
     clear Q3
     go_wp2_with fail
     go_roundw
     case rel =>
      refine ⟨3, by omega, rfl, hok', ?_, ?_, ?_, ?_⟩
      ·
       exact Bk3.of (Below.refl _ _) (by simp; omega) (by intro j; simp [go_sem, c_f]) (by simp [go_sem, Am.vk, c_b, c_0, HV.out]) (by simp [go_sem, Am.vk, c_b, c_1, HV.out]) (by simp [go_sem, Am.vk, c_b, c_2, HV.out])
      ·
       refine Lib.hid (fun j y h => ?_)
       rw [World.cell?_setCell_other _ _ _ _ (by intro e; injection e with e1; omega)]
       exact G3.out j y h
      ·
       simp; omega
      ·
       refine Lib.hid ?_
       repeat (first | refine Below.setCell ?_ (by first | (simp; done) | (simp; omega) | omega) _ | refine below_drewN ?_ _ | refine Below.drew ?_)
       exact B3.out
     case measure => simp [intOf]; omega
  ·
   have B : Bk3 wr w.heap.size (.int .i64 (Am.vk s 0 k)) (.int .i64 (Am.vk s 1 k)) (.int .i64 (Am.vk s 2 k)) := hbk.out
   have hkn : k = (Am.pcs s).length := by rw [← HN.out]; omega
   rw [Am.vk_end hkn, Am.vk_end hkn, Am.vk_end hkn] at B
   have c_b := B.hb; have c_f := B.fz; have c_0 := B.k0; have c_1 := B.k1; have c_2 := B.k2
   have hyes := Lib.hid (Am.okK_yes hkn hok.out)
   clear B
   go_wp2_with fail
   refine bodyPost_ret (v := .tuple #[.agg #[.int .i64 (Am.vK s 0), .int .i64 (Am.vK s 1), .int .i64 (Am.vK s 2)], .bool true]) (by simp [results, Tryz.results116, go_sem, c_b, c_f, c_0, c_1, c_2]) rfl ⟨by unfold Am.va; rw [hyes.out]; rfl, ?_⟩
   repeat (first | refine Below.setCell ?_ (by first | (simp; done) | (simp; omega) | omega) _ | refine below_drewN ?_ _ | refine Below.drew ?_)
   exact hbel.out
theorem ckm {B : Nat} {W W' : World} {a : Addr} {v : Value} (k : Below B W W') (h : W.cell? a = some v) (hB : B = W.heap.size := by rfl) : W'.cell? a = some v := (k.cell (hB ▸ World.block_lt_of_cell? _ _ h)).trans h
end Go.Proofs.YtjggjkeopbcmoaaGreatDoor
