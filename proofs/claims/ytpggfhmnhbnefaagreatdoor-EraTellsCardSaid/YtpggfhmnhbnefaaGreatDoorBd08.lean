/- Joined: IxB, ErE, BkR, FoC0, RuA, WdM, WdA, WdB. -/
import Derived.Test.YtpggfhmnhbnefaaGreatDoorBd07
import Derived.Test.YtpggfhmnhbnefaaGreatDoorLaid4
import Derived.Shelf.Strings.IndexAnyAll
import Derived.Test.YtpggfhmnhbnefaaGreatDoorBd01
import Derived.Test.YtpggfhmnhbnefaaGreatDoorLaid9
import Derived.Test.YtpggfhmnhbnefaaGreatDoorBd05
import Derived.Test.YtpggfhmnhbnefaaGreatDoorBd06
import Derived.Shelf.Strings.Prefix
import Derived.Test.YtpggfhmnhbnefaaGreatDoorBd03
import Derived.Lib.ItoaNum
import Derived.Test.YtpggfhmnhbnefaaGreatDoorBd02
import Derived.Test.YtpggfhmnhbnefaaGreatDoorProg
import Derived.Deep.QuietTactic
set_option linter.unusedVariables false
set_option linter.unusedSimpArgs false
namespace Go.Proofs.YtpggfhmnhbnefaaGreatDoor
open Go.RowKit Go.Sort
namespace Ix
theorem get_in (s : ByteArray) (k : Nat) (h : k < s.size) : s.get! k = s[k] := by
 simp [ByteArray.get!, getElem!_pos, h]
 rfl
theorem dec_bytes (s : ByteArray) (pos : Nat) (h : pos < s.size) (ha : 128 ≤ (s[pos]'h).toNat) : ∀ j, j < (Utf8.decode s pos).2 → pos + j < s.size ∧ 128 ≤ (s.get! (pos + j)).toNat := by
 have h0 : pos + 0 < s.size ∧ 128 ≤ (s.get! (pos + 0)).toNat := ⟨h, by rw [Go.get_at s pos h]; exact ha⟩
 have hc : ∀ k, (decide (pos + k < s.size) && (s.get! (pos + k)).toNat / 64 == 2) = true → pos + k < s.size ∧ 128 ≤ (s.get! (pos + k)).toNat := by
  intro k hk
  rw [Bool.and_eq_true, decide_eq_true_eq, beq_iff_eq] at hk
  exact ⟨hk.1, by omega⟩
 have hn : ¬ (s.get! (pos + 0)).toNat < 128 := by have := h0.2; omega
 intro j
 unfold Utf8.decode
 simp only
 rw [if_neg hn]
 split
 ·
  rename_i c
  rw [Bool.and_eq_true] at c
  have c1 := hc 1 c.2
  split
  ·
   intro hj
   obtain rfl | rfl : j = 0 ∨ j = 1 := by simp at hj; omega
   ·
    exact h0
   ·
    exact c1
  ·
   intro hj
   obtain rfl : j = 0 := by simp at hj; omega
   exact h0
 ·
  split
  ·
   rename_i _ c
   rw [Bool.and_eq_true, Bool.and_eq_true] at c
   have c1 := hc 1 c.1.2
   have c2 := hc 2 c.2
   split
   ·
    intro hj
    obtain rfl | rfl | rfl : j = 0 ∨ j = 1 ∨ j = 2 := by simp at hj; omega
    ·
     exact h0
    ·
     exact c1
    ·
     exact c2
   ·
    intro hj
    obtain rfl : j = 0 := by simp at hj; omega
    exact h0
  ·
   split
   ·
    rename_i _ _ c
    rw [Bool.and_eq_true, Bool.and_eq_true, Bool.and_eq_true] at c
    have c1 := hc 1 c.1.1.2
    have c2 := hc 2 c.1.2
    have c3 := hc 3 c.2
    split
    ·
     intro hj
     obtain rfl | rfl | rfl | rfl : j = 0 ∨ j = 1 ∨ j = 2 ∨ j = 3 := by simp at hj; omega
     ·
      exact h0
     ·
      exact c1
     ·
      exact c2
     ·
      exact c3
    ·
     intro hj
     obtain rfl : j = 0 := by simp at hj; omega
     exact h0
   ·
    intro hj
    obtain rfl : j = 0 := by simp at hj; omega
    exact h0
theorem noany_dec {s : ByteArray} {chars : List UInt8} {pos : Nat} (h : pos < s.size) (ha : 128 ≤ (s[pos]'h).toNat) (hs : ∀ x ∈ chars, x.toNat < 128) (hn : Lib.NoAny s.data.toList chars pos) : Lib.NoAny s.data.toList chars (pos + (Utf8.decode s pos).2) ∧ pos + (Utf8.decode s pos).2 ≤ s.size := by
 have hd := dec_bytes s pos h ha
 refine ⟨?_, ?_⟩
 ·
  intro j b hj hb
  by_cases hlt : j < pos
  ·
   exact hn j b hlt hb
  ·
   obtain ⟨h1, h2⟩ := hd (j - pos) (by omega)
   have e : pos + (j - pos) = j := by omega
   rw [e] at h1 h2
   have hb2 : b = s.get! j := by
    rw [get_in s j h1]
    have : s.data.toList[j]? = some s[j] := by rw [List.getElem?_eq_getElem (by rw [ab_len]; exact h1)]; rfl
    rw [this] at hb; exact (Option.some.inj hb).symm
   rw [Bool.eq_false_iff]
   intro hc
   have := hs b (by simpa using hc)
   rw [hb2] at this; omega
 ·
  rcases Nat.eq_zero_or_pos (Utf8.decode s pos).2 with hz | hz
  ·
   omega
  ·
   have := (hd ((Utf8.decode s pos).2 - 1) (by omega)).1
   omega
end Ix
theorem irune_lo (s : ByteArray) (c : UInt8) (w : World) (h : c.toNat < 128) :
  Calls Tryz.prog 185 #[.string s, .int .i32 (c.toNat : Int)] w fun e w' => e = .returned (.int .i64 (Lib.indexByte s.data.toList c)) ∧ w = w' :=
 (Any.strings_IndexRune_ascii Tryz.lays152 s (c.toNat : Int) w (by omega) (by omega)).mono fun _ _ ⟨h, e⟩ => ⟨by rw [h]; simp, e.symm⟩
theorem sascii_no (n : Int) (w : World) (h : n ≤ 8) : Calls Tryz.prog 186 #[.int .i64 n] w fun e w' => e = .returned (.bool false) ∧ w = w' := by
 have h' : ¬ 8 < n := by omega
 go_enter Tryz.func186, Tryz.ntmps186
 go_wp2_with fail
 go_ret
 exact ⟨by simp [h'], rfl⟩
set_option maxHeartbeats 4000000 in
set_option maxRecDepth 100000 in
theorem ixany_short (s chars : ByteArray) (w : World) (h2 : 2 ≤ chars.size) (h8 : s.size ≤ 8) (hs : ∀ x ∈ chars.data.toList, x.toNat < 128) :
  Calls Tryz.prog 158 #[.string s, .string chars] w fun e w' => e = .returned (.int .i64 (Lib.indexAny s.data.toList chars.data.toList)) ∧ Below w.heap.size w w' := by
 obtain ⟨hn1, hn2⟩ := dne (ds := chars) (by omega)
 obtain ⟨ans, hans⟩ : ∃ ans, ans = Lib.indexAny s.data.toList chars.data.toList := ⟨_, rfl⟩
 rw [← hans]
 have HA := Lib.hid hans; clear hans
 have HS := Lib.hid hs; clear hs
 have CS := Lib.hid (fun W => sascii_no (s.size : Int) W (by omega))
 have g1 : ((chars.size : Int) == 1) = false := beq_eq_false_iff_ne.2 (by omega)
 clear h2 h8
 go_enter Tryz.func158, Tryz.ntmps158
 go_wp2_with fail
 refine (CS.out _).mono ?_; rintro e w1 ⟨rfl, rfl⟩
 go_wp2_with fail
 go_loopw [] (fun wr => ∃ pos : Nat, pos ≤ s.size ∧ wr.heap[w.heap.size]? = some (.stringIter s pos) ∧ Hid (Lib.NoAny s.data.toList chars.data.toList pos) ∧ Hid (Below w.heap.size w wr)) (fun wr => s.size - wr.iterPos w.heap.size)
 case atStart =>
  refine ⟨0, Nat.zero_le _, ?_, Lib.NoAny.zero _ _, (Below.refl _ _).alloc (Nat.le_refl _) _⟩
  have := World.iter_heap w s 0
  simpa using this
 case round =>
  obtain ⟨pos, hk, hit, hno, hbw⟩ := hrel
  by_cases hp : pos < s.size
  ·
   by_cases ha : s[pos].toNat < 128
   ·
    have hnx : ∀ ty, (Instr.next (.pointer (some ⟨w.heap.size, 0, none⟩)) true ty).run Tryz.prog wr = _ := fun ty => Lib.run_next_ascii_at wr w.heap.size s pos ty hit hp ha
    have hit2 := Lib.iterAt_heap wr w.heap.size s pos (pos + 1) hit
    have hbw2 := Lib.hid (Lib.below_iterAt hbw.out (k := w.heap.size) (Nat.le_refl _) s (pos + 1))
    have CR := Lib.hid (fun W => irune_lo chars s[pos] W ha)
    have hx : s.data.toList[pos]? = some s[pos] := by rw [List.getElem?_eq_getElem (by rw [ab_len]; exact hp)]; rfl
    have hcon := Lib.contains_iff_indexByte chars.data.toList s[pos]
    generalize hj : Lib.indexByte chars.data.toList s[pos] = j at CR hcon
    by_cases hin : 0 ≤ j
    ·
     have he := Lib.hid (show ans = (pos : Int) by rw [HA.out]; exact Lib.indexAny_hit hno.out hx (by rw [hcon]; exact decide_eq_true hin))
     clear hcon hx hj
     generalize hc : (s[pos].toNat : Int) = c at hnx CR
     go_wp2_with fail
     refine (CR.out _).mono ?_; rintro e w3 ⟨rfl, rfl⟩
     go_wp2_with fail
     go_ret
     exact ⟨by rw [he.out]; rfl, hbw2.out⟩
    ·
     have hno2 := Lib.hid (hno.out.succ hx (by rw [hcon]; exact decide_eq_false hin))
     clear hcon hx hj
     generalize hc : (s[pos].toNat : Int) = c at hnx CR
     go_wp2_with fail
     refine (CR.out _).mono ?_; rintro e w3 ⟨rfl, rfl⟩
     go_wp2_with fail
     go_roundw
     case rel => exact ⟨pos + 1, by omega, hit2, hno2, hbw2⟩
     case measure =>
      simp only [World.iterPos, hit2, hit]
      omega
   ·
    have hnx : ∀ ty, (Instr.next (.pointer (some ⟨w.heap.size, 0, none⟩)) true ty).run Tryz.prog wr = _ := fun ty => Lib.run_next_any_at wr w.heap.size s pos ty hit hp
    obtain ⟨r1, r2⟩ := decode_high s pos hp (by omega)
    obtain ⟨n1, n2⟩ := Ix.noany_dec hp (by omega) HS.out hno.out
    have hno2 := Lib.hid n1; clear n1
    have hit2 := Lib.iterAt_heap wr w.heap.size s pos (pos + (Utf8.decode s pos).2) hit
    have hbw2 := Lib.hid (Lib.below_iterAt hbw.out (k := w.heap.size) (Nat.le_refl _) s (pos + (Utf8.decode s pos).2))
    have r3 := decode_le s pos
    generalize (Utf8.decode s pos).1 = rn at hnx r1 r3
    generalize (Utf8.decode s pos).2 = wd at hnx hbw2 r2 hno2 n2 hit2
    have CR := Lib.hid (fun W => irune_hi chars (rn : Int) W HS.out (by omega) (by omega))
    go_wp2_with fail
    refine (CR.out _).mono ?_; rintro e w3 ⟨rfl, b3⟩
    have hlt : w.heap.size < (wr.iterAt w.heap.size s (pos + wd)).heap.size := by
     have := (Array.getElem?_eq_some_iff.1 hit2).1
     exact this
    have hit3 : w3.heap[w.heap.size]? = some (.stringIter s (pos + wd)) := (b3.block _ hlt).trans hit2
    have hbw3 := Lib.hid (hbw2.out.trans (b3.mono (Nat.le_of_lt hlt)))
    clear b3
    go_wp2_with fail
    go_roundw
    case rel => exact ⟨pos + wd, n2, hit3, hno2, hbw3⟩
    case measure =>
     simp only [World.iterPos, hit3, hit]
     omega
  ·
   have hnx : ∀ ty, (Instr.next (.pointer (some ⟨w.heap.size, 0, none⟩)) true ty).run Tryz.prog wr = _ := fun ty => Lib.run_next_end_at wr w.heap.size s pos ty hit hp
   have he := Lib.hid (show ans = -1 by
    rw [HA.out]
    refine Lib.indexAny_none ?_
    rw [ab_len, show s.size = pos by omega]
    exact hno.out)
   go_wp2_with fail
   go_ret
   exact ⟨by rw [he.out]; rfl, hbw.out⟩
set_option maxRecDepth 100000 in
theorem ixany (s chars : ByteArray) (w : World) (h2 : 2 ≤ chars.size) (hz : s.size < 4294967281) (hc : chars.size < 4294967281) (hs : ∀ x ∈ chars.data.toList, x.toNat < 128) :
  Calls Tryz.prog 158 #[.string s, .string chars] w fun e w' => e = .returned (.int .i64 (Lib.indexAny s.data.toList chars.data.toList)) ∧ Below w.heap.size w w' := by
 by_cases h8 : s.size ≤ 8
 ·
  exact ixany_short s chars w h2 h8 hs
 ·
  have hac : ∀ (j : Nat) b, chars.data.toList[j]? = some b → b.toNat < 128 := fun j b hb => hs b (List.mem_of_getElem? hb)
  have h116 : (Tryz.prog.info? 164).map (fun i => (i.zero, i.size)) = some (some (.agg (Array.replicate 256 (.bool false))), 256) := by kernel_rfl
  refine (Any.strings_IndexAny_long Tryz.lays153 (zero_of_info h116).1 (zero_of_info h116).2 s chars w h2 (by omega) hz hc hac).mono fun e w' ⟨h1, h3⟩ => ⟨h1, ?_⟩
  rw [h3]
  exact ((Below.refl _ _).alloc (Nat.le_refl _) _).alloc (by simp) _
namespace Er
def amF (b n q : Int) : Int × Int := if q = 0 ∧ (n < -b ∨ b < n) then (0, 1) else (n, q)
def am (b : Int) (s : ByteArray) : Int × Int := amF b (Am.rd s).1 (Am.rd s).2
def yrF (n q : Int) : Int × Int := if q = 0 ∧ (n ≤ -32767 ∨ 32767 ≤ n) then (0, 1) else (n, q)
def yr (l : List UInt8) : Int × Int := yrF (Num.rd l).1 (Num.rd l).2
def isA (l : List UInt8) : Bool := match Lib.trimPrefix l [45] with | [] => false | c :: _ => ([48, 49, 50, 51, 52, 53, 54, 55, 56, 57] : List UInt8).contains c
theorem isA_ix (l : List UInt8) : isA l = (Lib.indexAny (Lib.trimPrefix l [45]) [48, 49, 50, 51, 52, 53, 54, 55, 56, 57] == 0) := by
 unfold isA
 cases Lib.trimPrefix l [45] with
 | nil => rfl
 | cons c r =>
  show ([48, 49, 50, 51, 52, 53, 54, 55, 56, 57] : List UInt8).contains c = _
  unfold Lib.indexAny
  cases h : ([48, 49, 50, 51, 52, 53, 54, 55, 56, 57] : List UInt8).contains c
  ·
   have := Lib.indexAny_ge [48, 49, 50, 51, 52, 53, 54, 55, 56, 57] r
   rw [if_neg (by decide)]
   split
   ·
    rfl
   ·
    symm; rw [beq_eq_false_iff_ne]; rename_i hh; have : Lib.indexAny r [48, 49, 50, 51, 52, 53, 54, 55, 56, 57] ≠ -1 := by simpa using hh
    omega
  ·
   rfl
end Er
set_option maxHeartbeats 2000000 in
set_option maxRecDepth 100000 in
theorem eram_any (s : ByteArray) (b : Int) (w : World) (mx : Int) (b0 : 0 ≤ b) (b1 : b ≤ 1000000) (hs : s.size ≤ 600) (hm : w.cell? ⟨3, 0, none⟩ = some (.int .i64 mx)) :
  Calls Tryz.prog 113 #[.string s, .int .i64 b] w fun e w' => Below w.heap.size w w' ∧ (((Er.am b s).2 = 0 ∧ e = .returned (.int .i64 (Er.am b s).1)) ∨ ((Er.am b s).2 ≠ 0 ∧ e = .panicked (gvP (Er.am b s).2))) := by
 have AR := Lib.hid (aread_any s w mx (by omega) hm)
 clear hs hm
 unfold Er.am
 generalize (Am.rd s).1 = n at *
 generalize (Am.rd s).2 = q at *
 obtain ⟨F, hF⟩ : ∃ F : Int × Int, F = Er.amF b n q := ⟨_, rfl⟩
 rw [← hF]
 have HF := Lib.hid hF; clear hF
 have IN := Lib.hid (fun W => erin_any n b W b0 b1)
 clear b0 b1
 go_enter Tryz.func113, Tryz.ntmps113
 go_wp2_with fail
 refine AR.out.mono ?_; rintro e w1 ⟨rfl, k1⟩
 have B1 := Lib.hid k1; clear k1
 by_cases hq : q = 0
 case neg =>
  obtain rfl : F = (n, q) := by rw [HF.out]; unfold Er.amF; rw [if_neg (by omega)]
  go_wp2_with fail
  refine (must_no _ _ _ hq).mono ?_; rintro e v ⟨rfl, rfl⟩
  refine (show bodyPost _ _ _ (Exit.panic _) _ _ from ?_); simp only [bodyPost]
  exact ⟨trivial, B1.out, .inr ⟨hq, by first | rfl | trivial⟩⟩
 subst hq
 go_wp2_with fail
 refine (must_yes _ _).mono ?_; rintro e v ⟨rfl, rfl⟩
 by_cases hi : -b ≤ n ∧ n ≤ b
 case neg =>
  obtain rfl : F = (0, 1) := by rw [HF.out]; unfold Er.amF; rw [if_pos (by omega)]
  rw [show (decide (-b ≤ n) && decide (n ≤ b)) = false by rw [← Bool.decide_and]; exact decide_eq_false hi] at IN
  go_wp2_with fail
  refine (IN.out _).mono ?_; rintro e v ⟨rfl, rfl⟩
  go_wp2_with fail
  refine (need_no 1 _).mono ?_; rintro e v ⟨rfl, rfl⟩
  refine (show bodyPost _ _ _ (Exit.panic _) _ _ from ?_); simp only [bodyPost]
  exact ⟨trivial, B1.out, .inr ⟨by decide, by first | rfl | trivial⟩⟩
 obtain rfl : F = (n, 0) := by rw [HF.out]; unfold Er.amF; rw [if_neg (by omega)]
 rw [show (decide (-b ≤ n) && decide (n ≤ b)) = true by rw [← Bool.decide_and]; exact decide_eq_true hi] at IN
 clear hi
 go_wp2_with fail
 refine (IN.out _).mono ?_; rintro e v ⟨rfl, rfl⟩
 go_wp2_with fail
 refine (need_yes 1 _).mono ?_; rintro e v ⟨rfl, rfl⟩
 go_wp2_with fail
 go_ret
 exact ⟨B1.out, by first | rfl | exact .inl ⟨rfl, rfl⟩⟩
set_option maxHeartbeats 2000000 in
set_option maxRecDepth 100000 in
theorem eryr_any (s : ByteArray) (w : World) (hs : s.size ≤ 600) (tp : TypeId) (p : Value) (hv : w.var? Tryz.prog "strconv.ErrRange" = some #[.iface tp p]) :
  Calls Tryz.prog 161 #[.string s] w fun e w' => Below w.heap.size w w' ∧ (((Er.yr s.data.toList).2 = 0 ∧ e = .returned (.int .i64 (Er.yr s.data.toList).1)) ∨ ((Er.yr s.data.toList).2 ≠ 0 ∧ e = .panicked (gvP (Er.yr s.data.toList).2))) := by
 have AR := Lib.hid (read_any s w (by omega) tp p hv)
 clear hs hv
 unfold Er.yr
 generalize (Num.rd s.data.toList).1 = n at *
 generalize (Num.rd s.data.toList).2 = q at *
 obtain ⟨F, hF⟩ : ∃ F : Int × Int, F = Er.yrF n q := ⟨_, rfl⟩
 rw [← hF]
 have HF := Lib.hid hF; clear hF
 have IN := Lib.hid (fun W => eryear_any n W)
 go_enter Tryz.func161, Tryz.ntmps161
 go_wp2_with fail
 refine AR.out.mono ?_; rintro e w1 ⟨rfl, k1⟩
 have B1 := Lib.hid k1; clear k1
 by_cases hq : q = 0
 case neg =>
  obtain rfl : F = (n, q) := by rw [HF.out]; unfold Er.yrF; rw [if_neg (by omega)]
  go_wp2_with fail
  refine (must_no _ _ _ hq).mono ?_; rintro e v ⟨rfl, rfl⟩
  refine (show bodyPost _ _ _ (Exit.panic _) _ _ from ?_); simp only [bodyPost]
  exact ⟨trivial, B1.out, .inr ⟨hq, by first | rfl | trivial⟩⟩
 subst hq
 go_wp2_with fail
 refine (must_yes _ _).mono ?_; rintro e v ⟨rfl, rfl⟩
 by_cases hi : -32767 < n ∧ n < 32767
 case neg =>
  obtain rfl : F = (0, 1) := by rw [HF.out]; unfold Er.yrF; rw [if_pos (by omega)]
  rw [show (decide (-32767 < n) && decide (n < 32767)) = false by rw [← Bool.decide_and]; exact decide_eq_false hi] at IN
  go_wp2_with fail
  refine (IN.out _).mono ?_; rintro e v ⟨rfl, rfl⟩
  go_wp2_with fail
  refine (need_no 1 _).mono ?_; rintro e v ⟨rfl, rfl⟩
  refine (show bodyPost _ _ _ (Exit.panic _) _ _ from ?_); simp only [bodyPost]
  exact ⟨trivial, B1.out, .inr ⟨by decide, by first | rfl | trivial⟩⟩
 obtain rfl : F = (n, 0) := by rw [HF.out]; unfold Er.yrF; rw [if_neg (by omega)]
 rw [show (decide (-32767 < n) && decide (n < 32767)) = true by rw [← Bool.decide_and]; exact decide_eq_true hi] at IN
 clear hi
 go_wp2_with fail
 refine (IN.out _).mono ?_; rintro e v ⟨rfl, rfl⟩
 go_wp2_with fail
 refine (need_yes 1 _).mono ?_; rintro e v ⟨rfl, rfl⟩
 go_wp2_with fail
 go_ret
 exact ⟨B1.out, by first | rfl | exact .inl ⟨rfl, rfl⟩⟩
set_option maxHeartbeats 2000000 in
set_option maxRecDepth 100000 in
theorem erisa_any (s : ByteArray) (w : World) (hs : s.size ≤ 600) :
  Calls Tryz.prog 114 #[.string s] w fun e w' => e = .returned (.bool (Er.isA s.data.toList)) ∧ Below w.heap.size w w' := by
 have TP := Lib.hid (fun W => Any.strings_TrimPrefix Tryz.lays101 s ⟨#[45]⟩ W)
 have e := Er.isA_ix s.data.toList
 obtain ⟨T, hT⟩ : ∃ T : ByteArray, T = ⟨(Lib.trimPrefix s.data.toList [45]).toArray⟩ := ⟨_, rfl⟩
 have hTl : T.data.toList = Lib.trimPrefix s.data.toList [45] := by rw [hT]
 have hTs : T.size ≤ 600 := by
  rw [hT]
  show (Lib.trimPrefix s.data.toList [45]).toArray.size ≤ 600
  rw [List.size_toArray]
  have := ab_trim s.data.toList [45]
  have := ab_len s
  omega
 have C : Hid (∀ W, Calls Tryz.prog 158 #[.string T, .string ⟨#[48, 49, 50, 51, 52, 53, 54, 55, 56, 57]⟩] W fun e w' => e = .returned (.int .i64 (Lib.indexAny T.data.toList [48, 49, 50, 51, 52, 53, 54, 55, 56, 57])) ∧ Below W.heap.size W w') := fun W => ixany T ⟨#[48, 49, 50, 51, 52, 53, 54, 55, 56, 57]⟩ W (by decide) (by omega) (by decide) (by decide)
 rw [hTl] at C
 rw [e]
 have TP2 : Hid (∀ W, Calls Tryz.prog 159 #[.string s, .string ⟨#[45]⟩] W fun e w' => e = .returned (.string T) ∧ W = w') := fun W => (TP.out W).mono fun _ _ ⟨a, b⟩ => ⟨by rw [hT]; exact a, b.symm⟩
 generalize Lib.indexAny (Lib.trimPrefix s.data.toList [45]) [48, 49, 50, 51, 52, 53, 54, 55, 56, 57] = j at *
 clear e hT hTl hTs TP hs
 go_enter Tryz.func114, Tryz.ntmps114
 go_wp2_with fail
 refine (TP2.out _).mono ?_; rintro e v1 ⟨rfl, rfl⟩
 go_wp2_with fail
 refine (C.out _).mono ?_; rintro e w1 ⟨rfl, b1⟩
 have d1 : Below w.heap.size w w1 := below_step gr0 b1
 have B1 := Lib.hid d1
 clear b1 d1
 go_wp2_with fail
 go_ret
 exact ⟨rfl, (grB B1)⟩
end Go.Proofs.YtpggfhmnhbnefaaGreatDoor
set_option linter.unusedVariables false
set_option linter.unusedSimpArgs false
namespace Go.Proofs.YtpggfhmnhbnefaaGreatDoor
open Go.RowKit
structure Bk11 (W : World) (b : Nat) (v0 v1 v2 v3 v4 v5 v6 v7 v8 v9 v10 : Value) : Prop where
 hb : b < W.heap.size
 fz : ∀ j, W.frozen? ⟨b, j, none⟩ = false
 k0 : W.cell? ⟨b, 0, none⟩ = some v0
 k1 : W.cell? ⟨b, 1, none⟩ = some v1
 k2 : W.cell? ⟨b, 2, none⟩ = some v2
 k3 : W.cell? ⟨b, 3, none⟩ = some v3
 k4 : W.cell? ⟨b, 4, none⟩ = some v4
 k5 : W.cell? ⟨b, 5, none⟩ = some v5
 k6 : W.cell? ⟨b, 6, none⟩ = some v6
 k7 : W.cell? ⟨b, 7, none⟩ = some v7
 k8 : W.cell? ⟨b, 8, none⟩ = some v8
 k9 : W.cell? ⟨b, 9, none⟩ = some v9
 k10 : W.cell? ⟨b, 10, none⟩ = some v10
theorem Bk11.of {W w1 : World} {b : Nat} {v0 v1 v2 v3 v4 v5 v6 v7 v8 v9 v10 : Value} (k : Below W.heap.size W w1) (hb : b < W.heap.size) (hf : ∀ j, W.frozen? ⟨b, j, none⟩ = false) (h0 : W.cell? ⟨b, 0, none⟩ = some v0) (h1 : W.cell? ⟨b, 1, none⟩ = some v1) (h2 : W.cell? ⟨b, 2, none⟩ = some v2) (h3 : W.cell? ⟨b, 3, none⟩ = some v3) (h4 : W.cell? ⟨b, 4, none⟩ = some v4) (h5 : W.cell? ⟨b, 5, none⟩ = some v5) (h6 : W.cell? ⟨b, 6, none⟩ = some v6) (h7 : W.cell? ⟨b, 7, none⟩ = some v7) (h8 : W.cell? ⟨b, 8, none⟩ = some v8) (h9 : W.cell? ⟨b, 9, none⟩ = some v9) (h10 : W.cell? ⟨b, 10, none⟩ = some v10) : Bk11 w1 b v0 v1 v2 v3 v4 v5 v6 v7 v8 v9 v10 :=
 ⟨Nat.lt_of_lt_of_le hb k.size, fun j => (k.frozen (p := ⟨b, j, none⟩) hb).trans (hf j), (k.cell (p := ⟨b, 0, none⟩) hb).trans h0, (k.cell (p := ⟨b, 1, none⟩) hb).trans h1, (k.cell (p := ⟨b, 2, none⟩) hb).trans h2, (k.cell (p := ⟨b, 3, none⟩) hb).trans h3, (k.cell (p := ⟨b, 4, none⟩) hb).trans h4, (k.cell (p := ⟨b, 5, none⟩) hb).trans h5, (k.cell (p := ⟨b, 6, none⟩) hb).trans h6, (k.cell (p := ⟨b, 7, none⟩) hb).trans h7, (k.cell (p := ⟨b, 8, none⟩) hb).trans h8, (k.cell (p := ⟨b, 9, none⟩) hb).trans h9, (k.cell (p := ⟨b, 10, none⟩) hb).trans h10⟩
theorem Bk11.keep {W w1 : World} {b : Nat} {v0 v1 v2 v3 v4 v5 v6 v7 v8 v9 v10 : Value} (h : Bk11 W b v0 v1 v2 v3 v4 v5 v6 v7 v8 v9 v10) (k : Below W.heap.size W w1) : Bk11 w1 b v0 v1 v2 v3 v4 v5 v6 v7 v8 v9 v10 :=
 Bk11.of k h.hb h.fz h.k0 h.k1 h.k2 h.k3 h.k4 h.k5 h.k6 h.k7 h.k8 h.k9 h.k10
namespace Fo
def lt (l : List UInt8) : List UInt8 × Int := if l = [45] then ([], 0) else if 6 < l.length then ([], 9) else if made [43, 45] l = false then ([], 4) else (l, 0)
def ltx (l : List UInt8) : List UInt8 × Int := if l = [] then ([45], 0) else if (lt l).2 ≠ 0 ∨ (lt l).1 ≠ l then ([], 4) else (l, 0)
def td (n : Int) : List UInt8 := Lib.itoa (n / 10) ++ Lib.itoa (n % 10)
def dfa (a : Int) : List UInt8 := td (a / 3600) ++ ((if a % 3600 = 0 then [] else td (a / 60 % 60)) ++ (if a % 60 = 0 then [] else td (a % 60)))
def df (off : Int) : List UInt8 := if off < 0 then 45 :: dfa (-off) else 43 :: dfa off
end Fo
theorem bz_ne {s : ByteArray} {l : List UInt8} (h : s.data.toList ≠ l) : ¬ s.toList = l := by rw [ByteArray.toList_eq]; exact h
theorem bz_eq {s : ByteArray} {l : List UInt8} (h : s.data.toList = l) : s = ⟨l.toArray⟩ := by apply ByteArray.ext; apply Array.toList_inj.1; rw [h]
end Go.Proofs.YtpggfhmnhbnefaaGreatDoor
set_option linter.unusedVariables false
set_option linter.unusedSimpArgs false
namespace Go.Proofs.YtpggfhmnhbnefaaGreatDoor
open Go.RowKit Go.Sort
namespace Ru
def rB (s t : ByteArray) (fy ty m k wk d sec base save : Int) : Bool := Lk.nm s.data.toList == 0 && (decide (-32767 ≤ fy) && (decide (fy ≤ ty) && (decide (ty ≤ 32767) && (Dr.onF k wk d m && (Cl.rB sec base && (decide (-10800 ≤ save) && (decide (save ≤ 10800) && (Fo.ltx t.data.toList).2 == 0)))))))
end Ru
end Go.Proofs.YtpggfhmnhbnefaaGreatDoor
set_option linter.unusedVariables false
set_option linter.unusedSimpArgs false
namespace Go.Proofs.YtpggfhmnhbnefaaGreatDoor.Wd
open Go
def sm (b : UInt8) : Int := if 65 ≤ (b.toNat : Int) ∧ (b.toNat : Int) ≤ 90 then (b.toNat : Int) + 32 else b.toNat
def beg : List UInt8 → List UInt8 → Bool
 | _, [] => true
 | [], _ :: _ => false
 | w :: ws, s :: ss => decide (sm w = sm s) && beg ws ss
def same (a b : List UInt8) : Bool := decide (a.length = b.length) && beg a b
theorem beg_short : ∀ {a b : List UInt8}, a.length < b.length → beg a b = false := by
 intro a
 induction a with
 | nil => intro b h; cases b with
  | nil => simp at h
  | cons x b => rfl
 | cons w a ih => intro b h; cases b with
  | nil => simp at h
  | cons x b => simp only [beg, ih (by simpa using h), Bool.and_false]
theorem beg_iff : ∀ {a b : List UInt8}, beg a b = true ↔ b.length ≤ a.length ∧ ∀ i (h1 : i < a.length) (h2 : i < b.length), sm a[i] = sm b[i] := by
 intro a
 induction a with
 | nil => intro b; cases b with
  | nil => simp [beg]
  | cons x b => simp [beg]
 | cons w a ih => intro b; cases b with
  | nil => simp [beg]
  | cons x b =>
   simp only [beg, Bool.and_eq_true, decide_eq_true_eq, ih, List.length_cons]
   constructor
   ·
    rintro ⟨h, hl, hi⟩
    refine ⟨by omega, ?_⟩
    intro i h1 h2
    cases i with
    | zero => exact h
    | succ i => exact hi i (by omega) (by omega)
   ·
    rintro ⟨hl, hi⟩
    exact ⟨hi 0 (by omega) (by omega), by omega, fun i h1 h2 => hi (i + 1) (by omega) (by omega)⟩
theorem beg_no {a b : List UInt8} {i : Nat} (h1 : i < a.length) (h2 : i < b.length) (h : sm a[i] ≠ sm b[i]) : beg a b = false := by
 cases hb : beg a b
 ·
  rfl
 ·
  exact absurd ((beg_iff.1 hb).2 i h1 h2) h
theorem beg_yes {a b : List UInt8} (hl : b.length ≤ a.length) (h : ∀ i (h1 : i < a.length) (h2 : i < b.length), sm a[i] = sm b[i]) : beg a b = true := beg_iff.2 ⟨hl, h⟩
theorem same_iff {a b : List UInt8} : same a b = true ↔ a.length = b.length ∧ ∀ i (h1 : i < a.length) (h2 : i < b.length), sm a[i] = sm b[i] := by
 unfold same
 rw [Bool.and_eq_true, decide_eq_true_eq, beg_iff]
 constructor
 ·
  rintro ⟨h, -, hi⟩; exact ⟨h, hi⟩
 ·
  rintro ⟨h, hi⟩; exact ⟨h, by omega, hi⟩
theorem same_comm (a b : List UInt8) : same a b = same b a := by
 rw [Bool.eq_iff_iff, same_iff, same_iff]
 constructor <;> rintro ⟨h, hi⟩ <;> exact ⟨h.symm, fun i h1 h2 => (hi i h2 h1).symm⟩
def exact : List (List UInt8) → Nat → List UInt8 → Option Nat
 | [], _, _ => none
 | w :: ws, i, s => if same w s then some i else exact ws (i + 1) s
def first : List (List UInt8) → Nat → List UInt8 → Option Nat
 | [], _, _ => none
 | w :: ws, i, s => if beg w s then some i else first ws (i + 1) s
def mt (s : List UInt8) (ws : List (List UInt8)) : Option Nat :=
 if s = [] then none else
 match exact ws 0 s with
 | some i => some i
 | none => match first ws 0 s with
  | none => none
  | some i => if ws.all (fun w => !beg w s || same (ws.getD i []) w) then some i else none
end Go.Proofs.YtpggfhmnhbnefaaGreatDoor.Wd
set_option linter.unusedVariables false
set_option linter.unusedSimpArgs false
namespace Go.Proofs.YtpggfhmnhbnefaaGreatDoor
open Go.RowKit
theorem blen (a : ByteArray) : a.data.toList.length = a.size := Array.length_toList
theorem bget {a : ByteArray} {k : Nat} (h : k < a.size) : a.data.toList[k]'(by rw [blen]; exact h) = a[k] := rfl
set_option maxHeartbeats 1000000 in
theorem small_any (b : UInt8) (w : World) : Calls Tryz.prog 198 #[.int .u8 b.toNat] w fun e w' => e = .returned (.int .u8 (Wd.sm b)) ∧ w = w' := by
 have hb := b.toNat_lt
 obtain ⟨n, hn⟩ : ∃ n : Int, n = b.toNat := ⟨_, rfl⟩
 have E : Wd.sm b = if 65 ≤ n ∧ n ≤ 90 then n + 32 else n := by unfold Wd.sm; rw [hn]
 rw [E, ← hn]
 have n0 : 0 ≤ n := by omega
 have n1 : n < 256 := by omega
 clear E hn hb
 by_cases c1 : 65 ≤ n
 ·
  by_cases c2 : n ≤ 90
  ·
   rw [if_pos ⟨c1, c2⟩]
   go_enter Tryz.func198, Tryz.ntmps198
   go_wp2
   go_ret
   exact ⟨by first | rfl | (show Ending.returned (.int .u8 (n - 65 + 97)) = _; rw [show n - 65 + 97 = n + 32 by omega]), rfl⟩
  ·
   rw [if_neg (fun h => c2 h.2)]
   have g : decide (n ≤ 90) = false := decide_eq_false c2
   go_enter Tryz.func198, Tryz.ntmps198
   go_wp2
   go_ret
   exact ⟨rfl, rfl⟩
 ·
  rw [if_neg (fun h => c1 h.1)]
  have g : decide (65 ≤ n) = false := decide_eq_false c1
  go_enter Tryz.func198, Tryz.ntmps198
  go_wp2
  go_ret
  exact ⟨rfl, rfl⟩
set_option maxHeartbeats 2000000 in
set_option maxRecDepth 100000 in
theorem begins_any (a b : ByteArray) (w : World) (ha : a.size ≤ maxLen) (hb : b.size ≤ maxLen) :
  Calls Tryz.prog 170 #[.string a, .string b] w fun e w' => e = .returned (.bool (Wd.beg a.data.toList b.data.toList)) ∧ ∃ k, w' = w.drewN k := by
 unfold maxLen at ha hb
 by_cases hs : (a.size : Int) < (b.size : Int)
 ·
  rw [Wd.beg_short (by rw [blen, blen]; omega)]
  go_enter Tryz.func170, Tryz.ntmps170
  go_wp2
  go_ret
  exact ⟨rfl, 0, rfl⟩
 ·
  obtain ⟨ans, hans⟩ : ∃ ans, ans = Wd.beg a.data.toList b.data.toList := ⟨_, rfl⟩
  rw [← hans]
  have HA := Lib.hid hans; clear hans
  go_enter Tryz.func170, Tryz.ntmps170
  go_wp2_with fail
  go_loopw [13] (fun i wr => ∃ k j : Nat, k ≤ b.size ∧ i = .int .i64 k ∧ (∀ i (h1 : i < a.data.toList.length) (h2 : i < b.data.toList.length), i < k → Wd.sm a.data.toList[i] = Wd.sm b.data.toList[i]) ∧ wr = w.drewN j) (fun i _ => b.size - (intOf i).toNat)
  case atStart => exact ⟨0, 0, Nat.zero_le _, rfl, fun i _ _ h => absurd h (Nat.not_lt_zero _), rfl⟩
  case round =>
   obtain ⟨k, j, hk, rfl, hall, hw⟩ := hrel
   have HL := Lib.hid hall; have HW := Lib.hid hw; clear hall hw
   by_cases hlt : k < b.size
   ·
    have hlta : k < a.size := by omega
    by_cases he : Wd.sm a[k] = Wd.sm b[k]
    ·
     have HE := Lib.hid he
     have g : (Wd.sm a[k] == Wd.sm b[k]) = true := by rw [beq_iff_eq]; exact he
     clear he
     go_wp2_with fail
     go_quiet ((go_at_call 198; exact Calls.quiet_of_same ((small_any _ _).mono fun _ _ ⟨h1, h2⟩ => ⟨h1, h2.symm⟩)))
     go_wp2_with fail
     go_roundw
     case rel =>
      refine ⟨k + 1, _, by omega, by go_num, ?_, by rw [HW.out, World.drewN_drewN]⟩
      intro i h1 h2 h3
      by_cases hik : i = k
      ·
       subst hik; exact HE.out
      ·
       exact HL.out i h1 h2 (by omega)
     case measure => simp [intOf]; omega
    ·
     have g : (Wd.sm a[k] == Wd.sm b[k]) = false := by rw [beq_eq_false_iff_ne]; exact he
     have hno : ans = false := by
      rw [HA.out]
      exact Wd.beg_no (i := k) (by rw [blen]; exact hlta) (by rw [blen]; exact hlt) (by rw [bget hlta, bget hlt]; exact he)
     have HN := Lib.hid hno
     clear hno he
     go_wp2_with fail
     go_quiet ((go_at_call 198; exact Calls.quiet_of_same ((small_any _ _).mono fun _ _ ⟨h1, h2⟩ => ⟨h1, h2.symm⟩)))
     go_wp2_with fail
     go_ret
     exact ⟨by rw [HN.out]; rfl, _, by rw [HW.out, World.drewN_drewN]⟩
   ·
    have hyes : ans = true := by
     rw [HA.out]
     exact Wd.beg_yes (by rw [blen, blen]; omega) (fun i h1 h2 => HL.out i h1 h2 (by rw [blen] at h2; omega))
    have HY := Lib.hid hyes; clear hyes
    go_wp2_with fail
    go_ret
    exact ⟨by rw [HY.out]; rfl, _, HW.out⟩
set_option maxHeartbeats 1000000 in
theorem wsame_any (a b : ByteArray) (w : World) (ha : a.size ≤ maxLen) (hb : b.size ≤ maxLen) :
  Calls Tryz.prog 169 #[.string a, .string b] w fun e w' => e = .returned (.bool (Wd.same a.data.toList b.data.toList)) ∧ ∃ k, w' = w.drewN k := by
 have C := Lib.hid (fun w => begins_any a b w ha hb)
 have E := Lib.hid (show Wd.same a.data.toList b.data.toList = (decide (a.size = b.size) && Wd.beg a.data.toList b.data.toList) by unfold Wd.same; rw [blen, blen])
 generalize Wd.same a.data.toList b.data.toList = ans at E
 generalize Wd.beg a.data.toList b.data.toList = bg at C E
 by_cases hs : a.size = b.size
 ·
  have g : ((a.size : Int) == (b.size : Int)) = true := by rw [beq_iff_eq]; omega
  have E2 := Lib.hid (show ans = bg by rw [E.out, hs]; simp)
  clear E hs
  go_enter Tryz.func169, Tryz.ntmps169
  go_wp2_with fail
  refine (C.out _).mono ?_; rintro e w1 ⟨rfl, k, rfl⟩
  go_wp2_with fail
  go_ret
  exact ⟨by rw [E2.out]; rfl, k, rfl⟩
 ·
  have g : ((a.size : Int) == (b.size : Int)) = false := by rw [beq_eq_false_iff_ne]; omega
  have E2 := Lib.hid (show ans = false by rw [E.out, decide_eq_false hs]; rfl)
  clear E hs
  go_enter Tryz.func169, Tryz.ntmps169
  go_wp2_with fail
  go_ret
  exact ⟨by rw [E2.out]; rfl, 0, rfl⟩
end Go.Proofs.YtpggfhmnhbnefaaGreatDoor
set_option linter.unusedVariables false
set_option linter.unusedSimpArgs false
namespace Go.Proofs.YtpggfhmnhbnefaaGreatDoor
open Go.RowKit Go.Sort
namespace Wd
def run (s : List UInt8) (all : List ByteArray) : List ByteArray → Nat → Int → Bool → Int × Int
 | [], _, f, sv => if f < 0 ∨ sv = true then (0, 3) else (f, 0)
 | x :: r, i, f, sv => if same x.data.toList s = true then ((i : Int), 0) else if beg x.data.toList s = false then run s all r (i + 1) f sv else if f < 0 then run s all r (i + 1) (i : Int) sv
  else if same x.data.toList (all.getD f.toNat ByteArray.empty).data.toList = true then run s all r (i + 1) f sv else run s all r (i + 1) f true
def mat (s : List UInt8) (all : List ByteArray) : Int × Int := if s = [] then (0, 3) else run s all all 0 (-1) false
theorem run_nil {s : List UInt8} {all : List ByteArray} {k : Nat} {f : Int} {sv : Bool} : run s all [] k f sv = if f < 0 ∨ sv = true then (0, 3) else (f, 0) := rfl
theorem run_step {s : List UInt8} {all : List ByteArray} {k : Nat} {f : Int} {sv : Bool} (h : k < all.length) : run s all (all.drop k) k f sv =
  if same all[k].data.toList s = true then ((k : Int), 0) else if beg all[k].data.toList s = false then run s all (all.drop (k + 1)) (k + 1) f sv else if f < 0 then run s all (all.drop (k + 1)) (k + 1) (k : Int) sv
  else if same all[k].data.toList (all.getD f.toNat ByteArray.empty).data.toList = true then run s all (all.drop (k + 1)) (k + 1) f sv else run s all (all.drop (k + 1)) (k + 1) f true := by
 rw [List.drop_eq_getElem_cons h]
 rfl
end Wd
theorem wdne {ds : ByteArray} (h : 0 < ds.size) : ds.toList.isEmpty = false ∧ ¬ ds.toList = [] := by
 have : ds.toList ≠ [] := by
  intro e
  have hl := blen ds
  rw [← ByteArray.toList_eq] at hl
  rw [e] at hl; simp at hl; omega
 exact ⟨by simpa using this, this⟩
theorem s_nil {s : ByteArray} (h : s.size = 0) : s = ByteArray.empty := by
 apply ByteArray.ext
 have : s.data.size = 0 := h
 exact Array.size_eq_zero_iff.1 this
set_option maxHeartbeats 4000000 in
set_option maxRecDepth 100000 in
theorem match_any (s : ByteArray) (v : Value) (l : List ByteArray) (w : World) (hv : StS w v l) (hs : s.size ≤ maxLen) (hz : ∀ x ∈ l, x.size ≤ maxLen) (hm : l.length ≤ maxLen) :
  Calls Tryz.prog 133 #[.string s, v] w fun e w' => e = .returned (.tuple #[.int .i64 (Wd.mat s.data.toList l).1, .int .i64 (Wd.mat s.data.toList l).2]) ∧ ∃ k, w' = w.drewN k := by
 unfold maxLen at hm
 have HS := Lib.hid hs; clear hs
 by_cases h0 : s.size = 0
 ·
  rw [show Wd.mat s.data.toList l = (0, 3) by unfold Wd.mat; rw [if_pos (by rw [← List.length_eq_zero_iff, blen]; exact h0)]]
  obtain rfl := s_nil h0
  obtain ⟨A, c, rfl, -⟩ := hv
  go_enter Tryz.func133, Tryz.ntmps133
  go_wp2
  go_ret2
  exact ⟨rfl, 0, rfl⟩
 ·
  obtain ⟨t1, t2⟩ := wdne (ds := s) (by omega)
  obtain ⟨ans, hans⟩ : ∃ ans, ans = Wd.mat s.data.toList l := ⟨_, rfl⟩
  rw [← hans]
  have HA := Lib.hid (show Wd.run s.data.toList l (l.drop 0) 0 (-1) false = ans by rw [hans]; unfold Wd.mat; rw [if_neg (by rw [← List.length_eq_zero_iff, blen]; exact h0)]; rfl)
  have HV := Lib.hid hv
  obtain ⟨A, c, rfl, -⟩ := hv
  generalize hn : l.length = n at *
  have HN := Lib.hid hn
  have HZ := Lib.hid hz
  clear hn hz hans h0
  go_enter Tryz.func133, Tryz.ntmps133
  go_wp2_with fail
  go_loopw [6, 7, 14] (fun fv sv i wr => ∃ (k j : Nat) (f : Int) (b : Bool), k ≤ n ∧ i = .int .i64 k ∧ fv = .int .i64 f ∧ sv = .bool b ∧ -1 ≤ f ∧ f < n ∧ Wd.run s.data.toList l (l.drop k) k f b = ans ∧ wr = w.drewN j) (fun _ _ i _ => n - (intOf i).toNat)
  case atStart => exact ⟨0, 0, -1, false, Nat.zero_le _, rfl, rfl, rfl, by omega, by omega, HA.out, rfl⟩
  case round =>
   obtain ⟨k, j, f, b, hk, rfl, rfl, rfl, f0, f1, hr, rfl⟩ := hrel
   have HR := Lib.hid hr; clear hr
   by_cases hlt : k < n
   ·
    obtain ⟨a, rfl, g1⟩ := HV.out.get k (by rw [HN.out]; exact hlt)
    have CS := Lib.hid (fun W => wsame_any (l[k]'(by rw [HN.out]; exact hlt)) s W (HZ.out _ (List.getElem_mem _)) HS.out)
    have CB := Lib.hid (fun W => begins_any (l[k]'(by rw [HN.out]; exact hlt)) s W (HZ.out _ (List.getElem_mem _)) HS.out)
    have ST := Lib.hid (Wd.run_step (s := s.data.toList) (all := l) (k := k) (f := f) (sv := b) (by rw [HN.out]; exact hlt))
    have KL : Hid (k < l.length) := by rw [HN.out]; exact hlt
    generalize hx : (l[k]'(by rw [HN.out]; exact hlt)) = x at *
    cases c1 : Wd.same x.data.toList s.data.toList
    ·
     have C1 := Lib.hid c1
     cases c2 : Wd.beg x.data.toList s.data.toList
     ·
      have C2 := Lib.hid c2
      have HE := Lib.hid (show Wd.run s.data.toList l (l.drop (k + 1)) (k + 1) f b = ans by rw [← HR.out, ST.out, c1, c2]; simp)
      clear c1 c2
      go_wp2_with fail
      refine (CS.out _).mono ?_; rintro e w1 ⟨rfl, j1, rfl⟩
      rw [C1.out]
      go_wp2_with fail
      refine (CB.out _).mono ?_; rintro e w2 ⟨rfl, j2, rfl⟩
      rw [C2.out]
      go_wp2_with fail
      go_roundw
      case rel => exact ⟨k + 1, _, f, b, by omega, by go_num, rfl, rfl, by omega, by omega, HE.out, by first | rfl | simp only [World.drewN_drewN]⟩
      case measure => simp [intOf]; omega
     ·
      have C2 := Lib.hid c2
      by_cases c3 : f < 0
      ·
       have HE := Lib.hid (show Wd.run s.data.toList l (l.drop (k + 1)) (k + 1) (k : Int) b = ans by rw [← HR.out, ST.out, c1, c2]; simp [c3])
       clear c1 c2
       go_wp2_with fail
       refine (CS.out _).mono ?_; rintro e w1 ⟨rfl, j1, rfl⟩
       rw [C1.out]
       go_wp2_with fail
       refine (CB.out _).mono ?_; rintro e w2 ⟨rfl, j2, rfl⟩
       rw [C2.out]
       go_wp2_with fail
       go_roundw
       case rel => exact ⟨k + 1, _, (k : Int), b, by omega, by go_num, rfl, rfl, by omega, by omega, HE.out, by first | rfl | simp only [World.drewN_drewN]⟩
       case measure => simp [intOf]; omega
      ·
       have f2 : 0 ≤ f := by omega
       have hfl : f.toNat < l.length := by rw [HN.out]; omega
       obtain ⟨a', ha', g2⟩ := HV.out.get f.toNat hfl
       obtain rfl : a = a' := by injection ha'
       have CY := Lib.hid (fun W => wsame_any x (l[f.toNat]'hfl) W (by rw [← hx]; exact HZ.out _ (List.getElem_mem _)) (HZ.out _ (List.getElem_mem _)))
       have GD := Lib.hid (show l.getD f.toNat ByteArray.empty = l[f.toNat]'hfl by simp [List.getD, List.getElem?_eq_getElem hfl])
       generalize hy : l[f.toNat]'hfl = y at *
       cases c4 : Wd.same x.data.toList y.data.toList
       ·
        have C4 := Lib.hid c4
        have HE := Lib.hid (show Wd.run s.data.toList l (l.drop (k + 1)) (k + 1) f true = ans by rw [← HR.out, ST.out, c1, c2, GD.out, c4]; simp [c3])
        clear c1 c2 c4
        go_wp2_with fail
        refine (CS.out _).mono ?_; rintro e w1 ⟨rfl, j1, rfl⟩
        rw [C1.out]
        go_wp2_with fail
        refine (CB.out _).mono ?_; rintro e w2 ⟨rfl, j2, rfl⟩
        rw [C2.out]
        go_wp2_with fail
        refine (CY.out _).mono ?_; rintro e w3 ⟨rfl, j3, rfl⟩
        rw [C4.out]
        go_wp2_with fail
        go_roundw
        case rel => exact ⟨k + 1, _, f, true, by omega, by go_num, rfl, rfl, by omega, by omega, HE.out, by first | rfl | simp only [World.drewN_drewN]⟩
        case measure => simp [intOf]; omega
       ·
        have C4 := Lib.hid c4
        have HE := Lib.hid (show Wd.run s.data.toList l (l.drop (k + 1)) (k + 1) f b = ans by rw [← HR.out, ST.out, c1, c2, GD.out, c4]; simp [c3])
        clear c1 c2 c4
        go_wp2_with fail
        refine (CS.out _).mono ?_; rintro e w1 ⟨rfl, j1, rfl⟩
        rw [C1.out]
        go_wp2_with fail
        refine (CB.out _).mono ?_; rintro e w2 ⟨rfl, j2, rfl⟩
        rw [C2.out]
        go_wp2_with fail
        refine (CY.out _).mono ?_; rintro e w3 ⟨rfl, j3, rfl⟩
        rw [C4.out]
        go_wp2_with fail
        go_roundw
        case rel => exact ⟨k + 1, _, f, b, by omega, by go_num, rfl, rfl, by omega, by omega, HE.out, by first | rfl | simp only [World.drewN_drewN]⟩
        case measure => simp [intOf]; omega
    ·
     have C1 := Lib.hid c1
     have HE := Lib.hid (show ans = ((k : Int), 0) by rw [← HR.out, ST.out, c1]; simp)
     clear c1
     go_wp2_with fail
     refine (CS.out _).mono ?_; rintro e w1 ⟨rfl, j1, rfl⟩
     rw [C1.out]
     go_wp2_with fail
     go_ret2
     exact ⟨by rw [HE.out]; rfl, _, by first | rfl | simp only [World.drewN_drewN]⟩
   ·
    have HE := Lib.hid (show ans = if f < 0 ∨ b = true then (0, 3) else (f, 0) by rw [← HR.out, List.drop_of_length_le (by rw [HN.out]; omega)]; rfl)
    by_cases c3 : f < 0
    ·
     have HE2 := Lib.hid (show ans = (0, 3) by rw [HE.out]; simp [c3])
     clear HE
     go_wp2_with fail
     go_ret2
     exact ⟨by rw [HE2.out]; rfl, _, rfl⟩
    ·
     cases b
     ·
      have HE2 := Lib.hid (show ans = (f, 0) by rw [HE.out]; simp [c3])
      clear HE
      go_wp2_with fail
      go_ret2
      exact ⟨by rw [HE2.out]; rfl, _, rfl⟩
     ·
      have HE2 := Lib.hid (show ans = (0, 3) by rw [HE.out]; simp)
      clear HE
      go_wp2_with fail
      go_ret2
      exact ⟨by rw [HE2.out]; rfl, _, rfl⟩
end Go.Proofs.YtpggfhmnhbnefaaGreatDoor
