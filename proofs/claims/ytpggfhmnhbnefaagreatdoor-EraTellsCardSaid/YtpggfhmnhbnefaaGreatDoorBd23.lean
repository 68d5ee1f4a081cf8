/- Joined: RkA, RuB, WdRe, WdRd, DsG. -/
import Derived.Test.YtpggfhmnhbnefaaGreatDoorBd01
import Derived.Test.YtpggfhmnhbnefaaGreatDoorBd16
import Derived.Test.YtpggfhmnhbnefaaGreatDoorBd22
import Derived.Test.YtpggfhmnhbnefaaGreatDoorBd08
import Derived.Test.YtpggfhmnhbnefaaGreatDoorBd20
import Derived.Test.YtpggfhmnhbnefaaGreatDoorBd09
import Derived.Test.YtpggfhmnhbnefaaGreatDoorBd11
set_option linter.unusedVariables false
set_option linter.unusedSimpArgs false
namespace Go.Proofs.YtpggfhmnhbnefaaGreatDoor
open Go.RowKit Go.Sort
namespace Cl
def fin (n q b : Int) : Int × Int × Int := if q ≠ 0 then (0, 0, q) else if rB n b = false then (0, 0, 1) else (n, b, 0)
theorem rd_fin (s : ByteArray) : rd s = fin (Am.rd (cutL s).1).1 (Am.rd (cutL s).1).2 (cutL s).2 := rfl
theorem rB_le (n b : Int) : rB n b = (decide (0 ≤ n) && (decide (n ≤ 172800) && (decide (0 ≤ b) && decide (b ≤ 2)))) := by
 unfold rB; rw [show decide (b < 3) = decide (b ≤ 2) from decide_eq_decide.2 (by omega)]
end Cl
theorem cut_hi2 (s c : ByteArray) (w : World) (h0 : 0 ≤ (s.size : Int) - 1) (h : s.extract 0 (s.size - 1) = c) : Sem.run Tryz.prog (Instr.slice 9 (.string s) none (some (.int .i64 ((s.size : Int) - 1))) none) w = .ok (.string c) w := by
 have h1 : (s.size : Int) - 1 ≤ (s.size : Int) := by omega
 rw [run_slice_string_h w 9 s Tryz.underlying9 .i64 _ h0 h1]
 have e : ((s.size : Int) - 1).toNat = s.size - 1 := by omega
 rw [e, h]
theorem kright_any (n b : Int) (w : World) : Calls Tryz.prog 57 #[.agg #[.int .i64 n, .int .i64 b]] w fun e w' => e = .returned (.bool (Cl.rB n b)) ∧ Below w.heap.size w w' := by
 rw [Cl.rB_le]
 by_cases c1 : 0 ≤ n
 ·
  by_cases c2 : n ≤ 172800
  ·
   by_cases c3 : 0 ≤ b
   ·
    by_cases c4 : b ≤ 2
    ·
     rw [decide_eq_true c1, decide_eq_true c2, decide_eq_true c3, decide_eq_true c4]
     go_enter Tryz.func57, Tryz.ntmps57
     go_wp2_with fail
     go_ret
     exact ⟨rfl, gr0⟩
    ·
     have g : decide (b ≤ 2) = false := decide_eq_false c4
     rw [decide_eq_true c1, decide_eq_true c2, decide_eq_true c3, g]
     go_enter Tryz.func57, Tryz.ntmps57
     go_wp2_with fail
     go_ret
     exact ⟨rfl, gr0⟩
   ·
    have g : decide (0 ≤ b) = false := decide_eq_false c3
    rw [decide_eq_true c1, decide_eq_true c2, g]
    go_enter Tryz.func57, Tryz.ntmps57
    go_wp2_with fail
    go_ret
    exact ⟨rfl, gr0⟩
  ·
   have g : decide (n ≤ 172800) = false := decide_eq_false c2
   rw [decide_eq_true c1, g]
   go_enter Tryz.func57, Tryz.ntmps57
   go_wp2_with fail
   go_ret
   exact ⟨rfl, gr0⟩
 ·
  have g : decide (0 ≤ n) = false := decide_eq_false c1
  rw [g]
  go_enter Tryz.func57, Tryz.ntmps57
  go_wp2_with fail
  go_ret
  exact ⟨rfl, gr0⟩
set_option maxHeartbeats 2000000 in
theorem ktext_no (n b : Int) (w : World) (hr : Cl.rB n b = false) : Calls Tryz.prog 49 #[.agg #[.int .i64 n, .int .i64 b]] w fun e w' => e = .returned (.tuple #[.string ⟨#[]⟩, .int .i64 4]) ∧ Below w.heap.size w w' := by
 have CR := Lib.hid (fun W => kright_any n b W)
 rw [hr] at CR
 clear hr
 go_enter Tryz.func49, Tryz.ntmps49
 go_wp2_with fail
 refine (CR.out _).mono ?_; rintro e w1 ⟨rfl, b1⟩
 have d1 : Below w.heap.size w w1 := below_step gr0 b1
 have B1 := Lib.hid d1
 have X1 : Bk2 w1 (w.heap.size) (.int .i64 n) (.int .i64 b) := by refine Bk2.of b1 (by simp <;> omega) (by intro j; simp [go_sem]) ?_ ?_ <;> simp [go_sem]
 clear b1 d1
 have tx := X1; obtain ⟨cX_b, cX_f, cX_0, cX_1⟩ := tx
 go_wp2_with fail
 clear cX_b cX_f cX_0 cX_1
 go_ret2
 exact ⟨rfl, (grB B1)⟩
set_option maxHeartbeats 2000000 in
theorem ktext_0 (n : Int) (T : ByteArray) (q : Int) (w : World) (hr : Cl.rB n 0 = true) (z : T.size ≤ 600) (CT : Hid (∀ W, Calls Tryz.prog 50 #[.int .i64 n] W fun e w' => e = .returned (.tuple #[.string T, .int .i64 q]) ∧ Below W.heap.size W w')) : Calls Tryz.prog 49 #[.agg #[.int .i64 n, .int .i64 0]] w fun e w' => e = .returned (.tuple #[.string (T), .int .i64 0]) ∧ Below w.heap.size w w' := by
 have CR := Lib.hid (fun W => kright_any n 0 W)
 rw [hr] at CR
 clear hr
 have e0 : T ++ (⟨#[]⟩ : ByteArray) = T := by apply ByteArray.ext; apply Array.toList_inj.1; simp
 go_enter Tryz.func49, Tryz.ntmps49
 go_wp2_with fail
 refine (CR.out _).mono ?_; rintro e w1 ⟨rfl, b1⟩
 have d1 : Below w.heap.size w w1 := below_step gr0 b1
 have B1 := Lib.hid d1
 have X1 : Bk2 w1 (w.heap.size) (.int .i64 n) (.int .i64 0) := by refine Bk2.of b1 (by simp <;> omega) (by intro j; simp [go_sem]) ?_ ?_ <;> simp [go_sem]
 clear b1 d1
 have tx := X1; obtain ⟨cX_b, cX_f, cX_0, cX_1⟩ := tx
 go_wp2_with fail
 clear cX_b cX_f cX_0 cX_1
 refine (CT.out _).mono ?_; rintro e w2 ⟨rfl, b2⟩
 have d2 : Below w1.heap.size w1 w2 := below_step gr0 b2
 have B2 := Lib.hid (below_step B1.out d2)
 have X2 := X1.keep d2
 clear X1 b2 d2 B1
 have tx := X2; obtain ⟨cX_b, cX_f, cX_0, cX_1⟩ := tx
 go_wp2_with fail
 clear cX_b cX_f cX_0 cX_1
 go_ret2
 exact ⟨by first | rfl | (rw [e0]; rfl), by exact grB B2⟩
set_option maxHeartbeats 2000000 in
theorem ktext_1 (n : Int) (T : ByteArray) (q : Int) (w : World) (hr : Cl.rB n 1 = true) (z : T.size ≤ 600) (CT : Hid (∀ W, Calls Tryz.prog 50 #[.int .i64 n] W fun e w' => e = .returned (.tuple #[.string T, .int .i64 q]) ∧ Below W.heap.size W w')) : Calls Tryz.prog 49 #[.agg #[.int .i64 n, .int .i64 1]] w fun e w' => e = .returned (.tuple #[.string (T ++ ⟨#[115]⟩), .int .i64 0]) ∧ Below w.heap.size w w' := by
 have CR := Lib.hid (fun W => kright_any n 1 W)
 rw [hr] at CR
 clear hr
 have e0 : T ++ (⟨#[]⟩ : ByteArray) = T := by apply ByteArray.ext; apply Array.toList_inj.1; simp
 go_enter Tryz.func49, Tryz.ntmps49
 go_wp2_with fail
 refine (CR.out _).mono ?_; rintro e w1 ⟨rfl, b1⟩
 have d1 : Below w.heap.size w w1 := below_step gr0 b1
 have B1 := Lib.hid d1
 have X1 : Bk2 w1 (w.heap.size) (.int .i64 n) (.int .i64 1) := by refine Bk2.of b1 (by simp <;> omega) (by intro j; simp [go_sem]) ?_ ?_ <;> simp [go_sem]
 clear b1 d1
 have tx := X1; obtain ⟨cX_b, cX_f, cX_0, cX_1⟩ := tx
 go_wp2_with fail
 clear cX_b cX_f cX_0 cX_1
 refine (CT.out _).mono ?_; rintro e w2 ⟨rfl, b2⟩
 have d2 : Below w1.heap.size w1 w2 := below_step gr0 b2
 have B2 := Lib.hid (below_step B1.out d2)
 have X2 := X1.keep d2
 clear X1 b2 d2 B1
 have tx := X2; obtain ⟨cX_b, cX_f, cX_0, cX_1⟩ := tx
 go_wp2_with fail
 clear cX_b cX_f cX_0 cX_1
 go_ret2
 exact ⟨by first | rfl | (rw [e0]; rfl), by exact grB B2⟩
set_option maxHeartbeats 2000000 in
theorem ktext_2 (n : Int) (T : ByteArray) (q : Int) (w : World) (hr : Cl.rB n 2 = true) (z : T.size ≤ 600) (CT : Hid (∀ W, Calls Tryz.prog 50 #[.int .i64 n] W fun e w' => e = .returned (.tuple #[.string T, .int .i64 q]) ∧ Below W.heap.size W w')) : Calls Tryz.prog 49 #[.agg #[.int .i64 n, .int .i64 2]] w fun e w' => e = .returned (.tuple #[.string (T ++ ⟨#[117]⟩), .int .i64 0]) ∧ Below w.heap.size w w' := by
 have CR := Lib.hid (fun W => kright_any n 2 W)
 rw [hr] at CR
 clear hr
 have e0 : T ++ (⟨#[]⟩ : ByteArray) = T := by apply ByteArray.ext; apply Array.toList_inj.1; simp
 go_enter Tryz.func49, Tryz.ntmps49
 go_wp2_with fail
 refine (CR.out _).mono ?_; rintro e w1 ⟨rfl, b1⟩
 have d1 : Below w.heap.size w w1 := below_step gr0 b1
 have B1 := Lib.hid d1
 have X1 : Bk2 w1 (w.heap.size) (.int .i64 n) (.int .i64 2) := by refine Bk2.of b1 (by simp <;> omega) (by intro j; simp [go_sem]) ?_ ?_ <;> simp [go_sem]
 clear b1 d1
 have tx := X1; obtain ⟨cX_b, cX_f, cX_0, cX_1⟩ := tx
 go_wp2_with fail
 clear cX_b cX_f cX_0 cX_1
 refine (CT.out _).mono ?_; rintro e w2 ⟨rfl, b2⟩
 have d2 : Below w1.heap.size w1 w2 := below_step gr0 b2
 have B2 := Lib.hid (below_step B1.out d2)
 have X2 := X1.keep d2
 clear X1 b2 d2 B1
 have tx := X2; obtain ⟨cX_b, cX_f, cX_0, cX_1⟩ := tx
 go_wp2_with fail
 clear cX_b cX_f cX_0 cX_1
 go_ret2
 exact ⟨by first | rfl | (rw [e0]; rfl), by exact grB B2⟩
theorem ktext_any (n b : Int) (w : World) : Calls Tryz.prog 49 #[.agg #[.int .i64 n, .int .i64 b]] w fun e w' => e = .returned (.tuple #[.string (Cl.tx n b).1, .int .i64 (Cl.tx n b).2]) ∧ Below w.heap.size w w' := by
 unfold Cl.tx
 cases hr : Cl.rB n b
 ·
  rw [if_pos rfl]; exact ktext_no n b w hr
 ·
  rw [if_neg (by decide)]
  obtain ⟨n0, n1, b0, b1⟩ := rB_iff.1 hr
  obtain ⟨z, _⟩ := atx_size n0 n1
  have CT := Lib.hid (fun W => ratext_any n W)
  obtain rfl | rfl | rfl : b = 0 ∨ b = 1 ∨ b = 2 := by omega
  ·
   rw [if_pos rfl]; exact ktext_0 n (Am.tx n).1 _ w hr (by omega) CT
  ·
   rw [if_neg (by decide)]; exact ktext_1 n (Am.tx n).1 _ w hr (by omega) CT
  ·
   rw [if_neg (by decide)]; exact ktext_2 n (Am.tx n).1 _ w hr (by omega) CT
theorem fin_inj {a b c x y z : Int} (h : (x, y, z) = (a, b, c)) : x = a ∧ y = b ∧ z = c := by injection h with h1 h2; injection h2 with h2 h3; exact ⟨h1, h2, h3⟩
theorem fin_err {n q b : Int} (h : q ≠ 0) : Cl.fin n q b = (0, 0, q) := by unfold Cl.fin; rw [if_pos h]
theorem fin_far {n b : Int} (h : Cl.rB n b = false) : Cl.fin n 0 b = (0, 0, 1) := by unfold Cl.fin; rw [if_neg (by decide), if_pos h]
theorem fin_ok {n b : Int} (h : Cl.rB n b = true) : Cl.fin n 0 b = (n, b, 0) := by unfold Cl.fin; rw [if_neg (by decide), if_neg (by rw [h]; decide)]
end Go.Proofs.YtpggfhmnhbnefaaGreatDoor
set_option linter.unusedVariables false
set_option linter.unusedSimpArgs false
namespace Go.Proofs.YtpggfhmnhbnefaaGreatDoor
section
open Go.RowKit
set_option maxHeartbeats 1000000 in
theorem low_any (b : UInt8) (w : World) : Calls Tryz.prog 182 #[.int .u8 b.toNat] w fun e w' => e = .returned (.int .u8 (Wd.sm b)) ∧ w = w' := by
 have hb := b.toNat_lt
 obtain ⟨n, hn⟩ : ∃ n : Int, n = b.toNat := ⟨_, rfl⟩
 have E : Wd.sm b = if 65 ≤ n ∧ n ≤ 90 then n + 32 else n := by unfold Wd.sm; rw [hn]
 rw [E, ← hn]
 have n0 : 0 ≤ n := by omega
 have n1 : n < 256 := by omega
 clear E hn hb
 by_cases c1 : 65 ≤ n
 ·
  by_cases c2 : n ≤ 90
  ·
   rw [if_pos ⟨c1, c2⟩]
   go_enter Tryz.func182, Tryz.ntmps182
   go_wp2
   go_ret
   exact ⟨by first | rfl | (show Ending.returned (.int .u8 (n - 65 + 97)) = _; rw [show n - 65 + 97 = n + 32 by omega]), rfl⟩
  ·
   rw [if_neg (fun h => c2 h.2)]
   have g : decide (n ≤ 90) = false := decide_eq_false c2
   go_enter Tryz.func182, Tryz.ntmps182
   go_wp2
   go_ret
   exact ⟨rfl, rfl⟩
 ·
  rw [if_neg (fun h => c1 h.1)]
  have g : decide (65 ≤ n) = false := decide_eq_false c1
  go_enter Tryz.func182, Tryz.ntmps182
  go_wp2
  go_ret
  exact ⟨rfl, rfl⟩
set_option maxHeartbeats 2000000 in
set_option maxRecDepth 100000 in
theorem beginsr_any (a b : ByteArray) (w : World) (ha : a.size ≤ maxLen) (hb : b.size ≤ maxLen) :
  Calls Tryz.prog 144 #[.string a, .string b] w fun e w' => e = .returned (.bool (Wd.beg a.data.toList b.data.toList)) ∧ ∃ k, w' = w.drewN k := by
 unfold maxLen at ha hb
 by_cases hs : (a.size : Int) < (b.size : Int)
 ·
  rw [Wd.beg_short (by rw [blen, blen]; omega)]
  go_enter Tryz.func144, Tryz.ntmps144
  go_wp2
  go_ret
  exact ⟨rfl, 0, rfl⟩
 ·
  obtain ⟨ans, hans⟩ : ∃ ans, ans = Wd.beg a.data.toList b.data.toList := ⟨_, rfl⟩
  rw [← hans]
  have HA := Lib.hid hans; clear hans
  go_enter Tryz.func144, Tryz.ntmps144
  go_wp2_with fail
  go_loopw [5] (fun i wr => ∃ k j : Nat, k ≤ b.size ∧ i = .int .i64 k ∧ (∀ i (h1 : i < a.data.toList.length) (h2 : i < b.data.toList.length), i < k → Wd.sm a.data.toList[i] = Wd.sm b.data.toList[i]) ∧ wr = w.drewN j) (fun i _ => b.size - (intOf i).toNat)
  case atStart => exact ⟨0, 0, Nat.zero_le _, rfl, fun i _ _ h => absurd h (Nat.not_lt_zero _), rfl⟩
  case round =>
   obtain ⟨k, j, hk, rfl, hall, hw⟩ := hrel
   have HL := Lib.hid hall; have HW := Lib.hid hw; clear hall hw
   by_cases hlt : k < b.size
   ·
    have hlta : k < a.size := by omega
    by_cases he : Wd.sm a[k] = Wd.sm b[k]
    ·
     have HE := Lib.hid he
     have g : (Wd.sm a[k] == Wd.sm b[k]) = true := by rw [beq_iff_eq]; exact he
     clear he
     go_wp2_with fail
     go_quiet ((go_at_call 182; exact Calls.quiet_of_same ((low_any _ _).mono fun _ _ ⟨h1, h2⟩ => ⟨h1, h2.symm⟩)))
     go_wp2_with fail
     go_roundw
     case rel =>
      refine ⟨k + 1, _, by omega, by go_num, ?_, by rw [HW.out, World.drewN_drewN]⟩
      intro i h1 h2 h3
      by_cases hik : i = k
      ·
       subst hik; exact HE.out
      ·
       exact HL.out i h1 h2 (by omega)
     case measure => simp [intOf]; omega
    ·
     have g : (Wd.sm a[k] == Wd.sm b[k]) = false := by rw [beq_eq_false_iff_ne]; exact he
     have hno : ans = false := by
      rw [HA.out]
      exact Wd.beg_no (i := k) (by rw [blen]; exact hlta) (by rw [blen]; exact hlt) (by rw [bget hlta, bget hlt]; exact he)
     have HN := Lib.hid hno
     clear hno he
     go_wp2_with fail
     go_quiet ((go_at_call 182; exact Calls.quiet_of_same ((low_any _ _).mono fun _ _ ⟨h1, h2⟩ => ⟨h1, h2.symm⟩)))
     go_wp2_with fail
     go_ret
     exact ⟨by rw [HN.out]; rfl, _, by rw [HW.out, World.drewN_drewN]⟩
   ·
    have hyes : ans = true := by
     rw [HA.out]
     exact Wd.beg_yes (by rw [blen, blen]; omega) (fun i h1 h2 => HL.out i h1 h2 (by rw [blen] at h2; omega))
    have HY := Lib.hid hyes; clear hyes
    go_wp2_with fail
    go_ret
    exact ⟨by rw [HY.out]; rfl, _, HW.out⟩
set_option maxHeartbeats 1000000 in
theorem wsamer_any (a b : ByteArray) (w : World) (ha : a.size ≤ maxLen) (hb : b.size ≤ maxLen) :
  Calls Tryz.prog 143 #[.string a, .string b] w fun e w' => e = .returned (.bool (Wd.same a.data.toList b.data.toList)) ∧ ∃ k, w' = w.drewN k := by
 have C := Lib.hid (fun w => beginsr_any a b w ha hb)
 have E := Lib.hid (show Wd.same a.data.toList b.data.toList = (decide (a.size = b.size) && Wd.beg a.data.toList b.data.toList) by unfold Wd.same; rw [blen, blen])
 generalize Wd.same a.data.toList b.data.toList = ans at E
 generalize Wd.beg a.data.toList b.data.toList = bg at C E
 by_cases hs : a.size = b.size
 ·
  have g : ((a.size : Int) == (b.size : Int)) = true := by rw [beq_iff_eq]; omega
  have E2 := Lib.hid (show ans = bg by rw [E.out, hs]; simp)
  clear E hs
  go_enter Tryz.func143, Tryz.ntmps143
  go_wp2_with fail
  refine (C.out _).mono ?_; rintro e w1 ⟨rfl, k, rfl⟩
  go_wp2_with fail
  go_ret
  exact ⟨by rw [E2.out]; rfl, k, rfl⟩
 ·
  have g : ((a.size : Int) == (b.size : Int)) = false := by rw [beq_eq_false_iff_ne]; omega
  have E2 := Lib.hid (show ans = false by rw [E.out, decide_eq_false hs]; rfl)
  clear E hs
  go_enter Tryz.func143, Tryz.ntmps143
  go_wp2_with fail
  go_ret
  exact ⟨by rw [E2.out]; rfl, 0, rfl⟩
end
section
open Go.RowKit Go.Sort
namespace Wd
def ref2 (s : List UInt8) (all : List ByteArray) : List ByteArray → Nat → Int → Int × Int
 | [], _, f => if f < 0 then (0, 3) else (f, 0)
 | x :: r, i, f => if beg x.data.toList s = false then ref2 s all r (i + 1) f else if f < 0 then ref2 s all r (i + 1) (i : Int)
  else if same (all.getD f.toNat ByteArray.empty).data.toList x.data.toList = true then ref2 s all r (i + 1) f else (0, 3)
def ref1 (s : List UInt8) (all : List ByteArray) : List ByteArray → Nat → Int × Int
 | [], _ => ref2 s all all 0 (-1)
 | x :: r, i => if same x.data.toList s = true then ((i : Int), 0) else ref1 s all r (i + 1)
theorem ref2_step {s : List UInt8} {all : List ByteArray} {k : Nat} {f : Int} (h : k < all.length) : ref2 s all (all.drop k) k f =
  if beg all[k].data.toList s = false then ref2 s all (all.drop (k + 1)) (k + 1) f else if f < 0 then ref2 s all (all.drop (k + 1)) (k + 1) (k : Int)
  else if same (all.getD f.toNat ByteArray.empty).data.toList all[k].data.toList = true then ref2 s all (all.drop (k + 1)) (k + 1) f else (0, 3) := by
 rw [List.drop_eq_getElem_cons h]
 rfl
theorem ref1_step {s : List UInt8} {all : List ByteArray} {k : Nat} (h : k < all.length) : ref1 s all (all.drop k) k = if same all[k].data.toList s = true then ((k : Int), 0) else ref1 s all (all.drop (k + 1)) (k + 1) := by
 rw [List.drop_eq_getElem_cons h]
 rfl
theorem run_exact {s : List UInt8} {all : List ByteArray} : ∀ (r : List ByteArray) (i : Nat) (f : Int) (sv : Bool), (∃ x ∈ r, same x.data.toList s = true) → run s all r i f sv = ref1 s all r i := by
 intro r
 induction r with
 | nil => intro i f sv ⟨x, hx, _⟩; cases hx
 | cons y r ih =>
  intro i f sv hex
  unfold run ref1
  by_cases h : same y.data.toList s = true
  ·
   rw [if_pos h, if_pos h]
  ·
   rw [if_neg h, if_neg h]
   have hr : ∃ x ∈ r, same x.data.toList s = true := by
    obtain ⟨x, hx, he⟩ := hex
    rcases List.mem_cons.1 hx with rfl | hx
    ·
     exact absurd he h
    ·
     exact ⟨x, hx, he⟩
   split
   ·
    exact ih _ _ _ hr
   ·
    split
    ·
     exact ih _ _ _ hr
    ·
     split <;> exact ih _ _ _ hr
theorem run_many {s : List UInt8} {all : List ByteArray} : ∀ (r : List ByteArray) (i : Nat) (f : Int), (∀ x ∈ r, ¬ same x.data.toList s = true) → run s all r i f true = (0, 3) := by
 intro r
 induction r with
 | nil => intro i f _; rw [run_nil, if_pos (.inr rfl)]
 | cons y r ih =>
  intro i f hno
  have hr : ∀ x ∈ r, ¬ same x.data.toList s = true := fun x hx => hno x (List.mem_cons_of_mem _ hx)
  unfold run
  rw [if_neg (hno y (List.mem_cons_self ..))]
  split
  ·
   exact ih _ _ hr
  ·
   split
   ·
    exact ih _ _ hr
   ·
    split <;> exact ih _ _ hr
theorem run_ref2 {s : List UInt8} {all : List ByteArray} : ∀ (r : List ByteArray) (i : Nat) (f : Int), (∀ x ∈ r, ¬ same x.data.toList s = true) → run s all r i f false = ref2 s all r i f := by
 intro r
 induction r with
 | nil => intro i f _; rw [run_nil]; unfold ref2; simp
 | cons y r ih =>
  intro i f hno
  have hr : ∀ x ∈ r, ¬ same x.data.toList s = true := fun x hx => hno x (List.mem_cons_of_mem _ hx)
  unfold run ref2
  rw [if_neg (hno y (List.mem_cons_self ..))]
  split
  ·
   exact ih _ _ hr
  ·
   split
   ·
    exact ih _ _ hr
   ·
    rw [same_comm]
    split
    ·
     exact ih _ _ hr
    ·
     exact run_many _ _ _ hr
theorem ref1_no {s : List UInt8} {all : List ByteArray} : ∀ (r : List ByteArray) (i : Nat), (∀ x ∈ r, ¬ same x.data.toList s = true) → ref1 s all r i = ref2 s all all 0 (-1) := by
 intro r
 induction r with
 | nil => intro i _; rfl
 | cons y r ih =>
  intro i hno
  unfold ref1
  rw [if_neg (hno y (List.mem_cons_self ..))]
  exact ih _ (fun x hx => hno x (List.mem_cons_of_mem _ hx))
theorem mat_ref {s : List UInt8} {all : List ByteArray} (h : s ≠ []) : mat s all = ref1 s all all 0 := by
 unfold mat
 rw [if_neg h]
 by_cases hex : ∃ x ∈ all, same x.data.toList s = true
 ·
  exact run_exact _ _ _ _ hex
 ·
  have hno : ∀ x ∈ all, ¬ same x.data.toList s = true := fun x hx he => hex ⟨x, hx, he⟩
  rw [run_ref2 _ _ _ hno, ref1_no _ _ hno]
end Wd
end
section
open Go.RowKit Go.Sort
set_option maxHeartbeats 4000000 in
set_option maxRecDepth 100000 in
theorem matchr_any (s : ByteArray) (v : Value) (l : List ByteArray) (w : World) (hv : StS w v l) (hs : s.size ≤ maxLen) (hz : ∀ x ∈ l, x.size ≤ maxLen) (hm : l.length ≤ maxLen) :
  Calls Tryz.prog 93 #[.string s, v] w fun e w' => e = .returned (.tuple #[.int .i64 (Wd.mat s.data.toList l).1, .int .i64 (Wd.mat s.data.toList l).2]) ∧ ∃ k, w' = w.drewN k := by
 unfold maxLen at hm
 have HS := Lib.hid hs; clear hs
 by_cases h0 : s.size = 0
 ·
  rw [show Wd.mat s.data.toList l = (0, 3) by unfold Wd.mat; rw [if_pos (by rw [← List.length_eq_zero_iff, blen]; exact h0)]]
  obtain rfl := s_nil h0
  obtain ⟨A, c, rfl, -⟩ := hv
  go_enter Tryz.func93, Tryz.ntmps93
  go_wp2
  go_ret2
  exact ⟨rfl, 0, rfl⟩
 ·
  obtain ⟨t1, t2⟩ := wdne (ds := s) (by omega)
  have hne : s.data.toList ≠ [] := fun e => h0 (by rw [← blen, e]; rfl)
  obtain ⟨ans, hans⟩ : ∃ ans, ans = Wd.mat s.data.toList l := ⟨_, rfl⟩
  rw [← hans]
  have HA := Lib.hid (show Wd.ref1 s.data.toList l (l.drop 0) 0 = ans by rw [hans, Wd.mat_ref hne]; rfl)
  have HV := Lib.hid hv
  obtain ⟨A, c, rfl, -⟩ := hv
  generalize hn : l.length = n at *
  have HN := Lib.hid hn
  have HZ := Lib.hid hz
  clear hn hz hans h0 hne
  go_enter Tryz.func93, Tryz.ntmps93
  go_wp2_with fail
  go_loopw [15] (fun i wr => ∃ (k j : Nat), k ≤ n ∧ i = .int .i64 k ∧ Wd.ref1 s.data.toList l (l.drop k) k = ans ∧ wr = w.drewN j) (fun i _ => n - (intOf i).toNat)
  case atStart => exact ⟨0, 0, Nat.zero_le _, rfl, HA.out, rfl⟩
  case round =>
   obtain ⟨k, j, hk, rfl, hr, rfl⟩ := hrel
   have HR := Lib.hid hr; clear hr
   by_cases hlt : k < n
   ·
    obtain ⟨a, rfl, g1⟩ := HV.out.get k (by rw [HN.out]; exact hlt)
    have CS := Lib.hid (fun W => wsamer_any (l[k]'(by rw [HN.out]; exact hlt)) s W (HZ.out _ (List.getElem_mem _)) HS.out)
    have ST := Lib.hid (Wd.ref1_step (s := s.data.toList) (all := l) (k := k) (by rw [HN.out]; exact hlt))
    generalize hx : (l[k]'(by rw [HN.out]; exact hlt)) = x at *
    cases c1 : Wd.same x.data.toList s.data.toList
    ·
     have C1 := Lib.hid c1
     have HE := Lib.hid (show Wd.ref1 s.data.toList l (l.drop (k + 1)) (k + 1) = ans by rw [← HR.out, ST.out, c1]; simp)
     clear c1
     go_wp2_with fail
     refine (CS.out _).mono ?_; rintro e w1 ⟨rfl, j1, rfl⟩
     rw [C1.out]
     go_wp2_with fail
     go_roundw
     case rel => exact ⟨k + 1, _, by omega, by go_num, HE.out, by first | rfl | simp only [World.drewN_drewN]⟩
     case measure => simp [intOf]; omega
    ·
     have C1 := Lib.hid c1
     have HE := Lib.hid (show ans = ((k : Int), 0) by rw [← HR.out, ST.out, c1]; simp)
     clear c1
     go_wp2_with fail
     refine (CS.out _).mono ?_; rintro e w1 ⟨rfl, j1, rfl⟩
     rw [C1.out]
     go_wp2_with fail
     go_ret2
     exact ⟨by rw [HE.out]; rfl, _, by first | rfl | simp only [World.drewN_drewN]⟩
   ·
    have H2 := Lib.hid (show Wd.ref2 s.data.toList l (l.drop 0) 0 (-1) = ans by have e := HR.out; rw [List.drop_of_length_le (show l.length ≤ k by rw [HN.out]; omega)] at e; exact e)
    clear HR HA
    go_wp2_with fail
    go_loopw [8, 27] (fun fv i wr => ∃ (k j : Nat) (f : Int), k ≤ n ∧ i = .int .i64 k ∧ fv = .int .i64 f ∧ -1 ≤ f ∧ f < n ∧ Wd.ref2 s.data.toList l (l.drop k) k f = ans ∧ wr = w.drewN j) (fun _ i _ => n - (intOf i).toNat)
    case atStart => exact ⟨0, _, -1, Nat.zero_le _, rfl, rfl, by omega, by omega, H2.out, rfl⟩
    case round =>
     obtain ⟨k, j, f, hk, rfl, rfl, f0, f1, hr, rfl⟩ := hrel
     have HR := Lib.hid hr; clear hr
     by_cases hlt : k < n
     ·
      obtain ⟨a, rfl, g1⟩ := HV.out.get k (by rw [HN.out]; exact hlt)
      have CB := Lib.hid (fun W => beginsr_any (l[k]'(by rw [HN.out]; exact hlt)) s W (HZ.out _ (List.getElem_mem _)) HS.out)
      have ST := Lib.hid (Wd.ref2_step (s := s.data.toList) (all := l) (k := k) (f := f) (by rw [HN.out]; exact hlt))
      generalize hx : (l[k]'(by rw [HN.out]; exact hlt)) = x at *
      cases c2 : Wd.beg x.data.toList s.data.toList
      ·
       have C2 := Lib.hid c2
       have HE := Lib.hid (show Wd.ref2 s.data.toList l (l.drop (k + 1)) (k + 1) f = ans by rw [← HR.out, ST.out, c2]; simp)
       clear c2
       go_wp2_with fail
       refine (CB.out _).mono ?_; rintro e w2 ⟨rfl, j2, rfl⟩
       rw [C2.out]
       go_wp2_with fail
       go_roundw
       case rel => exact ⟨k + 1, _, f, by omega, by go_num, rfl, by omega, by omega, HE.out, by first | rfl | simp only [World.drewN_drewN]⟩
       case measure => simp [intOf]; omega
      ·
       have C2 := Lib.hid c2
       by_cases c3 : f < 0
       ·
        have HE := Lib.hid (show Wd.ref2 s.data.toList l (l.drop (k + 1)) (k + 1) (k : Int) = ans by rw [← HR.out, ST.out, c2]; simp [c3])
        clear c2
        go_wp2_with fail
        refine (CB.out _).mono ?_; rintro e w2 ⟨rfl, j2, rfl⟩
        rw [C2.out]
        go_wp2_with fail
        go_roundw
        case rel => exact ⟨k + 1, _, (k : Int), by omega, by go_num, rfl, by omega, by omega, HE.out, by first | rfl | simp only [World.drewN_drewN]⟩
        case measure => simp [intOf]; omega
       ·
        have f2 : 0 ≤ f := by omega
        have hfl : f.toNat < l.length := by rw [HN.out]; omega
        obtain ⟨a', ha', g2⟩ := HV.out.get f.toNat hfl
        obtain rfl : a = a' := by injection ha'
        have CY := Lib.hid (fun W => wsamer_any (l[f.toNat]'hfl) x W (HZ.out _ (List.getElem_mem _)) (by rw [← hx]; exact HZ.out _ (List.getElem_mem _)))
        have GD := Lib.hid (show l.getD f.toNat ByteArray.empty = l[f.toNat]'hfl by simp [List.getD, List.getElem?_eq_getElem hfl])
        generalize hy : l[f.toNat]'hfl = y at *
        cases c4 : Wd.same y.data.toList x.data.toList
        ·
         have C4 := Lib.hid c4
         have HE := Lib.hid (show ans = (0, 3) by rw [← HR.out, ST.out, c2, GD.out, c4]; simp [c3])
         clear c2 c4
         go_wp2_with fail
         refine (CB.out _).mono ?_; rintro e w2 ⟨rfl, j2, rfl⟩
         rw [C2.out]
         go_wp2_with fail
         refine (CY.out _).mono ?_; rintro e w3 ⟨rfl, j3, rfl⟩
         rw [C4.out]
         go_wp2_with fail
         go_ret2
         exact ⟨by rw [HE.out]; rfl, _, by first | rfl | simp only [World.drewN_drewN]⟩
        ·
         have C4 := Lib.hid c4
         have HE := Lib.hid (show Wd.ref2 s.data.toList l (l.drop (k + 1)) (k + 1) f = ans by rw [← HR.out, ST.out, c2, GD.out, c4]; simp [c3])
         clear c2 c4
         go_wp2_with fail
         refine (CB.out _).mono ?_; rintro e w2 ⟨rfl, j2, rfl⟩
         rw [C2.out]
         go_wp2_with fail
         refine (CY.out _).mono ?_; rintro e w3 ⟨rfl, j3, rfl⟩
         rw [C4.out]
         go_wp2_with fail
         go_roundw
         case rel => exact ⟨k + 1, _, f, by omega, by go_num, rfl, by omega, by omega, HE.out, by first | rfl | simp only [World.drewN_drewN]⟩
         case measure => simp [intOf]; omega
     ·
      have HE := Lib.hid (show ans = if f < 0 then (0, 3) else (f, 0) by rw [← HR.out, List.drop_of_length_le (by rw [HN.out]; omega)]; rfl)
      by_cases c3 : f < 0
      ·
       have HE2 := Lib.hid (show ans = (0, 3) by rw [HE.out]; simp [c3])
       clear HE
       go_wp2_with fail
       go_ret2
       exact ⟨by rw [HE2.out]; rfl, _, rfl⟩
      ·
       have HE2 := Lib.hid (show ans = (f, 0) by rw [HE.out]; simp [c3])
       clear HE
       go_wp2_with fail
       go_ret2
       exact ⟨by rw [HE2.out]; rfl, _, rfl⟩
end
end Go.Proofs.YtpggfhmnhbnefaaGreatDoor
set_option linter.unusedVariables false
set_option linter.unusedSimpArgs false
namespace Go.Proofs.YtpggfhmnhbnefaaGreatDoor
section
open Go.RowKit Go.Sort
theorem StS.newd (W : World) (l : List ByteArray) (t : TypeId) (c : Nat) : StS (W.alloc (.cells (l.map Value.string).toArray t)) (.slice (some ⟨W.heap.size, 0, none⟩) l.length c) l :=
 ⟨_, _, rfl, fun _ => ⟨_, rfl, by simp, by
  intro j u hj
  rw [show (⟨W.heap.size, 0, none⟩ : Addr).add j = ⟨W.heap.size, j, none⟩ by simp [Addr.add]; exact fun h => h.symm]
  rw [Lib.cell_of_heap (heap_alloc_new W _)]
  simpa using hj⟩⟩
set_option maxRecDepth 100000 in
theorem daysr_new (w : World) : Calls Tryz.prog 153 #[] w fun e w' => e = .returned (.slice (some ⟨w.heap.size, 0, none⟩) 7 7) ∧ StS w' (.slice (some ⟨w.heap.size, 0, none⟩) 7 7) Wd.days ∧ Below w.heap.size w w' := by
 go_enter Tryz.func153, Tryz.ntmps153
 go_wp2
 go_ret
 exact ⟨rfl, StS.newd _ Wd.days _ 7, (Below.refl _ _).alloc (Nat.le_refl _) _⟩
set_option maxHeartbeats 2000000 in
set_option maxRecDepth 100000 in
theorem weekdayr_any (s : ByteArray) (w : World) (hs : s.size ≤ maxLen) :
  Calls Tryz.prog 146 #[.string s] w fun e w' => e = .returned (.tuple #[.int .i64 (Wd.mat s.data.toList Wd.days).1, .int .i64 (Wd.mat s.data.toList Wd.days).2]) ∧ Below w.heap.size w w' := by
 have SZ : ∀ x ∈ Wd.days, x.size ≤ maxLen := by unfold Wd.days maxLen; intro x hx; simp at hx; rcases hx with rfl | rfl | rfl | rfl | rfl | rfl | rfl <;> decide
 have HM := Lib.hid (fun W v (h : StS W v Wd.days) => matchr_any s v Wd.days W h hs SZ (by unfold maxLen; decide))
 have HN := Lib.hid daysr_new
 have bd := Wd.mat_bd s.data.toList Wd.days
 have ln : Wd.days.length = 7 := rfl
 rw [ln] at bd
 clear SZ ln
 generalize Wd.mat s.data.toList Wd.days = ans at HM bd ⊢
 obtain ⟨p, q⟩ := ans
 dsimp only at HM bd ⊢
 obtain ⟨p0, p1, hq⟩ := bd
 go_enter Tryz.func146, Tryz.ntmps146
 go_wp2_with fail
 refine (HN.out _).mono ?_; rintro e w1 ⟨rfl, hS, b1⟩
 have S1 := Lib.hid hS; have B1 := Lib.hid b1; clear hS b1
 go_wp2_with fail
 refine (HM.out _ _ S1.out).mono ?_; rintro e w2 ⟨rfl, j, rfl⟩
 go_wp2_with fail
 go_ret2
 exact ⟨rfl, below_drewN B1.out _⟩
set_option maxHeartbeats 4000000 in
set_option maxRecDepth 100000 in
theorem dtextr_any (n : Int) (w : World) :
  Calls Tryz.prog 106 #[.int .i64 n] w fun e w' => e = .returned (.string (Wd.t3 Wd.days (n - 0))) ∧ Below w.heap.size w w' := by
 have HN := Lib.hid daysr_new
 by_cases h : 0 ≤ n ∧ n ≤ 6
 ·
  obtain rfl | rfl | rfl | rfl | rfl | rfl | rfl : n = 0 ∨ n = 1 ∨ n = 2 ∨ n = 3 ∨ n = 4 ∨ n = 5 ∨ n = 6 := by omega
  ·
   go_enter Tryz.func106, Tryz.ntmps106
   go_wp2_with fail
   refine (HN.out _).mono ?_; rintro e w1 ⟨rfl, hS, b1⟩
   have B1 := Lib.hid b1
   obtain ⟨a, ha, g⟩ := hS.get 0 (by decide)
   obtain rfl : (⟨w.heap.size, 0, none⟩ : Addr) = a := by injection ha
   clear b1 hS ha
   have g1 : w1.cell? ⟨w.heap.size, 0, none⟩ = some (.string ⟨#[83, 117, 110, 100, 97, 121]⟩) := by simpa [Addr.add, Wd.days] using g
   clear g
   go_wp2_with fail
   go_ret
   exact ⟨rfl, B1.out⟩
  ·
   go_enter Tryz.func106, Tryz.ntmps106
   go_wp2_with fail
   refine (HN.out _).mono ?_; rintro e w1 ⟨rfl, hS, b1⟩
   have B1 := Lib.hid b1
   obtain ⟨a, ha, g⟩ := hS.get 1 (by decide)
   obtain rfl : (⟨w.heap.size, 0, none⟩ : Addr) = a := by injection ha
   clear b1 hS ha
   have g1 : w1.cell? ⟨w.heap.size, 1, none⟩ = some (.string ⟨#[77, 111, 110, 100, 97, 121]⟩) := by simpa [Addr.add, Wd.days] using g
   clear g
   go_wp2_with fail
   go_ret
   exact ⟨rfl, B1.out⟩
  ·
   go_enter Tryz.func106, Tryz.ntmps106
   go_wp2_with fail
   refine (HN.out _).mono ?_; rintro e w1 ⟨rfl, hS, b1⟩
   have B1 := Lib.hid b1
   obtain ⟨a, ha, g⟩ := hS.get 2 (by decide)
   obtain rfl : (⟨w.heap.size, 0, none⟩ : Addr) = a := by injection ha
   clear b1 hS ha
   have g1 : w1.cell? ⟨w.heap.size, 2, none⟩ = some (.string ⟨#[84, 117, 101, 115, 100, 97, 121]⟩) := by simpa [Addr.add, Wd.days] using g
   clear g
   go_wp2_with fail
   go_ret
   exact ⟨rfl, B1.out⟩
  ·
   go_enter Tryz.func106, Tryz.ntmps106
   go_wp2_with fail
   refine (HN.out _).mono ?_; rintro e w1 ⟨rfl, hS, b1⟩
   have B1 := Lib.hid b1
   obtain ⟨a, ha, g⟩ := hS.get 3 (by decide)
   obtain rfl : (⟨w.heap.size, 0, none⟩ : Addr) = a := by injection ha
   clear b1 hS ha
   have g1 : w1.cell? ⟨w.heap.size, 3, none⟩ = some (.string ⟨#[87, 101, 100, 110, 101, 115, 100, 97, 121]⟩) := by simpa [Addr.add, Wd.days] using g
   clear g
   go_wp2_with fail
   go_ret
   exact ⟨rfl, B1.out⟩
  ·
   go_enter Tryz.func106, Tryz.ntmps106
   go_wp2_with fail
   refine (HN.out _).mono ?_; rintro e w1 ⟨rfl, hS, b1⟩
   have B1 := Lib.hid b1
   obtain ⟨a, ha, g⟩ := hS.get 4 (by decide)
   obtain rfl : (⟨w.heap.size, 0, none⟩ : Addr) = a := by injection ha
   clear b1 hS ha
   have g1 : w1.cell? ⟨w.heap.size, 4, none⟩ = some (.string ⟨#[84, 104, 117, 114, 115, 100, 97, 121]⟩) := by simpa [Addr.add, Wd.days] using g
   clear g
   go_wp2_with fail
   go_ret
   exact ⟨rfl, B1.out⟩
  ·
   go_enter Tryz.func106, Tryz.ntmps106
   go_wp2_with fail
   refine (HN.out _).mono ?_; rintro e w1 ⟨rfl, hS, b1⟩
   have B1 := Lib.hid b1
   obtain ⟨a, ha, g⟩ := hS.get 5 (by decide)
   obtain rfl : (⟨w.heap.size, 0, none⟩ : Addr) = a := by injection ha
   clear b1 hS ha
   have g1 : w1.cell? ⟨w.heap.size, 5, none⟩ = some (.string ⟨#[70, 114, 105, 100, 97, 121]⟩) := by simpa [Addr.add, Wd.days] using g
   clear g
   go_wp2_with fail
   go_ret
   exact ⟨rfl, B1.out⟩
  ·
   go_enter Tryz.func106, Tryz.ntmps106
   go_wp2_with fail
   refine (HN.out _).mono ?_; rintro e w1 ⟨rfl, hS, b1⟩
   have B1 := Lib.hid b1
   obtain ⟨a, ha, g⟩ := hS.get 6 (by decide)
   obtain rfl : (⟨w.heap.size, 0, none⟩ : Addr) = a := by injection ha
   clear b1 hS ha
   have g1 : w1.cell? ⟨w.heap.size, 6, none⟩ = some (.string ⟨#[83, 97, 116, 117, 114, 100, 97, 121]⟩) := by simpa [Addr.add, Wd.days] using g
   clear g
   go_wp2_with fail
   go_ret
   exact ⟨rfl, B1.out⟩
 ·
  rw [show Wd.t3 Wd.days (n - 0) = ByteArray.empty by unfold Wd.t3; rw [if_neg]; rw [show (Wd.days.length : Int) = 7 from rfl]; omega]
  by_cases c1 : n < 0
  ·
   go_enter Tryz.func106, Tryz.ntmps106
   go_wp2
   go_ret
   exact ⟨rfl, Below.refl _ _⟩
  ·
   have c2 : 6 < n := by omega
   go_enter Tryz.func106, Tryz.ntmps106
   go_wp2
   go_ret
   exact ⟨rfl, Below.refl _ _⟩
end
end Go.Proofs.YtpggfhmnhbnefaaGreatDoor
set_option linter.unusedVariables false
set_option linter.unusedSimpArgs false
namespace Go.Proofs.YtpggfhmnhbnefaaGreatDoor
open Go.RowKit Go.Sort
structure Ds.Lv (w : World) (tp : TypeId) (p : Value) : Prop where
 tab : Lib.TabIs Tryz.prog w "internal/strconv.uint64pow10" .u64 Lib.pow10Tab
 rng : w.var? Tryz.prog "strconv.ErrRange" = some #[.iface tp p]
 days : Wd.DTabs w
theorem Ds.Lv.keep {w w' : World} {tp : TypeId} {p : Value} (h : Ds.Lv w tp p) (k : Below w.heap.size w w') : Ds.Lv w' tp p := ⟨var_keep k h.tab, var_keep k h.rng, h.days.on k⟩
namespace Wd
end Wd
namespace Ds
end Ds
end Go.Proofs.YtpggfhmnhbnefaaGreatDoor
