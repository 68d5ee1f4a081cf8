/- Joined: ErE, BkR, FoC0, RuA, WdM, WdA. -/
import Derived.Test.YtpggfhmnhbnefaaGreatDoorBe01
import Derived.Test.YtpggfhmnhbnefaaGreatDoorLaid9
import Derived.Test.YtpggfhmnhbnefaaGreatDoorBe06
import Derived.Test.YtpggfhmnhbnefaaGreatDoorBe08
import Derived.Test.YtpggfhmnhbnefaaGreatDoorBe09
import Derived.Shelf.Strings.Prefix
import Derived.Test.YtpggfhmnhbnefaaGreatDoorBe03
import Derived.Lib.ItoaNum
import Derived.Test.YtpggfhmnhbnefaaGreatDoorBe02
import Derived.Test.YtpggfhmnhbnefaaGreatDoorProg
import Derived.Deep.QuietTactic
set_option linter.unusedVariables false
set_option linter.unusedSimpArgs false
namespace Go.Proofs.YtpggfhmnhbnefaaGreatDoor
open Go.RowKit Go.Sort
namespace Er
def amF (b n q : Int) : Int × Int := if q = 0 ∧ (n < -b ∨ b < n) then (0, 1) else (n, q)
def am (b : Int) (s : ByteArray) : Int × Int := amF b (Am.rd s).1 (Am.rd s).2
def yrF (n q : Int) : Int × Int := if q = 0 ∧ (n ≤ -32767 ∨ 32767 ≤ n) then (0, 1) else (n, q)
def yr (l : List UInt8) : Int × Int := yrF (Num.rd l).1 (Num.rd l).2
def isA (l : List UInt8) : Bool := match Lib.trimPrefix l [45] with | [] => false | c :: _ => ([48, 49, 50, 51, 52, 53, 54, 55, 56, 57] : List UInt8).contains c
theorem isA_ix (l : List UInt8) : isA l = (Lib.indexAny (Lib.trimPrefix l [45]) [48, 49, 50, 51, 52, 53, 54, 55, 56, 57] == 0) := by
 unfold isA
 cases Lib.trimPrefix l [45] with
 | nil => rfl
 | cons c r =>
  show ([48, 49, 50, 51, 52, 53, 54, 55, 56, 57] : List UInt8).contains c = _
  unfold Lib.indexAny
  cases h : ([48, 49, 50, 51, 52, 53, 54, 55, 56, 57] : List UInt8).contains c
  ·
   have := Lib.indexAny_ge [48, 49, 50, 51, 52, 53, 54, 55, 56, 57] r
   rw [if_neg (by decide)]
   split
   ·
    rfl
   ·
    symm; rw [beq_eq_false_iff_ne]; rename_i hh; have : Lib.indexAny r [48, 49, 50, 51, 52, 53, 54, 55, 56, 57] ≠ -1 := by simpa using hh
    omega
  ·
   rfl
end Er
set_option maxHeartbeats 2000000 in
set_option maxRecDepth 100000 in
theorem eram_any (s : ByteArray) (b : Int) (w : World) (mx : Int) (b0 : 0 ≤ b) (b1 : b ≤ 1000000) (hs : s.size ≤ 600) (hm : w.cell? ⟨3, 0, none⟩ = some (.int .i64 mx)) :
  Calls Tryz.prog 113 #[.string s, .int .i64 b] w fun e w' => Below w.heap.size w w' ∧ (((Er.am b s).2 = 0 ∧ e = .returned (.int .i64 (Er.am b s).1)) ∨ ((Er.am b s).2 ≠ 0 ∧ e = .panicked (gvP (Er.am b s).2))) := by
 have AR := Lib.hid (aread_any s w mx (by omega) hm)
 clear hs hm
 unfold Er.am
 generalize (Am.rd s).1 = n at *
 generalize (Am.rd s).2 = q at *
 obtain ⟨F, hF⟩ : ∃ F : Int × Int, F = Er.amF b n q := ⟨_, rfl⟩
 rw [← hF]
 have HF := Lib.hid hF; clear hF
 have IN := Lib.hid (fun W => erin_any n b W b0 b1)
 clear b0 b1
 go_enter Tryz.func113, Tryz.ntmps113
 go_wp2_with fail
 refine AR.out.mono ?_; rintro e w1 ⟨rfl, k1⟩
 have B1 := Lib.hid k1; clear k1
 by_cases hq : q = 0
 case neg =>
  obtain rfl : F = (n, q) := by rw [HF.out]; unfold Er.amF; rw [if_neg (by omega)]
  go_wp2_with fail
  refine (must_no _ _ _ hq).mono ?_; rintro e v ⟨rfl, rfl⟩
  refine (show bodyPost _ _ _ (Exit.panic _) _ _ from ?_); simp only [bodyPost]
  exact ⟨trivial, B1.out, .inr ⟨hq, by first | rfl | trivial⟩⟩
 subst hq
 go_wp2_with fail
 refine (must_yes _ _).mono ?_; rintro e v ⟨rfl, rfl⟩
 by_cases hi : -b ≤ n ∧ n ≤ b
 case neg =>
  obtain rfl : F = (0, 1) := by rw [HF.out]; unfold Er.amF; rw [if_pos (by omega)]
  rw [show (decide (-b ≤ n) && decide (n ≤ b)) = false by rw [← Bool.decide_and]; exact decide_eq_false hi] at IN
  go_wp2_with fail
  refine (IN.out _).mono ?_; rintro e v ⟨rfl, rfl⟩
  go_wp2_with fail
  refine (need_no 1 _).mono ?_; rintro e v ⟨rfl, rfl⟩
  refine (show bodyPost _ _ _ (Exit.panic _) _ _ from ?_); simp only [bodyPost]
  exact ⟨trivial, B1.out, .inr ⟨by decide, by first | rfl | trivial⟩⟩
 obtain rfl : F = (n, 0) := by rw [HF.out]; unfold Er.amF; rw [if_neg (by omega)]
 rw [show (decide (-b ≤ n) && decide (n ≤ b)) = true by rw [← Bool.decide_and]; exact decide_eq_true hi] at IN
 clear hi
 go_wp2_with fail
 refine (IN.out _).mono ?_; rintro e v ⟨rfl, rfl⟩
 go_wp2_with fail
 refine (need_yes 1 _).mono ?_; rintro e v ⟨rfl, rfl⟩
 go_wp2_with fail
 go_ret
 exact ⟨B1.out, by first | rfl | exact .inl ⟨rfl, rfl⟩⟩
set_option maxHeartbeats 2000000 in
set_option maxRecDepth 100000 in
theorem eryr_any (s : ByteArray) (w : World) (hs : s.size ≤ 600) (tp : TypeId) (p : Value) (hv : w.var? Tryz.prog "strconv.ErrRange" = some #[.iface tp p]) :
  Calls Tryz.prog 161 #[.string s] w fun e w' => Below w.heap.size w w' ∧ (((Er.yr s.data.toList).2 = 0 ∧ e = .returned (.int .i64 (Er.yr s.data.toList).1)) ∨ ((Er.yr s.data.toList).2 ≠ 0 ∧ e = .panicked (gvP (Er.yr s.data.toList).2))) := by
 have AR := Lib.hid (read_any s w (by omega) tp p hv)
 clear hs hv
 unfold Er.yr
 generalize (Num.rd s.data.toList).1 = n at *
 generalize (Num.rd s.data.toList).2 = q at *
 obtain ⟨F, hF⟩ : ∃ F : Int × Int, F = Er.yrF n q := ⟨_, rfl⟩
 rw [← hF]
 have HF := Lib.hid hF; clear hF
 have IN := Lib.hid (fun W => eryear_any n W)
 go_enter Tryz.func161, Tryz.ntmps161
 go_wp2_with fail
 refine AR.out.mono ?_; rintro e w1 ⟨rfl, k1⟩
 have B1 := Lib.hid k1; clear k1
 by_cases hq : q = 0
 case neg =>
  obtain rfl : F = (n, q) := by rw [HF.out]; unfold Er.yrF; rw [if_neg (by omega)]
  go_wp2_with fail
  refine (must_no _ _ _ hq).mono ?_; rintro e v ⟨rfl, rfl⟩
  refine (show bodyPost _ _ _ (Exit.panic _) _ _ from ?_); simp only [bodyPost]
  exact ⟨trivial, B1.out, .inr ⟨hq, by first | rfl | trivial⟩⟩
 subst hq
 go_wp2_with fail
 refine (must_yes _ _).mono ?_; rintro e v ⟨rfl, rfl⟩
 by_cases hi : -32767 < n ∧ n < 32767
 case neg =>
  obtain rfl : F = (0, 1) := by rw [HF.out]; unfold Er.yrF; rw [if_pos (by omega)]
  rw [show (decide (-32767 < n) && decide (n < 32767)) = false by rw [← Bool.decide_and]; exact decide_eq_false hi] at IN
  go_wp2_with fail
  refine (IN.out _).mono ?_; rintro e v ⟨rfl, rfl⟩
  go_wp2_with fail
  refine (need_no 1 _).mono ?_; rintro e v ⟨rfl, rfl⟩
  refine (show bodyPost _ _ _ (Exit.panic _) _ _ from ?_); simp only [bodyPost]
  exact ⟨trivial, B1.out, .inr ⟨by decide, by first | rfl | trivial⟩⟩
 obtain rfl : F = (n, 0) := by rw [HF.out]; unfold Er.yrF; rw [if_neg (by omega)]
 rw [show (decide (-32767 < n) && decide (n < 32767)) = true by rw [← Bool.decide_and]; exact decide_eq_true hi] at IN
 clear hi
 go_wp2_with fail
 refine (IN.out _).mono ?_; rintro e v ⟨rfl, rfl⟩
 go_wp2_with fail
 refine (need_yes 1 _).mono ?_; rintro e v ⟨rfl, rfl⟩
 go_wp2_with fail
 go_ret
 exact ⟨B1.out, by first | rfl | exact .inl ⟨rfl, rfl⟩⟩
set_option maxHeartbeats 2000000 in
set_option maxRecDepth 100000 in
theorem erisa_any (s : ByteArray) (w : World) (hs : s.size ≤ 600) :
  Calls Tryz.prog 114 #[.string s] w fun e w' => e = .returned (.bool (Er.isA s.data.toList)) ∧ Below w.heap.size w w' := by
 have TP := Lib.hid (fun W => Any.strings_TrimPrefix Tryz.lays101 s ⟨#[45]⟩ W)
 have e := Er.isA_ix s.data.toList
 obtain ⟨T, hT⟩ : ∃ T : ByteArray, T = ⟨(Lib.trimPrefix s.data.toList [45]).toArray⟩ := ⟨_, rfl⟩
 have hTl : T.data.toList = Lib.trimPrefix s.data.toList [45] := by rw [hT]
 have hTs : T.size ≤ 600 := by
  rw [hT]
  show (Lib.trimPrefix s.data.toList [45]).toArray.size ≤ 600
  rw [List.size_toArray]
  have := ab_trim s.data.toList [45]
  have := ab_len s
  omega
 have C : Hid (∀ W, Calls Tryz.prog 158 #[.string T, .string ⟨#[48, 49, 50, 51, 52, 53, 54, 55, 56, 57]⟩] W fun e w' => e = .returned (.int .i64 (Lib.indexAny T.data.toList [48, 49, 50, 51, 52, 53, 54, 55, 56, 57])) ∧ Below W.heap.size W w') := fun W => ixany T ⟨#[48, 49, 50, 51, 52, 53, 54, 55, 56, 57]⟩ W (by decide) (by omega) (by decide) (by decide)
 rw [hTl] at C
 rw [e]
 have TP2 : Hid (∀ W, Calls Tryz.prog 159 #[.string s, .string ⟨#[45]⟩] W fun e w' => e = .returned (.string T) ∧ W = w') := fun W => (TP.out W).mono fun _ _ ⟨a, b⟩ => ⟨by rw [hT]; exact a, b.symm⟩
 generalize Lib.indexAny (Lib.trimPrefix s.data.toList [45]) [48, 49, 50, 51, 52, 53, 54, 55, 56, 57] = j at *
 clear e hT hTl hTs TP hs
 go_enter Tryz.func114, Tryz.ntmps114
 go_wp2_with fail
 refine (TP2.out _).mono ?_; rintro e v1 ⟨rfl, rfl⟩
 go_wp2_with fail
 refine (C.out _).mono ?_; rintro e w1 ⟨rfl, b1⟩
 have d1 : Below w.heap.size w w1 := below_step gr0 b1
 have B1 := Lib.hid d1
 clear b1 d1
 go_wp2_with fail
 go_ret
 exact ⟨rfl, (grB B1)⟩
end Go.Proofs.YtpggfhmnhbnefaaGreatDoor
set_option linter.unusedVariables false
set_option linter.unusedSimpArgs false
namespace Go.Proofs.YtpggfhmnhbnefaaGreatDoor
open Go.RowKit
structure Bk11 (W : World) (b : Nat) (v0 v1 v2 v3 v4 v5 v6 v7 v8 v9 v10 : Value) : Prop where
 hb : b < W.heap.size
 fz : ∀ j, W.frozen? ⟨b, j, none⟩ = false
 k0 : W.cell? ⟨b, 0, none⟩ = some v0
 k1 : W.cell? ⟨b, 1, none⟩ = some v1
 k2 : W.cell? ⟨b, 2, none⟩ = some v2
 k3 : W.cell? ⟨b, 3, none⟩ = some v3
 k4 : W.cell? ⟨b, 4, none⟩ = some v4
 k5 : W.cell? ⟨b, 5, none⟩ = some v5
 k6 : W.cell? ⟨b, 6, none⟩ = some v6
 k7 : W.cell? ⟨b, 7, none⟩ = some v7
 k8 : W.cell? ⟨b, 8, none⟩ = some v8
 k9 : W.cell? ⟨b, 9, none⟩ = some v9
 k10 : W.cell? ⟨b, 10, none⟩ = some v10
theorem Bk11.of {W w1 : World} {b : Nat} {v0 v1 v2 v3 v4 v5 v6 v7 v8 v9 v10 : Value} (k : Below W.heap.size W w1) (hb : b < W.heap.size) (hf : ∀ j, W.frozen? ⟨b, j, none⟩ = false) (h0 : W.cell? ⟨b, 0, none⟩ = some v0) (h1 : W.cell? ⟨b, 1, none⟩ = some v1) (h2 : W.cell? ⟨b, 2, none⟩ = some v2) (h3 : W.cell? ⟨b, 3, none⟩ = some v3) (h4 : W.cell? ⟨b, 4, none⟩ = some v4) (h5 : W.cell? ⟨b, 5, none⟩ = some v5) (h6 : W.cell? ⟨b, 6, none⟩ = some v6) (h7 : W.cell? ⟨b, 7, none⟩ = some v7) (h8 : W.cell? ⟨b, 8, none⟩ = some v8) (h9 : W.cell? ⟨b, 9, none⟩ = some v9) (h10 : W.cell? ⟨b, 10, none⟩ = some v10) : Bk11 w1 b v0 v1 v2 v3 v4 v5 v6 v7 v8 v9 v10 :=
 ⟨Nat.lt_of_lt_of_le hb k.size, fun j => (k.frozen (p := ⟨b, j, none⟩) hb).trans (hf j), (k.cell (p := ⟨b, 0, none⟩) hb).trans h0, (k.cell (p := ⟨b, 1, none⟩) hb).trans h1, (k.cell (p := ⟨b, 2, none⟩) hb).trans h2, (k.cell (p := ⟨b, 3, none⟩) hb).trans h3, (k.cell (p := ⟨b, 4, none⟩) hb).trans h4, (k.cell (p := ⟨b, 5, none⟩) hb).trans h5, (k.cell (p := ⟨b, 6, none⟩) hb).trans h6, (k.cell (p := ⟨b, 7, none⟩) hb).trans h7, (k.cell (p := ⟨b, 8, none⟩) hb).trans h8, (k.cell (p := ⟨b, 9, none⟩) hb).trans h9, (k.cell (p := ⟨b, 10, none⟩) hb).trans h10⟩
theorem Bk11.keep {W w1 : World} {b : Nat} {v0 v1 v2 v3 v4 v5 v6 v7 v8 v9 v10 : Value} (h : Bk11 W b v0 v1 v2 v3 v4 v5 v6 v7 v8 v9 v10) (k : Below W.heap.size W w1) : Bk11 w1 b v0 v1 v2 v3 v4 v5 v6 v7 v8 v9 v10 :=
 Bk11.of k h.hb h.fz h.k0 h.k1 h.k2 h.k3 h.k4 h.k5 h.k6 h.k7 h.k8 h.k9 h.k10
namespace Fo
def lt (l : List UInt8) : List UInt8 × Int := if l = [45] then ([], 0) else if 6 < l.length then ([], 9) else if made [43, 45] l = false then ([], 4) else (l, 0)
def ltx (l : List UInt8) : List UInt8 × Int := if l = [] then ([45], 0) else if (lt l).2 ≠ 0 ∨ (lt l).1 ≠ l then ([], 4) else (l, 0)
def td (n : Int) : List UInt8 := Lib.itoa (n / 10) ++ Lib.itoa (n % 10)
def dfa (a : Int) : List UInt8 := td (a / 3600) ++ ((if a % 3600 = 0 then [] else td (a / 60 % 60)) ++ (if a % 60 = 0 then [] else td (a % 60)))
def df (off : Int) : List UInt8 := if off < 0 then 45 :: dfa (-off) else 43 :: dfa off
end Fo
end Go.Proofs.YtpggfhmnhbnefaaGreatDoor
set_option linter.unusedVariables false
set_option linter.unusedSimpArgs false
namespace Go.Proofs.YtpggfhmnhbnefaaGreatDoor
open Go.RowKit Go.Sort
namespace Ru
def rB (s t : ByteArray) (fy ty m k wk d sec base save : Int) : Bool := Lk.nm s.data.toList == 0 && (decide (-32767 ≤ fy) && (decide (fy ≤ ty) && (decide (ty ≤ 32767) && (Dr.onF k wk d m && (Cl.rB sec base && (decide (-10800 ≤ save) && (decide (save ≤ 10800) && (Fo.ltx t.data.toList).2 == 0)))))))
end Ru
end Go.Proofs.YtpggfhmnhbnefaaGreatDoor
set_option linter.unusedVariables false
set_option linter.unusedSimpArgs false
namespace Go.Proofs.YtpggfhmnhbnefaaGreatDoor.Wd
open Go
def sm (b : UInt8) : Int := if 65 ≤ (b.toNat : Int) ∧ (b.toNat : Int) ≤ 90 then (b.toNat : Int) + 32 else b.toNat
def beg : List UInt8 → List UInt8 → Bool
 | _, [] => true
 | [], _ :: _ => false
 | w :: ws, s :: ss => decide (sm w = sm s) && beg ws ss
def same (a b : List UInt8) : Bool := decide (a.length = b.length) && beg a b
theorem beg_short : ∀ {a b : List UInt8}, a.length < b.length → beg a b = false := by
 intro a
 induction a with
 | nil => intro b h; cases b with
  | nil => simp at h
  | cons x b => rfl
 | cons w a ih => intro b h; cases b with
  | nil => simp at h
  | cons x b => simp only [beg, ih (by simpa using h), Bool.and_false]
theorem beg_iff : ∀ {a b : List UInt8}, beg a b = true ↔ b.length ≤ a.length ∧ ∀ i (h1 : i < a.length) (h2 : i < b.length), sm a[i] = sm b[i] := by
 intro a
 induction a with
 | nil => intro b; cases b with
  | nil => simp [beg]
  | cons x b => simp [beg]
 | cons w a ih => intro b; cases b with
  | nil => simp [beg]
  | cons x b =>
   simp only [beg, Bool.and_eq_true, decide_eq_true_eq, ih, List.length_cons]
   constructor
   ·
    rintro ⟨h, hl, hi⟩
    refine ⟨by omega, ?_⟩
    intro i h1 h2
    cases i with
    | zero => exact h
    | succ i => exact hi i (by omega) (by omega)
   ·
    rintro ⟨hl, hi⟩
    exact ⟨hi 0 (by omega) (by omega), by omega, fun i h1 h2 => hi (i + 1) (by omega) (by omega)⟩
theorem beg_no {a b : List UInt8} {i : Nat} (h1 : i < a.length) (h2 : i < b.length) (h : sm a[i] ≠ sm b[i]) : beg a b = false := by
 cases hb : beg a b
 ·
  rfl
 ·
  exact absurd ((beg_iff.1 hb).2 i h1 h2) h
theorem beg_yes {a b : List UInt8} (hl : b.length ≤ a.length) (h : ∀ i (h1 : i < a.length) (h2 : i < b.length), sm a[i] = sm b[i]) : beg a b = true := beg_iff.2 ⟨hl, h⟩
theorem same_iff {a b : List UInt8} : same a b = true ↔ a.length = b.length ∧ ∀ i (h1 : i < a.length) (h2 : i < b.length), sm a[i] = sm b[i] := by
 unfold same
 rw [Bool.and_eq_true, decide_eq_true_eq, beg_iff]
 constructor
 ·
  rintro ⟨h, -, hi⟩; exact ⟨h, hi⟩
 ·
  rintro ⟨h, hi⟩; exact ⟨h, by omega, hi⟩
theorem same_comm (a b : List UInt8) : same a b = same b a := by
 rw [Bool.eq_iff_iff, same_iff, same_iff]
 constructor <;> rintro ⟨h, hi⟩ <;> exact ⟨h.symm, fun i h1 h2 => (hi i h2 h1).symm⟩
theorem same_refl (a : List UInt8) : same a a = true := same_iff.2 ⟨rfl, fun _ _ _ => rfl⟩
def exact : List (List UInt8) → Nat → List UInt8 → Option Nat
 | [], _, _ => none
 | w :: ws, i, s => if same w s then some i else exact ws (i + 1) s
def first : List (List UInt8) → Nat → List UInt8 → Option Nat
 | [], _, _ => none
 | w :: ws, i, s => if beg w s then some i else first ws (i + 1) s
def mt (s : List UInt8) (ws : List (List UInt8)) : Option Nat :=
 if s = [] then none else
 match exact ws 0 s with
 | some i => some i
 | none => match first ws 0 s with
  | none => none
  | some i => if ws.all (fun w => !beg w s || same (ws.getD i []) w) then some i else none
end Go.Proofs.YtpggfhmnhbnefaaGreatDoor.Wd
set_option linter.unusedVariables false
set_option linter.unusedSimpArgs false
namespace Go.Proofs.YtpggfhmnhbnefaaGreatDoor
open Go.RowKit
theorem blen (a : ByteArray) : a.data.toList.length = a.size := Array.length_toList
theorem bget {a : ByteArray} {k : Nat} (h : k < a.size) : a.data.toList[k]'(by rw [blen]; exact h) = a[k] := rfl
set_option maxHeartbeats 1000000 in
theorem small_any (b : UInt8) (w : World) : Calls Tryz.prog 198 #[.int .u8 b.toNat] w fun e w' => e = .returned (.int .u8 (Wd.sm b)) ∧ w = w' := by
 have hb := b.toNat_lt
 obtain ⟨n, hn⟩ : ∃ n : Int, n = b.toNat := ⟨_, rfl⟩
 have E : Wd.sm b = if 65 ≤ n ∧ n ≤ 90 then n + 32 else n := by unfold Wd.sm; rw [hn]
 rw [E, ← hn]
 have n0 : 0 ≤ n := by omega
 have n1 : n < 256 := by omega
 clear E hn hb
 by_cases c1 : 65 ≤ n
 ·
  by_cases c2 : n ≤ 90
  ·
   rw [if_pos ⟨c1, c2⟩]
   go_enter Tryz.func198, Tryz.ntmps198
   go_wp2
   go_ret
   exact ⟨by first | rfl | (show Ending.returned (.int .u8 (n - 65 + 97)) = _; rw [show n - 65 + 97 = n + 32 by omega]), rfl⟩
  ·
   rw [if_neg (fun h => c2 h.2)]
   have g : decide (n ≤ 90) = false := decide_eq_false c2
   go_enter Tryz.func198, Tryz.ntmps198
   go_wp2
   go_ret
   exact ⟨rfl, rfl⟩
 ·
  rw [if_neg (fun h => c1 h.1)]
  have g : decide (65 ≤ n) = false := decide_eq_false c1
  go_enter Tryz.func198, Tryz.ntmps198
  go_wp2
  go_ret
  exact ⟨rfl, rfl⟩
set_option maxHeartbeats 2000000 in
set_option maxRecDepth 100000 in
theorem begins_any (a b : ByteArray) (w : World) (ha : a.size ≤ maxLen) (hb : b.size ≤ maxLen) :
  Calls Tryz.prog 170 #[.string a, .string b] w fun e w' => e = .returned (.bool (Wd.beg a.data.toList b.data.toList)) ∧ ∃ k, w' = w.drewN k := by
 unfold maxLen at ha hb
 by_cases hs : (a.size : Int) < (b.size : Int)
 ·
  rw [Wd.beg_short (by rw [blen, blen]; omega)]
  go_enter Tryz.func170, Tryz.ntmps170
  go_wp2
  go_ret
  exact ⟨rfl, 0, rfl⟩
 ·
  obtain ⟨ans, hans⟩ : ∃ ans, ans = Wd.beg a.data.toList b.data.toList := ⟨_, rfl⟩
  rw [← hans]
  have HA := Lib.hid hans; clear hans
  go_enter Tryz.func170, Tryz.ntmps170
  go_wp2_with fail
  go_loopw [13] (fun i wr => ∃ k j : Nat, k ≤ b.size ∧ i = .int .i64 k ∧ (∀ i (h1 : i < a.data.toList.length) (h2 : i < b.data.toList.length), i < k → Wd.sm a.data.toList[i] = Wd.sm b.data.toList[i]) ∧ wr = w.drewN j) (fun i _ => b.size - (intOf i).toNat)
  case atStart => exact ⟨0, 0, Nat.zero_le _, rfl, fun i _ _ h => absurd h (Nat.not_lt_zero _), rfl⟩
  case round =>
   obtain ⟨k, j, hk, rfl, hall, hw⟩ := hrel
   have HL := Lib.hid hall; have HW := Lib.hid hw; clear hall hw
   by_cases hlt : k < b.size
   ·
    have hlta : k < a.size := by omega
    by_cases he : Wd.sm a[k] = Wd.sm b[k]
    ·
     have HE := Lib.hid he
     have g : (Wd.sm a[k] == Wd.sm b[k]) = true := by rw [beq_iff_eq]; exact he
     clear he
     go_wp2_with fail
     go_quiet ((go_at_call 198; exact Calls.quiet_of_same ((small_any _ _).mono fun _ _ ⟨h1, h2⟩ => ⟨h1, h2.symm⟩)))
     go_wp2_with fail
     go_roundw
     case rel =>
      refine ⟨k + 1, _, by omega, by go_num, ?_, by rw [HW.out, World.drewN_drewN]⟩
      intro i h1 h2 h3
      by_cases hik : i = k
      ·
       subst hik; exact HE.out
      ·
       exact HL.out i h1 h2 (by omega)
     case measure => simp [intOf]; omega
    ·
     have g : (Wd.sm a[k] == Wd.sm b[k]) = false := by rw [beq_eq_false_iff_ne]; exact he
     have hno : ans = false := by
      rw [HA.out]
      exact Wd.beg_no (i := k) (by rw [blen]; exact hlta) (by rw [blen]; exact hlt) (by rw [bget hlta, bget hlt]; exact he)
     have HN := Lib.hid hno
     clear hno he
     go_wp2_with fail
     go_quiet ((go_at_call 198; exact Calls.quiet_of_same ((small_any _ _).mono fun _ _ ⟨h1, h2⟩ => ⟨h1, h2.symm⟩)))
     go_wp2_with fail
     go_ret
     exact ⟨by rw [HN.out]; rfl, _, by rw [HW.out, World.drewN_drewN]⟩
   ·
    have hyes : ans = true := by
     rw [HA.out]
     exact Wd.beg_yes (by rw [blen, blen]; omega) (fun i h1 h2 => HL.out i h1 h2 (by rw [blen] at h2; omega))
    have HY := Lib.hid hyes; clear hyes
    go_wp2_with fail
    go_ret
    exact ⟨by rw [HY.out]; rfl, _, HW.out⟩
set_option maxHeartbeats 1000000 in
theorem wsame_any (a b : ByteArray) (w : World) (ha : a.size ≤ maxLen) (hb : b.size ≤ maxLen) :
  Calls Tryz.prog 169 #[.string a, .string b] w fun e w' => e = .returned (.bool (Wd.same a.data.toList b.data.toList)) ∧ ∃ k, w' = w.drewN k := by
 have C := Lib.hid (fun w => begins_any a b w ha hb)
 have E := Lib.hid (show Wd.same a.data.toList b.data.toList = (decide (a.size = b.size) && Wd.beg a.data.toList b.data.toList) by unfold Wd.same; rw [blen, blen])
 generalize Wd.same a.data.toList b.data.toList = ans at E
 generalize Wd.beg a.data.toList b.data.toList = bg at C E
 by_cases hs : a.size = b.size
 ·
  have g : ((a.size : Int) == (b.size : Int)) = true := by rw [beq_iff_eq]; omega
  have E2 := Lib.hid (show ans = bg by rw [E.out, hs]; simp)
  clear E hs
  go_enter Tryz.func169, Tryz.ntmps169
  go_wp2_with fail
  refine (C.out _).mono ?_; rintro e w1 ⟨rfl, k, rfl⟩
  go_wp2_with fail
  go_ret
  exact ⟨by rw [E2.out]; rfl, k, rfl⟩
 ·
  have g : ((a.size : Int) == (b.size : Int)) = false := by rw [beq_eq_false_iff_ne]; omega
  have E2 := Lib.hid (show ans = false by rw [E.out, decide_eq_false hs]; rfl)
  clear E hs
  go_enter Tryz.func169, Tryz.ntmps169
  go_wp2_with fail
  go_ret
  exact ⟨by rw [E2.out]; rfl, 0, rfl⟩
end Go.Proofs.YtpggfhmnhbnefaaGreatDoor
