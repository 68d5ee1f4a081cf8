/- Joined: LpL, Sm13, LnD. -/
import Derived.Test.YtifgiclnofdnkaaGreatDoorBy01
import Derived.Test.YtifgiclnofdnkaaGreatDoorBy31
import Derived.Test.YtifgiclnofdnkaaGreatDoorBy32
import Derived.Test.YtifgiclnofdnkaaGreatDoorBy07
import Derived.Test.YtifgiclnofdnkaaGreatDoorBy22
import Derived.Test.YtifgiclnofdnkaaGreatDoorLaid5
import Derived.Test.YtifgiclnofdnkaaGreatDoorBy08
import Derived.Test.YtifgiclnofdnkaaGreatDoorBy03
set_option linter.unusedVariables false
set_option linter.unusedSimpArgs false
namespace Go.Proofs.YtifgiclnofdnkaaGreatDoor
open Go.RowKit Go.Sort
def Lp.lv (R : Option Lp.X × Int) : Value := .tuple #[.agg #[.int .i64 (R.1.getD (0, 0)).1, .int .i64 (R.1.getD (0, 0)).2], .bool R.1.isSome, .int .i64 R.2]
set_option maxHeartbeats 8000000 in
set_option maxRecDepth 100000 in
theorem rlline_any (s : ByteArray) (w : World) (hs : s.size ≤ 2000000) :
  Calls Tryz.prog 39 #[.string s] w fun e w' => e = .returned (Lp.lv (Lp.ln s.data.toList)) ∧ Below w.heap.size w w' := by
 have CK := Lib.hid (fun W => rlcheck_any s W (by unfold maxLen; omega))
 have FO := Lib.hid (fun W => rfof_any s W (by omega))
 have FL := Lib.hid (An.field_len s)
 rw [Lp.ln_f]
 by_cases h1 : Ln.chk s.data.toList = 0
 case neg =>
  rw [if_pos h1]
  have g1 : (Ln.chk s.data.toList == 0) = false := by rw [beq_eq_false_iff_ne]; exact h1
  have g2 : (Ln.chk s.data.toList != 0) = true := by simpa using h1
  generalize Ln.chk s.data.toList = y at CK h1 g1 g2 ⊢
  unfold Lp.lv
  dsimp only [Option.getD, Option.isSome]
  clear FO FL
  go_enter Tryz.func39, Tryz.ntmps39
  go_wp2_with fail
  refine (CK.out _).mono ?_; rintro e w1 ⟨rfl, b1⟩
  have d1 : Below w.heap.size w w1 := below_step gr0 b1
  have B1 := Lib.hid d1
  have P1 : Bk2 w1 (w.heap.size) (.int .i64 0) (.int .i64 0) := by refine Bk2.of b1 (by simp <;> omega) (by intro j; simp [go_sem]) ?_ ?_ <;> simp [go_sem]
  clear b1 d1
  have tx := P1; obtain ⟨cP_b, cP_f, cP_0, cP_1⟩ := tx
  go_wp2_with fail
  refine bodyPost_ret (v := .tuple #[.agg #[.int .i64 0, .int .i64 0], .bool false, .int .i64 y]) (by simp [results, Tryz.results39, go_sem, cP_b, cP_f, cP_0, cP_1]) rfl ⟨rfl, ?_⟩
  clear cP_b cP_f cP_0 cP_1
  exact (grB B1)
 rw [if_neg (by simp [h1])]
 have hs5 : s.size ≤ 511 := by
  have := Lp.chk_len h1
  rw [show s.data.toList.length = s.size from Array.length_toList] at this
  exact this
 rw [h1] at CK
 generalize Fd.of s.data.toList = R at FO FL ⊢
 obtain ⟨P, y⟩ := R
 dsimp only at FL ⊢
 clear h1
 by_cases hy : y = 0
 case neg =>
  rw [if_pos hy]
  have g1 : (y == 0) = false := by rw [beq_eq_false_iff_ne]; exact hy
  have g2 : (y != 0) = true := by simpa using hy
  unfold Lp.lv
  dsimp only [Option.getD, Option.isSome]
  clear FL
  go_enter Tryz.func39, Tryz.ntmps39
  go_wp2_with fail
  refine (CK.out _).mono ?_; rintro e w1 ⟨rfl, b1⟩
  have d1 : Below w.heap.size w w1 := below_step gr0 b1
  have B1 := Lib.hid d1
  have P1 : Bk2 w1 (w.heap.size) (.int .i64 0) (.int .i64 0) := by refine Bk2.of b1 (by simp <;> omega) (by intro j; simp [go_sem]) ?_ ?_ <;> simp [go_sem]
  clear b1 d1
  go_wp2_with fail
  refine (FO.out _).mono ?_; rintro e w2 ⟨v, l, hst, hl, rfl, b2⟩
  have B2 := Lib.hid (below_step B1.out b2)
  have P2 := P1.keep b2
  clear hst hl b2 P1 B1
  have tx := P2; obtain ⟨cP_b, cP_f, cP_0, cP_1⟩ := tx
  go_wp2_with fail
  refine bodyPost_ret (v := .tuple #[.agg #[.int .i64 0, .int .i64 0], .bool false, .int .i64 y]) (by simp [results, Tryz.results39, go_sem, cP_b, cP_f, cP_0, cP_1]) rfl ⟨rfl, ?_⟩
  clear cP_b cP_f cP_0 cP_1
  exact (grB B2)
 subst hy
 rw [if_neg (by simp)]
 obtain ⟨T, hT⟩ : ∃ T : Option Lp.X × Int, T = Lp.lnF P := ⟨_, rfl⟩
 rw [← hT]
 have HT := Lib.hid hT
 obtain ⟨VV, hVV⟩ : ∃ VV : Value, VV = Lp.lv T := ⟨_, rfl⟩
 rw [← hVV]
 have HVV := Lib.hid hVV
 clear hT hVV
 go_enter Tryz.func39, Tryz.ntmps39
 go_wp2_with fail
 refine (CK.out _).mono ?_; rintro e w1 ⟨rfl, b1⟩
 have d1 : Below w.heap.size w w1 := below_step gr0 b1
 have B1 := Lib.hid d1
 have P1 : Bk2 w1 (w.heap.size) (.int .i64 0) (.int .i64 0) := by refine Bk2.of b1 (by simp <;> omega) (by intro j; simp [go_sem]) ?_ ?_ <;> simp [go_sem]
 clear b1 d1
 go_wp2_with fail
 refine (FO.out _).mono ?_; rintro e w2 ⟨v, l, hst, hl, rfl, b2⟩
 have hl : l.map (·.data.toList) = P := hl
 have hz : ∀ x ∈ l, x.size ≤ 1000 := fun x hx => by have := FL.out l hl x hx; omega
 have B2 := Lib.hid (below_step B1.out b2)
 have P2 := P1.keep b2
 have HS := Lib.hid hst
 obtain ⟨A, c, rfl, -⟩ := hst
 clear b2 P1 B1 FL FO CK
 subst hl
 have HZ := Lib.hid hz
 clear hz
 match l, HT, HS, HZ with
 | [], HT, HS, HZ =>
  obtain rfl : VV = .tuple #[.agg #[.int .i64 0, .int .i64 0], .bool false, .int .i64 0] := by rw [HVV.out, show T = (none, 0) from HT.out]; rfl
  have tx := P2; obtain ⟨cP_b, cP_f, cP_0, cP_1⟩ := tx
  go_wp2_with fail
  refine bodyPost_ret (v := .tuple #[.agg #[.int .i64 0, .int .i64 0], .bool false, .int .i64 0]) (by simp [results, Tryz.results39, go_sem, cP_b, cP_f, cP_0, cP_1]) rfl ⟨rfl, ?_⟩
  clear cP_b cP_f cP_0 cP_1
  exact (grB B2)
 | [a], HT, HS, HZ =>
  obtain rfl : VV = .tuple #[.agg #[.int .i64 0, .int .i64 0], .bool false, .int .i64 5] := by rw [HVV.out, show T = (none, 5) from HT.out]; rfl
  have tx := P2; obtain ⟨cP_b, cP_f, cP_0, cP_1⟩ := tx
  go_wp2_with fail
  refine bodyPost_ret (v := .tuple #[.agg #[.int .i64 0, .int .i64 0], .bool false, .int .i64 5]) (by simp [results, Tryz.results39, go_sem, cP_b, cP_f, cP_0, cP_1]) rfl ⟨rfl, ?_⟩
  clear cP_b cP_f cP_0 cP_1
  exact (grB B2)
 | a :: b :: d :: r, HT, HS, HZ =>
  obtain rfl : VV = .tuple #[.agg #[.int .i64 0, .int .i64 0], .bool false, .int .i64 6] := by rw [HVV.out, show T = (none, 6) from HT.out]; rfl
  have q1 : ¬ ((a :: b :: d :: r).length : Int) < 2 := by simp only [List.length_cons]; omega
  have q2 : (2 : Int) < ((a :: b :: d :: r).length : Int) := by simp only [List.length_cons]; omega
  have q3 : (((a :: b :: d :: r).length : Int) == 0) = false := by rw [beq_eq_false_iff_ne]; simp only [List.length_cons]; omega
  have q4 : ((a :: b :: d :: r).length : Int) ≠ 0 := by simp only [List.length_cons]; omega
  clear HT HS HZ
  generalize (a :: b :: d :: r).length = m at *
  have tx := P2; obtain ⟨cP_b, cP_f, cP_0, cP_1⟩ := tx
  go_wp2_with fail
  refine bodyPost_ret (v := .tuple #[.agg #[.int .i64 0, .int .i64 0], .bool false, .int .i64 6]) (by simp [results, Tryz.results39, go_sem, cP_b, cP_f, cP_0, cP_1]) rfl ⟨rfl, ?_⟩
  clear cP_b cP_f cP_0 cP_1
  exact (grB B2)
 | [a, b], HT, HS, HZ =>
  obtain ⟨q, rfl, ga⟩ := HS.out.get 0 (by simp)
  rw [Addr.add_zero'] at ga
  have ga : w2.cell? q = some (.string a) := ga
  have HF := Lib.hid (show StS w2 (.slice (some q) 2 c) [a, b] from HS.out)
  have za := HZ.out a (by simp)
  have zb := HZ.out b (by simp)
  obtain ⟨v0, v1, v2, v3, v4, v5, y, hy, -, RR, SS⟩ := lstamp_read a za
  have ht : T = if y ≠ 0 then (none, y) else if b.data.toList = [43] then (some ((Qy.rs a.data.toList).1, 1), 0) else if b.data.toList = [45] then (some ((Qy.rs a.data.toList).1, -1), 0) else (none, 3) := by rw [hy]; exact HT.out
  by_cases hy0 : y = 0
  case neg =>
   rw [if_pos hy0] at ht
   obtain rfl : VV = .tuple #[.agg #[.int .i64 0, .int .i64 0], .bool false, .int .i64 y] := by rw [HVV.out, ht]; rfl
   have g1 : (y == 0) = false := by rw [beq_eq_false_iff_ne]; exact hy0
   have g2 : (y != 0) = true := by simpa using hy0
   clear SS hy HT HS HZ ht HVV
   have tx := P2; obtain ⟨cP_b, cP_f, cP_0, cP_1⟩ := tx
   go_wp2_with fail
   clear cP_b cP_f cP_0 cP_1
   refine (RR.out _).mono ?_; rintro e w3 ⟨rfl, b3⟩
   have d3 : Below w2.heap.size w2 w3 := below_step gr0 b3
   have B3 := Lib.hid (below_step B2.out d3)
   have P3 := P2.keep d3
   clear P2 b3 d3 B2
   have tx := P3; obtain ⟨cP_b, cP_f, cP_0, cP_1⟩ := tx
   go_wp2_with fail
   refine bodyPost_ret (v := .tuple #[.agg #[.int .i64 0, .int .i64 0], .bool false, .int .i64 y]) (by simp [results, Tryz.results39, go_sem, cP_b, cP_f, cP_0, cP_1]) rfl ⟨rfl, ?_⟩
   clear cP_b cP_f cP_0 cP_1
   exact (grB B3)
  subst hy0
  rw [if_neg (by simp)] at ht
  have SS2 := SS rfl
  clear SS
  obtain ⟨-, SS⟩ := SS2
  generalize (Qy.rs a.data.toList).1 = n0 at SS ht
  clear HT HZ hy za zb
  by_cases h43 : b.data.toList = [43]
  case pos =>
   obtain rfl : b = ⟨#[43]⟩ := by cases b with | mk d => exact congrArg ByteArray.mk (Array.toList_inj.1 h43)
   rw [if_pos rfl] at ht
   obtain rfl : VV = .tuple #[.agg #[.int .i64 n0, .int .i64 1], .bool true, .int .i64 0] := by rw [HVV.out, ht]; rfl
   clear ht HVV
   have tx := P2; obtain ⟨cP_b, cP_f, cP_0, cP_1⟩ := tx
   go_wp2_with fail
   clear cP_b cP_f cP_0 cP_1
   refine (RR.out _).mono ?_; rintro e w3 ⟨rfl, b3⟩
   have d3 : Below w2.heap.size w2 w3 := below_step gr0 b3
   have B3 := Lib.hid (below_step B2.out d3)
   have SF_3 := Lib.hid (HF.out.on d3)
   have P3 := P2.keep d3
   clear HF P2 b3 d3 B2
   obtain ⟨q9, e9, gb⟩ := SF_3.out.get 1 (by simp)
   injection e9 with e9
   subst e9
   rw [Addr.add_succ'] at gb
   have gb : w3.cell? ⟨q.block, q.off + 1, none⟩ = some (.string ⟨#[43]⟩) := gb
   have ql3 := World.block_lt_of_cell? _ _ gb
   have tx := P3; obtain ⟨cP_b, cP_f, cP_0, cP_1⟩ := tx
   go_wp2_with fail
   clear cP_b cP_f cP_0 cP_1
   refine (SS.out _).mono ?_; rintro e w4 ⟨rfl, b4⟩
   have d4 : Below w3.heap.size w3 w4 := below_step gr0 b4
   have B4 := Lib.hid (below_step B3.out d4)
   have SF_4 := Lib.hid (SF_3.out.on d4)
   have P4 := P3.keep d4
   have aZ := B3.out.size
   have Z4 : Bk6 w4 (w3.heap.size) (.int .i64 v0) (.int .i64 v1) (.int .i64 v2) (.int .i64 v3) (.int .i64 v4) (.int .i64 v5) := by refine Bk6.of b4 (by simp <;> omega) (by intro j; simp [go_sem]) ?_ ?_ ?_ ?_ ?_ ?_ <;> simp [go_sem]
   clear SF_3 P3 b4 d4 B3
   clear gb ql3
   obtain ⟨q9, e9, gb⟩ := SF_4.out.get 1 (by simp)
   injection e9 with e9
   subst e9
   rw [Addr.add_succ'] at gb
   have gb : w4.cell? ⟨q.block, q.off + 1, none⟩ = some (.string ⟨#[43]⟩) := gb
   have ql4 := World.block_lt_of_cell? _ _ gb
   have tx := P4; obtain ⟨cP_b, cP_f, cP_0, cP_1⟩ := tx
   have tx := Z4; obtain ⟨cZ_b, cZ_f, cZ_0, cZ_1, cZ_2, cZ_3, cZ_4, cZ_5⟩ := tx
   go_wp2_with fail
   refine bodyPost_ret (v := .tuple #[.agg #[.int .i64 n0, .int .i64 1], .bool true, .int .i64 0]) (by simp [results, Tryz.results39, go_sem, cP_b, cP_f, cP_0, cP_1, cZ_b, cZ_f, cZ_0, cZ_1, cZ_2, cZ_3, cZ_4, cZ_5]) rfl ⟨rfl, ?_⟩
   clear cP_b cP_f cP_0 cP_1 cZ_b cZ_f cZ_0 cZ_1 cZ_2 cZ_3 cZ_4 cZ_5
   exact (grB B4)
  by_cases h45 : b.data.toList = [45]
  case pos =>
   obtain rfl : b = ⟨#[45]⟩ := by cases b with | mk d => exact congrArg ByteArray.mk (Array.toList_inj.1 h45)
   rw [if_neg (by decide), if_pos rfl] at ht
   obtain rfl : VV = .tuple #[.agg #[.int .i64 n0, .int .i64 (-1)], .bool true, .int .i64 0] := by rw [HVV.out, ht]; rfl
   clear ht HVV
   have tx := P2; obtain ⟨cP_b, cP_f, cP_0, cP_1⟩ := tx
   go_wp2_with fail
   clear cP_b cP_f cP_0 cP_1
   refine (RR.out _).mono ?_; rintro e w3 ⟨rfl, b3⟩
   have d3 : Below w2.heap.size w2 w3 := below_step gr0 b3
   have B3 := Lib.hid (below_step B2.out d3)
   have SF_3 := Lib.hid (HF.out.on d3)
   have P3 := P2.keep d3
   clear HF P2 b3 d3 B2
   obtain ⟨q9, e9, gb⟩ := SF_3.out.get 1 (by simp)
   injection e9 with e9
   subst e9
   rw [Addr.add_succ'] at gb
   have gb : w3.cell? ⟨q.block, q.off + 1, none⟩ = some (.string ⟨#[45]⟩) := gb
   have ql3 := World.block_lt_of_cell? _ _ gb
   have tx := P3; obtain ⟨cP_b, cP_f, cP_0, cP_1⟩ := tx
   go_wp2_with fail
   clear cP_b cP_f cP_0 cP_1
   refine (SS.out _).mono ?_; rintro e w4 ⟨rfl, b4⟩
   have d4 : Below w3.heap.size w3 w4 := below_step gr0 b4
   have B4 := Lib.hid (below_step B3.out d4)
   have SF_4 := Lib.hid (SF_3.out.on d4)
   have P4 := P3.keep d4
   have aZ := B3.out.size
   have Z4 : Bk6 w4 (w3.heap.size) (.int .i64 v0) (.int .i64 v1) (.int .i64 v2) (.int .i64 v3) (.int .i64 v4) (.int .i64 v5) := by refine Bk6.of b4 (by simp <;> omega) (by intro j; simp [go_sem]) ?_ ?_ ?_ ?_ ?_ ?_ <;> simp [go_sem]
   clear SF_3 P3 b4 d4 B3
   clear gb ql3
   obtain ⟨q9, e9, gb⟩ := SF_4.out.get 1 (by simp)
   injection e9 with e9
   subst e9
   rw [Addr.add_succ'] at gb
   have gb : w4.cell? ⟨q.block, q.off + 1, none⟩ = some (.string ⟨#[45]⟩) := gb
   have ql4 := World.block_lt_of_cell? _ _ gb
   have tx := P4; obtain ⟨cP_b, cP_f, cP_0, cP_1⟩ := tx
   have tx := Z4; obtain ⟨cZ_b, cZ_f, cZ_0, cZ_1, cZ_2, cZ_3, cZ_4, cZ_5⟩ := tx
   go_wp2_with fail
   refine bodyPost_ret (v := .tuple #[.agg #[.int .i64 n0, .int .i64 (-1)], .bool true, .int .i64 0]) (by simp [results, Tryz.results39, go_sem, cP_b, cP_f, cP_0, cP_1, cZ_b, cZ_f, cZ_0, cZ_1, cZ_2, cZ_3, cZ_4, cZ_5]) rfl ⟨rfl, ?_⟩
   clear cP_b cP_f cP_0 cP_1 cZ_b cZ_f cZ_0 cZ_1 cZ_2 cZ_3 cZ_4 cZ_5
   exact (grB B4)
  have tb : b.toList = b.data.toList := by simp [ByteArray.toList_eq]
  have E43 : Hid ((b.toList == [43]) = false ∧ b.toList ≠ [43]) := Lib.hid ⟨by rw [tb]; simpa using h43, by rw [tb]; exact h43⟩
  have E45 : Hid ((b.toList == [45]) = false ∧ b.toList ≠ [45]) := Lib.hid ⟨by rw [tb]; simpa using h45, by rw [tb]; exact h45⟩
  rw [if_neg h43, if_neg h45] at ht
  clear tb h43 h45
  obtain rfl : VV = .tuple #[.agg #[.int .i64 0, .int .i64 0], .bool false, .int .i64 3] := by rw [HVV.out, ht]; rfl
  clear ht HVV
  have tx := P2; obtain ⟨cP_b, cP_f, cP_0, cP_1⟩ := tx
  go_wp2_with fail
  clear cP_b cP_f cP_0 cP_1
  refine (RR.out _).mono ?_; rintro e w3 ⟨rfl, b3⟩
  have d3 : Below w2.heap.size w2 w3 := below_step gr0 b3
  have B3 := Lib.hid (below_step B2.out d3)
  have SF_3 := Lib.hid (HF.out.on d3)
  have P3 := P2.keep d3
  clear HF P2 b3 d3 B2
  obtain ⟨q9, e9, gb⟩ := SF_3.out.get 1 (by simp)
  injection e9 with e9
  subst e9
  rw [Addr.add_succ'] at gb
  have gb : w3.cell? ⟨q.block, q.off + 1, none⟩ = some (.string b) := gb
  have ql3 := World.block_lt_of_cell? _ _ gb
  have e43 : (b.toList == [43]) = false := E43.out.1
  have e45 : (b.toList == [45]) = false := E45.out.1
  have n43 : b.toList ≠ [43] := E43.out.2
  have n45 : b.toList ≠ [45] := E45.out.2
  have tx := P3; obtain ⟨cP_b, cP_f, cP_0, cP_1⟩ := tx
  go_wp2_with fail
  refine bodyPost_ret (v := .tuple #[.agg #[.int .i64 0, .int .i64 0], .bool false, .int .i64 3]) (by simp [results, Tryz.results39, go_sem, cP_b, cP_f, cP_0, cP_1]) rfl ⟨rfl, ?_⟩
  clear cP_b cP_f cP_0 cP_1
  exact (grB B3)
theorem split10 (s : ByteArray) (w : World) (m : Int) (hs : s.size < 4294967281) (hm : w.cell? ⟨0, 0, none⟩ = some (.int .i64 m)) :
  Calls Tryz.prog 58 #[.string s, .string ⟨#[10]⟩] w fun e w' => ∃ c : Nat, e = .returned (.slice (some ⟨w.heap.size, 0, none⟩) (Ln.pcs s).length c) ∧ (Ln.pcs s).length ≤ c ∧ c ≤ 4294967299 ∧ Below w.heap.size w w' ∧ (∀ j x, (Ln.pcs s)[j]? = some x → w'.cell? ⟨w.heap.size, j, none⟩ = some (.string x)) ∧ w'.heap.size = w.heap.size + 1 := by
 refine (Any.strings_Split Tryz.lays146 Tryz.laysM146.i9 s ⟨#[10]⟩ m w hs hm (Nat.le_refl 1)).mono ?_
 rintro e w' ⟨rfl, rfl⟩
 have hc := Lib.countB_le ⟨#[10]⟩ (Nat.le_refl 1) s.size s (Nat.le_refl _)
 refine ⟨_, by rw [Ln.pcs_len], by rw [Ln.pcs_len]; exact Nat.le_refl _, by omega, (Below.refl _ _).alloc (Nat.le_refl _) _, ?_, by simp⟩
 intro j x hx
 rw [Lib.cell_of_heap (heap_alloc_new w _)]
 have e : Lib.splitB ⟨#[10]⟩ 0 (Lib.countB s ⟨#[10]⟩) s = Ln.pcs s := rfl
 rw [e]
 simp [hx]
set_option maxHeartbeats 4000000 in
theorem lof_any (s : ByteArray) (w : World) (m : Int) (hs : s.size ≤ 2000000) (hm : w.cell? ⟨0, 0, none⟩ = some (.int .i64 m)) :
  Calls Tryz.prog 33 #[.string s] w (AnsL (Ln.cut [] s.data.toList) w) := by
 have S := Lib.hid (split10 s w m (by omega) hm)
 have hP := Ln.pcs_data s
 have hl := Ln.pcs_len s
 have hcut := Lib.hid (show Ln.cut [] s.data.toList = Ln.dropE ((Ln.pcs s).map (·.data.toList)) by rw [hP, Ln.cut_rest])
 have hlen : (Ln.pcs s).length ≤ 2000001 := by
  have := Lib.countB_le ⟨#[10]⟩ (Nat.le_refl 1) s.size s (Nat.le_refl _); omega
 generalize Ln.pcs s = L at *
 obtain ⟨K, hK⟩ : ∃ K, L.length = K + 1 := ⟨_, hl⟩
 clear hP hl hm hs
 have hx := List.getElem?_eq_getElem (show K < L.length by omega)
 obtain ⟨x, hxe⟩ : ∃ x, x = L[K]'(by omega) := ⟨_, rfl⟩
 rw [← hxe] at hx
 have hlast : L.getLast? = some x := by rw [List.getLast?_eq_getElem?, hK, Nat.add_sub_cancel]; exact hx
 have hgl : (L.map (·.data.toList)).getLast? = some x.data.toList := by rw [List.getLast?_map, hlast]; rfl
 clear hxe
 have HX := Lib.hid hx
 have HGL := Lib.hid hgl
 have HK := Lib.hid hK
 have hKb : K ≤ 2000000 := by omega
 clear hx hlast hgl hlen
 rw [hK] at S
 clear hK
 generalize Ln.cut [] s.data.toList = tot at hcut ⊢
 go_enter Tryz.func33, Tryz.ntmps33
 go_wp2_with fail
 refine S.out.mono ?_; rintro e w1 ⟨c, rfl, hc1, hc2, b1, hcells, hz⟩
 have g := hcells K x HX.out
 have HC := Lib.hid hcells
 have B1 := Lib.hid b1
 have hcI : (K : Int) + 1 ≤ (c : Int) := by omega
 have hzb : w.heap.size < w1.heap.size := by omega
 clear hcells b1 S hz
 have lst : ∀ j : Nat, j ≤ K + 1 → ∀ M : List ByteArray, M.length = j → (∀ i y, M[i]? = some y → L[i]? = some y) → StS w1 (.slice (some ⟨w.heap.size, 0, none⟩) j c) M := fun j hj M hM hsub => ⟨some ⟨w.heap.size, 0, none⟩, c, by rw [hM], fun _ => ⟨_, rfl, hzb, fun i u hu => by
  rw [List.getElem?_map] at hu
  cases hy : M[i]? with
  | none => rw [hy] at hu; cases hu
  | some y =>
   rw [hy] at hu; cases hu
   rw [show (⟨w.heap.size, 0, none⟩ : Addr).add i = ⟨w.heap.size, i, none⟩ by simp [Addr.add]; exact fun h => h.symm]
   exact HC.out i y (hsub i y hy)⟩⟩
 have LST := Lib.hid lst
 clear lst
 rcases Nat.eq_zero_or_pos x.size with hz0 | hz0
 ·
  have ex : x = ⟨#[]⟩ := by
   apply ByteArray.ext; apply Array.toList_inj.1
   rw [show x.data.toList = [] by rw [← List.length_eq_zero_iff, ab_len]; exact hz0]
  subst ex
  have HD := Lib.hid (show (L.dropLast).map (·.data.toList) = tot by
   rw [hcut.out]; unfold Ln.dropE; rw [HGL.out, if_pos rfl, List.map_dropLast])
  have hdl := Lib.hid (show L.dropLast.length = K by rw [List.length_dropLast, HK.out]; rfl)
  have hsub := Lib.hid (show ∀ i y, L.dropLast[i]? = some y → L[i]? = some y from fun i y h => by
   rw [List.getElem?_dropLast] at h
   split at h
   ·
    exact h
   ·
    cases h)
  go_wp2_with fail
  go_ret
  exact ⟨_, L.dropLast, LST.out K (by omega) _ hdl.out hsub.out, HD.out, rfl, B1.out⟩
 ·
  obtain ⟨hn1, hn2⟩ := dne hz0
  have HD := Lib.hid (show L.map (·.data.toList) = tot by
   rw [hcut.out]; unfold Ln.dropE; rw [HGL.out, if_neg (by
    intro h
    injection h with h
    have := ab_len x
    rw [h] at this; simp at this; omega)])
  go_wp2_with fail
  go_ret
  exact ⟨_, L, LST.out (K + 1) (Nat.le_refl _) _ HK.out (fun _ _ h => h), HD.out, rfl, B1.out⟩
end Go.Proofs.YtifgiclnofdnkaaGreatDoor
