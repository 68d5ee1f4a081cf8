/- Joined: LpM. -/
import Derived.Test.YtifgiclnofdnkaaGreatDoorBy01
import Derived.Test.YtifgiclnofdnkaaGreatDoorBy33
import Derived.Test.YtifgiclnofdnkaaGreatDoorBy34
import Derived.Test.YtifgiclnofdnkaaGreatDoorBy06
set_option linter.unusedVariables false
set_option linter.unusedSimpArgs false
namespace Go.Proofs.YtifgiclnofdnkaaGreatDoor
open Go.RowKit Go.Sort
set_option maxHeartbeats 8000000 in
set_option maxRecDepth 100000 in
theorem rleRead_any (s : ByteArray) (w : World) :
  Calls Tryz.prog 13 #[.string s] w fun e w' => ∃ v, SpO w.heap.size w' v (Lp.rd s.data.toList).1 ∧ e = .returned (.tuple #[v, .agg #[.int .i64 (Lp.rd s.data.toList).2.1, .int .i64 (Lp.rd s.data.toList).2.2]]) ∧ Below w.heap.size w w' := by
 obtain ⟨R, hR⟩ : ∃ R, R = Lp.rd s.data.toList := ⟨_, rfl⟩
 rw [← hR]
 unfold Lp.rd at hR
 rw [ab_len] at hR
 by_cases h : 1048576 < s.size
 ·
  rw [if_pos h] at hR
  subst hR
  have h1 : (1048576 : Int) < (s.size : Int) := by omega
  clear h
  go_enter Tryz.func13, Tryz.ntmps13
  go_wp2_with fail
  refine bodyPost_ret (v := .tuple #[.slice none 0 0, .agg #[.int .i64 0, .int .i64 9]]) (by simp [results, Tryz.results13, go_sem]) rfl ⟨_, ⟨none, 0, rfl, fun h => absurd h (by simp)⟩, rfl, ?_⟩
  repeat (first | exact Below.refl _ _ | refine Below.setCell ?_ (by first | omega | (simp; done) | (simp; omega)) _ | refine Below.alloc ?_ (by first | omega | (simp; done) | (simp; omega)) _)
 ·
  rw [if_neg h] at hR
  have h1 : ¬ (1048576 : Int) < (s.size : Int) := by omega
  have hs : s.size ≤ 1048576 := by omega
  have LO := Lib.hid (fun W => rlof_any s W (by omega))
  have HR := Lib.hid hR
  obtain ⟨i0, hi, hz0, hz1, hz2⟩ := leap_parts leap_info
  clear hR h
  go_enter Tryz.func13, Tryz.ntmps13
  go_wp2_with fail
  refine (LO.out _).mono ?_; rintro e w1 ⟨v, L, S, hL, rfl, b1⟩
  have b0 : Below w.heap.size w (w.alloc (.cells #[.int .i64 0, .int .i64 0] 32)) := (Below.refl _ _).alloc (Nat.le_refl _) _
  have B1 := Lib.hid (below_step b0 b1)
  have P1 := Lib.hid (show Bk2 w1 w.heap.size (.int .i64 0) (.int .i64 0) from Bk2.of b1 (by simp) (by intro j; simp [go_sem]) (by simp [go_sem]) (by simp [go_sem]))
  have HS := Lib.hid S
  obtain ⟨A, c, rfl, -⟩ := S
  have hlen := Ln.cut_len [] s.data.toList
  rw [← hL, List.length_map, ab_len] at hlen
  have hsz := Lib.hid (show ∀ x ∈ L, x.size ≤ s.size from fun x hx => by
   have := Ln.cut_size [] s.data.toList x.data.toList (by rw [← hL]; exact List.mem_map_of_mem hx)
   rw [ab_len, ab_len] at this; simpa using this)
  obtain ⟨T, hT⟩ : ∃ T, T = Lp.lns (L.map (·.data.toList)) 0 [] := ⟨_, rfl⟩
  have HT := Lib.hid hT.symm
  have HR2 : Hid (R = if T.2.2 ≠ 0 then ([], T.2) else if Lp.right T.1 = true then (T.1, 0, 0) else ([], 0, 4)) := Lib.hid (by rw [HR.out, hT, hL])
  have TL : T.1.length ≤ 1048577 := by
   have h2 := Lp.lns_len (L.map (·.data.toList)) 0 []
   rw [← hT, List.length_map] at h2
   simp at h2
   omega
  have HTL := Lib.hid TL
  obtain ⟨N, hN⟩ : ∃ N, N = L.length := ⟨_, rfl⟩
  have HN := Lib.hid hN
  have HS : Hid (StS w1 (.slice A N c) L) := by rw [hN]; exact HS
  rw [← hN] at hlen ⊢
  have O1 : w1.ownsRow w1.heap.size 39 2 (.slice none 0 0) 0 (spc []) := World.ownsRow_nil _ _ _ _
  have O1 := Lib.hid O1
  have HI := Lib.hid hi
  obtain ⟨pb, hpb⟩ : ∃ pb, pb = w.heap.size := ⟨_, rfl⟩
  have HPB := Lib.hid hpb
  have P1 : Hid (Bk2 w1 pb (.int .i64 0) (.int .i64 0)) := by rw [hpb]; exact P1
  have hp1 : pb < w1.heap.size := P1.out.hb
  rw [← hpb]
  clear b1 b0 hL hN hT TL HR LO hi hpb
  go_wp2_with fail
  go_loopw [4, 17] (fun lv i wr => ∃ (k : Nat) (out : List Lp.X), k ≤ N ∧ out.length ≤ k ∧ i = .int .i64 k ∧ Hid (Lp.lns ((L.map (·.data.toList)).drop k) k out = T) ∧ Hid (wr.ownsRow w1.heap.size 39 2 lv out.length (spc out)) ∧ Hid (Below w1.heap.size w1 wr)) (fun _ i _ => N - (intOf i).toNat)
  case atStart => exact ⟨0, [], Nat.zero_le _, Nat.le_refl _, rfl, HT, O1, Lib.hid (Below.refl _ _)⟩
  case round =>
   obtain ⟨k, out, hk, hol, rfl, hinv, hown, hB⟩ := hrel
   by_cases hlt : k < N
   ·
    have hkl : k < L.length := by have := HN.out; omega
    obtain ⟨a, rfl, g0⟩ := (HS.out.on hB.out).get k hkl
    have hsx := hsz.out L[k] (List.getElem_mem hkl)
    have hd := hinv.out
    rw [Lp.lns_drop _ k out (by rw [List.length_map]; exact hkl), List.getElem_map] at hd
    have HD := Lib.hid hd
    generalize L[k] = x at g0 hsx HD
    have i1 : (k : Int) < N := by omega
    have CC := Lib.hid (fun W => rlline_any x W (by omega))
    clear hd hinv
    generalize Lp.ln x.data.toList = Z at CC HD
    obtain ⟨z, y⟩ := Z
    unfold Lp.lv at CC
    dsimp only at CC HD
    by_cases hy : y = 0
    case neg =>
     have e1 : (y == 0) = false := by rw [beq_eq_false_iff_ne]; exact hy
     have e2 : (y != 0) = true := by simpa using hy
     have EX := Lib.hid (show R = ([], (k : Int) + 1, y) by rw [HR2.out, ← HD.out, if_pos hy, if_pos hy])
     generalize (z.getD (0, 0)).1 = px at CC
     generalize (z.getD (0, 0)).2 = py at CC
     generalize z.isSome = bz at CC
     clear HR2 HD hown
     go_wp2_with fail
     refine (CC.out _).mono ?_; rintro e w3 ⟨rfl, b3⟩
     have B3 := Lib.hid (below_step hB.out b3)
     have P3 := P1.out.keep B3.out
     have q_b := P3.hb; have q_f := P3.fz; have q_0 := P3.k0; have q_1 := P3.k1
     clear b3 P3
     go_wp2_with fail
     refine bodyPost_ret (v := .tuple #[.slice none 0 0, .agg #[.int .i64 ((k : Int) + 1), .int .i64 y]]) (by simp [results, Tryz.results13, go_sem, q_b, q_f, q_0, q_1]) rfl ?_
     clear q_b q_f q_0 q_1
     rw [EX.out]
     refine ⟨_, ⟨none, 0, rfl, fun h => absurd h (by simp)⟩, rfl, ?_⟩
     have hz := (below_step B1.out B3.out).size
     have hpe := HPB.out
     repeat (first | exact below_step B1.out B3.out | refine Below.setCell ?_ (by first | omega | (simp; done) | (simp; omega)) _ | refine Below.alloc ?_ (by first | omega | (simp; done) | (simp; omega)) _)
    subst hy
    have HD2 := Lib.hid (show Lp.lns ((L.map (·.data.toList)).drop (k + 1)) (k + 1) (out ++ z.toList) = T by rw [← HD.out, if_neg (by simp)])
    clear HD
    cases z with
    | none =>
     have HD3 := Lib.hid (show Lp.lns ((L.map (·.data.toList)).drop (k + 1)) (k + 1) out = T by have := HD2.out; rw [show (none : Option Lp.X).toList = [] from rfl, List.append_nil] at this; exact this)
     clear HD2
     dsimp only [Option.getD, Option.isSome] at CC
     go_wp2_with fail
     refine (CC.out _).mono ?_; rintro e w3 ⟨rfl, b3⟩
     have B3 := Lib.hid (below_step hB.out b3)
     have O3 := Lib.hid (own_on hown.out b3)
     clear b3 hown
     go_wp2
     have d4 : Below w3.heap.size w3 (w3.alloc (.cells #[.int .i64 0, .int .i64 0] 39)) := (Below.refl _ _).alloc (Nat.le_refl _) _
     go_roundw
     case rel => exact ⟨k + 1, out, by omega, by omega, by go_num, HD3, Lib.hid (own_on O3.out (by repeat (first | exact Below.refl _ _ | refine Below.setCell ?_ (by first | omega | (simp; done) | (simp; omega)) _ | refine Below.alloc ?_ (by first | omega | (simp; done) | (simp; omega)) _))), Lib.hid (grB B3)⟩
     case measure => simp [intOf]; omega
    | some pq =>
     obtain ⟨px, py⟩ := pq
     dsimp only [Option.getD, Option.isSome] at CC
     have HD3 := Lib.hid (show Lp.lns ((L.map (·.data.toList)).drop (k + 1)) (k + 1) (out ++ [(px, py)]) = T from HD2.out)
     clear HD2
     go_wp2_with fail
     refine (CC.out _).mono ?_; rintro e w3 ⟨rfl, b3⟩
     have B3 := Lib.hid (below_step hB.out b3)
     have O3 := Lib.hid (own_on hown.out b3)
     clear b3 hown
     go_upto_region 11 with (fail)
     refine wp_named ?_; intro w4 hw4
     have d4 : Below w3.heap.size w3 w4 := by rw [hw4]; exact (by repeat (first | exact Below.refl _ _ | refine Below.setCell ?_ (by first | omega | (simp; done) | (simp; omega)) _ | refine Below.alloc ?_ (by first | omega | (simp; done) | (simp; omega)) _))
     have Y4 : Bk2 w4 w3.heap.size (.int .i64 px) (.int .i64 py) := by rw [hw4]; exact ⟨by simp <;> omega, by intro j; simp [go_sem], by simp [go_sem], by simp [go_sem]⟩
     have B4 := Lib.hid (below_step B3.out d4)
     have O4 := own_on O3.out d4
     have hi := HI.out
     have y0 := Y4.k0; have y1 := Y4.k1; have yb := Y4.hb
     clear hw4 d4 O3 B3
     have hn1 : out.length + 1 ≤ 1048578 := by omega
     have SN : SpV (w4.alloc (.cells #[.int .i64 px, .int .i64 py] 39)) (.slice (some ⟨w4.heap.size, 0, none⟩) 1 1) [(px, py)] := SpO.st (lp_spo 0 w4 [(px, py)] _ rfl _ 1 (Nat.zero_le _))
     go_wp2_with (at_builtin; refine wpList_append_lst rfl _ _ 22 rfl w1.heap.size 39 i0 (.agg #[.int .i64 0, .int .i64 0]) 2 16 Tryz.underlying22 hi hz0 hz1 hz2 rfl (by decide) _ out.length _ rfl (O4.alloc _) _ 1 _ (spc [(px, py)]) rfl SN (spc_len _) (spc_one _) (by unfold maxLen; omega) (by omega) (by have := B4.out.size; simp; omega) ?_)
     intro v5 w5 hown5 hg5
     have B5 := Lib.hid (show Below w1.heap.size w1 w5 from (B4.out.alloc B4.out.size _).trans (below_grown hg5 (by have := B4.out.size; simp; omega) (own_row O4)))
     have O5 := Lib.hid (show w5.ownsRow w1.heap.size 39 2 v5 (out ++ [(px, py)]).length (spc (out ++ [(px, py)])) by rw [List.length_append, spc_app]; exact hown5)
     clear hown5 hg5 hi y0 y1 yb Y4 O4 SN
     go_wp2_with fail
     go_roundw
     case rel => exact ⟨k + 1, out ++ [(px, py)], by omega, by rw [List.length_append]; show out.length + 1 ≤ k + 1; omega, by go_num, HD3, O5, B5⟩
     case measure => simp [intOf]; omega
   ·
    have ET : T = (out, 0, 0) := by rw [← hinv.out, List.drop_of_length_le (by rw [List.length_map]; have := HN.out; omega)]; rfl
    have i2 : ¬ (k : Int) < N := by omega
    have hR := HR2.out
    rw [ET, if_neg (by simp)] at hR
    replace hR : R = if Lp.right out = true then (out, 0, 0) else ([], 0, 4) := hR
    have tl := HTL.out
    rw [ET] at tl
    have tl2 : out.length ≤ 100000000 := by dsimp only at tl; omega
    have CR := Lib.hid (fun (v : Value) (W : World) (S : SpV W v out) => rleright_big v out W S tl2)
    have HRR := Lib.hid hR
    clear hR tl tl2 HR2 HTL HT ET hinv
    by_cases hr : Lp.right out = true
    ·
     have EX := Lib.hid (show R = (out, 0, 0) by rw [HRR.out, if_pos hr])
     rw [hr] at CR
     clear hr
     go_wp2_with fail
     refine (CR.out _ _ (SpV.own hown.out)).mono ?_; rintro e w2 ⟨rfl, b2⟩
     have B2 := Lib.hid (below_step hB.out b2)
     have O2 := Lib.hid (own_on hown.out b2)
     have P3 := P1.out.keep B2.out
     have q_b := P3.hb; have q_f := P3.fz; have q_0 := P3.k0; have q_1 := P3.k1
     clear b2 P3
     go_wp2_with fail
     refine bodyPost_ret (v := .tuple #[_, .agg #[.int .i64 0, .int .i64 0]]) (by simp [results, Tryz.results13, go_sem, q_b, q_f, q_0, q_1]; rfl) rfl ?_
     clear q_b q_f q_0 q_1
     rw [EX.out]
     have S2 := SpO.own O2.out (B := pb + 1) (by omega)
     have hpe := HPB.out
     refine ⟨_, SpO.mono (SpO.turn (SpO.turn S2 (Nat.le_of_eq (set_size ..).symm) (fun i h1 h2 => set_block _ _ _ _ ?_)) (Nat.le_of_eq (set_size ..).symm) (fun i h1 h2 => set_block _ _ _ _ ?_)) (by omega), rfl, ?_⟩
     ·
      show pb ≠ i; omega
     ·
      show pb ≠ i; omega
     ·
      have hz := (below_step B1.out B2.out).size
      repeat (first | exact below_step B1.out B2.out | refine Below.setCell ?_ (by first | omega | (simp; done) | (simp; omega)) _)
    ·
     have EX := Lib.hid (show R = ([], 0, 4) by rw [HRR.out, if_neg hr])
     have hr : Lp.right out = false := by simpa using hr
     rw [hr] at CR
     clear hr
     go_wp2_with fail
     refine (CR.out _ _ (SpV.own hown.out)).mono ?_; rintro e w2 ⟨rfl, b2⟩
     have B2 := Lib.hid (below_step hB.out b2)
     have P3 := P1.out.keep B2.out
     have q_b := P3.hb; have q_f := P3.fz; have q_0 := P3.k0; have q_1 := P3.k1
     clear b2 P3
     go_wp2_with fail
     refine bodyPost_ret (v := .tuple #[.slice none 0 0, .agg #[.int .i64 0, .int .i64 4]]) (by simp [results, Tryz.results13, go_sem, q_b, q_f, q_0, q_1]) rfl ?_
     clear q_b q_f q_0 q_1
     rw [EX.out]
     have hpe := HPB.out
     refine ⟨_, ⟨none, 0, rfl, fun h => absurd h (by simp)⟩, rfl, ?_⟩
     have hz := (below_step B1.out B2.out).size
     repeat (first | exact below_step B1.out B2.out | refine Below.setCell ?_ (by first | omega | (simp; done) | (simp; omega)) _)
end Go.Proofs.YtifgiclnofdnkaaGreatDoor
