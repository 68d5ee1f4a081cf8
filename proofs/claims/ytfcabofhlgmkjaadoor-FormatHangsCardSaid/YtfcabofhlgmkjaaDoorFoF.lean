/- The walk of FormatHangs: whatever is handed in, the law answers true; nothing old turns. -/
import Derived.Test.YtfcabofhlgmkjaaDoorFoE
set_option linter.unusedVariables false
set_option linter.unusedSimpArgs false
namespace Go.Proofs.YtfcabofhlgmkjaaDoor
open Go.RowKit

namespace Fo
theorem hang (s : List UInt8) (off other save : Int) (L M : List UInt8) :
    ((ab s off save L).2 ≠ 0 → (ab s off save L).1 = []) ∧
    ((ab s off save L).2 = 0 → (ab s off save M).2 = 0 ∧ (ab s off 1 L).2 = 0 ∧
      ((ab s off save M).1 = (ab s off save L).1 ∨ ((ab s off 1 L).1 = (ab s off save L).1 ∧ ((ab s other save L).2 = 0 → (ab s other save L).1 = (ab s off save L).1) ∧ L ≠ M)) ∧
      ((ab s off 1 L).1 = (ab s off save L).1 ∨ (save = 0 ∧ (ab s off save M).1 = (ab s off save L).1 ∧ ((ab s other save L).2 = 0 → (ab s other save L).1 = (ab s off save L).1)))) := by
  unfold ab
  by_cases h : aw s off = 0
  · rw [if_pos h, if_pos h, if_pos h]
    refine ⟨fun x => absurd rfl x, fun _ => ⟨rfl, rfl, ?_⟩⟩
    have hc : ∀ v : List UInt8, (∀ o, av s o save L = v) → ((if aw s other = 0 then (av s other save L, (0 : Int)) else ([], aw s other)).2 = 0 → (if aw s other = 0 then (av s other save L, (0 : Int)) else ([], aw s other)).1 = v) := fun v hv => by
      by_cases h2 : aw s other = 0
      · rw [if_pos h2]; exact fun _ => hv other
      · rw [if_neg h2]; exact fun x => absurd x h2
    by_cases k1 : (kd s).1 = 1
    · have e : ∀ o z l, av s o z l = Lib.replace s [37, 115] l 1 := fun o z l => by unfold av; rw [if_pos k1]
      refine ⟨?_, .inl (by show av s off 1 L = av s off save L; rw [e, e])⟩
      by_cases hLM : L = M
      · left; rw [hLM]
      · right
        exact ⟨by show av s off 1 L = av s off save L; rw [e, e], hc _ (fun o => by rw [e, e]), hLM⟩
    · by_cases k2 : (kd s).1 = 2
      · have e : ∀ o z l, av s o z l = df o := fun o z l => by unfold av; rw [if_neg k1, if_pos k2]
        exact ⟨.inl (by show av s off save M = av s off save L; rw [e, e]), .inl (by show av s off 1 L = av s off save L; rw [e, e])⟩
      · by_cases k3 : (kd s).1 = 3
        · have e : ∀ o z l, av s o z l = (if z = 0 then (Lib.cut s [47]).1 else (Lib.cut s [47]).2.1) := fun o z l => by unfold av; rw [if_neg k1, if_neg k2, if_pos k3]
          refine ⟨.inl (by show av s off save M = av s off save L; rw [e, e]), ?_⟩
          by_cases hz : save = 0
          · right
            exact ⟨hz, by show av s off save M = av s off save L; rw [e, e], hc _ (fun o => by rw [e, e])⟩
          · left
            show av s off 1 L = av s off save L
            rw [e, e, if_neg (by decide), if_neg hz]
        · have e : ∀ o z l, av s o z l = s := fun o z l => by unfold av; rw [if_neg k1, if_neg k2, if_neg k3]
          exact ⟨.inl (by show av s off save M = av s off save L; rw [e, e]), .inl (by show av s off 1 L = av s off save L; rw [e, e])⟩
  · rw [if_neg h, if_neg h, if_neg h]
    exact ⟨fun _ => rfl, fun x => absurd x h⟩
theorem back (L : List UInt8) : (ltx L).2 ≠ 0 ∨ ((ltx L).2 = 0 ∧ lt (ltx L).1 = (L, 0)) := by
  unfold ltx
  by_cases h0 : L = []
  · right; rw [if_pos h0, h0]; exact ⟨rfl, rfl⟩
  · rw [if_neg h0]
    by_cases h : (lt L).2 ≠ 0 ∨ (lt L).1 ≠ L
    · left; rw [if_pos h]; decide
    · right
      rw [if_neg h]
      refine ⟨rfl, ?_⟩
      have h1 : (lt L).2 = 0 := by
        by_cases x : (lt L).2 = 0
        · exact x
        · exact absurd (.inl x) h
      have h2 : (lt L).1 = L := by
        by_cases x : (lt L).1 = L
        · exact x
        · exact absurd (.inr x) h
      show lt L = (L, 0)
      rw [← h1]
      exact Prod.ext h2 rfl
end Fo
theorem arr_inj {a b : List UInt8} : (⟨a.toArray⟩ : ByteArray) = ⟨b.toArray⟩ ↔ a = b := by
  constructor
  · intro h
    have := congrArg (fun x : ByteArray => x.data.toList) h
    simpa using this
  · intro h; rw [h]
theorem bar_ne {A B : ByteArray} (h : ¬ A = B) : ¬ A.toList = B.toList := fun e => h (by
  rw [ByteArray.toList_eq, ByteArray.toList_eq] at e
  exact ByteArray.ext (Array.toList_inj.1 e))
set_option maxHeartbeats 4000000 in
set_option maxRecDepth 100000 in
theorem fh_out (s L M : ByteArray) (off other save : Int) (w : World) (m : Int) (hm : w.cell? ⟨1, 0, none⟩ = some (.int .i64 m)) (htab : Lib.TabIs Tryd.prog w "internal/strconv.uint64pow10" .u64 Lib.pow10Tab) (hs : s.size ≤ maxLen) (hL : L.size ≤ maxLen) (hM : M.size ≤ maxLen) (h : 500 < s.size ∨ 500 < L.size ∨ 500 < M.size) :
    Calls Tryd.prog 10 #[.string s, .int .i64 off, .int .i64 other, .int .i64 save, .string L, .string M] w fun e w' => e = .returned (.bool true) ∧ Below w.heap.size w w' := by
  have LV := Lib.hid (lives20 w m hm htab)
  clear hm htab
  unfold maxLen at hs hL hM
  by_cases h1 : 500 < (s.size : Int)
  · go_enter Tryd.func10, Tryd.ntmps10
    go_wp2_with fail
    refine LV.out.mono ?_; rintro e w1 ⟨rfl, b1⟩
    go_wp2_with fail
    go_ret
    exact ⟨rfl, b1⟩
  · by_cases h2 : 500 < (L.size : Int)
    · go_enter Tryd.func10, Tryd.ntmps10
      go_wp2_with fail
      refine LV.out.mono ?_; rintro e w1 ⟨rfl, b1⟩
      go_wp2_with fail
      go_ret
      exact ⟨rfl, b1⟩
    · have h3 : 500 < (M.size : Int) := by omega
      clear h
      go_enter Tryd.func10, Tryd.ntmps10
      go_wp2_with fail
      refine LV.out.mono ?_; rintro e w1 ⟨rfl, b1⟩
      go_wp2_with fail
      go_ret
      exact ⟨rfl, b1⟩
set_option maxHeartbeats 16000000 in
set_option maxRecDepth 100000 in
theorem fh_in (s L M : ByteArray) (off other save : Int) (w : World) (m : Int) (hm : w.cell? ⟨1, 0, none⟩ = some (.int .i64 m)) (htab : Lib.TabIs Tryd.prog w "internal/strconv.uint64pow10" .u64 Lib.pow10Tab) (hs : s.size ≤ 500) (hL : L.size ≤ 500) (hM : M.size ≤ 500) :
    Calls Tryd.prog 10 #[.string s, .int .i64 off, .int .i64 other, .int .i64 save, .string L, .string M] w fun e w' => e = .returned (.bool true) ∧ Below w.heap.size w w' := by
  have M0 := Lib.hid hm; have T0 := Lib.hid htab; clear hm htab
  have LV := Lib.hid (fun W (h : W.cell? ⟨1, 0, none⟩ = some (.int .i64 m)) (T : Lib.TabIs Tryd.prog W "internal/strconv.uint64pow10" .u64 Lib.pow10Tab) => lives20 W m h T)
  have AB := fun (L : ByteArray) (hL : L.size ≤ 500) (off save : Int) W (h : W.cell? ⟨1, 0, none⟩ = some (.int .i64 m)) (T : Lib.TabIs Tryd.prog W "internal/strconv.uint64pow10" .u64 Lib.pow10Tab) => abbr_any s L off save W m (by omega) (by omega) h T
  obtain ⟨hg1, hg2⟩ := Fo.hang s.data.toList off other save L.data.toList M.data.toList
  have CA := Lib.hid (AB L hL off save); have CB := Lib.hid (AB M hM off save); have CC := Lib.hid (AB L hL other save); have CD := Lib.hid (AB L hL off 1)
  generalize Fo.ab s.data.toList off save L.data.toList = pa at CA hg1 hg2
  generalize Fo.ab s.data.toList off save M.data.toList = pb at CB hg2
  generalize Fo.ab s.data.toList other save L.data.toList = pc at CC hg2
  generalize Fo.ab s.data.toList off 1 L.data.toList = pd at CD hg2
  obtain ⟨a, qa⟩ := pa; obtain ⟨b, qb⟩ := pb; obtain ⟨c, qc⟩ := pc; obtain ⟨d, qd⟩ := pd
  have hg1 : qa ≠ 0 → a = [] := hg1
  have hg2 : qa = 0 → qb = 0 ∧ qd = 0 ∧ (b = a ∨ (d = a ∧ (qc = 0 → c = a) ∧ L.data.toList ≠ M.data.toList)) ∧ (d = a ∨ (save = 0 ∧ b = a ∧ (qc = 0 → c = a))) := hg2
  have g1 : ¬ 500 < (s.size : Int) := by omega
  have g2 : ¬ 500 < (L.size : Int) := by omega
  have g3 : ¬ 500 < (M.size : Int) := by omega
  clear AB
  obtain ⟨Av, ha⟩ : ∃ x : ByteArray, x = ⟨a.toArray⟩ := ⟨_, rfl⟩
  have CA : Hid (∀ W, W.cell? ⟨1, 0, none⟩ = some (.int .i64 m) → Lib.TabIs Tryd.prog W "internal/strconv.uint64pow10" .u64 Lib.pow10Tab → Calls Tryd.prog 50 #[.string s, .int .i64 off, .int .i64 save, .string L] W fun e w' => e = .returned (.tuple #[.string Av, .int .i64 qa]) ∧ Below W.heap.size W w') := by rw [ha]; exact CA
  obtain ⟨Bv, hb⟩ : ∃ x : ByteArray, x = ⟨b.toArray⟩ := ⟨_, rfl⟩
  have CB : Hid (∀ W, W.cell? ⟨1, 0, none⟩ = some (.int .i64 m) → Lib.TabIs Tryd.prog W "internal/strconv.uint64pow10" .u64 Lib.pow10Tab → Calls Tryd.prog 50 #[.string s, .int .i64 off, .int .i64 save, .string M] W fun e w' => e = .returned (.tuple #[.string Bv, .int .i64 qb]) ∧ Below W.heap.size W w') := by rw [hb]; exact CB
  obtain ⟨Cv, hc⟩ : ∃ x : ByteArray, x = ⟨c.toArray⟩ := ⟨_, rfl⟩
  have CC : Hid (∀ W, W.cell? ⟨1, 0, none⟩ = some (.int .i64 m) → Lib.TabIs Tryd.prog W "internal/strconv.uint64pow10" .u64 Lib.pow10Tab → Calls Tryd.prog 50 #[.string s, .int .i64 other, .int .i64 save, .string L] W fun e w' => e = .returned (.tuple #[.string Cv, .int .i64 qc]) ∧ Below W.heap.size W w') := by rw [hc]; exact CC
  obtain ⟨Dv, hd⟩ : ∃ x : ByteArray, x = ⟨d.toArray⟩ := ⟨_, rfl⟩
  have CD : Hid (∀ W, W.cell? ⟨1, 0, none⟩ = some (.int .i64 m) → Lib.TabIs Tryd.prog W "internal/strconv.uint64pow10" .u64 Lib.pow10Tab → Calls Tryd.prog 50 #[.string s, .int .i64 off, .int .i64 1, .string L] W fun e w' => e = .returned (.tuple #[.string Dv, .int .i64 qd]) ∧ Below W.heap.size W w') := by rw [hd]; exact CD
  have HG1 := Lib.hid (show qa ≠ 0 → Av = ⟨#[]⟩ from fun h => by rw [ha, hg1 h])
  have HG2 := Lib.hid (show qa = 0 → qb = 0 ∧ qd = 0 ∧ (Bv = Av ∨ (Dv = Av ∧ (qc = 0 → Cv = Av) ∧ ¬ L = M)) ∧ (Dv = Av ∨ (save = 0 ∧ Bv = Av ∧ (qc = 0 → Cv = Av))) from fun h => by
    obtain ⟨x1, x2, x3, x4⟩ := hg2 h
    refine ⟨x1, x2, ?_, ?_⟩
    · rcases x3 with x | ⟨y1, y2, y3⟩
      · left; rw [hb, ha, x]
      · right; exact ⟨by rw [hd, ha, y1], fun z => by rw [hc, ha, y2 z], fun z => y3 (by rw [z])⟩
    · rcases x4 with x | ⟨y1, y2, y3⟩
      · left; rw [hd, ha, x]
      · right; exact ⟨y1, by rw [hb, ha, y2], fun z => by rw [hc, ha, y3 z]⟩)
  clear hg1 hg2 ha hb hc hd
  obtain ⟨T, e4, XT, hbk⟩ : ∃ (T : ByteArray) (e4 : Int), Hid (∀ W, Calls Tryd.prog 54 #[.string L] W fun e' w' => e' = .returned (.tuple #[.string T, .int .i64 e4]) ∧ W = w') ∧ ∃ (U : ByteArray) (e5 : Int), Hid (∀ W, Calls Tryd.prog 52 #[.string T] W fun e' w' => e' = .returned (.tuple #[.string U, .int .i64 e5]) ∧ W = w') ∧ (e4 ≠ 0 ∨ (e4 = 0 ∧ U = L ∧ e5 = 0)) := by
    refine ⟨⟨(Fo.ltx L.data.toList).1.toArray⟩, (Fo.ltx L.data.toList).2, fun W => lettertext_any L W (by omega), ⟨(Fo.lt (Fo.ltx L.data.toList).1).1.toArray⟩, (Fo.lt (Fo.ltx L.data.toList).1).2, fun W => ?_, ?_⟩
    · refine letter_any (⟨(Fo.ltx L.data.toList).1.toArray⟩ : ByteArray) W ?_
      rw [arr_size]
      unfold Fo.ltx
      repeat' split
      all_goals (simp; try (have := ab_len L; omega))
    · rcases Fo.back L.data.toList with h | ⟨h1, h2⟩
      · exact .inl h
      · right; rw [h2]; exact ⟨h1, bz_id L, rfl⟩
  obtain ⟨U, e5, XU, hbk⟩ := hbk
  have HBK := Lib.hid hbk
  clear hbk
  go_enter Tryd.func10, Tryd.ntmps10
  go_wp2_with fail
  refine (LV.out _ M0.out T0.out).mono ?_; rintro e w1 ⟨rfl, b1⟩
  have B1 := Lib.hid b1; clear b1 LV
  go_wp2_with fail
  refine (CA.out _ (cell_keep0 M0.out B1.out) (var_keep B1.out T0.out)).mono ?_; rintro e w2 ⟨rfl, b2⟩
  have B2 := Lib.hid (below_step B1.out b2); clear b2 B1
  cases hqa : qa == 0
  · have hn : qa ≠ 0 := fun h => by rw [h] at hqa; cases hqa
    have hq2 : (qa != 0) = true := by unfold bne; rw [hqa]; rfl
    have ea := HG1.out hn
    subst ea
    go_wp2_with fail
    go_ret
    exact ⟨rfl, B2.out⟩
  · have hn : qa = 0 := by rw [← beq_iff_eq]; exact hqa
    obtain ⟨z1, z2, z3, z4⟩ := HG2.out hn
    subst hn; subst z1; subst z2
    have Z3 := Lib.hid z3; have Z4 := Lib.hid z4
    clear z3 z4 HG1 HG2 hqa
    go_wp2_with fail
    refine (CB.out _ (cell_keep0 M0.out B2.out) (var_keep B2.out T0.out)).mono ?_; rintro e w3 ⟨rfl, b3⟩
    have B3 := Lib.hid (below_step B2.out b3); clear b3 B2
    go_wp2_with fail
    refine (CC.out _ (cell_keep0 M0.out B3.out) (var_keep B3.out T0.out)).mono ?_; rintro e w4 ⟨rfl, b4⟩
    have B4 := Lib.hid (below_step B3.out b4); clear b4 B3
    go_wp2_with fail
    refine (CD.out _ (cell_keep0 M0.out B4.out) (var_keep B4.out T0.out)).mono ?_; rintro e w5 ⟨rfl, b5⟩
    have B5 := Lib.hid (below_step B4.out b5); clear b5 B4 CA CB CC CD
    have QC : Hid (((qc == 0) = true ∧ qc = 0) ∨ ((qc == 0) = false ∧ (qc != 0) = true ∧ qc ≠ 0)) := by
      refine Lib.hid ?_
      by_cases h : qc = 0
      · left; exact ⟨by rw [beq_iff_eq]; exact h, h⟩
      · right; have : (qc == 0) = false := by rw [beq_eq_false_iff_ne]; exact h
        exact ⟨this, by unfold bne; rw [this]; rfl, h⟩
    have Q4 : Hid (((e4 != 0) = true ∧ (e4 == 0) = false) ∨ (e4 = 0 ∧ U = L ∧ e5 = 0)) := by
      refine Lib.hid ?_
      rcases HBK.out with h | h
      · left; have : (e4 == 0) = false := by rw [beq_eq_false_iff_ne]; exact h
        exact ⟨by unfold bne; rw [this]; rfl, this⟩
      · exact .inr h
    have SV : Hid (((save == 0) = true ∧ save = 0) ∨ ((save == 0) = false ∧ save ≠ 0)) := by
      refine Lib.hid ?_
      by_cases h : save = 0
      · left; exact ⟨by rw [beq_iff_eq]; exact h, h⟩
      · right; exact ⟨by rw [beq_eq_false_iff_ne]; exact h, h⟩
    have LM : Hid (L = M ∨ (¬ L.toList = M.toList ∧ (L.toList == M.toList) = false ∧ ¬ L = M)) := by
      refine Lib.hid ?_
      by_cases h : L = M
      · exact .inl h
      · right; exact ⟨bar_ne h, by rw [beq_eq_false_iff_ne]; exact bar_ne h, h⟩
    clear HBK
    by_cases hBA : Bv = Av
    · subst hBA
      by_cases hDA : Dv = Bv
      · subst hDA
        clear Z3 Z4
        rcases LM.out with rfl | ⟨l1, l2, l3⟩
        all_goals
          rcases SV.out with ⟨s1, rfl⟩ | ⟨s1, s2⟩
          all_goals
            rcases QC.out with ⟨y1, rfl⟩ | ⟨y1, y2, y3⟩
            · by_cases hCA : Cv = Dv
              · subst hCA
                go_wp2_with fail
                refine (XT.out _).mono ?_; rintro e v1 ⟨rfl, rfl⟩
                go_wp2_with fail
                refine (XU.out _).mono ?_; rintro e v2 ⟨rfl, rfl⟩
                rcases Q4.out with ⟨q1, q2⟩ | ⟨rfl, rfl, rfl⟩
                all_goals
                  go_wp2_with fail
                  go_ret
                  exact ⟨rfl, B5.out⟩
              · have n1 := bar_ne hCA
                have n1' : (Cv.toList == Dv.toList) = false := by rw [beq_eq_false_iff_ne]; exact n1
                go_wp2_with fail
                refine (XT.out _).mono ?_; rintro e v1 ⟨rfl, rfl⟩
                go_wp2_with fail
                refine (XU.out _).mono ?_; rintro e v2 ⟨rfl, rfl⟩
                rcases Q4.out with ⟨q1, q2⟩ | ⟨rfl, rfl, rfl⟩
                all_goals
                  go_wp2_with fail
                  go_ret
                  exact ⟨rfl, B5.out⟩
            · skip
              go_wp2_with fail
              refine (XT.out _).mono ?_; rintro e v1 ⟨rfl, rfl⟩
              go_wp2_with fail
              refine (XU.out _).mono ?_; rintro e v2 ⟨rfl, rfl⟩
              rcases Q4.out with ⟨q1, q2⟩ | ⟨rfl, rfl, rfl⟩
              all_goals
                go_wp2_with fail
                go_ret
                exact ⟨rfl, B5.out⟩
      · have n2 := bar_ne hDA
        have n2' : (Dv.toList == Bv.toList) = false := by rw [beq_eq_false_iff_ne]; exact n2
        obtain ⟨s0, -, zc⟩ := Z4.out.resolve_left hDA
        subst s0
        have ZC := Lib.hid zc
        clear Z3 Z4 zc SV
        rcases LM.out with rfl | ⟨l1, l2, l3⟩
        all_goals
          rcases QC.out with ⟨y1, y2⟩ | ⟨y1, y2, y3⟩
          · have hCA := ZC.out y2
            subst y2
            subst hCA
            go_wp2_with fail
            refine (XT.out _).mono ?_; rintro e v1 ⟨rfl, rfl⟩
            go_wp2_with fail
            refine (XU.out _).mono ?_; rintro e v2 ⟨rfl, rfl⟩
            rcases Q4.out with ⟨q1, q2⟩ | ⟨rfl, rfl, rfl⟩
            all_goals
              go_wp2_with fail
              go_ret
              exact ⟨rfl, B5.out⟩
          · skip
            go_wp2_with fail
            refine (XT.out _).mono ?_; rintro e v1 ⟨rfl, rfl⟩
            go_wp2_with fail
            refine (XU.out _).mono ?_; rintro e v2 ⟨rfl, rfl⟩
            rcases Q4.out with ⟨q1, q2⟩ | ⟨rfl, rfl, rfl⟩
            all_goals
              go_wp2_with fail
              go_ret
              exact ⟨rfl, B5.out⟩
    · have n3 := bar_ne hBA
      have n3' : (Bv.toList == Av.toList) = false := by rw [beq_eq_false_iff_ne]; exact n3
      obtain ⟨zd, zc, zl⟩ := Z3.out.resolve_left hBA
      subst zd
      have ZC := Lib.hid zc
      obtain ⟨l1, l2, l3⟩ := LM.out.resolve_left zl
      clear Z3 Z4 zc LM zl
      rcases SV.out with ⟨s1, rfl⟩ | ⟨s1, s2⟩
      all_goals
        rcases QC.out with ⟨y1, y2⟩ | ⟨y1, y2, y3⟩
        · have hCA := ZC.out y2
          subst y2
          subst hCA
          go_wp2_with fail
          refine (XT.out _).mono ?_; rintro e v1 ⟨rfl, rfl⟩
          go_wp2_with fail
          refine (XU.out _).mono ?_; rintro e v2 ⟨rfl, rfl⟩
          rcases Q4.out with ⟨q1, q2⟩ | ⟨rfl, rfl, rfl⟩
          all_goals
            go_wp2_with fail
            go_ret
            exact ⟨rfl, B5.out⟩
        · skip
          go_wp2_with fail
          refine (XT.out _).mono ?_; rintro e v1 ⟨rfl, rfl⟩
          go_wp2_with fail
          refine (XU.out _).mono ?_; rintro e v2 ⟨rfl, rfl⟩
          rcases Q4.out with ⟨q1, q2⟩ | ⟨rfl, rfl, rfl⟩
          all_goals
            go_wp2_with fail
            go_ret
            exact ⟨rfl, B5.out⟩
theorem fh_walk (s : ByteArray) (off other save : Int) (L M : ByteArray) (w : World) (hs : s.size ≤ maxLen) (hL : L.size ≤ maxLen) (hM : M.size ≤ maxLen) (m : Int) (hm : w.cell? ⟨1, 0, none⟩ = some (.int .i64 m)) (htab : Lib.TabIs Tryd.prog w "internal/strconv.uint64pow10" .u64 Lib.pow10Tab) :
    Calls Tryd.prog 10 #[.string s, .int .i64 off, .int .i64 other, .int .i64 save, .string L, .string M] w fun e w' => e = .returned (.bool true) ∧ Below w.heap.size w w' := by
  by_cases h : 500 < s.size ∨ 500 < L.size ∨ 500 < M.size
  · exact fh_out s L M off other save w m hm htab hs hL hM h
  · exact fh_in s L M off other save w m hm htab (by omega) (by omega) (by omega)
end Go.Proofs.YtfcabofhlgmkjaaDoor

