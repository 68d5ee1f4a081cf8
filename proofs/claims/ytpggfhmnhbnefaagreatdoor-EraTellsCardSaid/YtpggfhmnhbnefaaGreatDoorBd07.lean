/- Joined: NumAr, RnG, ClA, IxA. -/
import Derived.Test.YtpggfhmnhbnefaaGreatDoorBd03
import Derived.Test.YtpggfhmnhbnefaaGreatDoorBd06
import Derived.Test.YtpggfhmnhbnefaaGreatDoorLaid3
import Derived.Shelf.Small.Strs
import Derived.Lib.OthersKept
import Derived.Laws.RangeAny
import Derived.Lib.IndexAny
set_option linter.unusedVariables false
set_option linter.unusedSimpArgs false
namespace Go.Proofs.YtpggfhmnhbnefaaGreatDoor
open Go.RowKit
set_option maxHeartbeats 4000000 in
theorem isText_any (s : ByteArray) (w : World) (hs : s.size ≤ maxLen) :
  Calls Tryz.prog 196 #[.string s] w fun e w' => e = .returned (.bool (Num.isT s.data.toList)) ∧ ∃ k, w' = w.drewN k := by
 rw [show Num.isT s.data.toList = Num.numT (Lib.hasPrefix s.data.toList [45]) (Lib.trimPrefix s.data.toList [45]) from rfl]
 have hl : (Lib.trimPrefix s.data.toList [45]).length ≤ s.size := by
  unfold Lib.trimPrefix
  have : s.data.toList.length = s.size := by simp
  split
  ·
   rw [List.length_drop]; omega
  ·
   omega
 obtain ⟨b, hb⟩ : ∃ b, Lib.hasPrefix s.data.toList [45] = b := ⟨_, rfl⟩
 obtain ⟨l, hl2⟩ : ∃ l, Lib.trimPrefix s.data.toList [45] = l := ⟨_, rfl⟩
 rw [hl2] at hl
 rw [hb, hl2]
 have HB := Lib.hid hb; have HL := Lib.hid hl2; clear hb hl2
 obtain ⟨ds, hds⟩ : ∃ ds : ByteArray, ds = ⟨l.toArray⟩ := ⟨_, rfl⟩
 have hdl : l = ds.data.toList := by rw [hds]
 have hsz : ds.size ≤ s.size := by rw [hds]; show l.toArray.size ≤ s.size; rw [List.size_toArray]; exact hl
 have HD := Lib.hid hds; clear hds
 unfold maxLen at hs
 rw [hdl]
 have HDL := Lib.hid hdl; clear hdl hl
 rcases Nat.eq_zero_or_pos ds.size with hz | hz
 ·
  have hnil : ds.data.toList = [] := by rw [← List.length_eq_zero_iff, dlen]; exact hz
  have ht : ds.toList = [] := by rw [ByteArray.toList_eq]; exact hnil
  have hte : ds.toList.isEmpty = true := by rw [ht]; rfl
  rw [hnil]
  have HZ := Lib.hid hz; clear hz hnil
  go_enter Tryz.func196, Tryz.ntmps196
  go_wp2_with fail
  refine (cutPrefix _ _ _).mono ?_; rintro e w1 ⟨rfl, rfl⟩
  rw [show (⟨#[45]⟩ : ByteArray).data.toList = [45] from rfl, HB.out, HL.out, ← HD.out]
  clear HB HL
  go_wp2_with fail
  go_ret
  exact ⟨rfl, 0, rfl⟩
 ·
  obtain ⟨t1, t2⟩ := dne hz
  by_cases h48 : ds[0].toNat = 48
  ·
   have h48' : ((ds[0].toNat : Int) == 48) = true := by rw [beq_iff_eq]; omega
   cases hbb : b
   ·
    by_cases h1 : 1 < ds.size
    ·
     have h1i : (1 : Int) < (ds.size : Int) := by omega
     have hno := front_no (b := false) hz h48 (.inr h1)
     have HN := Lib.hid hno; clear hno
     rw [hbb] at HB
     clear hbb
     have H48 := Lib.hid h48; clear h48
     go_enter Tryz.func196, Tryz.ntmps196
     go_wp2_with fail
     refine (cutPrefix _ _ _).mono ?_; rintro e w1 ⟨rfl, rfl⟩
     rw [show (⟨#[45]⟩ : ByteArray).data.toList = [45] from rfl, HB.out, HL.out, ← HD.out]
     clear HB HL
     go_wp2_with fail
     go_ret
     refine ⟨?_, 0, rfl⟩
     rw [HN.out]
     all_goals rfl
    ·
     have h1i : (ds.size : Int) ≤ 1 := by omega
     have hf := front (b := false) hz (fun _ => ⟨rfl, by omega⟩)
     have HF := Lib.hid hf; clear hf
     rw [hbb] at HB
     clear hbb
     have H48 := Lib.hid h48; clear h48
     go_enter Tryz.func196, Tryz.ntmps196
     go_wp2_with fail
     refine (cutPrefix _ _ _).mono ?_; rintro e w1 ⟨rfl, rfl⟩
     rw [show (⟨#[45]⟩ : ByteArray).data.toList = [45] from rfl, HB.out, HL.out, ← HD.out]
     clear HB HL
     go_wp2_with fail
     go_loop [28] (fun i => ∃ k : Nat, k ≤ ds.size ∧ i = .int .i64 k ∧ (ds.data.toList.take k).all Num.dig = true) (fun i => ds.size - (intOf i).toNat)
     case atStart => exact ⟨0, Nat.zero_le _, rfl, rfl⟩
     case round =>
      obtain ⟨k, hk, rfl, hall⟩ := hrel
      have HA := Lib.hid hall; clear hall
      by_cases hlt : k < ds.size
      ·
       by_cases h1 : (ds[k].toNat : Int) < 48
       ·
        have hno : ds.data.toList.all Num.dig = false := not_all hlt (by omega)
        have HN := Lib.hid hno; clear hno
        go_wp2
        go_ret
        refine ⟨?_, 0, rfl⟩
        rw [HF.out, HN.out]
        all_goals rfl
       ·
        by_cases h2 : 57 < (ds[k].toNat : Int)
        ·
         have hno : ds.data.toList.all Num.dig = false := not_all hlt (by omega)
         have HN := Lib.hid hno; clear hno
         go_wp2
         go_ret
         refine ⟨?_, 0, rfl⟩
         rw [HF.out, HN.out]
         all_goals rfl
        ·
         have hst : (ds.data.toList.take (k + 1)).all Num.dig = true := take_all hlt HA.out (by omega)
         have HS := Lib.hid hst; clear hst
         go_wp2
         go_round
         case rel => exact ⟨k + 1, by omega, by go_num, HS.out⟩
         case measure => simp [intOf]; omega
      ·
       have hend : ds.data.toList.all Num.dig = true := by
        have := HA.out
        rwa [List.take_of_length_le (by rw [dlen]; omega)] at this
       have HE := Lib.hid hend; clear hend
       go_wp2
       go_ret
       refine ⟨?_, 0, rfl⟩
       rw [HF.out, HE.out]
       all_goals rfl
   ·
    have hno := front_no (b := true) hz h48 (.inl rfl)
    have HN := Lib.hid hno; clear hno
    rw [hbb] at HB
    clear hbb
    have H48 := Lib.hid h48; clear h48
    go_enter Tryz.func196, Tryz.ntmps196
    go_wp2_with fail
    refine (cutPrefix _ _ _).mono ?_; rintro e w1 ⟨rfl, rfl⟩
    rw [show (⟨#[45]⟩ : ByteArray).data.toList = [45] from rfl, HB.out, HL.out, ← HD.out]
    clear HB HL
    go_wp2_with fail
    go_ret
    refine ⟨?_, 0, rfl⟩
    rw [HN.out]
    all_goals rfl
  ·
   have h48' : ((ds[0].toNat : Int) == 48) = false := by rw [beq_eq_false_iff_ne]; omega
   have hf := front (b := b) hz (fun h => absurd h h48)
   have HF := Lib.hid hf; clear hf
   clear h48
   go_enter Tryz.func196, Tryz.ntmps196
   go_wp2_with fail
   refine (cutPrefix _ _ _).mono ?_; rintro e w1 ⟨rfl, rfl⟩
   rw [show (⟨#[45]⟩ : ByteArray).data.toList = [45] from rfl, HB.out, HL.out, ← HD.out]
   clear HB HL
   go_wp2_with fail
   go_loop [28] (fun i => ∃ k : Nat, k ≤ ds.size ∧ i = .int .i64 k ∧ (ds.data.toList.take k).all Num.dig = true) (fun i => ds.size - (intOf i).toNat)
   case atStart => exact ⟨0, Nat.zero_le _, rfl, rfl⟩
   case round =>
    obtain ⟨k, hk, rfl, hall⟩ := hrel
    have HA := Lib.hid hall; clear hall
    by_cases hlt : k < ds.size
    ·
     by_cases h1 : (ds[k].toNat : Int) < 48
     ·
      have hno : ds.data.toList.all Num.dig = false := not_all hlt (by omega)
      have HN := Lib.hid hno; clear hno
      go_wp2
      go_ret
      refine ⟨?_, 0, rfl⟩
      rw [HF.out, HN.out]
      all_goals rfl
     ·
      by_cases h2 : 57 < (ds[k].toNat : Int)
      ·
       have hno : ds.data.toList.all Num.dig = false := not_all hlt (by omega)
       have HN := Lib.hid hno; clear hno
       go_wp2
       go_ret
       refine ⟨?_, 0, rfl⟩
       rw [HF.out, HN.out]
       all_goals rfl
      ·
       have hst : (ds.data.toList.take (k + 1)).all Num.dig = true := take_all hlt HA.out (by omega)
       have HS := Lib.hid hst; clear hst
       go_wp2
       go_round
       case rel => exact ⟨k + 1, by omega, by go_num, HS.out⟩
       case measure => simp [intOf]; omega
    ·
     have hend : ds.data.toList.all Num.dig = true := by
      have := HA.out
      rwa [List.take_of_length_le (by rw [dlen]; omega)] at this
     have HE := Lib.hid hend; clear hend
     go_wp2
     go_ret
     refine ⟨?_, 0, rfl⟩
     rw [HF.out, HE.out]
     all_goals rfl
set_option maxHeartbeats 1000000 in
theorem read_no (s : ByteArray) (w : World) (hs : s.size ≤ maxLen) (ht : Num.isT s.data.toList = false) :
  Calls Tryz.prog 168 #[.string s] w fun e w' => e = .returned (.tuple #[.int .i64 0, .int .i64 2]) ∧ Below w.heap.size w w' := by
 have HT := Lib.hid ht; clear ht
 go_enter Tryz.func168, Tryz.ntmps168
 go_wp2_with fail
 refine (isText_any _ _ hs).mono ?_; rintro e w1 ⟨rfl, k, rfl⟩
 rw [HT.out]
 go_wp2_with fail
 go_ret2
 exact ⟨rfl, below_draw _ _⟩
set_option maxHeartbeats 1000000 in
theorem read_ok (s : ByteArray) (v : Int) (w : World) (hs : s.size ≤ maxLen) (ht : Num.isT s.data.toList = true) (h : Lib.parseIntB 64 s.data.toList = .ok v) (hm : s.size ≤ 9223372036854775806) :
  Calls Tryz.prog 168 #[.string s] w fun e w' => e = .returned (.tuple #[.int .i64 v, .int .i64 0]) ∧ Below w.heap.size w w' := by
 have HT := Lib.hid ht; have H := Lib.hid h; have HM := Lib.hid hm; clear ht h hm
 go_enter Tryz.func168, Tryz.ntmps168
 go_wp2_with fail
 refine (isText_any _ _ hs).mono ?_; rintro e w1 ⟨rfl, k, rfl⟩
 rw [HT.out]
 go_wp2_with fail
 refine (Tryz.parseInt_ok _ HM.out v H.out _).mono ?_; rintro e w2 ⟨rfl, b2⟩
 have B2 := Lib.hid (below_step (below_draw w k) b2)
 clear b2
 go_wp2_with fail
 go_ret2
 exact ⟨rfl, B2.out⟩
set_option maxHeartbeats 1000000 in
theorem read_range (s : ByteArray) (w : World) (hs : s.size ≤ maxLen) (ht : Num.isT s.data.toList = true) (h : Lib.parseIntB 64 s.data.toList = .range) (hm : s.size ≤ 281474976710656) (tp : TypeId) (p : Value) (hvar : w.var? Tryz.prog "strconv.ErrRange" = some #[.iface tp p]) :
  Calls Tryz.prog 168 #[.string s] w fun e w' => e = .returned (.tuple #[.int .i64 0, .int .i64 1]) ∧ Below w.heap.size w w' := by
 have HT := Lib.hid ht; have H := Lib.hid h; have HM := Lib.hid hm; have HV := Lib.hid hvar; clear ht h hm hvar
 go_enter Tryz.func168, Tryz.ntmps168
 go_wp2_with fail
 refine (isText_any _ _ hs).mono ?_; rintro e w1 ⟨rfl, k, rfl⟩
 rw [HT.out]
 go_wp2_with fail
 refine (Tryz.parseInt_range _ HM.out H.out tp p _ (var_keep (below_draw w k) HV.out)).mono ?_; rintro e w2 ⟨⟨N, rfl⟩, b2⟩
 have B2 := Lib.hid (below_step (below_draw w k) b2)
 clear b2
 go_wp2_with fail
 go_ret2
 exact ⟨rfl, B2.out⟩
namespace Num
theorem mz_no {s : ByteArray} (h : s.data.toList ≠ [45, 48]) : (s.toList == [45, 48]) = false := by
 rw [ByteArray.toList_eq]
 simpa using h
theorem ext1 (s : ByteArray) (r : List UInt8) (h : s.data.toList = 45 :: r) : (s.extract 1 s.size).data.toList = r := by
 rw [ByteArray.data_extract, Array.toList_extract, h]
 have hl := rn_len s
 rw [h, List.length_cons] at hl
 show ((45 :: r).drop 1).take (s.size - 1) = r
 rw [List.drop_one, List.tail_cons, List.take_of_length_le (by omega)]
theorem numT_dgs {b : Bool} {d : List UInt8} : numT b d = (dgs d && !(decide (d.head? = some 48) && (b || decide (1 < d.length)))) := by
 cases d with
 | nil => rfl
 | cons c r =>
  unfold numT dgs
  cases hr : r with
  | nil => cases hb : b <;> cases hc : decide (c = 48) <;> simp_all
  | cons x y => cases hb : b <;> cases hc : decide (c = 48) <;> simp_all
end Num
theorem rread_any (s : ByteArray) (w : World) (hs : s.size ≤ 1000) :
  Calls Tryz.prog 119 #[.string s] w fun e w' => e = .returned (.tuple #[.int .i64 (Num.rd s.data.toList).1, .int .i64 (Num.rd s.data.toList).2]) ∧ w = w' := by
 rw [Num.rd_eq]
 have hl := Num.rn_len s
 have hml : s.size ≤ maxLen := by unfold maxLen; omega
 cases hsl : s.data.toList with
 | nil =>
  have e : s = ⟨#[]⟩ := by apply ByteArray.ext; apply Array.toList_inj.1; rw [hsl]
  rw [e]
  exact rread_nil w
 | cons c r =>
  have hpos : 0 < s.size := by rw [← hl, hsl]; simp
  have hc0 : s[0] = c := by
   have e : s[0] = s.data.toList[0]'(by rw [Num.rn_len]; exact hpos) := rfl
   rw [e]; simp [hsl]
  have IX : ∀ W, Sem.run Tryz.prog (Instr.index 9 (.string s) (.int .i64 0)) W = .ok (.int .u8 (c.toNat : Int)) W := fun W => by rw [← hc0]; exact rn_ix s 0 hpos W
  by_cases h45 : c = 45
  ·
   subst h45
   rw [Num.hp_cons, Num.tp_minus, show (45 == (45 : UInt8)) = true from rfl]
   have hd := Num.ext1 s r hsl
   have sl : ∀ W, Sem.run Tryz.prog (Instr.slice 9 (.string s) (some (.int .i64 1)) none none) W = .ok (.string (s.extract 1 s.size)) W := fun W => rn_cut s 1 hpos W
   obtain ⟨d, hdd⟩ : ∃ d, s.extract 1 s.size = d := ⟨_, rfl⟩
   rw [hdd] at hd sl
   have hdl := Num.rn_len d
   have ld : (d.size : Int) + 1 = (s.size : Int) := by
    have : s.data.toList.length = r.length + 1 := by rw [hsl]; rfl
    rw [hd] at hdl; omega
   have CD : Hid (∀ W, Calls Tryz.prog 162 #[.string d] W fun e w' => e = .returned (.bool (Num.dgs r)) ∧ W = w') := fun W => by rw [← hd]; exact rdigs_any d W (by unfold maxLen; omega)
   unfold Num.rdD
   rw [Num.numT_dgs]
   cases hg : Num.dgs r
   ·
    exact rread_yno s d _ 0 false w (by omega) hs ld IX (by decide) sl (by rw [← hg]; exact CD) rfl
   ·
    rw [hg] at CD
    have hne : r ≠ [] := by intro e; rw [e] at hg; exact absurd hg (by decide)
    have hall : r.all Num.dig = true := by unfold Num.dgs at hg; rw [Bool.and_eq_true] at hg; exact hg.1
    cases r with
    | nil => exact absurd rfl hne
    | cons x y =>
     have hdp : 0 < d.size := by rw [← hdl, hd]; simp
     have hx0 : d[0] = x := by
      have e : d[0] = d.data.toList[0]'(by rw [Num.rn_len]; exact hdp) := rfl
      rw [e]; simp [hd]
     have ID : ∀ W, Sem.run Tryz.prog (Instr.index 9 (.string d) (.int .i64 0)) W = .ok (.int .u8 (x.toNat : Int)) W := fun W => by rw [← hx0]; exact rn_ix d 0 hdp W
     by_cases h48 : x = 48
     ·
      subst h48
      have e : (true && !(decide ((48 :: y).head? = some 48) && (true || decide (1 < (48 :: y).length)))) = false := by simp
      rw [e]
      by_cases hy : y = []
      ·
       have es : s = ⟨#[45, 48]⟩ := by apply ByteArray.ext; apply Array.toList_inj.1; rw [hsl, hy]
       rw [es]
       exact rread_mz w
      ·
       have : 1 < d.size := by
        rw [← hdl, hd]
        cases y with
        | nil => exact absurd rfl hy
        | cons _ _ => simp
       exact rread_yzero s d _ _ true w (by omega) hs ld IX (by decide) sl CD ID rfl (by omega) (by decide)
     ·
      have e : (true && !(decide ((x :: y).head? = some 48) && (true || decide (1 < (x :: y).length)))) = true := by simp [h48]
      rw [e]
      have hx : (((x.toNat : Nat) : Int) == 48) = false := by
       rw [beq_eq_false_iff_ne]
       intro h; exact h48 (UInt8.toNat_inj.1 (by rw [show (48 : UInt8).toNat = 48 from rfl]; omega))
      have hmz : (s.toList == [45, 48]) = false := Num.mz_no (by rw [hsl]; intro h; injection h with _ h; injection h with h _; exact h48 h)
      have hlen : (x :: y).length = d.size := by rw [← hd]; exact hdl
      rw [hlen]
      by_cases hf : 19 < d.size
      ·
       rw [if_pos hf]
       exact rread_yfar s d _ _ true w (by omega) hs ld IX (by decide) sl CD ID rfl (by omega) hx hmz
      ·
       rw [if_neg hf]
       have hp := Num.val_pos (d := x :: y) (by simp) hall (by intro c' r' h; injection h with h _; rw [← h]; exact h48)
       rw [← hd] at hp hall ⊢
       by_cases h1 : 1 < (d.size : Int)
       ·
        exact rread_yvaln s d _ _ w (by omega) hs ld IX (by decide) sl CD ID h1 hx (by omega) hmz hall hp
       ·
        exact rread_yvaly s d _ _ w (by omega) hs ld IX (by decide) sl CD ID h1 (by omega) hmz hall hp
  ·
   rw [Num.hp_cons, Num.tp_other c r h45, show (c == 45) = false by simpa using h45]
   have hc45 : (((c.toNat : Nat) : Int) == 45) = false := by
    rw [beq_eq_false_iff_ne]
    intro h; exact h45 (UInt8.toNat_inj.1 (by rw [show (45 : UInt8).toNat = 45 from rfl]; omega))
   have CD : Hid (∀ W, Calls Tryz.prog 162 #[.string s] W fun e w' => e = .returned (.bool (Num.dgs (c :: r))) ∧ W = w') := fun W => by rw [← hsl]; exact rdigs_any s W hml
   unfold Num.rdD
   rw [Num.numT_dgs]
   cases hg : Num.dgs (c :: r)
   ·
    exact rread_nno s _ false w (by omega) hs IX hc45 (by rw [← hg]; exact CD) rfl
   ·
    rw [hg] at CD
    have hall : (c :: r).all Num.dig = true := by unfold Num.dgs at hg; rw [Bool.and_eq_true] at hg; exact hg.1
    have hlen : (c :: r).length = s.size := by rw [← hsl]; exact hl
    have hmz : (s.toList == [45, 48]) = false := Num.mz_no (by rw [hsl]; intro h; injection h with h _; exact h45 h)
    rw [hlen]
    by_cases hz : c = 48 ∧ 1 < s.size
    ·
     obtain ⟨rfl, h1⟩ := hz
     have e : (true && !(decide ((48 :: r).head? = some 48) && (false || decide (1 < s.size)))) = false := by simp [h1]
     rw [e]
     exact rread_nzero s _ true w (by omega) hs IX hc45 CD rfl (by omega) (by decide)
    ·
     have e : (true && !(decide ((c :: r).head? = some 48) && (false || decide (1 < s.size)))) = true := by
      by_cases hc : c = 48
      ·
       have : ¬ 1 < s.size := fun h => hz ⟨hc, h⟩
       simp [this]
      ·
       simp [hc]
     rw [e]
     have hx : 1 < s.size → (((c.toNat : Nat) : Int) == 48) = false := fun h1 => by
      rw [beq_eq_false_iff_ne]
      intro h; exact hz ⟨UInt8.toNat_inj.1 (by rw [show (48 : UInt8).toNat = 48 from rfl]; omega), h1⟩
     by_cases hf : 19 < s.size
     ·
      rw [if_pos hf]
      exact rread_nfar s _ true w (by omega) hs IX hc45 CD rfl (by omega) (hx (by omega)) hmz
     ·
      rw [if_neg hf]
      rw [← hsl] at hall ⊢
      by_cases h1 : 1 < (s.size : Int)
      ·
       exact rread_nvaln s _ w (by omega) hs IX hc45 CD h1 (hx (by omega)) (by omega) hmz hall
      ·
       exact rread_nvaly s _ w (by omega) hs IX hc45 CD h1 (by omega) hmz hall
theorem read_any (s : ByteArray) (w : World) (hs : s.size ≤ 1000) (tp : TypeId) (p : Value) (hvar : w.var? Tryz.prog "strconv.ErrRange" = some #[.iface tp p]) :
  Calls Tryz.prog 168 #[.string s] w fun e w' => e = .returned (.tuple #[.int .i64 (Num.rd s.data.toList).1, .int .i64 (Num.rd s.data.toList).2]) ∧ Below w.heap.size w w' := by
 have hml : s.size ≤ maxLen := by unfold maxLen; omega
 unfold Num.rd
 cases ht : Num.isT s.data.toList
 ·
  exact read_no s w hml ht
 ·
  rcases Num.isT_read ht with h | ⟨x, h, -⟩
  ·
   rw [h]; exact read_range s w hml ht h (by omega) tp p hvar
  ·
   rw [h]; exact read_ok s x w hml ht h (by omega)
end Go.Proofs.YtpggfhmnhbnefaaGreatDoor
set_option linter.unusedVariables false
set_option linter.unusedSimpArgs false
namespace Go.Proofs.YtpggfhmnhbnefaaGreatDoor
open Go.RowKit Go.Sort
namespace Cl
structure Tab (w : World) : Prop where
 c0 : w.cell? ⟨1, 0, none⟩ = some (.string ⟨#[119, 87]⟩)
 c1 : w.cell? ⟨1, 1, none⟩ = some (.string ⟨#[115, 83]⟩)
 c2 : w.cell? ⟨1, 2, none⟩ = some (.string ⟨#[117, 85, 103, 71, 122, 90]⟩)
theorem Tab.on {w w' : World} (h : Tab w) (k : Below w.heap.size w w') : Tab w' := ⟨(k.cell (World.block_lt_of_cell? _ _ h.c0)).trans h.c0, (k.cell (World.block_lt_of_cell? _ _ h.c1)).trans h.c1, (k.cell (World.block_lt_of_cell? _ _ h.c2)).trans h.c2⟩
def base (c : UInt8) : Nat := if c = 119 ∨ c = 87 then 0 else if c = 115 ∨ c = 83 then 1 else if c = 117 ∨ c = 85 ∨ c = 103 ∨ c = 71 ∨ c = 122 ∨ c = 90 then 2 else 3
theorem base_tab : ∀ n : Fin 256, ((decide (0 ≤ Lib.indexByte [119, 87] (UInt8.ofNat n.val)) == decide (base (UInt8.ofNat n.val) = 0)) && ((decide (0 ≤ Lib.indexByte [115, 83] (UInt8.ofNat n.val)) == decide (base (UInt8.ofNat n.val) = 1)) && (decide (0 ≤ Lib.indexByte [117, 85, 103, 71, 122, 90] (UInt8.ofNat n.val)) == decide (base (UInt8.ofNat n.val) = 2)))) = true := by decide +kernel
theorem base_at (c : UInt8) : (0 ≤ Lib.indexByte [119, 87] c ↔ base c = 0) ∧ (0 ≤ Lib.indexByte [115, 83] c ↔ base c = 1) ∧ (0 ≤ Lib.indexByte [117, 85, 103, 71, 122, 90] c ↔ base c = 2) := by
 have h := base_tab ⟨c.toNat, c.toNat_lt⟩
 have e : UInt8.ofNat c.toNat = c := UInt8.ofNat_toNat
 simp only [e, Bool.and_eq_true, beq_iff_eq, decide_eq_decide] at h
 exact h
def cutL (s : ByteArray) : ByteArray × Int := if h : 0 < s.size then (if base s[s.size - 1] = 3 then (s, 0) else (s.extract 0 (s.size - 1), (base s[s.size - 1] : Int))) else (s, 0)
end Cl
theorem ixb (s : ByteArray) (c : UInt8) (w : World) : Calls Tryz.prog 156 #[.string s, .int .u8 (c.toNat : Int)] w fun e w' => e = .returned (.int .i64 (Lib.indexByte s.data.toList c)) ∧ w = w' :=
 (Any.strings_IndexByte Tryz.lays137 s (c.toNat : Int) w).mono fun _ _ ⟨h, e⟩ => ⟨by rw [h]; simp, e.symm⟩
end Go.Proofs.YtpggfhmnhbnefaaGreatDoor
set_option linter.unusedVariables false
set_option linter.unusedSimpArgs false
namespace Go.Proofs.YtpggfhmnhbnefaaGreatDoor
open Go.RowKit
theorem vrune_yes (r : Int) (w : World) (h : (0 ≤ r ∧ r < 55296) ∨ (57343 < r ∧ r ≤ 1114111)) : Calls Tryz.prog 208 #[.int .i32 r] w fun e w' => e = .returned (.bool true) ∧ w = w' := by
 by_cases h1 : 0 ≤ r
 ·
  by_cases h2 : r < 55296
  ·
   clear h
   go_enter Tryz.func208, Tryz.ntmps208
   go_wp2_with fail
   go_ret
   exact ⟨rfl, rfl⟩
  ·
   have h3 : 57343 < r := by omega
   have h4 : r ≤ 1114111 := by omega
   clear h
   go_enter Tryz.func208, Tryz.ntmps208
   go_wp2_with fail
   go_ret
   exact ⟨rfl, rfl⟩
 ·
  omega
theorem vrune_no (r : Int) (w : World) (h0 : 0 ≤ r) (h1 : 55296 ≤ r) (h : r ≤ 57343 ∨ 1114111 < r) : Calls Tryz.prog 208 #[.int .i32 r] w fun e w' => e = .returned (.bool false) ∧ w = w' := by
 have h2 : ¬ r < 55296 := by omega
 rcases h with h3 | h3
 ·
  go_enter Tryz.func208, Tryz.ntmps208
  go_wp2_with fail
  go_ret
  exact ⟨rfl, rfl⟩
 ·
  have h4 : 57343 < r := by omega
  go_enter Tryz.func208, Tryz.ntmps208
  go_wp2_with fail
  go_ret
  exact ⟨rfl, rfl⟩
namespace Ix
theorem enc_cases {r : Int} (h : 128 ≤ r) : (∃ a c, Utf8.encode r = ⟨#[a, UInt8.ofNat (128 + c % 64)]⟩) ∨ (∃ a b c, Utf8.encode r = ⟨#[a, b, UInt8.ofNat (128 + c % 64)]⟩) ∨ (∃ a b d c, Utf8.encode r = ⟨#[a, b, d, UInt8.ofNat (128 + c % 64)]⟩) := by
 unfold Utf8.encode
 simp only
 by_cases hv : Utf8.valid r = true
 ·
  rw [if_pos hv, if_neg (show ¬ r.toNat < 128 by omega)]
  split
  ·
   exact .inl ⟨_, _, rfl⟩
  ·
   split
   ·
    exact .inr (.inl ⟨_, _, _, rfl⟩)
   ·
    exact .inr (.inr ⟨_, _, _, _, rfl⟩)
 ·
  rw [if_neg hv]
  exact .inr (.inl ⟨239, 191, 61, by decide⟩)
theorem last_hi (c : Nat) : 128 ≤ (UInt8.ofNat (128 + c % 64)).toNat := by rw [UInt8.toNat_ofNat']; omega
theorem enc_hi {r : Int} (h : 128 ≤ r) : ∃ (k : Nat) (hk : k < (Utf8.encode r).size), (k = 1 ∨ k = 2 ∨ k = 3) ∧ (Utf8.encode r).size = k + 1 ∧ 128 ≤ ((Utf8.encode r)[k]).toNat := by
 rcases enc_cases h with ⟨a, c, e⟩ | ⟨a, b, c, e⟩ | ⟨a, b, d, c, e⟩
 ·
  rw [e]; exact ⟨1, by simp [ByteArray.size], .inl rfl, rfl, last_hi c⟩
 ·
  rw [e]; exact ⟨2, by simp [ByteArray.size], .inr (.inl rfl), rfl, last_hi c⟩
 ·
  rw [e]; exact ⟨3, by simp [ByteArray.size], .inr (.inr rfl), rfl, last_hi c⟩
theorem no_byte {l : List UInt8} {v : UInt8} (h : ∀ x ∈ l, x.toNat < 128) (hv : 128 ≤ v.toNat) : Lib.indexByte l v < 0 := by
 have h1 := Lib.contains_iff_indexByte l v
 have h2 : l.contains v = false := by
  rw [Bool.eq_false_iff]
  intro hc
  have := h v (by simpa using hc)
  omega
 rw [h2] at h1
 have := of_decide_eq_false h1.symm
 omega
theorem ext_in {s : ByteArray} {a b : Nat} {x : UInt8} (h : x ∈ (s.extract a b).data.toList) : x ∈ s.data.toList := by
 rw [ByteArray.data_extract, Array.toList_extract] at h
 exact List.mem_of_mem_drop (List.mem_of_mem_take h)
end Ix
theorem rx_ix (a : ByteArray) (k : Nat) (h : k < a.size) (w : World) : Sem.run Tryz.prog (Instr.index 9 (.string a) (.int .i64 (k : Int))) w = .ok (.int .u8 a[k].toNat) w := by
 rw [run_index_string w _ _ _ _ Tryz.underlying9, dif_pos ⟨by omega, by omega⟩]
 simp
theorem rx_cut (s : ByteArray) (a : Nat) (ha : a ≤ s.size) (w : World) : Sem.run Tryz.prog (Instr.slice 9 (.string s) (some (.int .i64 (a : Int))) none none) w = .ok (.string (s.extract a s.size)) w := by
 rw [run_slice_string_l w 9 s Tryz.underlying9 .i64 _ (by omega) (by omega)]
 simp
theorem rx_conv (r : Int) (W : World) : Sem.run Tryz.prog (convert 21 9 (.int .i32 r)) W = .ok (.string (Utf8.encode r)) W := by kernel_rfl
set_option maxHeartbeats 2000000 in
set_option maxRecDepth 100000 in
theorem irune_d1 (s E T : ByteArray) (r a v j : Int) (w : World) (r0 : 128 ≤ r) (r1 : r ≤ 1114111) (rv : r < 55296 ∨ 57343 < r) (rf : (r == 65533) = false) (hE : (E.size : Int) = 2) (hs : 1 < (s.size : Int))
  (CV : ∀ W, Sem.run Tryz.prog (convert 21 9 (.int .i32 r)) W = .ok (.string E) W)
  (I1 : ∀ W, Sem.run Tryz.prog (Instr.index 9 (.string s) (.int .i64 1)) W = .ok (.int .u8 a) W) (I2 : ∀ W, Sem.run Tryz.prog (Instr.index 9 (.string E) (.int .i64 1)) W = .ok (.int .u8 v) W)
  (hne : (a != v) = true) (SL : ∀ W, Sem.run Tryz.prog (Instr.slice 9 (.string s) (some (.int .i64 2)) none none) W = .ok (.string T) W)
  (CB : Hid (∀ W, Calls Tryz.prog 156 #[.string T, .int .u8 v] W fun e w' => e = .returned (.int .i64 j) ∧ W = w')) (hj : j < 0) :
  Calls Tryz.prog 185 #[.string s, .int .i32 r] w fun e w' => e = .returned (.int .i64 (-1)) ∧ Below w.heap.size w w' := by
 have VR := Lib.hid (fun W => vrune_yes r W (by omega))
 have r128 : ¬ r < 128 := by omega
 clear rv r1
 go_enter Tryz.func185, Tryz.ntmps185
 go_wp2_with fail
 refine (VR.out _).mono ?_; rintro e w1 ⟨rfl, rfl⟩
 go_wp2_with fail
 go_step3
 go_wp2_with fail
 refine wp_loop_rounds 1 ?_
 rw [rounds_succ]
 go_wp2_with fail
 try go_step3
 go_wp2_with fail
 go_quiet (fail)
 go_wp2_with fail
 go_quiet ((go_at_call 156; first | exact q_same (CB.out _) | exact q_same2 (CB.out _)))
 go_wp2_with fail
 simp only [Exit.noGoto_ret, Exit.inBlock, Exit.then]
 go_ret
 exact ⟨rfl, by repeat (first | exact Below.refl _ _ | refine below_drewN ?_ _ | refine Below.drew ?_)⟩
set_option maxHeartbeats 2000000 in
set_option maxRecDepth 100000 in
theorem irune_s1 (s E : ByteArray) (r : Int) (w : World) (r0 : 128 ≤ r) (r1 : r ≤ 1114111) (rv : r < 55296 ∨ 57343 < r) (rf : (r == 65533) = false) (hE : (E.size : Int) = 2) (hs : ¬ 1 < (s.size : Int))
  (CV : ∀ W, Sem.run Tryz.prog (convert 21 9 (.int .i32 r)) W = .ok (.string E) W) :
  Calls Tryz.prog 185 #[.string s, .int .i32 r] w fun e w' => e = .returned (.int .i64 (-1)) ∧ Below w.heap.size w w' := by
 have VR := Lib.hid (fun W => vrune_yes r W (by omega))
 have r128 : ¬ r < 128 := by omega
 clear rv r1
 go_enter Tryz.func185, Tryz.ntmps185
 go_wp2_with fail
 refine (VR.out _).mono ?_; rintro e w1 ⟨rfl, rfl⟩
 go_wp2_with fail
 go_step3
 go_wp2_with fail
 refine wp_loop_rounds 1 ?_
 rw [rounds_succ]
 go_wp2_with fail
 try rw [Exit.noGoto_ret]
 go_ret
 exact ⟨rfl, Below.refl _ _⟩
set_option maxHeartbeats 2000000 in
set_option maxRecDepth 100000 in
theorem irune_d2 (s E T : ByteArray) (r a v j : Int) (w : World) (r0 : 128 ≤ r) (r1 : r ≤ 1114111) (rv : r < 55296 ∨ 57343 < r) (rf : (r == 65533) = false) (hE : (E.size : Int) = 3) (hs : 2 < (s.size : Int))
  (CV : ∀ W, Sem.run Tryz.prog (convert 21 9 (.int .i32 r)) W = .ok (.string E) W)
  (I1 : ∀ W, Sem.run Tryz.prog (Instr.index 9 (.string s) (.int .i64 2)) W = .ok (.int .u8 a) W) (I2 : ∀ W, Sem.run Tryz.prog (Instr.index 9 (.string E) (.int .i64 2)) W = .ok (.int .u8 v) W)
  (hne : (a != v) = true) (SL : ∀ W, Sem.run Tryz.prog (Instr.slice 9 (.string s) (some (.int .i64 3)) none none) W = .ok (.string T) W)
  (CB : Hid (∀ W, Calls Tryz.prog 156 #[.string T, .int .u8 v] W fun e w' => e = .returned (.int .i64 j) ∧ W = w')) (hj : j < 0) :
  Calls Tryz.prog 185 #[.string s, .int .i32 r] w fun e w' => e = .returned (.int .i64 (-1)) ∧ Below w.heap.size w w' := by
 have VR := Lib.hid (fun W => vrune_yes r W (by omega))
 have r128 : ¬ r < 128 := by omega
 clear rv r1
 go_enter Tryz.func185, Tryz.ntmps185
 go_wp2_with fail
 refine (VR.out _).mono ?_; rintro e w1 ⟨rfl, rfl⟩
 go_wp2_with fail
 go_step3
 go_wp2_with fail
 refine wp_loop_rounds 1 ?_
 rw [rounds_succ]
 go_wp2_with fail
 try go_step3
 go_wp2_with fail
 go_quiet (fail)
 go_wp2_with fail
 go_quiet ((go_at_call 156; first | exact q_same (CB.out _) | exact q_same2 (CB.out _)))
 go_wp2_with fail
 simp only [Exit.noGoto_ret, Exit.inBlock, Exit.then]
 go_ret
 exact ⟨rfl, by repeat (first | exact Below.refl _ _ | refine below_drewN ?_ _ | refine Below.drew ?_)⟩
set_option maxHeartbeats 2000000 in
set_option maxRecDepth 100000 in
theorem irune_s2 (s E : ByteArray) (r : Int) (w : World) (r0 : 128 ≤ r) (r1 : r ≤ 1114111) (rv : r < 55296 ∨ 57343 < r) (rf : (r == 65533) = false) (hE : (E.size : Int) = 3) (hs : ¬ 2 < (s.size : Int))
  (CV : ∀ W, Sem.run Tryz.prog (convert 21 9 (.int .i32 r)) W = .ok (.string E) W) :
  Calls Tryz.prog 185 #[.string s, .int .i32 r] w fun e w' => e = .returned (.int .i64 (-1)) ∧ Below w.heap.size w w' := by
 have VR := Lib.hid (fun W => vrune_yes r W (by omega))
 have r128 : ¬ r < 128 := by omega
 clear rv r1
 go_enter Tryz.func185, Tryz.ntmps185
 go_wp2_with fail
 refine (VR.out _).mono ?_; rintro e w1 ⟨rfl, rfl⟩
 go_wp2_with fail
 go_step3
 go_wp2_with fail
 refine wp_loop_rounds 1 ?_
 rw [rounds_succ]
 go_wp2_with fail
 try rw [Exit.noGoto_ret]
 go_ret
 exact ⟨rfl, Below.refl _ _⟩
set_option maxHeartbeats 2000000 in
set_option maxRecDepth 100000 in
theorem irune_d3 (s E T : ByteArray) (r a v j : Int) (w : World) (r0 : 128 ≤ r) (r1 : r ≤ 1114111) (rv : r < 55296 ∨ 57343 < r) (rf : (r == 65533) = false) (hE : (E.size : Int) = 4) (hs : 3 < (s.size : Int))
  (CV : ∀ W, Sem.run Tryz.prog (convert 21 9 (.int .i32 r)) W = .ok (.string E) W)
  (I1 : ∀ W, Sem.run Tryz.prog (Instr.index 9 (.string s) (.int .i64 3)) W = .ok (.int .u8 a) W) (I2 : ∀ W, Sem.run Tryz.prog (Instr.index 9 (.string E) (.int .i64 3)) W = .ok (.int .u8 v) W)
  (hne : (a != v) = true) (SL : ∀ W, Sem.run Tryz.prog (Instr.slice 9 (.string s) (some (.int .i64 4)) none none) W = .ok (.string T) W)
  (CB : Hid (∀ W, Calls Tryz.prog 156 #[.string T, .int .u8 v] W fun e w' => e = .returned (.int .i64 j) ∧ W = w')) (hj : j < 0) :
  Calls Tryz.prog 185 #[.string s, .int .i32 r] w fun e w' => e = .returned (.int .i64 (-1)) ∧ Below w.heap.size w w' := by
 have VR := Lib.hid (fun W => vrune_yes r W (by omega))
 have r128 : ¬ r < 128 := by omega
 clear rv r1
 go_enter Tryz.func185, Tryz.ntmps185
 go_wp2_with fail
 refine (VR.out _).mono ?_; rintro e w1 ⟨rfl, rfl⟩
 go_wp2_with fail
 go_step3
 go_wp2_with fail
 refine wp_loop_rounds 1 ?_
 rw [rounds_succ]
 go_wp2_with fail
 try go_step3
 go_wp2_with fail
 go_quiet (fail)
 go_wp2_with fail
 go_quiet ((go_at_call 156; first | exact q_same (CB.out _) | exact q_same2 (CB.out _)))
 go_wp2_with fail
 simp only [Exit.noGoto_ret, Exit.inBlock, Exit.then]
 go_ret
 exact ⟨rfl, by repeat (first | exact Below.refl _ _ | refine below_drewN ?_ _ | refine Below.drew ?_)⟩
set_option maxHeartbeats 2000000 in
set_option maxRecDepth 100000 in
theorem irune_s3 (s E : ByteArray) (r : Int) (w : World) (r0 : 128 ≤ r) (r1 : r ≤ 1114111) (rv : r < 55296 ∨ 57343 < r) (rf : (r == 65533) = false) (hE : (E.size : Int) = 4) (hs : ¬ 3 < (s.size : Int))
  (CV : ∀ W, Sem.run Tryz.prog (convert 21 9 (.int .i32 r)) W = .ok (.string E) W) :
  Calls Tryz.prog 185 #[.string s, .int .i32 r] w fun e w' => e = .returned (.int .i64 (-1)) ∧ Below w.heap.size w w' := by
 have VR := Lib.hid (fun W => vrune_yes r W (by omega))
 have r128 : ¬ r < 128 := by omega
 clear rv r1
 go_enter Tryz.func185, Tryz.ntmps185
 go_wp2_with fail
 refine (VR.out _).mono ?_; rintro e w1 ⟨rfl, rfl⟩
 go_wp2_with fail
 go_step3
 go_wp2_with fail
 refine wp_loop_rounds 1 ?_
 rw [rounds_succ]
 go_wp2_with fail
 try rw [Exit.noGoto_ret]
 go_ret
 exact ⟨rfl, Below.refl _ _⟩
theorem irune_default (s : ByteArray) (r : Int) (w : World) (hs : ∀ x ∈ s.data.toList, x.toNat < 128) (r0 : 128 ≤ r) (r1 : r ≤ 1114111) (rv : r < 55296 ∨ 57343 < r) (rf : (r == 65533) = false) :
  Calls Tryz.prog 185 #[.string s, .int .i32 r] w fun e w' => e = .returned (.int .i64 (-1)) ∧ Below w.heap.size w w' := by
 obtain ⟨k, hk, h123, hsz, hv⟩ := Ix.enc_hi r0
 by_cases hks : k < s.size
 ·
  have ha : s[k].toNat < 128 := hs _ (by
   have e : s[k] = s.data.toList[k]'(by rw [ab_len]; exact hks) := rfl
   rw [e]; exact List.getElem_mem _)
  have I1 := fun W => rx_ix s k hks W
  have I2 := fun W => rx_ix (Utf8.encode r) k hk W
  have SL := fun W => rx_cut s (k + 1) hks W
  have hj := Ix.no_byte (l := (s.extract (k + 1) s.size).data.toList) (v := (Utf8.encode r)[k]) (fun x hx => hs x (Ix.ext_in hx)) hv
  have CB := Lib.hid (fun W => ixb (s.extract (k + 1) s.size) (Utf8.encode r)[k] W)
  have hne : ((s[k].toNat : Int) != ((Utf8.encode r)[k].toNat : Int)) = true := by
   unfold bne
   rw [beq_eq_false_iff_ne.2 (by omega)]; rfl
  rcases h123 with rfl | rfl | rfl
  ·
   exact irune_d1 s _ _ r _ _ _ w r0 r1 rv rf (by omega) (by omega) (rx_conv r) I1 I2 hne SL CB hj
  ·
   exact irune_d2 s _ _ r _ _ _ w r0 r1 rv rf (by omega) (by omega) (rx_conv r) I1 I2 hne SL CB hj
  ·
   exact irune_d3 s _ _ r _ _ _ w r0 r1 rv rf (by omega) (by omega) (rx_conv r) I1 I2 hne SL CB hj
 ·
  rcases h123 with rfl | rfl | rfl
  ·
   exact irune_s1 s _ r w r0 r1 rv rf (by omega) (by omega) (rx_conv r)
  ·
   exact irune_s2 s _ r w r0 r1 rv rf (by omega) (by omega) (rx_conv r)
  ·
   exact irune_s3 s _ r w r0 r1 rv rf (by omega) (by omega) (rx_conv r)
set_option maxHeartbeats 2000000 in
set_option maxRecDepth 100000 in
theorem irune_bad (s : ByteArray) (r : Int) (w : World) (r0 : 128 ≤ r) (r1 : 55296 ≤ r) (rv : r ≤ 57343 ∨ 1114111 < r) (rf : (r == 65533) = false) :
  Calls Tryz.prog 185 #[.string s, .int .i32 r] w fun e w' => e = .returned (.int .i64 (-1)) ∧ Below w.heap.size w w' := by
 have VR := Lib.hid (fun W => vrune_no r W (by omega) r1 rv)
 have r128 : ¬ r < 128 := by omega
 clear rv r1
 go_enter Tryz.func185, Tryz.ntmps185
 go_wp2_with fail
 refine (VR.out _).mono ?_; rintro e w1 ⟨rfl, rfl⟩
 go_wp2_with fail
 go_ret
 exact ⟨rfl, Below.refl _ _⟩
set_option maxHeartbeats 2000000 in
set_option maxRecDepth 100000 in
theorem irune_err (s : ByteArray) (w : World) (hs : ∀ x ∈ s.data.toList, x.toNat < 128) :
  Calls Tryz.prog 185 #[.string s, .int .i32 65533] w fun e w' => e = .returned (.int .i64 (-1)) ∧ Below w.heap.size w w' := by
 have HS := Lib.hid hs; clear hs
 go_enter Tryz.func185, Tryz.ntmps185
 go_wp2_with fail
 go_loopw [] (fun wr => ∃ pos : Nat, pos ≤ s.size ∧ wr.heap[w.heap.size]? = some (.stringIter s pos) ∧ Hid (Below w.heap.size w wr)) (fun wr => s.size - wr.iterPos w.heap.size)
 case atStart =>
  refine ⟨0, Nat.zero_le _, ?_, (Below.refl _ _).alloc (Nat.le_refl _) _⟩
  have := World.iter_heap w s 0
  simpa using this
 case round =>
  obtain ⟨pos, hk, hit, hbw⟩ := hrel
  by_cases hp : pos < s.size
  ·
   have ha : s[pos].toNat < 128 := HS.out _ (by
    have e : s[pos] = s.data.toList[pos]'(by rw [ab_len]; exact hp) := rfl
    rw [e]; exact List.getElem_mem _)
   have hnx : ∀ ty, (Instr.next (.pointer (some ⟨w.heap.size, 0, none⟩)) true ty).run Tryz.prog wr = _ := fun ty => Lib.run_next_ascii_at wr w.heap.size s pos ty hit hp ha
   have hit2 := Lib.iterAt_heap wr w.heap.size s pos (pos + 1) hit
   have hbw2 := Lib.hid (Lib.below_iterAt hbw.out (k := w.heap.size) (Nat.le_refl _) s (pos + 1))
   have hne : ((s[pos].toNat : Int) == 65533) = false := beq_eq_false_iff_ne.2 (by omega)
   generalize hc : (s[pos].toNat : Int) = c at hnx hne
   go_wp2_with fail
   go_roundw
   case rel => exact ⟨pos + 1, by omega, hit2, hbw2⟩
   case measure =>
    simp only [World.iterPos, hit2, hit]
    omega
  ·
   have hnx : ∀ ty, (Instr.next (.pointer (some ⟨w.heap.size, 0, none⟩)) true ty).run Tryz.prog wr = _ := fun ty => Lib.run_next_end_at wr w.heap.size s pos ty hit hp
   go_wp2_with fail
   go_ret
   exact ⟨rfl, hbw.out⟩
theorem irune_hi (s : ByteArray) (r : Int) (w : World) (hs : ∀ x ∈ s.data.toList, x.toNat < 128) (r0 : 128 ≤ r) (r1 : r ≤ 2147483647) :
  Calls Tryz.prog 185 #[.string s, .int .i32 r] w fun e w' => e = .returned (.int .i64 (-1)) ∧ Below w.heap.size w w' := by
 by_cases h : r = 65533
 ·
  subst h; exact irune_err s w hs
 have rf : (r == 65533) = false := beq_eq_false_iff_ne.2 h
 by_cases hv : r ≤ 1114111 ∧ (r < 55296 ∨ 57343 < r)
 ·
  exact irune_default s r w hs r0 hv.1 hv.2 rf
 ·
  exact irune_bad s r w r0 (by omega) (by omega) rf
end Go.Proofs.YtpggfhmnhbnefaaGreatDoor
