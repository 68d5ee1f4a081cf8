/- Joined: ShelfP, NumAr, RnG. -/
import Derived.Shelf.Strconv.ParseIntPublic10
import Derived.Shelf.Strconv.ErrVarParseInt
import Derived.Test.YtlelpeocbgjmhaaGreatDoorCa06
import Derived.Test.YtlelpeocbgjmhaaGreatDoorCa15
import Derived.Test.YtlelpeocbgjmhaaGreatDoorCa02
/- The library's contracts of ParseInt at base 10, laid at this translation. -/
set_option linter.unusedVariables false
namespace Go.Proofs
open Go.Shelf

theorem Tryz.parseInt_ok (s : ByteArray) (hmax : s.size ≤ 9223372036854775806) (v : Int) (h : Lib.parseIntB 64 s.data.toList = .ok v) (w : World) :
    Calls Tryz.prog 55 #[.string s, .int .i64 10, .int .i64 64] w fun e w' => e = .returned (.tuple #[.int .i64 v, .nilIface]) ∧ RowKit.Below w.heap.size w w' :=
  (Any.strconv_ParseInt_10_at64_ok Tryz.laysC174 s hmax v h w).mono fun _ _ ⟨h, k⟩ => ⟨h, by
    rcases k with e | ⟨t, e⟩
    · rw [e]; exact RowKit.Below.refl _ _
    · rw [e]; exact Lib.bytesWorld_below _ _ _⟩
theorem Tryz.parseInt_range (s : ByteArray) (hlim : s.size ≤ 281474976710656) (h : Lib.parseIntB 64 s.data.toList = .range) (tp : TypeId) (p : Value) (w : World) (hvar : w.var? Tryz.prog "strconv.ErrRange" = some #[.iface tp p]) :
    Calls Tryz.prog 55 #[.string s, .int .i64 10, .int .i64 64] w fun e w' => (∃ N, e = .returned (.tuple #[.int .i64 (Lib.intSat 64 s.data.toList), .iface 140 (.pointer (some ⟨N, 0, none⟩))])) ∧ RowKit.Below w.heap.size w w' :=
  (Any.strconv_ParseInt_10_at64_range_var Tryz.laysC174 s hlim h tp p w hvar).mono fun _ _ ⟨N, h, _, _, b⟩ => ⟨⟨N, h⟩, b⟩
end Go.Proofs

/- The contracts of num.isText and num.Read. -/
set_option linter.unusedVariables false
set_option linter.unusedSimpArgs false
namespace Go.Proofs.YtlelpeocbgjmhaaGreatDoor
open Go.RowKit
set_option maxHeartbeats 4000000 in
theorem isText_any (s : ByteArray) (w : World) (hs : s.size ≤ maxLen) :
    Calls Tryz.prog 54 #[.string s] w fun e w' => e = .returned (.bool (Num.isT s.data.toList)) ∧ ∃ k, w' = w.drewN k := by
  rw [show Num.isT s.data.toList = Num.numT (Lib.hasPrefix s.data.toList [45]) (Lib.trimPrefix s.data.toList [45]) from rfl]
  have hl : (Lib.trimPrefix s.data.toList [45]).length ≤ s.size := by
    unfold Lib.trimPrefix
    have : s.data.toList.length = s.size := by simp
    split
    · rw [List.length_drop]; omega
    · omega
  obtain ⟨b, hb⟩ : ∃ b, Lib.hasPrefix s.data.toList [45] = b := ⟨_, rfl⟩
  obtain ⟨l, hl2⟩ : ∃ l, Lib.trimPrefix s.data.toList [45] = l := ⟨_, rfl⟩
  rw [hl2] at hl
  rw [hb, hl2]
  have HB := Lib.hid hb; have HL := Lib.hid hl2; clear hb hl2
  obtain ⟨ds, hds⟩ : ∃ ds : ByteArray, ds = ⟨l.toArray⟩ := ⟨_, rfl⟩
  have hdl : l = ds.data.toList := by rw [hds]
  have hsz : ds.size ≤ s.size := by rw [hds]; show l.toArray.size ≤ s.size; rw [List.size_toArray]; exact hl
  have HD := Lib.hid hds; clear hds
  unfold maxLen at hs
  rw [hdl]
  have HDL := Lib.hid hdl; clear hdl hl
  rcases Nat.eq_zero_or_pos ds.size with hz | hz
  · have hnil : ds.data.toList = [] := by rw [← List.length_eq_zero_iff, dlen]; exact hz
    have ht : ds.toList = [] := by rw [ByteArray.toList_eq]; exact hnil
    have hte : ds.toList.isEmpty = true := by rw [ht]; rfl
    rw [hnil]
    have HZ := Lib.hid hz; clear hz hnil
    go_enter Tryz.func54, Tryz.ntmps54
    go_wp2_with fail
    refine (cutPrefix _ _ _).mono ?_; rintro e w1 ⟨rfl, rfl⟩
    rw [show (⟨#[45]⟩ : ByteArray).data.toList = [45] from rfl, HB.out, HL.out, ← HD.out]
    clear HB HL
    go_wp2_with fail
    go_ret
    exact ⟨rfl, 0, rfl⟩
  · obtain ⟨t1, t2⟩ := dne hz
    by_cases h48 : ds[0].toNat = 48
    · have h48' : ((ds[0].toNat : Int) == 48) = true := by rw [beq_iff_eq]; omega
      cases hbb : b
      · by_cases h1 : 1 < ds.size
        · have h1i : (1 : Int) < (ds.size : Int) := by omega
          have hno := front_no (b := false) hz h48 (.inr h1)
          have HN := Lib.hid hno; clear hno
          rw [hbb] at HB
          clear hbb
          have H48 := Lib.hid h48; clear h48
          go_enter Tryz.func54, Tryz.ntmps54
          go_wp2_with fail
          refine (cutPrefix _ _ _).mono ?_; rintro e w1 ⟨rfl, rfl⟩
          rw [show (⟨#[45]⟩ : ByteArray).data.toList = [45] from rfl, HB.out, HL.out, ← HD.out]
          clear HB HL
          go_wp2_with fail
          go_ret
          refine ⟨?_, 0, rfl⟩
          rw [HN.out]
          all_goals rfl
        · have h1i : (ds.size : Int) ≤ 1 := by omega
          have hf := front (b := false) hz (fun _ => ⟨rfl, by omega⟩)
          have HF := Lib.hid hf; clear hf
          rw [hbb] at HB
          clear hbb
          have H48 := Lib.hid h48; clear h48
          go_enter Tryz.func54, Tryz.ntmps54
          go_wp2_with fail
          refine (cutPrefix _ _ _).mono ?_; rintro e w1 ⟨rfl, rfl⟩
          rw [show (⟨#[45]⟩ : ByteArray).data.toList = [45] from rfl, HB.out, HL.out, ← HD.out]
          clear HB HL
          go_wp2_with fail
          go_loop [28] (fun i => ∃ k : Nat, k ≤ ds.size ∧ i = .int .i64 k ∧ (ds.data.toList.take k).all Num.dig = true) (fun i => ds.size - (intOf i).toNat)
          case atStart => exact ⟨0, Nat.zero_le _, rfl, rfl⟩
          case round =>
            obtain ⟨k, hk, rfl, hall⟩ := hrel
            have HA := Lib.hid hall; clear hall
            by_cases hlt : k < ds.size
            · by_cases h1 : (ds[k].toNat : Int) < 48
              · have hno : ds.data.toList.all Num.dig = false := not_all hlt (by omega)
                have HN := Lib.hid hno; clear hno
                go_wp2
                go_ret
                refine ⟨?_, 0, rfl⟩
                rw [HF.out, HN.out]
                all_goals rfl
              · by_cases h2 : 57 < (ds[k].toNat : Int)
                · have hno : ds.data.toList.all Num.dig = false := not_all hlt (by omega)
                  have HN := Lib.hid hno; clear hno
                  go_wp2
                  go_ret
                  refine ⟨?_, 0, rfl⟩
                  rw [HF.out, HN.out]
                  all_goals rfl
                · have hst : (ds.data.toList.take (k + 1)).all Num.dig = true := take_all hlt HA.out (by omega)
                  have HS := Lib.hid hst; clear hst
                  go_wp2
                  go_round
                  case rel => exact ⟨k + 1, by omega, by go_num, HS.out⟩
                  case measure => simp [intOf]; omega
            · have hend : ds.data.toList.all Num.dig = true := by
                have := HA.out
                rwa [List.take_of_length_le (by rw [dlen]; omega)] at this
              have HE := Lib.hid hend; clear hend
              go_wp2
              go_ret
              refine ⟨?_, 0, rfl⟩
              rw [HF.out, HE.out]
              all_goals rfl
      · have hno := front_no (b := true) hz h48 (.inl rfl)
        have HN := Lib.hid hno; clear hno
        rw [hbb] at HB
        clear hbb
        have H48 := Lib.hid h48; clear h48
        go_enter Tryz.func54, Tryz.ntmps54
        go_wp2_with fail
        refine (cutPrefix _ _ _).mono ?_; rintro e w1 ⟨rfl, rfl⟩
        rw [show (⟨#[45]⟩ : ByteArray).data.toList = [45] from rfl, HB.out, HL.out, ← HD.out]
        clear HB HL
        go_wp2_with fail
        go_ret
        refine ⟨?_, 0, rfl⟩
        rw [HN.out]
        all_goals rfl
    · have h48' : ((ds[0].toNat : Int) == 48) = false := by rw [beq_eq_false_iff_ne]; omega
      have hf := front (b := b) hz (fun h => absurd h h48)
      have HF := Lib.hid hf; clear hf
      clear h48
      go_enter Tryz.func54, Tryz.ntmps54
      go_wp2_with fail
      refine (cutPrefix _ _ _).mono ?_; rintro e w1 ⟨rfl, rfl⟩
      rw [show (⟨#[45]⟩ : ByteArray).data.toList = [45] from rfl, HB.out, HL.out, ← HD.out]
      clear HB HL
      go_wp2_with fail
      go_loop [28] (fun i => ∃ k : Nat, k ≤ ds.size ∧ i = .int .i64 k ∧ (ds.data.toList.take k).all Num.dig = true) (fun i => ds.size - (intOf i).toNat)
      case atStart => exact ⟨0, Nat.zero_le _, rfl, rfl⟩
      case round =>
        obtain ⟨k, hk, rfl, hall⟩ := hrel
        have HA := Lib.hid hall; clear hall
        by_cases hlt : k < ds.size
        · by_cases h1 : (ds[k].toNat : Int) < 48
          · have hno : ds.data.toList.all Num.dig = false := not_all hlt (by omega)
            have HN := Lib.hid hno; clear hno
            go_wp2
            go_ret
            refine ⟨?_, 0, rfl⟩
            rw [HF.out, HN.out]
            all_goals rfl
          · by_cases h2 : 57 < (ds[k].toNat : Int)
            · have hno : ds.data.toList.all Num.dig = false := not_all hlt (by omega)
              have HN := Lib.hid hno; clear hno
              go_wp2
              go_ret
              refine ⟨?_, 0, rfl⟩
              rw [HF.out, HN.out]
              all_goals rfl
            · have hst : (ds.data.toList.take (k + 1)).all Num.dig = true := take_all hlt HA.out (by omega)
              have HS := Lib.hid hst; clear hst
              go_wp2
              go_round
              case rel => exact ⟨k + 1, by omega, by go_num, HS.out⟩
              case measure => simp [intOf]; omega
        · have hend : ds.data.toList.all Num.dig = true := by
            have := HA.out
            rwa [List.take_of_length_le (by rw [dlen]; omega)] at this
          have HE := Lib.hid hend; clear hend
          go_wp2
          go_ret
          refine ⟨?_, 0, rfl⟩
          rw [HF.out, HE.out]
          all_goals rfl

set_option maxHeartbeats 1000000 in
theorem read_no (s : ByteArray) (w : World) (hs : s.size ≤ maxLen) (ht : Num.isT s.data.toList = false) :
    Calls Tryz.prog 32 #[.string s] w fun e w' => e = .returned (.tuple #[.int .i64 0, .int .i64 2]) ∧ Below w.heap.size w w' := by
  have HT := Lib.hid ht; clear ht
  go_enter Tryz.func32, Tryz.ntmps32
  go_wp2_with fail
  refine (isText_any _ _ hs).mono ?_; rintro e w1 ⟨rfl, k, rfl⟩
  rw [HT.out]
  go_wp2_with fail
  go_ret2
  exact ⟨rfl, below_draw _ _⟩
set_option maxHeartbeats 1000000 in
theorem read_ok (s : ByteArray) (v : Int) (w : World) (hs : s.size ≤ maxLen) (ht : Num.isT s.data.toList = true) (h : Lib.parseIntB 64 s.data.toList = .ok v) (hm : s.size ≤ 9223372036854775806) :
    Calls Tryz.prog 32 #[.string s] w fun e w' => e = .returned (.tuple #[.int .i64 v, .int .i64 0]) ∧ Below w.heap.size w w' := by
  have HT := Lib.hid ht; have H := Lib.hid h; have HM := Lib.hid hm; clear ht h hm
  go_enter Tryz.func32, Tryz.ntmps32
  go_wp2_with fail
  refine (isText_any _ _ hs).mono ?_; rintro e w1 ⟨rfl, k, rfl⟩
  rw [HT.out]
  go_wp2_with fail
  refine (Tryz.parseInt_ok _ HM.out v H.out _).mono ?_; rintro e w2 ⟨rfl, b2⟩
  have B2 := Lib.hid (below_step (below_draw w k) b2)
  clear b2
  go_wp2_with fail
  go_ret2
  exact ⟨rfl, B2.out⟩
set_option maxHeartbeats 1000000 in
theorem read_range (s : ByteArray) (w : World) (hs : s.size ≤ maxLen) (ht : Num.isT s.data.toList = true) (h : Lib.parseIntB 64 s.data.toList = .range) (hm : s.size ≤ 281474976710656) (tp : TypeId) (p : Value) (hvar : w.var? Tryz.prog "strconv.ErrRange" = some #[.iface tp p]) :
    Calls Tryz.prog 32 #[.string s] w fun e w' => e = .returned (.tuple #[.int .i64 0, .int .i64 1]) ∧ Below w.heap.size w w' := by
  have HT := Lib.hid ht; have H := Lib.hid h; have HM := Lib.hid hm; have HV := Lib.hid hvar; clear ht h hm hvar
  go_enter Tryz.func32, Tryz.ntmps32
  go_wp2_with fail
  refine (isText_any _ _ hs).mono ?_; rintro e w1 ⟨rfl, k, rfl⟩
  rw [HT.out]
  go_wp2_with fail
  refine (Tryz.parseInt_range _ HM.out H.out tp p _ (var_keep (below_draw w k) HV.out)).mono ?_; rintro e w2 ⟨⟨N, rfl⟩, b2⟩
  have B2 := Lib.hid (below_step (below_draw w k) b2)
  clear b2
  go_wp2_with fail
  go_ret2
  exact ⟨rfl, B2.out⟩
end Go.Proofs.YtlelpeocbgjmhaaGreatDoor

/- The contracts of Read, the program's and the reference's, at any text: one answer. -/
set_option linter.unusedVariables false
set_option linter.unusedSimpArgs false
namespace Go.Proofs.YtlelpeocbgjmhaaGreatDoor
open Go.RowKit

namespace Num
theorem mz_no {s : ByteArray} (h : s.data.toList ≠ [45, 48]) : (s.toList == [45, 48]) = false := by
  rw [ByteArray.toList_eq]
  simpa using h
theorem ext1 (s : ByteArray) (r : List UInt8) (h : s.data.toList = 45 :: r) : (s.extract 1 s.size).data.toList = r := by
  rw [ByteArray.data_extract, Array.toList_extract, h]
  have hl := rn_len s
  rw [h, List.length_cons] at hl
  show ((45 :: r).drop 1).take (s.size - 1) = r
  rw [List.drop_one, List.tail_cons, List.take_of_length_le (by omega)]
theorem numT_dgs {b : Bool} {d : List UInt8} : numT b d = (dgs d && !(decide (d.head? = some 48) && (b || decide (1 < d.length)))) := by
  cases d with
  | nil => rfl
  | cons c r =>
    unfold numT dgs
    cases hr : r with
    | nil => cases hb : b <;> cases hc : decide (c = 48) <;> simp_all
    | cons x y => cases hb : b <;> cases hc : decide (c = 48) <;> simp_all
end Num
theorem rread_any (s : ByteArray) (w : World) (hs : s.size ≤ 1000) :
    Calls Tryz.prog 34 #[.string s] w fun e w' => e = .returned (.tuple #[.int .i64 (Num.rd s.data.toList).1, .int .i64 (Num.rd s.data.toList).2]) ∧ w = w' := by
  rw [Num.rd_eq]
  have hl := Num.rn_len s
  have hml : s.size ≤ maxLen := by unfold maxLen; omega
  cases hsl : s.data.toList with
  | nil =>
    have e : s = ⟨#[]⟩ := by apply ByteArray.ext; apply Array.toList_inj.1; rw [hsl]
    rw [e]
    exact rread_nil w
  | cons c r =>
    have hpos : 0 < s.size := by rw [← hl, hsl]; simp
    have hc0 : s[0] = c := by
      have e : s[0] = s.data.toList[0]'(by rw [Num.rn_len]; exact hpos) := rfl
      rw [e]; simp [hsl]
    have IX : ∀ W, Sem.run Tryz.prog (Instr.index 9 (.string s) (.int .i64 0)) W = .ok (.int .u8 (c.toNat : Int)) W := fun W => by rw [← hc0]; exact rn_ix s 0 hpos W
    by_cases h45 : c = 45
    · subst h45
      rw [Num.hp_cons, Num.tp_minus, show (45 == (45 : UInt8)) = true from rfl]
      have hd := Num.ext1 s r hsl
      have sl : ∀ W, Sem.run Tryz.prog (Instr.slice 9 (.string s) (some (.int .i64 1)) none none) W = .ok (.string (s.extract 1 s.size)) W := fun W => rn_cut s 1 hpos W
      obtain ⟨d, hdd⟩ : ∃ d, s.extract 1 s.size = d := ⟨_, rfl⟩
      rw [hdd] at hd sl
      have hdl := Num.rn_len d
      have ld : (d.size : Int) + 1 = (s.size : Int) := by
        have : s.data.toList.length = r.length + 1 := by rw [hsl]; rfl
        rw [hd] at hdl; omega
      have CD : Hid (∀ W, Calls Tryz.prog 56 #[.string d] W fun e w' => e = .returned (.bool (Num.dgs r)) ∧ W = w') := fun W => by rw [← hd]; exact rdigs_any d W (by unfold maxLen; omega)
      unfold Num.rdD
      rw [Num.numT_dgs]
      cases hg : Num.dgs r
      · exact rread_yno s d _ 0 false w (by omega) hs ld IX (by decide) sl (by rw [← hg]; exact CD) rfl
      · rw [hg] at CD
        have hne : r ≠ [] := by intro e; rw [e] at hg; exact absurd hg (by decide)
        have hall : r.all Num.dig = true := by unfold Num.dgs at hg; rw [Bool.and_eq_true] at hg; exact hg.1
        cases r with
        | nil => exact absurd rfl hne
        | cons x y =>
          have hdp : 0 < d.size := by rw [← hdl, hd]; simp
          have hx0 : d[0] = x := by
            have e : d[0] = d.data.toList[0]'(by rw [Num.rn_len]; exact hdp) := rfl
            rw [e]; simp [hd]
          have ID : ∀ W, Sem.run Tryz.prog (Instr.index 9 (.string d) (.int .i64 0)) W = .ok (.int .u8 (x.toNat : Int)) W := fun W => by rw [← hx0]; exact rn_ix d 0 hdp W
          by_cases h48 : x = 48
          · subst h48
            have e : (true && !(decide ((48 :: y).head? = some 48) && (true || decide (1 < (48 :: y).length)))) = false := by simp
            rw [e]
            by_cases hy : y = []
            · have es : s = ⟨#[45, 48]⟩ := by apply ByteArray.ext; apply Array.toList_inj.1; rw [hsl, hy]
              rw [es]
              exact rread_mz w
            · have : 1 < d.size := by
                rw [← hdl, hd]
                cases y with
                | nil => exact absurd rfl hy
                | cons _ _ => simp
              exact rread_yzero s d _ _ true w (by omega) hs ld IX (by decide) sl CD ID rfl (by omega) (by decide)
          · have e : (true && !(decide ((x :: y).head? = some 48) && (true || decide (1 < (x :: y).length)))) = true := by simp [h48]
            rw [e]
            have hx : (((x.toNat : Nat) : Int) == 48) = false := by
              rw [beq_eq_false_iff_ne]
              intro h; exact h48 (UInt8.toNat_inj.1 (by rw [show (48 : UInt8).toNat = 48 from rfl]; omega))
            have hmz : (s.toList == [45, 48]) = false := Num.mz_no (by rw [hsl]; intro h; injection h with _ h; injection h with h _; exact h48 h)
            have hlen : (x :: y).length = d.size := by rw [← hd]; exact hdl
            rw [hlen]
            by_cases hf : 19 < d.size
            · rw [if_pos hf]
              exact rread_yfar s d _ _ true w (by omega) hs ld IX (by decide) sl CD ID rfl (by omega) hx hmz
            · rw [if_neg hf]
              have hp := Num.val_pos (d := x :: y) (by simp) hall (by intro c' r' h; injection h with h _; rw [← h]; exact h48)
              rw [← hd] at hp hall ⊢
              by_cases h1 : 1 < (d.size : Int)
              · exact rread_yvaln s d _ _ w (by omega) hs ld IX (by decide) sl CD ID h1 hx (by omega) hmz hall hp
              · exact rread_yvaly s d _ _ w (by omega) hs ld IX (by decide) sl CD ID h1 (by omega) hmz hall hp
    · rw [Num.hp_cons, Num.tp_other c r h45, show (c == 45) = false by simpa using h45]
      have hc45 : (((c.toNat : Nat) : Int) == 45) = false := by
        rw [beq_eq_false_iff_ne]
        intro h; exact h45 (UInt8.toNat_inj.1 (by rw [show (45 : UInt8).toNat = 45 from rfl]; omega))
      have CD : Hid (∀ W, Calls Tryz.prog 56 #[.string s] W fun e w' => e = .returned (.bool (Num.dgs (c :: r))) ∧ W = w') := fun W => by rw [← hsl]; exact rdigs_any s W hml
      unfold Num.rdD
      rw [Num.numT_dgs]
      cases hg : Num.dgs (c :: r)
      · exact rread_nno s _ false w (by omega) hs IX hc45 (by rw [← hg]; exact CD) rfl
      · rw [hg] at CD
        have hall : (c :: r).all Num.dig = true := by unfold Num.dgs at hg; rw [Bool.and_eq_true] at hg; exact hg.1
        have hlen : (c :: r).length = s.size := by rw [← hsl]; exact hl
        have hmz : (s.toList == [45, 48]) = false := Num.mz_no (by rw [hsl]; intro h; injection h with h _; exact h45 h)
        rw [hlen]
        by_cases hz : c = 48 ∧ 1 < s.size
        · obtain ⟨rfl, h1⟩ := hz
          have e : (true && !(decide ((48 :: r).head? = some 48) && (false || decide (1 < s.size)))) = false := by simp [h1]
          rw [e]
          exact rread_nzero s _ true w (by omega) hs IX hc45 CD rfl (by omega) (by decide)
        · have e : (true && !(decide ((c :: r).head? = some 48) && (false || decide (1 < s.size)))) = true := by
            by_cases hc : c = 48
            · have : ¬ 1 < s.size := fun h => hz ⟨hc, h⟩
              simp [this]
            · simp [hc]
          rw [e]
          have hx : 1 < s.size → (((c.toNat : Nat) : Int) == 48) = false := fun h1 => by
            rw [beq_eq_false_iff_ne]
            intro h; exact hz ⟨UInt8.toNat_inj.1 (by rw [show (48 : UInt8).toNat = 48 from rfl]; omega), h1⟩
          by_cases hf : 19 < s.size
          · rw [if_pos hf]
            exact rread_nfar s _ true w (by omega) hs IX hc45 CD rfl (by omega) (hx (by omega)) hmz
          · rw [if_neg hf]
            rw [← hsl] at hall ⊢
            by_cases h1 : 1 < (s.size : Int)
            · exact rread_nvaln s _ w (by omega) hs IX hc45 CD h1 (hx (by omega)) (by omega) hmz hall
            · exact rread_nvaly s _ w (by omega) hs IX hc45 CD h1 (by omega) hmz hall
/-- The program's Read, at any text. -/
theorem read_any (s : ByteArray) (w : World) (hs : s.size ≤ 1000) (tp : TypeId) (p : Value) (hvar : w.var? Tryz.prog "strconv.ErrRange" = some #[.iface tp p]) :
    Calls Tryz.prog 32 #[.string s] w fun e w' => e = .returned (.tuple #[.int .i64 (Num.rd s.data.toList).1, .int .i64 (Num.rd s.data.toList).2]) ∧ Below w.heap.size w w' := by
  have hml : s.size ≤ maxLen := by unfold maxLen; omega
  unfold Num.rd
  cases ht : Num.isT s.data.toList
  · exact read_no s w hml ht
  · rcases Num.isT_read ht with h | ⟨x, h, -⟩
    · rw [h]; exact read_range s w hml ht h (by omega) tp p hvar
    · rw [h]; exact read_ok s x w hml ht h (by omega)
end Go.Proofs.YtlelpeocbgjmhaaGreatDoor
