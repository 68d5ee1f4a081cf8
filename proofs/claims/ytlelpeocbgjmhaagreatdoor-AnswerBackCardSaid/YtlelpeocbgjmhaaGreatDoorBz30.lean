/- Joined: RefD, StG, StH. -/
import Derived.Test.YtlelpeocbgjmhaaGreatDoorBz25
import Derived.Test.YtlelpeocbgjmhaaGreatDoorBz23
import Derived.Test.YtlelpeocbgjmhaaGreatDoorBz29
import Derived.Test.YtlelpeocbgjmhaaGreatDoorBz05
import Derived.Lib.QuietBelow
/- The contract of the reference's Date: the date that has the number. -/
set_option linter.unusedVariables false
set_option linter.unusedSimpArgs false
namespace Go.Proofs.YtlelpeocbgjmhaaGreatDoor
open Go.RowKit

set_option maxHeartbeats 400000 in
theorem rdate_no (n : Int) (w : World) (h : n < -15329228 ∨ 13890537 < n) :
    Calls Tryz.prog 66 #[.int .i64 n] w fun e w' => e = .returned (.tuple #[.agg #[.int .i64 0, .int .i64 0, .int .i64 0], .int .i64 1]) ∧ Below w.heap.size w w' := by
  rcases h with h | h
  · go_enter Tryz.func66, Tryz.ntmps66
    go_wp2_with fail
    refine (ahead_any (-40000) _ (by omega) (by omega)).mono ?_; rintro e w1 ⟨rfl, k1, rfl⟩
    rw [show Cal.ahead (-40000) = -15329228 by decide]
    go_wp2_with fail
    refine bodyPost_ret (v := .tuple #[.agg #[.int .i64 0, .int .i64 0, .int .i64 0], .int .i64 1]) (by simp [results, Tryz.results66, go_sem]) rfl ⟨rfl, ?_⟩
    repeat (first | exact Below.refl _ _ | refine _root_.Go.below_drewN ?_ _ | refine Below.setCell ?_ (by simp) _ | refine Below.alloc ?_ (by simp) _)
  · have h' : ¬ n < -15329228 := by omega
    go_enter Tryz.func66, Tryz.ntmps66
    go_wp2_with fail
    refine (ahead_any (-40000) _ (by omega) (by omega)).mono ?_; rintro e w1 ⟨rfl, k1, rfl⟩
    rw [show Cal.ahead (-40000) = -15329228 by decide]
    go_wp2_with fail
    refine (ahead_any 40001 _ (by omega) (by omega)).mono ?_; rintro e w1 ⟨rfl, k1, rfl⟩
    rw [show Cal.ahead 40001 = 13890538 by decide]
    go_wp2_with fail
    refine bodyPost_ret (v := .tuple #[.agg #[.int .i64 0, .int .i64 0, .int .i64 0], .int .i64 1]) (by simp [results, Tryz.results66, go_sem]) rfl ⟨rfl, ?_⟩
    repeat (first | exact Below.refl _ _ | refine _root_.Go.below_drewN ?_ _ | refine Below.setCell ?_ (by simp) _ | refine Below.alloc ?_ (by simp) _)

/-- The result's own block, empty till the end. -/
structure Own (w W : World) (b : Nat) : Prop where
  one : One w W b (.int .i64 0) (.int .i64 0) (.int .i64 0)
  old : w.heap.size ≤ b
  f0 : W.frozen? ⟨b, 0, none⟩ = false
  f1 : W.frozen? ⟨b, 1, none⟩ = false
  f2 : W.frozen? ⟨b, 2, none⟩ = false
theorem Own.keep {w W W' : World} {b : Nat} (h : Own w W b) (k : Below W.heap.size W W') : Own w W' b := by
  obtain ⟨h1, ho, f0, f1, f2⟩ := h
  have hb := h1.hb
  exact ⟨h1.keep k, ho, by rw [k.frozen (p := ⟨b, _, none⟩) hb]; exact f0, by rw [k.frozen (p := ⟨b, _, none⟩) hb]; exact f1, by rw [k.frozen (p := ⟨b, _, none⟩) hb]; exact f2⟩
theorem Own.new {w : World} {t : TypeId} : Own w (w.alloc (.cells #[.int .i64 0, .int .i64 0, .int .i64 0] t)) w.heap.size :=
  ⟨One.new (Below.refl _ _), Nat.le_refl _, by simp [go_sem], by simp [go_sem], by simp [go_sem]⟩

theorem ahead_le (y y' : Int) (h : y ≤ y') : Cal.ahead y ≤ Cal.ahead y' := by unfold Cal.ahead; omega
theorem ahead_range {y n : Int} (h0 : -15329228 ≤ n) (h : n < Cal.ahead y) : -40000 < y := by
  by_cases hy : -40000 < y
  · exact hy
  · have := ahead_le y (-40000) (by omega)
    have : Cal.ahead (-40000) = -15329228 := by decide
    omega
theorem ahead_range' {y n : Int} (h1 : n ≤ 13890537) (h : Cal.ahead y ≤ n) : y ≤ 40000 := by
  by_cases hy : y ≤ 40000
  · exact hy
  · have := ahead_le 40001 y (by omega)
    have : Cal.ahead 40001 = 13890538 := by decide
    omega
theorem ahead_bd {y : Int} (h0 : -50000 ≤ y) (h1 : y ≤ 50000) : -20000000 ≤ Cal.ahead y ∧ Cal.ahead y ≤ 20000000 := by unfold Cal.ahead; omega

set_option maxHeartbeats 2000000 in
set_option maxRecDepth 100000 in
theorem rdate_yes (n : Int) (w : World) (h0 : -15329228 ≤ n) (h1 : n ≤ 13890537) :
    Calls Tryz.prog 66 #[.int .i64 n] w fun e w' => e = .returned (.tuple #[.agg #[.int .i64 (Cal.dY n), .int .i64 (Cal.dM n), .int .i64 (Cal.dD n)], .int .i64 0]) ∧ Below w.heap.size w w' := by
  have O0 := Own.new (w := w) (t := 70)
  have g0 : -41884 ≤ n / 366 := by omega
  have g1 : n / 366 ≤ 37953 := by omega
  go_enter Tryz.func66, Tryz.ntmps66
  go_wp2_with fail
  refine (ahead_any (-40000) _ (by omega) (by omega)).mono ?_; rintro e w1 ⟨rfl, k1, rfl⟩
  rw [show Cal.ahead (-40000) = -15329228 by decide]
  go_wp2_with fail
  refine (ahead_any 40001 _ (by omega) (by omega)).mono ?_; rintro e w2 ⟨rfl, k2, rfl⟩
  rw [show Cal.ahead 40001 = 13890538 by decide]
  go_wp2_with fail
  refine (floor_pos _ _ _ (by omega) (by omega) (by omega) (by omega)).mono ?_; rintro e w3 ⟨rfl, k3, rfl⟩
  go_wp2_with fail
  have OW : Own w ((w.alloc (.cells #[.int .i64 0, .int .i64 0, .int .i64 0] 70)).drewN (k1 + k2 + k3)) w.heap.size := O0.keep (below_draw _ _)
  clear O0
  generalize (w.alloc (.cells #[.int .i64 0, .int .i64 0, .int .i64 0] 70)).drewN (k1 + k2 + k3) = W0 at OW ⊢
  go_loopw [4] (fun v4 wr => ∃ y : Int, -40000 ≤ y ∧ y ≤ 50000 ∧ v4 = .int .i64 y ∧ Own w wr w.heap.size) (fun v4 _ => (intOf v4 + 50000).toNat)
  case atStart => exact ⟨1970 + n / 366, by omega, by omega, rfl, OW⟩
  case round =>
    obtain ⟨y, hy0, hy1, rfl, O⟩ := hrel
    clear OW
    obtain ⟨ab0, ab1⟩ := ahead_bd (y := y) (by omega) (by omega)
    by_cases hlt : n < Cal.ahead y
    · have hr := ahead_range h0 hlt
      go_wp2_with (go_at_call 90; refine (ahead_any _ _ (by omega) (by omega)).mono ?_; rintro e w' ⟨rfl, j, rfl⟩)
      go_roundw
      case rel => exact ⟨y - 1, by omega, by omega, rfl, O.keep (below_draw _ _)⟩
      case measure => simp [intOf]; omega
    · go_wp2_with fail
      refine (ahead_any _ _ (by omega) (by omega)).mono ?_; rintro e w' ⟨rfl, j, rfl⟩
      have O := O.keep (below_draw (B := wr.heap.size) wr j)
      generalize wr.drewN j = W1 at O ⊢
      go_wp2_with fail
      go_loopw [4] (fun v4 wr => ∃ y : Int, -40000 ≤ y ∧ y ≤ 40000 ∧ Cal.ahead y ≤ n ∧ v4 = .int .i64 y ∧ Own w wr w.heap.size) (fun v4 _ => (50000 - intOf v4).toNat)
      case atStart => exact ⟨y, by omega, ahead_range' h1 (by omega), by omega, rfl, O⟩
      case round =>
        clear hy0 hy1 ab0 ab1 hlt O
        rename_i ww
        obtain ⟨z, hy0, hy1, hle, rfl, O⟩ := hrel
        obtain ⟨ab0, ab1⟩ := ahead_bd (y := z + 1) (by omega) (by omega)
        by_cases hlt : Cal.ahead (z + 1) ≤ n
        · have hr := ahead_range' h1 hlt
          go_wp2_with (go_at_call 90; refine (ahead_any _ _ (by omega) (by omega)).mono ?_; rintro e w' ⟨rfl, j, rfl⟩)
          go_roundw
          case rel => exact ⟨z + 1, by omega, by omega, hlt, rfl, O.keep (below_draw _ _)⟩
          case measure => simp [intOf]; omega
        · have hgt : n < Cal.ahead z + 365 + Cal.lp z := by rw [← Cal.ahead_succ]; omega
          obtain ⟨aa0, aa1⟩ := ahead_bd (y := z) (by omega) (by omega)
          go_wp2_with fail
          refine (ahead_any (z + 1) _ (by omega) (by omega)).mono ?_; rintro e w' ⟨rfl, j, rfl⟩
          have O := O.keep (below_draw (B := wr.heap.size) wr j)
          generalize wr.drewN j = W2 at O ⊢
          go_wp2_with fail
          refine (ahead_any z _ (by omega) (by omega)).mono ?_; rintro e w' ⟨rfl, j2, rfl⟩
          have O := O.keep (below_draw (B := W2.heap.size) W2 j2)
          generalize W2.drewN j2 = W3 at O ⊢
          clear ab0 ab1 hlt
          go_wp2_with fail
          go_loopw [5, 6] (fun v5 v6 wr => ∃ m : Int, 1 ≤ m ∧ m ≤ 12 ∧ v6 = .int .i64 m ∧ v5 = .int .i64 (n - Cal.ahead z - Cal.cum z m) ∧ 0 ≤ n - Cal.ahead z - Cal.cum z m ∧ Own w wr w.heap.size) (fun _ v6 _ => (12 - intOf v6).toNat)
          case atStart => exact ⟨1, by omega, by omega, rfl, by rw [show Cal.cum z 1 = 0 from rfl]; simp, by rw [show Cal.cum z 1 = 0 from rfl]; omega, O⟩
          case round =>
            clear O
            obtain ⟨m, hm0, hm1, rfl, rfl, hl0, O⟩ := hrel
            obtain ⟨c0, c1⟩ := Cal.cum_bd z m hm0 hm1
            obtain ⟨lp0, lp1⟩ := Cal.lp_01 z
            obtain ⟨l0, l1⟩ := Cal.len_bd z m
            have CS := Lib.hid (Cal.cum_succ z m hm0 hm1)
            by_cases hlt : Cal.len z m ≤ n - Cal.ahead z - Cal.cum z m
            · have hm2 : m < 12 := by
                by_cases h12 : m < 12
                · exact h12
                · exfalso
                  have e12 : m = 12 := by omega
                  rw [e12] at hlt
                  have : Cal.cum z 12 = 334 + Cal.lp z := rfl
                  have : Cal.len z 12 = 31 := rfl
                  omega
              go_wp2_with fail
              refine (rlen_any _ _ _).mono ?_; rintro e w4 ⟨rfl, b4⟩
              have O4 := O.keep b4
              clear O b4
              go_wp2_with fail
              refine (rlen_any _ _ _).mono ?_; rintro e w5 ⟨rfl, b5⟩
              have O5 := O4.keep b5
              clear O4 b5
              go_wp2_with fail
              go_roundw
              case rel => exact ⟨m + 1, by omega, by omega, rfl, by rw [CS.out]; go_num, by rw [CS.out]; omega, O5⟩
              case measure => simp [intOf]; omega
            · have hR : Cal.Right z m (n - Cal.ahead z - Cal.cum z m + 1) := ⟨hy0, hy1, by omega, by omega⟩
              have hN : Cal.num z m (n - Cal.ahead z - Cal.cum z m + 1) = n := by unfold Cal.num; omega
              have hE := Cal.date_of_num hR
              rw [hN] at hE
              have HE := Lib.hid hE
              clear hE hN hR
              go_wp2_with fail
              refine (rlen_any _ _ _).mono ?_; rintro e w4 ⟨rfl, b4⟩
              have O4 := O.keep b4
              clear O b4
              have f0 := O4.f0; have f1 := O4.f1; have f2 := O4.f2; have k0 := O4.one.k0; have k1 := O4.one.k1; have k2 := O4.one.k2
              go_wp2_with fail
              refine bodyPost_ret (v := .tuple #[.agg #[.int .i64 z, .int .i64 m, .int .i64 (n - Cal.ahead z - Cal.cum z m + 1)], .int .i64 0]) (by simp [results, Tryz.results66, go_sem, k0, k1, k2]) rfl ⟨?_, ?_⟩
              · obtain ⟨e1, e2, e3⟩ := HE.out
                rw [e1, e2, e3]
              · have B := O4.one.bel
                repeat (first | exact B | refine Below.setCell ?_ (by simp) _)
end Go.Proofs.YtlelpeocbgjmhaaGreatDoor

/- Stamps that are read: the year. -/
set_option linter.unusedVariables false
set_option linter.unusedSimpArgs false
namespace Go.Proofs.YtlelpeocbgjmhaaGreatDoor
open Go.RowKit

theorem tp_len (l p : List UInt8) : (Lib.trimPrefix l p).length ≤ l.length := by
  unfold Lib.trimPrefix
  split
  · rw [List.length_drop]; omega
  · omega
theorem cut_as (s : ByteArray) (W : World) : ∃ (D : ByteArray) (b : Bool), D.data.toList = Lib.trimPrefix s.data.toList [45] ∧ b = Lib.hasPrefix s.data.toList [45] ∧ D.size ≤ s.size ∧
    ∀ W, Calls Tryz.prog 78 #[.string s, .string ⟨#[45]⟩] W fun e w' => e = .returned (.tuple #[.string D, .bool b]) ∧ W = w' := by
  refine ⟨⟨(Lib.trimPrefix s.data.toList [45]).toArray⟩, _, rfl, rfl, ?_, fun W => cutPrefix s ⟨#[45]⟩ W⟩
  show (Lib.trimPrefix s.data.toList [45]).toArray.size ≤ s.size
  rw [List.size_toArray, ← bl_len s]
  exact tp_len _ _
theorem list_bytes {D : ByteArray} {l : List UInt8} (h : D.data.toList = l) : D = ⟨l.toArray⟩ := by
  subst h; rfl
theorem head_b {D : ByteArray} (h : 0 < D.size) : D.data.toList.head? = some D[0] := by
  rw [List.head?_eq_getElem?, List.getElem?_eq_getElem (by rw [bl_len]; exact h)]
  rfl
namespace Rd
/-- What readYear answers. -/
def ya (l : List UInt8) : Int := if yl l then yv l else 0
end Rd
end Go.Proofs.YtlelpeocbgjmhaaGreatDoor

/- Stamps that are read: what stands behind the year. -/
set_option linter.unusedVariables false
set_option linter.unusedSimpArgs false
namespace Go.Proofs.YtlelpeocbgjmhaaGreatDoor
open Go.RowKit

theorem at_ix (a : ByteArray) (k : Nat) (h : k < a.size) (w : World) : Sem.run Tryz.prog (Instr.index 9 (.string a) (.int .i64 (k : Int))) w = .ok (.int .u8 a[k].toNat) w := by
  rw [run_index_string w _ _ _ _ Tryz.underlying9, dif_pos ⟨by omega, by omega⟩]
  simp
theorem cut_ab (s : ByteArray) (a b : Nat) (h : a ≤ b) (hb : b ≤ s.size) (w : World) : Sem.run Tryz.prog (Instr.slice 9 (.string s) (some (.int .i64 (a : Int))) (some (.int .i64 (b : Int))) none) w = .ok (.string (s.extract a b)) w := by
  rw [run_slice_string w 9 s .i64 .i64 (a : Int) (b : Int) Tryz.underlying9 (by omega) (by omega) (by omega)]
  simp
theorem cut_l (s : ByteArray) (a : Nat) (ha : a ≤ s.size) (w : World) : Sem.run Tryz.prog (Instr.slice 9 (.string s) (some (.int .i64 (a : Int))) none none) w = .ok (.string (s.extract a s.size)) w := by
  rw [run_slice_string_l w 9 s Tryz.underlying9 .i64 _ (by omega) (by omega)]
  simp
theorem ext_list (s : ByteArray) (a b : Nat) : (s.extract a b).data.toList = (s.data.toList.take b).drop a := by
  rw [ByteArray.data_extract, Array.toList_extract]
  simp [List.extract_eq_take_drop, List.drop_take]
/-- The part of a text at a place of three bytes, as the code cuts it. -/
theorem part3 (s : ByteArray) (hs : s.size = 15) (k : Nat) (hk : k < 5) : ∃ (P Q : ByteArray) (c g : Int), P.size = 3 ∧ Q.size = 2 ∧ Q.data.toList = (s.data.toList.drop (3 * k + 1)).take 2 ∧ Rd.pOk s.data.toList k = ((c == g) && Q.data.toList.all Num.dig) ∧
    (∀ W, Sem.run Tryz.prog (Instr.slice 9 (.string s) (some (.int .i64 ((3 * k : Nat) : Int))) (some (.int .i64 ((3 * k + 3 : Nat) : Int))) none) W = .ok (.string P) W) ∧
    (∀ W, Sem.run Tryz.prog (Instr.index 9 (.string P) (.int .i64 0)) W = .ok (.int .u8 c) W) ∧
    (∀ W, Sem.run Tryz.prog (Instr.slice 9 (.string P) (some (.int .i64 1)) none none) W = .ok (.string Q) W) ∧
    (∀ W, Sem.run Tryz.prog (Instr.index 9 (.string ⟨#[45, 45, 84, 58, 58]⟩) (.int .i64 (k : Int))) W = .ok (.int .u8 g) W) := by
  have hP : (s.extract (3 * k) (3 * k + 3)).size = 3 := by rw [ByteArray.size_extract]; omega
  have h0 : 0 < (s.extract (3 * k) (3 * k + 3)).size := by omega
  have hg : k < (⟨#[45, 45, 84, 58, 58]⟩ : ByteArray).size := hk
  refine ⟨s.extract (3 * k) (3 * k + 3), (s.extract (3 * k) (3 * k + 3)).extract 1 3, ((s.extract (3 * k) (3 * k + 3))[0].toNat : Int), (((⟨#[45, 45, 84, 58, 58]⟩ : ByteArray)[k]).toNat : Int), hP, ?_, ?_, ?_, ?_, ?_, ?_, ?_⟩
  · rw [ByteArray.size_extract, hP]; rfl
  · rw [ext_list, ext_list]
    have e : s.data.toList.length = 15 := by rw [bl_len]; exact hs
    apply List.ext_getElem
    · simp [e]; omega
    · intro i h1 h2
      simp
      congr 1
      omega
  · unfold Rd.pOk
    have e : s.data.toList.length = 15 := by rw [bl_len]; exact hs
    have e1 : s.data.toList.getD (3 * k) 0 = (s.extract (3 * k) (3 * k + 3))[0] := by
      have h1 : (s.extract (3 * k) (3 * k + 3))[0] = (s.extract (3 * k) (3 * k + 3)).data.toList[0]'(by rw [bl_len]; exact h0) := rfl
      rw [h1, List.getD_eq_getElem?_getD, List.getElem?_eq_getElem (by omega)]
      have h2 := ext_list s (3 * k) (3 * k + 3)
      simp [h2]
    have e2 : Rd.sg.getD k 0 = (⟨#[45, 45, 84, 58, 58]⟩ : ByteArray)[k] := by
      have h1 : (⟨#[45, 45, 84, 58, 58]⟩ : ByteArray)[k] = (⟨#[45, 45, 84, 58, 58]⟩ : ByteArray).data.toList[k]'hk := rfl
      rw [h1, List.getD_eq_getElem?_getD]
      unfold Rd.sg
      rw [List.getElem?_eq_getElem hk]; rfl
    have E1 : ∀ x y : UInt8, decide (x = y) = ((x.toNat : Int) == (y.toNat : Int)) := by
      intro x y
      by_cases h : x = y
      · subst h; simp
      · rw [decide_eq_false h]
        symm
        rw [beq_eq_false_iff_ne]
        intro h2
        exact h (UInt8.toNat_inj.1 (by omega))
    have E2 : (s.data.toList.drop (3 * k + 1)).take 2 = ((s.extract (3 * k) (3 * k + 3)).extract 1 3).data.toList := by
      rw [ext_list, ext_list]
      apply List.ext_getElem
      · simp [e]; omega
      · intro i h1 h2
        simp
        congr 1
        omega
    rw [e1, e2, E1, E2]
  · intro W; exact cut_ab s _ _ (by omega) (by omega) W
  · intro W; exact at_ix _ 0 h0 W
  · intro W
    have := cut_l (s.extract (3 * k) (3 * k + 3)) 1 (by omega) W
    rw [hP] at this
    exact this
  · intro W; exact at_ix _ k hg W
namespace Rd
def vk (l : List UInt8) (j k : Nat) : Int := if j < k then pV l j else 0
/-- What readBehind answers. -/
def vb (l : List UInt8) (j : Nat) : Int := if bOk l then pV l j else 0
theorem bOk_iff {l : List UInt8} : bOk l = true ↔ ∀ j, j < 5 → pOk l j = true := by
  unfold bOk
  simp only [Bool.and_eq_true]
  constructor
  · rintro ⟨a, b, c, d, e⟩ j hj
    obtain rfl | rfl | rfl | rfl | rfl : j = 0 ∨ j = 1 ∨ j = 2 ∨ j = 3 ∨ j = 4 := by omega
    all_goals assumption
  · intro h
    exact ⟨h 0 (by omega), h 1 (by omega), h 2 (by omega), h 3 (by omega), h 4 (by omega)⟩
end Rd
end Go.Proofs.YtlelpeocbgjmhaaGreatDoor
