/- Joined: RsC, Bld, StW, StR. -/
import Derived.Test.YtlelpeocbgjmhaaGreatDoorCa23
import Derived.Test.YtlelpeocbgjmhaaGreatDoorCa05
import Derived.Test.YtlelpeocbgjmhaaGreatDoorCa02
import Derived.Test.YtlelpeocbgjmhaaGreatDoorCa06
import Derived.Test.YtlelpeocbgjmhaaGreatDoorCa22
/- The contract of the reference's stamp.Text. -/
set_option linter.unusedVariables false
set_option linter.unusedSimpArgs false
namespace Go.Proofs.YtlelpeocbgjmhaaGreatDoor
open Go.RowKit

theorem arr_app (a b : List UInt8) : (⟨a.toArray⟩ ++ ⟨b.toArray⟩ : ByteArray) = ⟨(a ++ b).toArray⟩ := by
  apply ByteArray.ext
  rw [ByteArray.data_append]
  apply Array.toList_inj.1
  simp
theorem arr_size (l : List UInt8) : (⟨l.toArray⟩ : ByteArray).size = l.length := by show l.toArray.size = _; rw [List.size_toArray]
theorem rstext_any (y m d h i s : Int) (w : World) :
    Calls Tryz.prog 42 #[.agg #[.int .i64 y, .int .i64 m, .int .i64 d, .int .i64 h, .int .i64 i, .int .i64 s]] w fun e w' => e = .returned (.string ⟨(St.tx y m d h i s).toArray⟩) ∧ Below w.heap.size w w' := by
  cases hr : St.rB y m d h i s
  · rw [show St.tx y m d h i s = [] by unfold St.tx; rw [hr]; rfl]
    exact rstext_no y m d h i s w hr
  · obtain ⟨r0, h0, h1, i0, i1, s0, s1⟩ := St.rB_true.1 hr
    obtain ⟨y0, y1, d0, d1⟩ := right_true.1 r0
    obtain ⟨m0, m1⟩ := Cal.month_of (right_true.1 r0)
    have lb := Cal.len_bd y m
    have z : ∀ n : Int, 0 ≤ n → n ≤ 100 → ((fun n : Int => (⟨(Tx.dg 2 n).toArray⟩ : ByteArray)) n).size ≤ 30 := fun n a b => by
      show (⟨(Tx.dg 2 n).toArray⟩ : ByteArray).size ≤ 30
      rw [arr_size]; have := Tx.dg_len 2 n (by omega) (by omega); omega
    have R : Hid (∀ w, Calls Tryz.prog 69 #[.agg #[.int .i64 y, .int .i64 m, .int .i64 d, .int .i64 h, .int .i64 i, .int .i64 s]] w fun e w' => e = .returned (.bool true) ∧ Below w.heap.size w w') := fun w => by rw [← hr]; exact rsright_any y m d h i s w
    have CW : Hid (∀ n W, 0 ≤ n → n ≤ 100 → Calls Tryz.prog 70 #[.int .i64 n, .int .i64 2] W fun e w' => e = .returned (.string ((fun n : Int => (⟨(Tx.dg 2 n).toArray⟩ : ByteArray)) n)) ∧ Below W.heap.size W w') := fun n W a b => wide_any n 2 W (by omega) (by omega) (by omega)
    have l45 : (⟨#[45]⟩ : ByteArray) = ⟨([45] : List UInt8).toArray⟩ := rfl
    have l84 : (⟨#[84]⟩ : ByteArray) = ⟨([84] : List UInt8).toArray⟩ := rfl
    have l58 : (⟨#[58]⟩ : ByteArray) = ⟨([58] : List UInt8).toArray⟩ := rfl
    by_cases hy : y < 0
    · have q : (⟨(Tx.dg 4 (-y)).toArray⟩ : ByteArray).size ≤ 30 := by rw [arr_size]; have := Tx.dg_len 4 (-y) (by omega) (by omega); omega
      refine (rstext_neg y m d h i s _ _ w hy y0 y1 q (z m (by omega) (by omega)) (z d (by omega) (by omega)) (z h (by omega) (by omega)) (z i (by omega) (by omega)) (z s (by omega) (by omega)) (by omega) (by omega) (by omega) (by omega) (by omega) (by omega) (by omega) (by omega) (by omega) (by omega) R (fun W => wide_any (-y) 4 W (by omega) (by omega) (by omega)) (fun W => (wide_any y 4 W (by omega) (by omega) (by omega)).mono fun e w' ⟨a, b⟩ => ⟨⟨_, a⟩, b⟩) CW).mono ?_
      rintro e w' ⟨rfl, b⟩
      refine ⟨?_, b⟩
      simp only [l45, l84, l58, arr_app]
      rw [show St.tx y m d h i s = Tx.txt y m d h i s by unfold St.tx; rw [hr]; rfl]
      simp [Tx.txt, Tx.yr, Tx.beh, hy]
    · have q : (⟨(Tx.dg 4 y).toArray⟩ : ByteArray).size ≤ 30 := by rw [arr_size]; have := Tx.dg_len 4 y (by omega) (by omega); omega
      refine (rstext_pos y m d h i s _ _ w hy y0 y1 q (z m (by omega) (by omega)) (z d (by omega) (by omega)) (z h (by omega) (by omega)) (z i (by omega) (by omega)) (z s (by omega) (by omega)) (by omega) (by omega) (by omega) (by omega) (by omega) (by omega) (by omega) (by omega) (by omega) (by omega) R (fun W => wide_any y 4 W (by omega) (by omega) (by omega)) CW).mono ?_
      rintro e w' ⟨rfl, b⟩
      refine ⟨?_, b⟩
      simp only [l45, l84, l58, arr_app]
      rw [show St.tx y m d h i s = Tx.txt y m d h i s by unfold St.tx; rw [hr]; rfl]
      simp [Tx.txt, Tx.yr, Tx.beh, hy]
end Go.Proofs.YtlelpeocbgjmhaaGreatDoor

/- A builder of the call's own (BldP), and one byte more. (Where a seat has no LaidF: lay one that imports Laid.) -/
set_option linter.unusedVariables false
set_option linter.unusedSimpArgs false
namespace Go.Proofs.YtlelpeocbgjmhaaGreatDoor
open Go.RowKit
set_option maxHeartbeats 2000000 in
set_option maxRecDepth 100000 in
theorem bw_byte (b : Nat) (l : List UInt8) (c : UInt8) (w : World) (h : IsB b l w) (hl : l.length ≤ 1000000) :
    Calls Tryz.prog 64 #[.pointer (some ⟨b, 0, none⟩), .int .u8 c.toNat] w fun e w' => e = .returned .nilIface ∧ (IsB b (l ++ [c]) w' ∧ Below b w w') := by
  obtain ⟨i0, hi, hz0, hz1, hz2⟩ := info_parts infoByte
  have hlw := h.lt
  have hlen : (Lib.byteCells l).length = l.length := Lib.byteCells_length l
  have HC := Lib.hid (check_any b l w h)
  obtain ⟨n, hn⟩ : ∃ n : Int, n = c.toNat := ⟨_, rfl⟩
  have HN := Lib.hid hn
  rw [← hn]
  clear hn h
  go_enter Tryz.func64, Tryz.ntmps64
  go_wp2_with fail
  refine HC.out.mono ?_
  rintro e w1 ⟨rfl, h1, hb1⟩
  clear HC
  obtain ⟨hB, v, hbk, hown, hne⟩ := h1
  have hlt : b < w1.heap.size := Nat.lt_of_lt_of_le hlw hb1.size
  have c0 : w1.cell? ⟨b, 0, none⟩ = some (.pointer (some ⟨b, 0, none⟩)) := by rw [Lib.cell_of_heap hbk]; rfl
  have c1 : w1.cell? ⟨b, 1, none⟩ = some v := by rw [Lib.cell_of_heap hbk]; rfl
  go_wp2_with (at_builtin; refine wpList_append_ownF _ rfl _ _ 62 rfl b 5 i0 (.int .u8 0) 1 1 Tryz.underlying62 hi hz0 hz1 hz2 rfl (by decide) _ _ _ rfl (hown.alloc _) ⟨w1.heap.size, 0, none⟩ 1 1 [.int .u8 n] rfl rfl ?c1 ?c2 ?c3 ?c4 ?c5 ?_)
  case c1 =>
    intro j u hj
    match j, hj with
    | 0, hj => simp at hj; subst hj; simp [Addr.add]
  case c2 => intro u hu; simp at hu; subst hu; rfl
  case c3 => unfold maxLen; omega
  case c4 => omega
  case c5 => simp; omega
  intro v' w2 hown' hgrow _
  have hb2 : w2.heap[b]? = some (.cells #[.pointer (some ⟨b, 0, none⟩), v] 64 (0, 0)) := by
    rw [hgrow.block b (by simp; omega) (fun e => hne e.symm), Lib.alloc_old w1 _ b hlt]
    exact hbk
  have d0 : w2.cell? ⟨b, 0, none⟩ = some (.pointer (some ⟨b, 0, none⟩)) := by rw [Lib.cell_of_heap hb2]; rfl
  have d1 : w2.cell? ⟨b, 1, none⟩ = some v := by rw [Lib.cell_of_heap hb2]; rfl
  have f1 : w2.frozen? ⟨b, 1, none⟩ = false := Lib.frozen_of_heap hb2 1
  obtain ⟨g, cap, rfl⟩ : ∃ g cap, v' = .slice (some ⟨g, 0, none⟩) (l.length + 1) cap := by
    rcases hown'.2 with ⟨_, h0⟩ | ⟨g, cap, cur, fz, hv, _⟩
    · omega
    · exact ⟨g, cap, hv⟩
  go_wp2
  go_ret
  refine ⟨rfl, ?_, ?_⟩
  · right
    rw [Lib.byteCells_append, show Lib.byteCells [c] = [.int .u8 n] by rw [HN.out]; rfl]
    exact Lib.BuilderAtF.put hB hb2 (by simpa [hlen] using hown') (by decide)
  · exact ((hb1.alloc (by omega) _).grown hgrow (by simp; omega) (fun k hk => (hown.lt k hk).1)).setCell (p := ⟨b, 1, none⟩) hB _
end Go.Proofs.YtlelpeocbgjmhaaGreatDoor

/- The contract of stamp.writeDigits. -/
set_option linter.unusedVariables false
set_option linter.unusedSimpArgs false
namespace Go.Proofs.YtlelpeocbgjmhaaGreatDoor
open Go.RowKit

set_option maxHeartbeats 4000000 in
set_option maxRecDepth 100000 in
theorem wdig (b : Nat) (l : List UInt8) (n : Int) (k : Nat) (w : World) (h : IsB b l w) (hl : l.length ≤ 1000) (hk : k ≤ 4) (n0 : -9223372036854775808 ≤ n) (n1 : n ≤ 9223372036854775807)
    (htab : Lib.TabIs Tryz.prog w "internal/strconv.uint64pow10" .u64 Lib.pow10Tab) :
    Calls Tryz.prog 65 #[.pointer (some ⟨b, 0, none⟩), .int .i64 n, .int .i64 k] w fun e w' => e = .returned (.tuple #[]) ∧ (IsB b (l ++ Tx.dg k n) w' ∧ Below b w w') := by
  have tl : (Lib.itoa n).length ≤ 21 := Lib.itoa_length_le n n0 n1
  obtain ⟨ds, hds⟩ : ∃ ds : ByteArray, ds = ⟨(Lib.itoa n).toArray⟩ := ⟨_, rfl⟩
  have hsz : ds.size = (Lib.itoa n).length := by rw [hds]; show (Lib.itoa n).toArray.size = _; rw [List.size_toArray]
  have E := Lib.hid (show Tx.dg k n = List.replicate (k - ds.size) 48 ++ ds.data.toList by unfold Tx.dg; rw [hsz, hds])
  have HD := Lib.hid hds
  have HT := Lib.hid htab; clear htab hds
  have I0 := Lib.hid h
  have hlt := h.lt
  have szb : ds.size ≤ 21 := by omega
  clear h hsz tl
  go_enter Tryz.func65, Tryz.ntmps65
  go_wp2_with fail
  refine (text_any n _ n0 n1 HT.out).mono ?_; rintro e w1 ⟨rfl, b1⟩
  rw [← HD.out]
  have I1 := Lib.hid (I0.out.on b1)
  have B1 := Lib.hid (b1.mono (Nat.le_of_lt hlt))
  have hlt1 : b < w1.heap.size := Nat.lt_of_lt_of_le hlt b1.size
  clear I0 b1 HT
  go_wp2_with fail
  go_loopw [13] (fun i wr => ∃ j : Nat, i = .int .i64 j ∧ j ≤ k - ds.size ∧ IsB b (l ++ List.replicate j 48) wr ∧ Below b w wr) (fun i _ => (k - ds.size) - (intOf i).toNat)
  case atStart => exact ⟨0, rfl, Nat.zero_le _, by simpa using I1.out, B1.out⟩
  case round =>
    obtain ⟨j, rfl, hj, hI, hB⟩ := hrel
    have I2 := Lib.hid hI; have B2 := Lib.hid hB
    have hl2 : (l ++ List.replicate j (48 : UInt8)).length ≤ 1000000 := by simp; omega
    have HL2 := Lib.hid hl2
    clear hI hB hl2
    by_cases hlt2 : (j : Int) < (k : Int) - (ds.size : Int)
    · go_wp2_with fail
      refine (bw_byte b _ 48 _ I2.out HL2.out).mono ?_; rintro e w2 ⟨rfl, i3, b3⟩
      have I3 := Lib.hid i3; have B3 := Lib.hid (B2.out.trans b3)
      clear i3 b3 I2 B2
      go_wp2_with fail
      go_roundw
      case rel =>
        refine ⟨j + 1, by go_num, by omega, ?_, B3.out⟩
        have := I3.out
        rwa [List.append_assoc, ← List.replicate_succ'] at this
      case measure => simp [intOf]; omega
    · have ej : j = k - ds.size := by omega
      go_wp2_with fail
      refine (bw_str b _ ds _ I2.out (Nat.le_trans HL2.out (by decide)) (by omega)).mono ?_; rintro e w2 ⟨rfl, i3, b3⟩
      have I3 := Lib.hid i3; have B3 := Lib.hid (B2.out.trans b3)
      clear i3 b3 I2 B2
      go_wp2_with fail
      go_end0
      refine ⟨rfl, ?_, B3.out⟩
      have := I3.out
      rw [E.out]
      rwa [List.append_assoc, ej] at this
end Go.Proofs.YtlelpeocbgjmhaaGreatDoor

/- The contract of stamp.Right. -/
set_option linter.unusedVariables false
set_option linter.unusedSimpArgs false
namespace Go.Proofs.YtlelpeocbgjmhaaGreatDoor
open Go.RowKit

set_option maxHeartbeats 1000000 in
theorem sright_0 (y m d h i s : Int) (w : World) (hr : rightB y m d = false) :
    Calls Tryz.prog 63 #[.agg #[.int .i64 y, .int .i64 m, .int .i64 d, .int .i64 h, .int .i64 i, .int .i64 s]] w fun e w' => e = .returned (.bool false) ∧ Below w.heap.size w w' := by
  have R : Hid (∀ w, Calls Tryz.prog 89 #[.agg #[.int .i64 y, .int .i64 m, .int .i64 d]] w fun e w' => e = .returned (.bool false) ∧ Below w.heap.size w w') := fun w => by rw [← hr]; exact right_any y m d w
  clear hr
  go_enter Tryz.func63, Tryz.ntmps63
  go_wp2_with fail
  refine (R.out _).mono ?_; rintro e w1 ⟨rfl, b1⟩
  have d1 : Below w.heap.size w w1 := below_step (by repeat (first | exact Below.refl _ _ | refine _root_.Go.below_drewN ?_ _ | refine Below.drew ?_ | refine Below.setCell ?_ (by first | (simp; done) | (simp; omega) | omega) _ | refine Below.alloc ?_ (by first | (simp; done) | (simp; omega) | omega) _)) b1
  have B1 := Lib.hid d1
  have S1 : Bk6 w1 (w.heap.size) (.int .i64 y) (.int .i64 m) (.int .i64 d) (.int .i64 h) (.int .i64 i) (.int .i64 s) := Bk6.of b1 (by simp <;> omega) (by intro j; simp [go_sem]) (by simp [go_sem]) (by simp [go_sem]) (by simp [go_sem]) (by simp [go_sem]) (by simp [go_sem]) (by simp [go_sem])
  clear b1 d1
  have cS_b := S1.hb
  have cS_f := S1.fz
  have cS_0 := S1.k0
  have cS_1 := S1.k1
  have cS_2 := S1.k2
  have cS_3 := S1.k3
  have cS_4 := S1.k4
  have cS_5 := S1.k5
  go_wp2_with fail
  clear cS_b cS_f cS_0 cS_1 cS_2 cS_3 cS_4 cS_5
  go_ret
  exact ⟨rfl, (by have hz := B1.out.size; repeat (first | exact B1.out | refine _root_.Go.below_drewN ?_ _ | refine Below.drew ?_ | refine Below.setCell ?_ (by first | omega | (simp; done) | (simp; omega)) _ | refine Below.alloc ?_ (by first | omega | (simp; done) | (simp; omega)) _))⟩
set_option maxHeartbeats 1000000 in
theorem sright_1 (y m d h i s : Int) (w : World) (hr : rightB y m d = true) (c1 : ¬ 0 ≤ h) :
    Calls Tryz.prog 63 #[.agg #[.int .i64 y, .int .i64 m, .int .i64 d, .int .i64 h, .int .i64 i, .int .i64 s]] w fun e w' => e = .returned (.bool false) ∧ Below w.heap.size w w' := by
  have R : Hid (∀ w, Calls Tryz.prog 89 #[.agg #[.int .i64 y, .int .i64 m, .int .i64 d]] w fun e w' => e = .returned (.bool true) ∧ Below w.heap.size w w') := fun w => by rw [← hr]; exact right_any y m d w
  clear hr
  go_enter Tryz.func63, Tryz.ntmps63
  go_wp2_with fail
  refine (R.out _).mono ?_; rintro e w1 ⟨rfl, b1⟩
  have d1 : Below w.heap.size w w1 := below_step (by repeat (first | exact Below.refl _ _ | refine _root_.Go.below_drewN ?_ _ | refine Below.drew ?_ | refine Below.setCell ?_ (by first | (simp; done) | (simp; omega) | omega) _ | refine Below.alloc ?_ (by first | (simp; done) | (simp; omega) | omega) _)) b1
  have B1 := Lib.hid d1
  have S1 : Bk6 w1 (w.heap.size) (.int .i64 y) (.int .i64 m) (.int .i64 d) (.int .i64 h) (.int .i64 i) (.int .i64 s) := Bk6.of b1 (by simp <;> omega) (by intro j; simp [go_sem]) (by simp [go_sem]) (by simp [go_sem]) (by simp [go_sem]) (by simp [go_sem]) (by simp [go_sem]) (by simp [go_sem])
  clear b1 d1
  have cS_b := S1.hb
  have cS_f := S1.fz
  have cS_0 := S1.k0
  have cS_1 := S1.k1
  have cS_2 := S1.k2
  have cS_3 := S1.k3
  have cS_4 := S1.k4
  have cS_5 := S1.k5
  go_wp2_with fail
  clear cS_b cS_f cS_0 cS_1 cS_2 cS_3 cS_4 cS_5
  go_ret
  exact ⟨rfl, (by have hz := B1.out.size; repeat (first | exact B1.out | refine _root_.Go.below_drewN ?_ _ | refine Below.drew ?_ | refine Below.setCell ?_ (by first | omega | (simp; done) | (simp; omega)) _ | refine Below.alloc ?_ (by first | omega | (simp; done) | (simp; omega)) _))⟩
set_option maxHeartbeats 1000000 in
theorem sright_2 (y m d h i s : Int) (w : World) (hr : rightB y m d = true) (c1 : 0 ≤ h) (c2 : ¬ h < 24) :
    Calls Tryz.prog 63 #[.agg #[.int .i64 y, .int .i64 m, .int .i64 d, .int .i64 h, .int .i64 i, .int .i64 s]] w fun e w' => e = .returned (.bool false) ∧ Below w.heap.size w w' := by
  have R : Hid (∀ w, Calls Tryz.prog 89 #[.agg #[.int .i64 y, .int .i64 m, .int .i64 d]] w fun e w' => e = .returned (.bool true) ∧ Below w.heap.size w w') := fun w => by rw [← hr]; exact right_any y m d w
  clear hr
  go_enter Tryz.func63, Tryz.ntmps63
  go_wp2_with fail
  refine (R.out _).mono ?_; rintro e w1 ⟨rfl, b1⟩
  have d1 : Below w.heap.size w w1 := below_step (by repeat (first | exact Below.refl _ _ | refine _root_.Go.below_drewN ?_ _ | refine Below.drew ?_ | refine Below.setCell ?_ (by first | (simp; done) | (simp; omega) | omega) _ | refine Below.alloc ?_ (by first | (simp; done) | (simp; omega) | omega) _)) b1
  have B1 := Lib.hid d1
  have S1 : Bk6 w1 (w.heap.size) (.int .i64 y) (.int .i64 m) (.int .i64 d) (.int .i64 h) (.int .i64 i) (.int .i64 s) := Bk6.of b1 (by simp <;> omega) (by intro j; simp [go_sem]) (by simp [go_sem]) (by simp [go_sem]) (by simp [go_sem]) (by simp [go_sem]) (by simp [go_sem]) (by simp [go_sem])
  clear b1 d1
  have cS_b := S1.hb
  have cS_f := S1.fz
  have cS_0 := S1.k0
  have cS_1 := S1.k1
  have cS_2 := S1.k2
  have cS_3 := S1.k3
  have cS_4 := S1.k4
  have cS_5 := S1.k5
  go_wp2_with fail
  clear cS_b cS_f cS_0 cS_1 cS_2 cS_3 cS_4 cS_5
  go_ret
  exact ⟨rfl, (by have hz := B1.out.size; repeat (first | exact B1.out | refine _root_.Go.below_drewN ?_ _ | refine Below.drew ?_ | refine Below.setCell ?_ (by first | omega | (simp; done) | (simp; omega)) _ | refine Below.alloc ?_ (by first | omega | (simp; done) | (simp; omega)) _))⟩
set_option maxHeartbeats 1000000 in
theorem sright_3 (y m d h i s : Int) (w : World) (hr : rightB y m d = true) (c1 : 0 ≤ h) (c2 : h < 24) (c3 : ¬ 0 ≤ i) :
    Calls Tryz.prog 63 #[.agg #[.int .i64 y, .int .i64 m, .int .i64 d, .int .i64 h, .int .i64 i, .int .i64 s]] w fun e w' => e = .returned (.bool false) ∧ Below w.heap.size w w' := by
  have R : Hid (∀ w, Calls Tryz.prog 89 #[.agg #[.int .i64 y, .int .i64 m, .int .i64 d]] w fun e w' => e = .returned (.bool true) ∧ Below w.heap.size w w') := fun w => by rw [← hr]; exact right_any y m d w
  clear hr
  go_enter Tryz.func63, Tryz.ntmps63
  go_wp2_with fail
  refine (R.out _).mono ?_; rintro e w1 ⟨rfl, b1⟩
  have d1 : Below w.heap.size w w1 := below_step (by repeat (first | exact Below.refl _ _ | refine _root_.Go.below_drewN ?_ _ | refine Below.drew ?_ | refine Below.setCell ?_ (by first | (simp; done) | (simp; omega) | omega) _ | refine Below.alloc ?_ (by first | (simp; done) | (simp; omega) | omega) _)) b1
  have B1 := Lib.hid d1
  have S1 : Bk6 w1 (w.heap.size) (.int .i64 y) (.int .i64 m) (.int .i64 d) (.int .i64 h) (.int .i64 i) (.int .i64 s) := Bk6.of b1 (by simp <;> omega) (by intro j; simp [go_sem]) (by simp [go_sem]) (by simp [go_sem]) (by simp [go_sem]) (by simp [go_sem]) (by simp [go_sem]) (by simp [go_sem])
  clear b1 d1
  have cS_b := S1.hb
  have cS_f := S1.fz
  have cS_0 := S1.k0
  have cS_1 := S1.k1
  have cS_2 := S1.k2
  have cS_3 := S1.k3
  have cS_4 := S1.k4
  have cS_5 := S1.k5
  go_wp2_with fail
  clear cS_b cS_f cS_0 cS_1 cS_2 cS_3 cS_4 cS_5
  go_ret
  exact ⟨rfl, (by have hz := B1.out.size; repeat (first | exact B1.out | refine _root_.Go.below_drewN ?_ _ | refine Below.drew ?_ | refine Below.setCell ?_ (by first | omega | (simp; done) | (simp; omega)) _ | refine Below.alloc ?_ (by first | omega | (simp; done) | (simp; omega)) _))⟩
set_option maxHeartbeats 1000000 in
theorem sright_4 (y m d h i s : Int) (w : World) (hr : rightB y m d = true) (c1 : 0 ≤ h) (c2 : h < 24) (c3 : 0 ≤ i) (c4 : ¬ i < 60) :
    Calls Tryz.prog 63 #[.agg #[.int .i64 y, .int .i64 m, .int .i64 d, .int .i64 h, .int .i64 i, .int .i64 s]] w fun e w' => e = .returned (.bool false) ∧ Below w.heap.size w w' := by
  have R : Hid (∀ w, Calls Tryz.prog 89 #[.agg #[.int .i64 y, .int .i64 m, .int .i64 d]] w fun e w' => e = .returned (.bool true) ∧ Below w.heap.size w w') := fun w => by rw [← hr]; exact right_any y m d w
  clear hr
  go_enter Tryz.func63, Tryz.ntmps63
  go_wp2_with fail
  refine (R.out _).mono ?_; rintro e w1 ⟨rfl, b1⟩
  have d1 : Below w.heap.size w w1 := below_step (by repeat (first | exact Below.refl _ _ | refine _root_.Go.below_drewN ?_ _ | refine Below.drew ?_ | refine Below.setCell ?_ (by first | (simp; done) | (simp; omega) | omega) _ | refine Below.alloc ?_ (by first | (simp; done) | (simp; omega) | omega) _)) b1
  have B1 := Lib.hid d1
  have S1 : Bk6 w1 (w.heap.size) (.int .i64 y) (.int .i64 m) (.int .i64 d) (.int .i64 h) (.int .i64 i) (.int .i64 s) := Bk6.of b1 (by simp <;> omega) (by intro j; simp [go_sem]) (by simp [go_sem]) (by simp [go_sem]) (by simp [go_sem]) (by simp [go_sem]) (by simp [go_sem]) (by simp [go_sem])
  clear b1 d1
  have cS_b := S1.hb
  have cS_f := S1.fz
  have cS_0 := S1.k0
  have cS_1 := S1.k1
  have cS_2 := S1.k2
  have cS_3 := S1.k3
  have cS_4 := S1.k4
  have cS_5 := S1.k5
  go_wp2_with fail
  clear cS_b cS_f cS_0 cS_1 cS_2 cS_3 cS_4 cS_5
  go_ret
  exact ⟨rfl, (by have hz := B1.out.size; repeat (first | exact B1.out | refine _root_.Go.below_drewN ?_ _ | refine Below.drew ?_ | refine Below.setCell ?_ (by first | omega | (simp; done) | (simp; omega)) _ | refine Below.alloc ?_ (by first | omega | (simp; done) | (simp; omega)) _))⟩
set_option maxHeartbeats 1000000 in
theorem sright_5 (y m d h i s : Int) (w : World) (hr : rightB y m d = true) (c1 : 0 ≤ h) (c2 : h < 24) (c3 : 0 ≤ i) (c4 : i < 60) (c5 : ¬ 0 ≤ s) :
    Calls Tryz.prog 63 #[.agg #[.int .i64 y, .int .i64 m, .int .i64 d, .int .i64 h, .int .i64 i, .int .i64 s]] w fun e w' => e = .returned (.bool false) ∧ Below w.heap.size w w' := by
  have R : Hid (∀ w, Calls Tryz.prog 89 #[.agg #[.int .i64 y, .int .i64 m, .int .i64 d]] w fun e w' => e = .returned (.bool true) ∧ Below w.heap.size w w') := fun w => by rw [← hr]; exact right_any y m d w
  clear hr
  go_enter Tryz.func63, Tryz.ntmps63
  go_wp2_with fail
  refine (R.out _).mono ?_; rintro e w1 ⟨rfl, b1⟩
  have d1 : Below w.heap.size w w1 := below_step (by repeat (first | exact Below.refl _ _ | refine _root_.Go.below_drewN ?_ _ | refine Below.drew ?_ | refine Below.setCell ?_ (by first | (simp; done) | (simp; omega) | omega) _ | refine Below.alloc ?_ (by first | (simp; done) | (simp; omega) | omega) _)) b1
  have B1 := Lib.hid d1
  have S1 : Bk6 w1 (w.heap.size) (.int .i64 y) (.int .i64 m) (.int .i64 d) (.int .i64 h) (.int .i64 i) (.int .i64 s) := Bk6.of b1 (by simp <;> omega) (by intro j; simp [go_sem]) (by simp [go_sem]) (by simp [go_sem]) (by simp [go_sem]) (by simp [go_sem]) (by simp [go_sem]) (by simp [go_sem])
  clear b1 d1
  have cS_b := S1.hb
  have cS_f := S1.fz
  have cS_0 := S1.k0
  have cS_1 := S1.k1
  have cS_2 := S1.k2
  have cS_3 := S1.k3
  have cS_4 := S1.k4
  have cS_5 := S1.k5
  go_wp2_with fail
  clear cS_b cS_f cS_0 cS_1 cS_2 cS_3 cS_4 cS_5
  go_ret
  exact ⟨rfl, (by have hz := B1.out.size; repeat (first | exact B1.out | refine _root_.Go.below_drewN ?_ _ | refine Below.drew ?_ | refine Below.setCell ?_ (by first | omega | (simp; done) | (simp; omega)) _ | refine Below.alloc ?_ (by first | omega | (simp; done) | (simp; omega)) _))⟩
set_option maxHeartbeats 1000000 in
theorem sright_6 (y m d h i s : Int) (w : World) (hr : rightB y m d = true) (c1 : 0 ≤ h) (c2 : h < 24) (c3 : 0 ≤ i) (c4 : i < 60) (c5 : 0 ≤ s) (c6 : ¬ s < 60) :
    Calls Tryz.prog 63 #[.agg #[.int .i64 y, .int .i64 m, .int .i64 d, .int .i64 h, .int .i64 i, .int .i64 s]] w fun e w' => e = .returned (.bool false) ∧ Below w.heap.size w w' := by
  have R : Hid (∀ w, Calls Tryz.prog 89 #[.agg #[.int .i64 y, .int .i64 m, .int .i64 d]] w fun e w' => e = .returned (.bool true) ∧ Below w.heap.size w w') := fun w => by rw [← hr]; exact right_any y m d w
  have g : decide (s < 60) = false := decide_eq_false c6
  clear c6
  clear hr
  go_enter Tryz.func63, Tryz.ntmps63
  go_wp2_with fail
  refine (R.out _).mono ?_; rintro e w1 ⟨rfl, b1⟩
  have d1 : Below w.heap.size w w1 := below_step (by repeat (first | exact Below.refl _ _ | refine _root_.Go.below_drewN ?_ _ | refine Below.drew ?_ | refine Below.setCell ?_ (by first | (simp; done) | (simp; omega) | omega) _ | refine Below.alloc ?_ (by first | (simp; done) | (simp; omega) | omega) _)) b1
  have B1 := Lib.hid d1
  have S1 : Bk6 w1 (w.heap.size) (.int .i64 y) (.int .i64 m) (.int .i64 d) (.int .i64 h) (.int .i64 i) (.int .i64 s) := Bk6.of b1 (by simp <;> omega) (by intro j; simp [go_sem]) (by simp [go_sem]) (by simp [go_sem]) (by simp [go_sem]) (by simp [go_sem]) (by simp [go_sem]) (by simp [go_sem])
  clear b1 d1
  have cS_b := S1.hb
  have cS_f := S1.fz
  have cS_0 := S1.k0
  have cS_1 := S1.k1
  have cS_2 := S1.k2
  have cS_3 := S1.k3
  have cS_4 := S1.k4
  have cS_5 := S1.k5
  go_wp2_with fail
  clear cS_b cS_f cS_0 cS_1 cS_2 cS_3 cS_4 cS_5
  go_ret
  exact ⟨rfl, (by have hz := B1.out.size; repeat (first | exact B1.out | refine _root_.Go.below_drewN ?_ _ | refine Below.drew ?_ | refine Below.setCell ?_ (by first | omega | (simp; done) | (simp; omega)) _ | refine Below.alloc ?_ (by first | omega | (simp; done) | (simp; omega)) _))⟩
set_option maxHeartbeats 1000000 in
theorem sright_7 (y m d h i s : Int) (w : World) (hr : rightB y m d = true) (c1 : 0 ≤ h) (c2 : h < 24) (c3 : 0 ≤ i) (c4 : i < 60) (c5 : 0 ≤ s) (c6 : s < 60) :
    Calls Tryz.prog 63 #[.agg #[.int .i64 y, .int .i64 m, .int .i64 d, .int .i64 h, .int .i64 i, .int .i64 s]] w fun e w' => e = .returned (.bool true) ∧ Below w.heap.size w w' := by
  have R : Hid (∀ w, Calls Tryz.prog 89 #[.agg #[.int .i64 y, .int .i64 m, .int .i64 d]] w fun e w' => e = .returned (.bool true) ∧ Below w.heap.size w w') := fun w => by rw [← hr]; exact right_any y m d w
  clear hr
  go_enter Tryz.func63, Tryz.ntmps63
  go_wp2_with fail
  refine (R.out _).mono ?_; rintro e w1 ⟨rfl, b1⟩
  have d1 : Below w.heap.size w w1 := below_step (by repeat (first | exact Below.refl _ _ | refine _root_.Go.below_drewN ?_ _ | refine Below.drew ?_ | refine Below.setCell ?_ (by first | (simp; done) | (simp; omega) | omega) _ | refine Below.alloc ?_ (by first | (simp; done) | (simp; omega) | omega) _)) b1
  have B1 := Lib.hid d1
  have S1 : Bk6 w1 (w.heap.size) (.int .i64 y) (.int .i64 m) (.int .i64 d) (.int .i64 h) (.int .i64 i) (.int .i64 s) := Bk6.of b1 (by simp <;> omega) (by intro j; simp [go_sem]) (by simp [go_sem]) (by simp [go_sem]) (by simp [go_sem]) (by simp [go_sem]) (by simp [go_sem]) (by simp [go_sem])
  clear b1 d1
  have cS_b := S1.hb
  have cS_f := S1.fz
  have cS_0 := S1.k0
  have cS_1 := S1.k1
  have cS_2 := S1.k2
  have cS_3 := S1.k3
  have cS_4 := S1.k4
  have cS_5 := S1.k5
  go_wp2_with fail
  clear cS_b cS_f cS_0 cS_1 cS_2 cS_3 cS_4 cS_5
  go_ret
  exact ⟨rfl, (by have hz := B1.out.size; repeat (first | exact B1.out | refine _root_.Go.below_drewN ?_ _ | refine Below.drew ?_ | refine Below.setCell ?_ (by first | omega | (simp; done) | (simp; omega)) _ | refine Below.alloc ?_ (by first | omega | (simp; done) | (simp; omega)) _))⟩
theorem sright_any (y m d h i s : Int) (w : World) :
    Calls Tryz.prog 63 #[.agg #[.int .i64 y, .int .i64 m, .int .i64 d, .int .i64 h, .int .i64 i, .int .i64 s]] w fun e w' => e = .returned (.bool (St.rB y m d h i s)) ∧ Below w.heap.size w w' := by
  cases hr : rightB y m d
  · rw [show St.rB y m d h i s = false by unfold St.rB; rw [hr]; rfl]; exact sright_0 y m d h i s w hr
  · by_cases c1 : 0 ≤ h
    · by_cases c2 : h < 24
      · by_cases c3 : 0 ≤ i
        · by_cases c4 : i < 60
          · by_cases c5 : 0 ≤ s
            · by_cases c6 : s < 60
              · rw [show St.rB y m d h i s = true by unfold St.rB; rw [hr]; simp [c1, c2, c3, c4, c5, c6]]; exact sright_7 y m d h i s w hr c1 c2 c3 c4 c5 c6
              · rw [show St.rB y m d h i s = false by unfold St.rB; rw [hr]; simp [c1, c2, c3, c4, c5, c6]]; exact sright_6 y m d h i s w hr c1 c2 c3 c4 c5 c6
            · rw [show St.rB y m d h i s = false by unfold St.rB; rw [hr]; simp [c1, c2, c3, c4, c5]]; exact sright_5 y m d h i s w hr c1 c2 c3 c4 c5
          · rw [show St.rB y m d h i s = false by unfold St.rB; rw [hr]; simp [c1, c2, c3, c4]]; exact sright_4 y m d h i s w hr c1 c2 c3 c4
        · rw [show St.rB y m d h i s = false by unfold St.rB; rw [hr]; simp [c1, c2, c3]]; exact sright_3 y m d h i s w hr c1 c2 c3
      · rw [show St.rB y m d h i s = false by unfold St.rB; rw [hr]; simp [c1, c2]]; exact sright_2 y m d h i s w hr c1 c2
    · rw [show St.rB y m d h i s = false by unfold St.rB; rw [hr]; simp [c1]]; exact sright_1 y m d h i s w hr c1
end Go.Proofs.YtlelpeocbgjmhaaGreatDoor
