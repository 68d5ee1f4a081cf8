/- Joined: RsC, BldP, Bld, StW. -/
import Derived.Test.YtifgiclnofdnkaaGreatDoorBy13
import Derived.Shelf.Strings.BuilderK
import Derived.Shelf.Strings.Prefix
import Derived.Lib.RuneBytes
import Derived.Lib.AppendIntMem
import Derived.Test.YtifgiclnofdnkaaGreatDoorLaidF
import Derived.Test.YtifgiclnofdnkaaGreatDoorBy07
import Derived.WalkKit
import Derived.Laws.Externs
import Derived.OwnWalk
import Derived.Test.YtifgiclnofdnkaaGreatDoorBy02
import Derived.Test.YtifgiclnofdnkaaGreatDoorBy08
set_option linter.unusedVariables false
set_option linter.unusedSimpArgs false
namespace Go.Proofs.YtifgiclnofdnkaaGreatDoor
open Go.RowKit
theorem arr_app (a b : List UInt8) : (⟨a.toArray⟩ ++ ⟨b.toArray⟩ : ByteArray) = ⟨(a ++ b).toArray⟩ := by
 apply ByteArray.ext
 rw [ByteArray.data_append]
 apply Array.toList_inj.1
 simp
theorem arr_size (l : List UInt8) : (⟨l.toArray⟩ : ByteArray).size = l.length := by show l.toArray.size = _; rw [List.size_toArray]
theorem rstext_any (y m d h i s : Int) (w : World) :
  Calls Tryz.prog 29 #[.agg #[.int .i64 y, .int .i64 m, .int .i64 d, .int .i64 h, .int .i64 i, .int .i64 s]] w fun e w' => e = .returned (.string ⟨(St.tx y m d h i s).toArray⟩) ∧ Below w.heap.size w w' := by
 cases hr : St.rB y m d h i s
 ·
  rw [show St.tx y m d h i s = [] by unfold St.tx; rw [hr]; rfl]
  exact rstext_no y m d h i s w hr
 ·
  obtain ⟨r0, h0, h1, i0, i1, s0, s1⟩ := St.rB_true.1 hr
  obtain ⟨y0, y1, d0, d1⟩ := right_true.1 r0
  obtain ⟨m0, m1⟩ := Cal.month_of (right_true.1 r0)
  have lb := Cal.len_bd y m
  have z : ∀ n : Int, 0 ≤ n → n ≤ 100 → ((fun n : Int => (⟨(Tx.dg 2 n).toArray⟩ : ByteArray)) n).size ≤ 30 := fun n a b => by
   show (⟨(Tx.dg 2 n).toArray⟩ : ByteArray).size ≤ 30
   rw [arr_size]; have := Tx.dg_len 2 n (by omega) (by omega); omega
  have R : Hid (∀ w, Calls Tryz.prog 55 #[.agg #[.int .i64 y, .int .i64 m, .int .i64 d, .int .i64 h, .int .i64 i, .int .i64 s]] w fun e w' => e = .returned (.bool true) ∧ Below w.heap.size w w') := fun w => by rw [← hr]; exact rsright_any y m d h i s w
  have CW : Hid (∀ n W, 0 ≤ n → n ≤ 100 → Calls Tryz.prog 56 #[.int .i64 n, .int .i64 2] W fun e w' => e = .returned (.string ((fun n : Int => (⟨(Tx.dg 2 n).toArray⟩ : ByteArray)) n)) ∧ Below W.heap.size W w') := fun n W a b => wide_any n 2 W (by omega) (by omega) (by omega)
  have l45 : (⟨#[45]⟩ : ByteArray) = ⟨([45] : List UInt8).toArray⟩ := rfl
  have l84 : (⟨#[84]⟩ : ByteArray) = ⟨([84] : List UInt8).toArray⟩ := rfl
  have l58 : (⟨#[58]⟩ : ByteArray) = ⟨([58] : List UInt8).toArray⟩ := rfl
  by_cases hy : y < 0
  ·
   have q : (⟨(Tx.dg 4 (-y)).toArray⟩ : ByteArray).size ≤ 30 := by rw [arr_size]; have := Tx.dg_len 4 (-y) (by omega) (by omega); omega
   refine (rstext_neg y m d h i s _ _ w hy y0 y1 q (z m (by omega) (by omega)) (z d (by omega) (by omega)) (z h (by omega) (by omega)) (z i (by omega) (by omega)) (z s (by omega) (by omega)) (by omega) (by omega) (by omega) (by omega) (by omega) (by omega) (by omega) (by omega) (by omega) (by omega) R (fun W => wide_any (-y) 4 W (by omega) (by omega) (by omega)) (fun W => (wide_any y 4 W (by omega) (by omega) (by omega)).mono fun e w' ⟨a, b⟩ => ⟨⟨_, a⟩, b⟩) CW).mono ?_
   rintro e w' ⟨rfl, b⟩
   refine ⟨?_, b⟩
   simp only [l45, l84, l58, arr_app]
   rw [show St.tx y m d h i s = Tx.txt y m d h i s by unfold St.tx; rw [hr]; rfl]
   simp [Tx.txt, Tx.yr, Tx.beh, hy]
  ·
   have q : (⟨(Tx.dg 4 y).toArray⟩ : ByteArray).size ≤ 30 := by rw [arr_size]; have := Tx.dg_len 4 y (by omega) (by omega); omega
   refine (rstext_pos y m d h i s _ _ w hy y0 y1 q (z m (by omega) (by omega)) (z d (by omega) (by omega)) (z h (by omega) (by omega)) (z i (by omega) (by omega)) (z s (by omega) (by omega)) (by omega) (by omega) (by omega) (by omega) (by omega) (by omega) (by omega) (by omega) (by omega) (by omega) R (fun W => wide_any y 4 W (by omega) (by omega) (by omega)) CW).mono ?_
   rintro e w' ⟨rfl, b⟩
   refine ⟨?_, b⟩
   simp only [l45, l84, l58, arr_app]
   rw [show St.tx y m d h i s = Tx.txt y m d h i s by unfold St.tx; rw [hr]; rfl]
   simp [Tx.txt, Tx.yr, Tx.beh, hy]
theorem extra169 : Builder.Extra Tryz.prog Tryz.lays169_ren := { sizeBuilder := by kernel_rfl, liesBuilder := by kernel_rfl, t5 := Tryz.underlying5, a5 := Tryz.isAgg5, z5 := Tryz.sizeOf5, v5 := Tryz.zeroValue5, infoByte := by kernel_rfl, cellsByte := by kernel_rfl, sizeByte := by kernel_rfl, neB5 := by decide }
def IsB (b : Nat) (l : List UInt8) (w : World) : Prop := Lib.IsBuilderF 76 5 b b (Lib.byteCells l) w
theorem BAt.on {T e : TypeId} {B b : Nat} {p : Value} {bs : List Value} {W W' : World} (h : Lib.BuilderAtF T e B b p bs W) (k : Below W.heap.size W W') : Lib.BuilderAtF T e B b p bs W' := by
 have hlt := h.lt
 obtain ⟨hB, v, hb, hown, hne⟩ := h
 refine ⟨hB, v, (k.block b hlt).trans hb, ⟨hown.1, ?_⟩, hne⟩
 rcases hown.2 with h2 | ⟨g, cap, cur, fz, hv, hbg, hg, rest⟩
 ·
  exact .inl h2
 ·
  have hglt : g < W.heap.size := (Array.getElem?_eq_some_iff.1 hg).1
  exact .inr ⟨g, cap, cur, fz, hv, hbg, (k.block g hglt).trans hg, rest⟩
theorem IsB.on {b : Nat} {l : List UInt8} {W W' : World} (h : IsB b l W) (k : Below W.heap.size W W') : IsB b l W' :=
 h.elim (fun x => .inl (BAt.on x k)) (fun x => .inr (BAt.on x k))
theorem IsB.lt {b : Nat} {l : List UInt8} {W : World} (h : IsB b l W) : b < W.heap.size := h.elim (·.lt) (·.lt)
theorem IsB.fresh (w : World) : IsB w.heap.size [] (w.alloc (.cells #[.pointer none, .slice none 0 0] 76)) := Lib.IsBuilderF.of (Lib.fresh_isBuilder _ _ w)
theorem sizeBuilder : (Tryz.prog.info? 76).map (·.size) = some 2 := by kernel_rfl
theorem liesBuilder : liesAt Tryz.prog Tryz.prog.depth 76 (2 / Tryz.prog.cellsOf 76) 0 76 1 = true := by kernel_rfl
theorem infoByte : (Tryz.prog.info? 5).map (fun i => (i.zero, i.size, i.bytes)) = some (some (.int .u8 0), 1, 1) := by kernel_rfl
set_option maxHeartbeats 1000000 in
set_option maxRecDepth 100000 in
theorem check_used (b : Nat) (w : World) (h0 : w.cell? ⟨b, 0, none⟩ = some (.pointer (some ⟨b, 0, none⟩))) :
  Calls Tryz.prog 78 #[.pointer (some ⟨b, 0, none⟩)] w fun e w' => e = .returned (.tuple #[]) ∧ w' = w := by
 obtain ⟨j, hj, _⟩ := Option.map_eq_some_iff.1 sizeBuilder
 go_enter Tryz.func78, Tryz.ntmps78
 go_wp2
 rw [Lib.run_neq_ptr_same w _ Tryz.underlying73 hj]
 go_wp2
 go_end0
 exact ⟨rfl, rfl⟩
set_option maxHeartbeats 1000000 in
set_option maxRecDepth 100000 in
theorem check_fresh (b : Nat) (w : World) (h0 : w.cell? ⟨b, 0, none⟩ = some (.pointer none)) (hsh : w.shape? b = some (76, 2)) (hfz : w.frozen? ⟨b, 0, none⟩ = false) :
  Calls Tryz.prog 78 #[.pointer (some ⟨b, 0, none⟩)] w fun e w' => e = .returned (.tuple #[]) ∧ w' = w.setCell ⟨b, 0, none⟩ (.pointer (some ⟨b, 0, none⟩)) := by
 obtain ⟨j, hj, hjs⟩ := Option.map_eq_some_iff.1 sizeBuilder
 go_enter Tryz.func78, Tryz.ntmps78
 go_wp2
 rw [Lib.run_to_unsafe w ⟨b, 0, none⟩ Tryz.underlying73 Tryz.underlying135 hj (by rw [hjs]; decide) hsh (Nat.zero_lt_succ 1)]
 simp only [Result.andThen]
 rw [Oper.upon_value]
 go_wp2
 rw [run_callFunc_extern Tryz.func104 (by kernel_rfl) (by kernel_rfl) (by kernel_rfl) (e := Extern.AbiNoEscape.same) (by kernel_rfl)]
 rw [Lib.run_noEscape]
 simp only [Result.andThen]
 rw [Oper.upon_value]
 go_wp2
 rw [Lib.run_from_unsafe w ⟨b, 0, none⟩ Tryz.underlying135 Tryz.underlying73 hj hsh liesBuilder]
 simp only [Result.andThen]
 rw [Oper.upon_value]
 go_wp2
 go_end0
 exact ⟨rfl, rfl⟩
theorem check_any (b : Nat) (l : List UInt8) (w : World) (h : IsB b l w) :
  Calls Tryz.prog 78 #[.pointer (some ⟨b, 0, none⟩)] w fun e w' => e = .returned (.tuple #[]) ∧ Lib.BuilderAtF 76 5 b b (.pointer (some ⟨b, 0, none⟩)) (Lib.byteCells l) w' ∧ Below b w w' := by
 rcases h with h | h
 ·
  refine (check_fresh b w h.cell0 h.shape h.frozen0).mono ?_
  rintro e w' ⟨rfl, rfl⟩
  exact ⟨rfl, h.used _, (Below.refl b w).setCell (p := ⟨b, 0, none⟩) (Nat.le_refl _) _⟩
 ·
  refine (check_used b w h.cell0).mono ?_
  rintro e w' ⟨rfl, rfl⟩
  exact ⟨rfl, h, Below.refl b _⟩
set_option maxHeartbeats 2000000 in
set_option maxRecDepth 100000 in
theorem bw_str (b : Nat) (l : List UInt8) (s : ByteArray) (w : World) (h : IsB b l w) (hl : l.length ≤ 1000000000) (hs : s.size ≤ 1000000000) :
  Calls Tryz.prog 46 #[.pointer (some ⟨b, 0, none⟩), .string s] w fun e w' => e = .returned (.tuple #[.int .i64 s.size, .nilIface]) ∧ (IsB b (l ++ s.data.toList) w' ∧ Below b w w') := by
 obtain ⟨i0, hi, hz0, hz1, hz2⟩ := info_parts infoByte
 have hlw := h.lt
 have hlen : (Lib.byteCells l).length = l.length := Lib.byteCells_length l
 have HC := Lib.hid (check_any b l w h)
 clear h
 go_enter Tryz.func46, Tryz.ntmps46
 go_wp2_with fail
 refine HC.out.mono ?_
 rintro e w1 ⟨rfl, h1, hb1⟩
 clear HC
 obtain ⟨hB, v, hbk, hown, hne⟩ := h1
 have hlt : b < w1.heap.size := Nat.lt_of_lt_of_le hlw hb1.size
 have c0 : w1.cell? ⟨b, 0, none⟩ = some (.pointer (some ⟨b, 0, none⟩)) := by rw [Lib.cell_of_heap hbk]; rfl
 have c1 : w1.cell? ⟨b, 1, none⟩ = some v := by rw [Lib.cell_of_heap hbk]; rfl
 go_wp2_with (at_builtin; refine Lib.wpList_append_own_stringF _ rfl _ _ 74 9 rfl b 5 i0 Tryz.underlying74 Tryz.underlying9 hi hz0 hz1 hz2 _ _ _ rfl hown s rfl ?c3 ?c4 ?c5 ?_)
 case c3 => unfold maxLen; omega
 case c4 => omega
 case c5 => omega
 intro v' w2 hown' hgrow _
 have hb2 : w2.heap[b]? = some (.cells #[.pointer (some ⟨b, 0, none⟩), v] 76 (0, 0)) := by
  rw [hgrow.block b hlt (fun e => hne e.symm)]
  exact hbk
 have d0 : w2.cell? ⟨b, 0, none⟩ = some (.pointer (some ⟨b, 0, none⟩)) := by rw [Lib.cell_of_heap hb2]; rfl
 have d1 : w2.cell? ⟨b, 1, none⟩ = some v := by rw [Lib.cell_of_heap hb2]; rfl
 have f1 : w2.frozen? ⟨b, 1, none⟩ = false := Lib.frozen_of_heap hb2 1
 obtain ⟨ao, n', cap, rfl⟩ : ∃ ao n' cap, v' = .slice ao n' cap := by
  rcases hown'.2 with ⟨hv, _⟩ | ⟨g, cap, cur, fz, hv, _⟩
  ·
   exact ⟨_, _, _, hv⟩
  ·
   exact ⟨_, _, _, hv⟩
 go_wp2
 go_ret2
 refine ⟨rfl, ?_, ?_⟩
 ·
  right
  rw [Lib.byteCells_append]
  exact Lib.BuilderAtF.put hB hb2 (bs' := Lib.byteCells l ++ Lib.strCells s) (by simpa [Lib.strCells_length, hlen] using hown') (by decide)
 ·
  exact (hb1.grown hgrow (by omega) (fun k hk => (hown.lt k hk).1)).setCell (p := ⟨b, 1, none⟩) hB _
theorem b_string (b : Nat) (l : List UInt8) (w : World) (h : IsB b l w) :
  Calls Tryz.prog 47 #[.pointer (some ⟨b, 0, none⟩)] w fun e w' => e = .returned (.string ⟨l.toArray⟩) ∧ (IsB b l w' ∧ Below b w w') :=
 (Any.Builder_String_any_k Tryz.lays169 extra169 b b l w h (Nat.le_of_lt h.lt)).mono fun _ _ ⟨e, h1, b1, _⟩ => ⟨e, h1, b1⟩
set_option maxHeartbeats 2000000 in
set_option maxRecDepth 100000 in
theorem bw_byte (b : Nat) (l : List UInt8) (c : UInt8) (w : World) (h : IsB b l w) (hl : l.length ≤ 1000000) :
  Calls Tryz.prog 49 #[.pointer (some ⟨b, 0, none⟩), .int .u8 c.toNat] w fun e w' => e = .returned .nilIface ∧ (IsB b (l ++ [c]) w' ∧ Below b w w') := by
 obtain ⟨i0, hi, hz0, hz1, hz2⟩ := info_parts infoByte
 have hlw := h.lt
 have hlen : (Lib.byteCells l).length = l.length := Lib.byteCells_length l
 have HC := Lib.hid (check_any b l w h)
 obtain ⟨n, hn⟩ : ∃ n : Int, n = c.toNat := ⟨_, rfl⟩
 have HN := Lib.hid hn
 rw [← hn]
 clear hn h
 go_enter Tryz.func49, Tryz.ntmps49
 go_wp2_with fail
 refine HC.out.mono ?_
 rintro e w1 ⟨rfl, h1, hb1⟩
 clear HC
 obtain ⟨hB, v, hbk, hown, hne⟩ := h1
 have hlt : b < w1.heap.size := Nat.lt_of_lt_of_le hlw hb1.size
 have c0 : w1.cell? ⟨b, 0, none⟩ = some (.pointer (some ⟨b, 0, none⟩)) := by rw [Lib.cell_of_heap hbk]; rfl
 have c1 : w1.cell? ⟨b, 1, none⟩ = some v := by rw [Lib.cell_of_heap hbk]; rfl
 go_wp2_with (at_builtin; refine wpList_append_ownF _ rfl _ _ 74 rfl b 5 i0 (.int .u8 0) 1 1 Tryz.underlying74 hi hz0 hz1 hz2 rfl (by decide) _ _ _ rfl (hown.alloc _) ⟨w1.heap.size, 0, none⟩ 1 1 [.int .u8 n] rfl rfl ?c1 ?c2 ?c3 ?c4 ?c5 ?_)
 case c1 =>
  intro j u hj
  match j, hj with
  | 0, hj => simp at hj; subst hj; simp [Addr.add]
 case c2 => intro u hu; simp at hu; subst hu; rfl
 case c3 => unfold maxLen; omega
 case c4 => omega
 case c5 => simp; omega
 intro v' w2 hown' hgrow _
 have hb2 : w2.heap[b]? = some (.cells #[.pointer (some ⟨b, 0, none⟩), v] 76 (0, 0)) := by
  rw [hgrow.block b (by simp; omega) (fun e => hne e.symm), Lib.alloc_old w1 _ b hlt]
  exact hbk
 have d0 : w2.cell? ⟨b, 0, none⟩ = some (.pointer (some ⟨b, 0, none⟩)) := by rw [Lib.cell_of_heap hb2]; rfl
 have d1 : w2.cell? ⟨b, 1, none⟩ = some v := by rw [Lib.cell_of_heap hb2]; rfl
 have f1 : w2.frozen? ⟨b, 1, none⟩ = false := Lib.frozen_of_heap hb2 1
 obtain ⟨g, cap, rfl⟩ : ∃ g cap, v' = .slice (some ⟨g, 0, none⟩) (l.length + 1) cap := by
  rcases hown'.2 with ⟨_, h0⟩ | ⟨g, cap, cur, fz, hv, _⟩
  ·
   omega
  ·
   exact ⟨g, cap, hv⟩
 go_wp2
 go_ret
 refine ⟨rfl, ?_, ?_⟩
 ·
  right
  rw [Lib.byteCells_append, show Lib.byteCells [c] = [.int .u8 n] by rw [HN.out]; rfl]
  exact Lib.BuilderAtF.put hB hb2 (by simpa [hlen] using hown') (by decide)
 ·
  exact ((hb1.alloc (by omega) _).grown hgrow (by simp; omega) (fun k hk => (hown.lt k hk).1)).setCell (p := ⟨b, 1, none⟩) hB _
set_option maxHeartbeats 4000000 in
set_option maxRecDepth 100000 in
theorem wdig (b : Nat) (l : List UInt8) (n : Int) (k : Nat) (w : World) (h : IsB b l w) (hl : l.length ≤ 1000) (hk : k ≤ 4) (n0 : -9223372036854775808 ≤ n) (n1 : n ≤ 9223372036854775807)
  (htab : Lib.TabIs Tryz.prog w "internal/strconv.uint64pow10" .u64 Lib.pow10Tab) :
  Calls Tryz.prog 50 #[.pointer (some ⟨b, 0, none⟩), .int .i64 n, .int .i64 k] w fun e w' => e = .returned (.tuple #[]) ∧ (IsB b (l ++ Tx.dg k n) w' ∧ Below b w w') := by
 have tl : (Lib.itoa n).length ≤ 21 := Lib.itoa_length_le n n0 n1
 obtain ⟨ds, hds⟩ : ∃ ds : ByteArray, ds = ⟨(Lib.itoa n).toArray⟩ := ⟨_, rfl⟩
 have hsz : ds.size = (Lib.itoa n).length := by rw [hds]; show (Lib.itoa n).toArray.size = _; rw [List.size_toArray]
 have E := Lib.hid (show Tx.dg k n = List.replicate (k - ds.size) 48 ++ ds.data.toList by unfold Tx.dg; rw [hsz, hds])
 have HD := Lib.hid hds
 have HT := Lib.hid htab; clear htab hds
 have I0 := Lib.hid h
 have hlt := h.lt
 have szb : ds.size ≤ 21 := by omega
 clear h hsz tl
 go_enter Tryz.func50, Tryz.ntmps50
 go_wp2_with fail
 refine (text_any n _ n0 n1 HT.out).mono ?_; rintro e w1 ⟨rfl, b1⟩
 rw [← HD.out]
 have I1 := Lib.hid (I0.out.on b1)
 have B1 := Lib.hid (b1.mono (Nat.le_of_lt hlt))
 have hlt1 : b < w1.heap.size := Nat.lt_of_lt_of_le hlt b1.size
 clear I0 b1 HT
 go_wp2_with fail
 go_loopw [13] (fun i wr => ∃ j : Nat, i = .int .i64 j ∧ j ≤ k - ds.size ∧ IsB b (l ++ List.replicate j 48) wr ∧ Below b w wr) (fun i _ => (k - ds.size) - (intOf i).toNat)
 case atStart => exact ⟨0, rfl, Nat.zero_le _, by simpa using I1.out, B1.out⟩
 case round =>
  obtain ⟨j, rfl, hj, hI, hB⟩ := hrel
  have I2 := Lib.hid hI; have B2 := Lib.hid hB
  have hl2 : (l ++ List.replicate j (48 : UInt8)).length ≤ 1000000 := by simp; omega
  have HL2 := Lib.hid hl2
  clear hI hB hl2
  by_cases hlt2 : (j : Int) < (k : Int) - (ds.size : Int)
  ·
   go_wp2_with fail
   refine (bw_byte b _ 48 _ I2.out HL2.out).mono ?_; rintro e w2 ⟨rfl, i3, b3⟩
   have I3 := Lib.hid i3; have B3 := Lib.hid (B2.out.trans b3)
   clear i3 b3 I2 B2
   go_wp2_with fail
   go_roundw
   case rel =>
    refine ⟨j + 1, by go_num, by omega, ?_, B3.out⟩
    have := I3.out
    rwa [List.append_assoc, ← List.replicate_succ'] at this
   case measure => simp [intOf]; omega
  ·
   have ej : j = k - ds.size := by omega
   go_wp2_with fail
   refine (bw_str b _ ds _ I2.out (Nat.le_trans HL2.out (by decide)) (by omega)).mono ?_; rintro e w2 ⟨rfl, i3, b3⟩
   have I3 := Lib.hid i3; have B3 := Lib.hid (B2.out.trans b3)
   clear i3 b3 I2 B2
   go_wp2_with fail
   go_end0
   refine ⟨rfl, ?_, B3.out⟩
   have := I3.out
   rw [E.out]
   rwa [List.append_assoc, ej] at this
end Go.Proofs.YtifgiclnofdnkaaGreatDoor
