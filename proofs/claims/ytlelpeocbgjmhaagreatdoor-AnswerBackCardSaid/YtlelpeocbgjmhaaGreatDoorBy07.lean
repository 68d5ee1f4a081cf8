/- Joined: StL, FdS, FdE0, BldP. -/
import Derived.Test.YtlelpeocbgjmhaaGreatDoorBy06
import Derived.Test.YtlelpeocbgjmhaaGreatDoorBy05
import Derived.Test.YtlelpeocbgjmhaaGreatDoorBy01
import Derived.Shelf.Strings.BuilderK
import Derived.Shelf.Strings.Prefix
import Derived.Lib.RuneBytes
import Derived.Lib.AppendIntMem
import Derived.Test.YtlelpeocbgjmhaaGreatDoorLaidF
import Derived.WalkKit
import Derived.Laws.Externs
import Derived.OwnWalk
set_option linter.unusedVariables false
set_option linter.unusedSimpArgs false
namespace Go.Proofs.YtlelpeocbgjmhaaGreatDoor
open Go.RowKit Go.Sort
def StS (w : World) (v : Value) (l : List ByteArray) : Prop := Lst w w.heap.size v l.length (l.map Value.string)
theorem StS.on {w w' : World} {v : Value} {l : List ByteArray} (h : StS w v l) (k : Below w.heap.size w w') : StS w' v l := Lst.on h k
theorem StS.get {w : World} {A : Option Addr} {n c : Nat} {l : List ByteArray} (h : StS w (.slice A n c) l) (k : Nat) (hk : k < l.length) : ∃ a, A = some a ∧ w.cell? (a.add k) = some (.string l[k]) := by
 obtain ⟨A', c', hv, ha⟩ := h
 cases hv
 obtain ⟨a, e, hb, hc⟩ := ha (by omega)
 refine ⟨a, e, hc k _ ?_⟩
 rw [List.getElem?_map, List.getElem?_eq_getElem hk]; rfl
theorem StS.len {w : World} {A : Option Addr} {n c : Nat} {l : List ByteArray} (h : StS w (.slice A n c) l) : n = l.length := by
 obtain ⟨A', c', hv, _⟩ := h
 cases hv; rfl
def AnsF (P : List (List UInt8) × Int) (w : World) (e : Ending) (w' : World) : Prop := ∃ (v : Value) (l : List ByteArray), StS w' v l ∧ l.map (·.data.toList) = P.1 ∧ e = .returned (.tuple #[v, .int .i64 P.2]) ∧ Below w.heap.size w w'
theorem fd_ext (s : ByteArray) (a b : Nat) : (s.extract a b).data.toList = (s.data.toList.take b).drop a := by
 rw [ByteArray.data_extract, Array.toList_extract, List.drop_take]
theorem fd_parts {i0 : Option TypeInfo} {z : Value} {n b : Nat} (h : i0.map (fun i => (i.zero, i.size, i.bytes)) = some (some z, n, b)) : ∃ i, i0 = some i ∧ i.zero = some z ∧ i.size = n ∧ i.bytes = b := by
 cases i0 with
 | none => cases h
 | some i => simp at h; exact ⟨i, rfl, h.1, h.2.1, h.2.2⟩
theorem fd_info : (Tryz.prog.info? 9).map (fun i => (i.zero, i.size, i.bytes)) = some (some (.string ⟨#[]⟩), 1, 16) := by kernel_rfl
theorem StS.nil (w : World) : StS w (.slice none 0 0) [] := Lst.nil w _
theorem fd_keep {P : Addr} {v : Value} {w W : World} (hm : w.cell? P = some v) (k : Below w.heap.size w W) : W.cell? P = some v :=
 (k.cell (World.block_lt_of_cell? _ _ hm)).trans hm
namespace Fd
def bl (l : List ByteArray) : List (List UInt8) := l.map (·.data.toList)
def tot (l : List ByteArray) : Nat := (l.map (·.size)).foldr (· + ·) 0
theorem tot_cons (x : ByteArray) (l : List ByteArray) : tot (x :: l) = x.size + tot l := rfl
theorem tot_drop (l : List ByteArray) (k : Nat) (h : k < l.length) : tot (l.drop k) = l[k].size + tot (l.drop (k + 1)) := by
 rw [List.drop_eq_getElem_cons h, tot_cons]
theorem jr_next (acc : List UInt8) (k : Nat) (x : List UInt8) (r : List (List UInt8)) (h : (tx x).2 = 0) : jr acc k (x :: r) = jr (acc ++ ((if k = 0 then [] else [32]) ++ (tx x).1)) (k + 1) r := by
 conv => lhs; unfold jr
 rw [if_pos h]
theorem jr_stop (acc : List UInt8) (k : Nat) (x : List UInt8) (r : List (List UInt8)) (h : (tx x).2 ≠ 0) : jr acc k (x :: r) = ([], (tx x).2) := by
 conv => lhs; unfold jr
 rw [if_neg h]
theorem bl_drop (l : List ByteArray) (k : Nat) (h : k < l.length) : (bl l).drop k = l[k].data.toList :: (bl l).drop (k + 1) := by
 unfold bl
 rw [List.drop_eq_getElem_cons (by simpa using h), List.getElem_map]
theorem arr_len (l : List UInt8) : (⟨l.toArray⟩ : ByteArray).size = l.length := List.size_toArray
theorem arr_app (a b : List UInt8) : (⟨(a ++ b).toArray⟩ : ByteArray) = ⟨a.toArray⟩ ++ ⟨b.toArray⟩ := by
 apply ByteArray.ext; apply Array.toList_inj.1; simp
end Fd
end Go.Proofs.YtlelpeocbgjmhaaGreatDoor
set_option linter.unusedVariables false
set_option linter.unusedSimpArgs false
namespace Go.Proofs.YtlelpeocbgjmhaaGreatDoor
open Go.RowKit
theorem extra169 : Builder.Extra Tryz.prog Tryz.lays169_ren := { sizeBuilder := by kernel_rfl, liesBuilder := by kernel_rfl, t5 := Tryz.underlying5, a5 := Tryz.isAgg5, z5 := Tryz.sizeOf5, v5 := Tryz.zeroValue5, infoByte := by kernel_rfl, cellsByte := by kernel_rfl, sizeByte := by kernel_rfl, neB5 := by decide }
def IsB (b : Nat) (l : List UInt8) (w : World) : Prop := Lib.IsBuilderF 64 5 b b (Lib.byteCells l) w
theorem BAt.on {T e : TypeId} {B b : Nat} {p : Value} {bs : List Value} {W W' : World} (h : Lib.BuilderAtF T e B b p bs W) (k : Below W.heap.size W W') : Lib.BuilderAtF T e B b p bs W' := by
 have hlt := h.lt
 obtain ⟨hB, v, hb, hown, hne⟩ := h
 refine ⟨hB, v, (k.block b hlt).trans hb, ⟨hown.1, ?_⟩, hne⟩
 rcases hown.2 with h2 | ⟨g, cap, cur, fz, hv, hbg, hg, rest⟩
 ·
  exact .inl h2
 ·
  have hglt : g < W.heap.size := (Array.getElem?_eq_some_iff.1 hg).1
  exact .inr ⟨g, cap, cur, fz, hv, hbg, (k.block g hglt).trans hg, rest⟩
theorem IsB.on {b : Nat} {l : List UInt8} {W W' : World} (h : IsB b l W) (k : Below W.heap.size W W') : IsB b l W' :=
 h.elim (fun x => .inl (BAt.on x k)) (fun x => .inr (BAt.on x k))
theorem IsB.lt {b : Nat} {l : List UInt8} {W : World} (h : IsB b l W) : b < W.heap.size := h.elim (·.lt) (·.lt)
theorem IsB.fresh (w : World) : IsB w.heap.size [] (w.alloc (.cells #[.pointer none, .slice none 0 0] 64)) := Lib.IsBuilderF.of (Lib.fresh_isBuilder _ _ w)
theorem sizeBuilder : (Tryz.prog.info? 64).map (·.size) = some 2 := by kernel_rfl
theorem liesBuilder : liesAt Tryz.prog Tryz.prog.depth 64 (2 / Tryz.prog.cellsOf 64) 0 64 1 = true := by kernel_rfl
theorem infoByte : (Tryz.prog.info? 5).map (fun i => (i.zero, i.size, i.bytes)) = some (some (.int .u8 0), 1, 1) := by kernel_rfl
set_option maxHeartbeats 1000000 in
set_option maxRecDepth 100000 in
theorem check_used (b : Nat) (w : World) (h0 : w.cell? ⟨b, 0, none⟩ = some (.pointer (some ⟨b, 0, none⟩))) :
  Calls Tryz.prog 57 #[.pointer (some ⟨b, 0, none⟩)] w fun e w' => e = .returned (.tuple #[]) ∧ w' = w := by
 obtain ⟨j, hj, _⟩ := Option.map_eq_some_iff.1 sizeBuilder
 go_enter Tryz.func57, Tryz.ntmps57
 go_wp2
 rw [Lib.run_neq_ptr_same w _ Tryz.underlying61 hj]
 go_wp2
 go_end0
 exact ⟨rfl, rfl⟩
set_option maxHeartbeats 1000000 in
set_option maxRecDepth 100000 in
theorem check_fresh (b : Nat) (w : World) (h0 : w.cell? ⟨b, 0, none⟩ = some (.pointer none)) (hsh : w.shape? b = some (64, 2)) (hfz : w.frozen? ⟨b, 0, none⟩ = false) :
  Calls Tryz.prog 57 #[.pointer (some ⟨b, 0, none⟩)] w fun e w' => e = .returned (.tuple #[]) ∧ w' = w.setCell ⟨b, 0, none⟩ (.pointer (some ⟨b, 0, none⟩)) := by
 obtain ⟨j, hj, hjs⟩ := Option.map_eq_some_iff.1 sizeBuilder
 go_enter Tryz.func57, Tryz.ntmps57
 go_wp2
 rw [Lib.run_to_unsafe w ⟨b, 0, none⟩ Tryz.underlying61 Tryz.underlying118 hj (by rw [hjs]; decide) hsh (Nat.zero_lt_succ 1)]
 simp only [Result.andThen]
 rw [Oper.upon_value]
 go_wp2
 rw [run_callFunc_extern Tryz.func81 (by kernel_rfl) (by kernel_rfl) (by kernel_rfl) (e := Extern.AbiNoEscape.same) (by kernel_rfl)]
 rw [Lib.run_noEscape]
 simp only [Result.andThen]
 rw [Oper.upon_value]
 go_wp2
 rw [Lib.run_from_unsafe w ⟨b, 0, none⟩ Tryz.underlying118 Tryz.underlying61 hj hsh liesBuilder]
 simp only [Result.andThen]
 rw [Oper.upon_value]
 go_wp2
 go_end0
 exact ⟨rfl, rfl⟩
theorem check_any (b : Nat) (l : List UInt8) (w : World) (h : IsB b l w) :
  Calls Tryz.prog 57 #[.pointer (some ⟨b, 0, none⟩)] w fun e w' => e = .returned (.tuple #[]) ∧ Lib.BuilderAtF 64 5 b b (.pointer (some ⟨b, 0, none⟩)) (Lib.byteCells l) w' ∧ Below b w w' := by
 rcases h with h | h
 ·
  refine (check_fresh b w h.cell0 h.shape h.frozen0).mono ?_
  rintro e w' ⟨rfl, rfl⟩
  exact ⟨rfl, h.used _, (Below.refl b w).setCell (p := ⟨b, 0, none⟩) (Nat.le_refl _) _⟩
 ·
  refine (check_used b w h.cell0).mono ?_
  rintro e w' ⟨rfl, rfl⟩
  exact ⟨rfl, h, Below.refl b _⟩
set_option maxHeartbeats 2000000 in
set_option maxRecDepth 100000 in
theorem bw_str (b : Nat) (l : List UInt8) (s : ByteArray) (w : World) (h : IsB b l w) (hl : l.length ≤ 1000000000) (hs : s.size ≤ 1000000000) :
  Calls Tryz.prog 36 #[.pointer (some ⟨b, 0, none⟩), .string s] w fun e w' => e = .returned (.tuple #[.int .i64 s.size, .nilIface]) ∧ (IsB b (l ++ s.data.toList) w' ∧ Below b w w') := by
 obtain ⟨i0, hi, hz0, hz1, hz2⟩ := info_parts infoByte
 have hlw := h.lt
 have hlen : (Lib.byteCells l).length = l.length := Lib.byteCells_length l
 have HC := Lib.hid (check_any b l w h)
 clear h
 go_enter Tryz.func36, Tryz.ntmps36
 go_wp2_with fail
 refine HC.out.mono ?_
 rintro e w1 ⟨rfl, h1, hb1⟩
 clear HC
 obtain ⟨hB, v, hbk, hown, hne⟩ := h1
 have hlt : b < w1.heap.size := Nat.lt_of_lt_of_le hlw hb1.size
 have c0 : w1.cell? ⟨b, 0, none⟩ = some (.pointer (some ⟨b, 0, none⟩)) := by rw [Lib.cell_of_heap hbk]; rfl
 have c1 : w1.cell? ⟨b, 1, none⟩ = some v := by rw [Lib.cell_of_heap hbk]; rfl
 go_wp2_with (at_builtin; refine Lib.wpList_append_own_stringF _ rfl _ _ 62 9 rfl b 5 i0 Tryz.underlying62 Tryz.underlying9 hi hz0 hz1 hz2 _ _ _ rfl hown s rfl ?c3 ?c4 ?c5 ?_)
 case c3 => unfold maxLen; omega
 case c4 => omega
 case c5 => omega
 intro v' w2 hown' hgrow _
 have hb2 : w2.heap[b]? = some (.cells #[.pointer (some ⟨b, 0, none⟩), v] 64 (0, 0)) := by
  rw [hgrow.block b hlt (fun e => hne e.symm)]
  exact hbk
 have d0 : w2.cell? ⟨b, 0, none⟩ = some (.pointer (some ⟨b, 0, none⟩)) := by rw [Lib.cell_of_heap hb2]; rfl
 have d1 : w2.cell? ⟨b, 1, none⟩ = some v := by rw [Lib.cell_of_heap hb2]; rfl
 have f1 : w2.frozen? ⟨b, 1, none⟩ = false := Lib.frozen_of_heap hb2 1
 obtain ⟨ao, n', cap, rfl⟩ : ∃ ao n' cap, v' = .slice ao n' cap := by
  rcases hown'.2 with ⟨hv, _⟩ | ⟨g, cap, cur, fz, hv, _⟩
  ·
   exact ⟨_, _, _, hv⟩
  ·
   exact ⟨_, _, _, hv⟩
 go_wp2
 go_ret2
 refine ⟨rfl, ?_, ?_⟩
 ·
  right
  rw [Lib.byteCells_append]
  exact Lib.BuilderAtF.put hB hb2 (bs' := Lib.byteCells l ++ Lib.strCells s) (by simpa [Lib.strCells_length, hlen] using hown') (by decide)
 ·
  exact (hb1.grown hgrow (by omega) (fun k hk => (hown.lt k hk).1)).setCell (p := ⟨b, 1, none⟩) hB _
theorem b_string (b : Nat) (l : List UInt8) (w : World) (h : IsB b l w) :
  Calls Tryz.prog 38 #[.pointer (some ⟨b, 0, none⟩)] w fun e w' => e = .returned (.string ⟨l.toArray⟩) ∧ (IsB b l w' ∧ Below b w w') :=
 (Any.Builder_String_any_k Tryz.lays169 extra169 b b l w h (Nat.le_of_lt h.lt)).mono fun _ _ ⟨e, h1, b1, _⟩ => ⟨e, h1, b1⟩
end Go.Proofs.YtlelpeocbgjmhaaGreatDoor
