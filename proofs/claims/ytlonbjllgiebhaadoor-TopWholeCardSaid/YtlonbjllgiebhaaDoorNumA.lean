/- The contracts of num.Text, and texts of numbers. -/
import Derived.Test.YtlonbjllgiebhaaDoorBase
import Derived.Test.YtlonbjllgiebhaaDoorShelf
import Derived.Test.YtlonbjllgiebhaaDoorNumM
set_option linter.unusedVariables false
set_option linter.unusedSimpArgs false
namespace Go.Proofs.YtlonbjllgiebhaaDoor
open Go.RowKit

theorem cutPrefix (s p : ByteArray) (w : World) :
    Calls Tryd.prog 22 #[.string s, .string p] w fun e w' => e = .returned (.tuple #[.string ⟨(Lib.trimPrefix s.data.toList p.data.toList).toArray⟩, .bool (Lib.hasPrefix s.data.toList p.data.toList)]) ∧ w = w' :=
  (Any.strings_CutPrefix Tryd.lays103 s p w).mono fun _ _ ⟨h, e⟩ => ⟨h, e.symm⟩

set_option maxHeartbeats 400000 in
theorem text_any (n : Int) (w : World) (h0 : -9223372036854775808 ≤ n) (h1 : n ≤ 9223372036854775807) (htab : Lib.TabIs Tryd.prog w "internal/strconv.uint64pow10" .u64 Lib.pow10Tab) :
    Calls Tryd.prog 10 #[.int .i64 n] w fun e w' => e = .returned (.string ⟨(Lib.itoa n).toArray⟩) ∧ Below w.heap.size w w' := by
  have HT := Lib.hid htab; clear htab
  go_enter Tryd.func10, Tryd.ntmps10
  go_wp2_with fail
  refine (Tryd.formatInt n h0 h1 _ HT.out).mono ?_; rintro e w1 ⟨rfl, b1⟩
  go_wp2_with fail
  go_ret
  exact ⟨rfl, b1⟩

theorem dlen (ds : ByteArray) : ds.data.toList.length = ds.size := Array.length_toList
theorem dget {ds : ByteArray} {k : Nat} (h : k < ds.size) : ds.data.toList[k]'(by rw [dlen]; exact h) = ds[k] := rfl
theorem dhead {ds : ByteArray} (h : 0 < ds.size) : ∃ r, ds.data.toList = ds[0] :: r ∧ (r = [] ↔ ds.size = 1) := by
  have hl := dlen ds
  cases hd : ds.data.toList with
  | nil => rw [hd] at hl; simp at hl; omega
  | cons c r =>
    have e : ds[0] = c := by rw [← dget h]; simp [hd]
    refine ⟨r, by rw [e], ?_⟩
    rw [hd] at hl
    simp at hl
    rw [← List.length_eq_zero_iff]; omega
theorem dne {ds : ByteArray} (h : 0 < ds.size) : ds.toList.isEmpty = false ∧ ¬ ds.toList = [] := by
  have : ds.toList ≠ [] := by
    intro e
    have hl := dlen ds
    rw [← ByteArray.toList_eq] at hl
    rw [e] at hl; simp at hl; omega
  exact ⟨by simpa using this, this⟩
theorem not_all {ds : ByteArray} {k : Nat} (h : k < ds.size) (hd : ¬ (48 ≤ ds[k].toNat ∧ ds[k].toNat ≤ 57)) : ds.data.toList.all Num.dig = false := by
  rw [Bool.eq_false_iff]
  intro ha
  have := List.all_eq_true.1 ha ds[k] (by rw [← dget h]; exact List.getElem_mem _)
  simp only [Num.dig, decide_eq_true_eq] at this
  exact hd this
theorem take_all {ds : ByteArray} {k : Nat} (h : k < ds.size) (ha : (ds.data.toList.take k).all Num.dig = true) (hd : 48 ≤ ds[k].toNat ∧ ds[k].toNat ≤ 57) : (ds.data.toList.take (k + 1)).all Num.dig = true := by
  rw [List.take_succ_eq_append_getElem (by rw [dlen]; exact h), List.all_append, ha, dget h]
  simp [Num.dig, hd]
theorem front {ds : ByteArray} {b : Bool} (h : 0 < ds.size) (hf : ds[0].toNat = 48 → b = false ∧ ds.size = 1) : Num.numT b ds.data.toList = ds.data.toList.all Num.dig := by
  obtain ⟨r, e, hr⟩ := dhead h
  rw [e]
  unfold Num.numT
  by_cases h48 : ds[0].toNat = 48
  · obtain ⟨hb, h1⟩ := hf h48
    rw [hb, hr.2 h1]; simp
  · have : (ds[0] == 48) = false := by rw [beq_eq_false_iff_ne]; intro e2; rw [e2] at h48; exact h48 rfl
    show (!(ds[0] == 48 && (b || !r.isEmpty)) && (ds[0] :: r).all Num.dig) = _
    rw [this]; simp
theorem front_no {ds : ByteArray} {b : Bool} (h : 0 < ds.size) (h48 : ds[0].toNat = 48) (hf : b = true ∨ 1 < ds.size) : Num.numT b ds.data.toList = false := by
  obtain ⟨r, e, hr⟩ := dhead h
  rw [e]
  unfold Num.numT
  have : (ds[0] == 48) = true := by rw [beq_iff_eq]; exact UInt8.toNat_inj.1 h48
  show (!(ds[0] == 48 && (b || !r.isEmpty)) && (ds[0] :: r).all Num.dig) = _
  rw [this]
  rcases hf with hb | hz
  · rw [hb]; simp
  · have : r ≠ [] := fun e2 => by have := hr.1 e2; omega
    have : r.isEmpty = false := by simpa using this
    rw [this]; simp

/-- A variable holds behind a call what it held. -/
theorem var_keep {P : Program} {W W' : World} {n : String} {cs : Array Value} (h : Below W.heap.size W W') (hv : W.var? P n = some cs) : W'.var? P n = some cs := by
  unfold World.var? at hv ⊢
  cases hg : P.globalNamed n with
  | none => rw [hg] at hv; simp at hv
  | some g =>
    rw [hg] at hv
    simp only [Option.bind_some] at hv ⊢
    have hgB : g < W.heap.size := by
      by_cases hh : g < W.heap.size
      · exact hh
      · exfalso
        have e : W.heap[g]? = none := by simp; omega
        rw [e] at hv; simp at hv
    rw [h.block g hgB]
    exact hv
end Go.Proofs.YtlonbjllgiebhaaDoor
