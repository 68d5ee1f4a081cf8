/- Calls that answer lists of strings and why; cuts of strings; the reference's Same. -/
import Derived.Test.YtjnhaabbnbcaeaaFdC0
import Derived.Test.YtjnhaabbnbcaeaaStL
set_option linter.unusedVariables false
set_option linter.unusedSimpArgs false
namespace Go.Proofs.Ytjnhaabbnbcaeaa
open Go.RowKit Go.Sort

/-- A call that answers strings, and why. -/
def AnsF (P : List (List UInt8) × Int) (w : World) (e : Ending) (w' : World) : Prop := ∃ (v : Value) (l : List ByteArray), StS w' v l ∧ l.map (·.data.toList) = P.1 ∧ e = .returned (.tuple #[v, .int .i64 P.2]) ∧ Below w.heap.size w w'
theorem fd_bytes {l l' : List ByteArray} (h : l.map (·.data.toList) = l'.map (·.data.toList)) : l = l' := by
  induction l generalizing l' with
  | nil => cases l' with
    | nil => rfl
    | cons _ _ => cases h
  | cons x r ih =>
    cases l' with
    | nil => cases h
    | cons y r' =>
      simp only [List.map_cons, List.cons.injEq] at h
      rw [ih h.2, show x = y from ByteArray.ext (Array.toList_inj.1 h.1)]
theorem fd_cut (s : ByteArray) (a b : Nat) (h1 : a ≤ b) (h2 : b ≤ s.size) (W : World) : Sem.run Try.prog (Instr.slice 9 (.string s) (some (.int .i64 (a : Int))) (some (.int .i64 (b : Int))) none) W = .ok (.string (s.extract a b)) W := by
  rw [run_slice_string W 9 s .i64 .i64 (a : Int) (b : Int) Try.underlying9 (by omega) (by omega) (by omega)]
  simp
theorem fd_ext (s : ByteArray) (a b : Nat) : (s.extract a b).data.toList = (s.data.toList.take b).drop a := by
  rw [ByteArray.data_extract, Array.toList_extract, List.drop_take]
theorem fd_one (s : ByteArray) (k : Nat) (h : k < s.size) : (s.extract k (k + 1)).data.toList = [s[k]] := by
  rw [fd_ext, List.take_succ_eq_append_getElem (by rw [fd_len]; exact h), List.drop_append_of_le_length (by rw [List.length_take, fd_len]; omega), List.drop_of_length_le (by rw [List.length_take]; omega)]
  rfl
theorem fd_app (a b : ByteArray) : (a ++ b).data.toList = a.data.toList ++ b.data.toList := by rw [ByteArray.data_append, Array.toList_append]
theorem fd_parts {i0 : Option TypeInfo} {z : Value} {n b : Nat} (h : i0.map (fun i => (i.zero, i.size, i.bytes)) = some (some z, n, b)) : ∃ i, i0 = some i ∧ i.zero = some z ∧ i.size = n ∧ i.bytes = b := by
  cases i0 with
  | none => cases h
  | some i => simp at h; exact ⟨i, rfl, h.1, h.2.1, h.2.2⟩
theorem fd_info : (Try.prog.info? 9).map (fun i => (i.zero, i.size, i.bytes)) = some (some (.string ⟨#[]⟩), 1, 16) := by kernel_rfl
theorem StS.nil (w : World) : StS w (.slice none 0 0) [] := Lst.nil w _
theorem fd_keep {P : Addr} {v : Value} {w W : World} (hm : w.cell? P = some v) (k : Below w.heap.size w W) : W.cell? P = some v :=
  (k.cell (World.block_lt_of_cell? _ _ hm)).trans hm
end Go.Proofs.Ytjnhaabbnbcaeaa
