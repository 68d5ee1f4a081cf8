/- The library's contracts of ParseInt at base 10, laid at this translation. -/
import Derived.Shelf.Strconv.ParseIntPublic10
import Derived.Shelf.Strconv.ErrVarParseInt
import Derived.Test.YtlonbjllgiebhaaDoorShelf
set_option linter.unusedVariables false
namespace Go.Proofs
open Go.Shelf

theorem Tryd.parseInt_ok (s : ByteArray) (hmax : s.size ≤ 9223372036854775806) (v : Int) (h : Lib.parseIntB 64 s.data.toList = .ok v) (w : World) :
    Calls Tryd.prog 15 #[.string s, .int .i64 10, .int .i64 64] w fun e w' => e = .returned (.tuple #[.int .i64 v, .nilIface]) ∧ RowKit.Below w.heap.size w w' :=
  (Any.strconv_ParseInt_10_at64_ok Tryd.laysC174 s hmax v h w).mono fun _ _ ⟨h, k⟩ => ⟨h, by
    rcases k with e | ⟨t, e⟩
    · rw [e]; exact RowKit.Below.refl _ _
    · rw [e]; exact Lib.bytesWorld_below _ _ _⟩
theorem Tryd.parseInt_range (s : ByteArray) (hlim : s.size ≤ 281474976710656) (h : Lib.parseIntB 64 s.data.toList = .range) (tp : TypeId) (p : Value) (w : World) (hvar : w.var? Tryd.prog "strconv.ErrRange" = some #[.iface tp p]) :
    Calls Tryd.prog 15 #[.string s, .int .i64 10, .int .i64 64] w fun e w' => (∃ N, e = .returned (.tuple #[.int .i64 (Lib.intSat 64 s.data.toList), .iface 55 (.pointer (some ⟨N, 0, none⟩))])) ∧ RowKit.Below w.heap.size w w' :=
  (Any.strconv_ParseInt_10_at64_range_var Tryd.laysC174 s hlim h tp p w hvar).mono fun _ _ ⟨N, h, _, _, b⟩ => ⟨⟨N, h⟩, b⟩
end Go.Proofs
