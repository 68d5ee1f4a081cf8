/- What a walk over numbers keeps: the table of powers, the error; nothing old has turned. -/
import Derived.Test.YtlonbjllgiebhaaDoorNumAr
set_option linter.unusedVariables false
set_option linter.unusedSimpArgs false
namespace Go.Proofs.YtlonbjllgiebhaaDoor
open Go.RowKit

/-- Nothing old has turned; the table and the error hold what they held. -/
structure Lv (w W : World) (tp : TypeId) (p : Value) : Prop where
  bel : Below w.heap.size w W
  tab : Lib.TabIs Tryd.prog W "internal/strconv.uint64pow10" .u64 Lib.pow10Tab
  rng : W.var? Tryd.prog "strconv.ErrRange" = some #[.iface tp p]
theorem Lv.keep {w W W' : World} {tp : TypeId} {p : Value} (h : Lv w W tp p) (k : Below W.heap.size W W') : Lv w W' tp p :=
  ⟨below_step h.bel k, var_keep k h.tab, var_keep k h.rng⟩

end Go.Proofs.YtlonbjllgiebhaaDoor
