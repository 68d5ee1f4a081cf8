/- The walk of CivilTells: whatever is handed in, the answers are the reference's. -/
import Derived.Test.YtcephkmdedjecaaTlYY
import Derived.Test.YtcephkmdedjecaaTlYN
import Derived.Test.YtcephkmdedjecaaTlNY
import Derived.Test.YtcephkmdedjecaaTlNN
set_option linter.unusedVariables false
namespace Go.Proofs.Ytcephkmdedjecaa
open Go.RowKit

theorem tells_walk (y m d y' m' d' yy mm n : Int) (w : World) (hn : -9223372036854775808 ≤ n ∧ n ≤ 9223372036854775807) :
    Calls Try.prog 6 #[.agg #[.int .i64 y, .int .i64 m, .int .i64 d], .agg #[.int .i64 y', .int .i64 m', .int .i64 d'], .int .i64 yy, .int .i64 mm, .int .i64 n] w fun e w' => e = .returned (.bool true) ∧ Below w.heap.size w w' := by
  by_cases hr : -15329228 ≤ n ∧ n ≤ 13890537
  · cases hd : rightB y m d
    · exact tells_ny y m d y' m' d' yy mm n w hn hd hr
    · exact tells_yy y m d y' m' d' yy mm n w hn hd hr
  · cases hd : rightB y m d
    · exact tells_nn y m d y' m' d' yy mm n w hn hd hr
    · exact tells_yn y m d y' m' d' yy mm n w hn hd hr
end Go.Proofs.Ytcephkmdedjecaa
