/- The contracts of civil's functions: Date, Weekday. -/
import Derived.Test.YtjnhaabbnbcaeaaCivB
set_option linter.unusedVariables false
set_option linter.unusedSimpArgs false
namespace Go.Proofs.Ytjnhaabbnbcaeaa
open Go.RowKit



end Go.Proofs.Ytjnhaabbnbcaeaa
