/- The contracts of dayrule's functions: Days, Window. -/
import Derived.Test.YtjnhaabbnbcaeaaDrA1
import Derived.Test.YtjnhaabbnbcaeaaDrA
set_option linter.unusedVariables false
set_option linter.unusedSimpArgs false
namespace Go.Proofs.Ytjnhaabbnbcaeaa
open Go.RowKit


end Go.Proofs.Ytjnhaabbnbcaeaa
