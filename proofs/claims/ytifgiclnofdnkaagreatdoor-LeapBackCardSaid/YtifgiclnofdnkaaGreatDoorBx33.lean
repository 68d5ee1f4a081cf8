/- Joined: RsI, LpI, LpW. -/
import Derived.Test.YtifgiclnofdnkaaGreatDoorBx19
import Derived.Test.YtifgiclnofdnkaaGreatDoorBx25
import Derived.Test.YtifgiclnofdnkaaGreatDoorBx06
import Derived.Test.YtifgiclnofdnkaaGreatDoorBx11
import Derived.Test.YtifgiclnofdnkaaGreatDoorBx32
set_option linter.unusedVariables false
set_option linter.unusedSimpArgs false
namespace Go.Proofs.YtifgiclnofdnkaaGreatDoor
open Go.RowKit Go.Sort
namespace Lp
end Lp
end Go.Proofs.YtifgiclnofdnkaaGreatDoor
