/- Joined: PairF. -/
import Derived.Test.YtpggfhmnhbnefaaGreatDoorBe24
namespace Go.Pairs
open Go
end Go.Pairs
