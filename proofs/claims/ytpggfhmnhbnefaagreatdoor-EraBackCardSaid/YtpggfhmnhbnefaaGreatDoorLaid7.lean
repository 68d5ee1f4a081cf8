/- Laid already. -/
import Derived.Test.YtpggfhmnhbnefaaGreatDoorLaid3
import Derived.Test.YtpggfhmnhbnefaaGreatDoorLaid8
