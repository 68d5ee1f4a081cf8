/- Laid already. -/
import Derived.Test.YtpggfhmnhbnefaaGreatDoorLaid3
