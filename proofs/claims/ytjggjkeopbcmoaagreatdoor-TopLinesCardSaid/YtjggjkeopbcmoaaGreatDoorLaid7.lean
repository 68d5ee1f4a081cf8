/- Laid already. -/
import Derived.Test.YtjggjkeopbcmoaaGreatDoorLaid3
import Derived.Test.YtjggjkeopbcmoaaGreatDoorLaid8
