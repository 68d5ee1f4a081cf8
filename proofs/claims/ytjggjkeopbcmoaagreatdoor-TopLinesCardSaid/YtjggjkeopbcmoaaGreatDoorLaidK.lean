/- Laid already. -/
import Derived.Test.YtjggjkeopbcmoaaGreatDoorLaid3
