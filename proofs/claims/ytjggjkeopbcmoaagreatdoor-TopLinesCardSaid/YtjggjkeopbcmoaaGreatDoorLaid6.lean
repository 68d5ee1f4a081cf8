/- Laid already. -/
import Derived.Test.YtjggjkeopbcmoaaGreatDoorLaidF
