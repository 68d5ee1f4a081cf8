/- What of the library lies here: by LaidF. -/
import Derived.Test.YtifgiclnofdnkaaGreatDoorLaidF
