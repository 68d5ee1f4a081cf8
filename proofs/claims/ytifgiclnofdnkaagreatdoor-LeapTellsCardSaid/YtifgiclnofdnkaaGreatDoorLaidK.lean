/- What of the library lies here: by Laid3. -/
import Derived.Test.YtifgiclnofdnkaaGreatDoorLaid3
