/- Laid already. -/
import Derived.Test.YtedbohfcbfegjaaGreatDoorLaid3
