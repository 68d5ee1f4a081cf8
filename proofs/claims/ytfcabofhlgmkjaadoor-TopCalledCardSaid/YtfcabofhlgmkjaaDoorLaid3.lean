/- The byte search of this seat lies in Laid7. -/
import Derived.Test.YtfcabofhlgmkjaaDoorLaid7
