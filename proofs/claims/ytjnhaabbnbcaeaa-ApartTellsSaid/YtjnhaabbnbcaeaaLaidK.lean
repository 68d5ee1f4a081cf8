/- The names of a shelf text. -/
import Derived.Test.YtjnhaabbnbcaeaaLaid3
