/- Both. -/
import Derived.Test.YtmdimnmdoifkfaaXBCR
import Derived.Test.YtmdimnmdoifkfaaXBCU
