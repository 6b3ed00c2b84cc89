/- Both. -/
import Derived.Test.YtmdimnmdoifkfaaXDCR
import Derived.Test.YtmdimnmdoifkfaaXDCU
