/- Both. -/
import Derived.Test.YtmdimnmdoifkfaaXCR
import Derived.Test.YtmdimnmdoifkfaaXCU
