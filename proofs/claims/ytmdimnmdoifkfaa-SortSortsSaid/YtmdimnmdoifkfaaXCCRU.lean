/- Both. -/
import Derived.Test.YtmdimnmdoifkfaaXCCR
import Derived.Test.YtmdimnmdoifkfaaXCCU
