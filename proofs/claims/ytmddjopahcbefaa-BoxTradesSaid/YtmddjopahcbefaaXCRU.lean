/- Both. -/
import Derived.Test.YtmddjopahcbefaaXCR
import Derived.Test.YtmddjopahcbefaaXCU
