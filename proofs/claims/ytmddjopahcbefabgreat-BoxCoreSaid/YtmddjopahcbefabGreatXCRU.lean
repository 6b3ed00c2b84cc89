/- Both. -/
import Derived.Test.YtmddjopahcbefabGreatXCR
import Derived.Test.YtmddjopahcbefabGreatXCU
