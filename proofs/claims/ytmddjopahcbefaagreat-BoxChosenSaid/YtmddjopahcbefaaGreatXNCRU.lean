/- Both. -/
import Derived.Test.YtmddjopahcbefaaGreatXNCR
import Derived.Test.YtmddjopahcbefaaGreatXNCU
