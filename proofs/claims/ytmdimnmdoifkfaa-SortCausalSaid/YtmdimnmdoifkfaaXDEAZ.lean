/- What calls of the examples return. -/
import Derived.Test.YtmdimnmdoifkfaaXDEA1
import Derived.Test.YtmdimnmdoifkfaaXDEA2
import Derived.Test.YtmdimnmdoifkfaaXDEA3
import Derived.Test.YtmdimnmdoifkfaaXDEA4
import Derived.Test.YtmdimnmdoifkfaaXDEA5
namespace Go.Proofs.Ytmdimnmdoifkfaa
open Go Go.Proofs.Ytmdimnmdoifkfaa.Clean
set_option linter.unusedVariables false
set_option maxRecDepth 100000
theorem tok0 : Facts Try.prog glX tb0 := trivial
theorem t0 : KFX fa0 := k0 tok0
theorem tok1 : Facts Try.prog glX tb1 := ⟨t0, tok0⟩
theorem t1 : KFX fa1 := k1 tok1
theorem tok2 : Facts Try.prog glX tb2 := ⟨t1, tok1⟩
theorem t2 : KFX fa2 := k2 tok2
theorem tok3 : Facts Try.prog glX tb3 := ⟨t2, tok2⟩
theorem t3 : KFX fa3 := k3 tok3
theorem tok4 : Facts Try.prog glX tb4 := ⟨t3, tok3⟩
theorem t4 : KFX fa4 := k4 tok4
theorem tok5 : Facts Try.prog glX tb5 := ⟨t4, tok4⟩
theorem t5 : KFX fa5 := k5 tok5
theorem tok6 : Facts Try.prog glX tb6 := ⟨t5, tok5⟩
end Go.Proofs.Ytmdimnmdoifkfaa
