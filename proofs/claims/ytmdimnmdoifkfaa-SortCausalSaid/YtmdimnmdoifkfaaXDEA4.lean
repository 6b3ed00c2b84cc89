/- What calls of the examples return. -/
import Derived.Test.YtmdimnmdoifkfaaXDEA0
namespace Go.Proofs.Ytmdimnmdoifkfaa
open Go Go.Proofs.Ytmdimnmdoifkfaa.Clean
set_option linter.unusedVariables false
set_option maxRecDepth 100000
theorem k3 (h : Facts Try.prog glX tb3) : KFX fa3 := K0_ranQ (cfg := cfgAll Try.prog glX clX (knownI gsX tb3)) hmX (cfgAll_ok (knownI_ok h)) (fun _ _ => rfl) 3000 Try.func73 (by kernel_rfl)
theorem k4 (h : Facts Try.prog glX tb4) : KFX fa4 := K0_ranQ (cfg := cfgAll Try.prog glX clX (knownI gsX tb4)) hmX (cfgAll_ok (knownI_ok h)) (fun _ _ => rfl) 3000 Try.func33 (by kernel_rfl)
end Go.Proofs.Ytmdimnmdoifkfaa
