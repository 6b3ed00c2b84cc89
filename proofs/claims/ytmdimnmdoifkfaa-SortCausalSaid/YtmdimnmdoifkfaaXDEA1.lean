/- What calls of the examples return. -/
import Derived.Test.YtmdimnmdoifkfaaXDEA0
namespace Go.Proofs.Ytmdimnmdoifkfaa
open Go Go.Proofs.Ytmdimnmdoifkfaa.Clean
set_option linter.unusedVariables false
set_option maxRecDepth 100000
theorem k0 (h : Facts Try.prog glX tb0) : KFX fa0 := K0_ranQ (cfg := cfgAll Try.prog glX clX (knownI gsX tb0)) hmX (cfgAll_ok (knownI_ok h)) (fun _ _ => rfl) 3000 Try.func22 (by kernel_rfl)
end Go.Proofs.Ytmdimnmdoifkfaa
