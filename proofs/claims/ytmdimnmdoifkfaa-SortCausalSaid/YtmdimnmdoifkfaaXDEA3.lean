/- What calls of the examples return. -/
import Derived.Test.YtmdimnmdoifkfaaXDEA0
namespace Go.Proofs.Ytmdimnmdoifkfaa
open Go Go.Proofs.Ytmdimnmdoifkfaa.Clean
set_option linter.unusedVariables false
set_option maxRecDepth 100000
theorem k2 (h : Facts Try.prog glX tb2) : KFX fa2 := K0_ranQ (cfg := cfgAll Try.prog glX clX (knownI gsX tb2)) hmX (cfgAll_ok (knownI_ok h)) (fun _ _ => rfl) 3000 Try.func24 (by kernel_rfl)
end Go.Proofs.Ytmdimnmdoifkfaa
