/- What calls of the examples return. -/
import Derived.Test.YtfhflfppebkmjaaDoorXCFa0
namespace Go.Proofs.YtfhflfppebkmjaaDoor
open Go Go.Proofs.YtfhflfppebkmjaaDoor.Clean
set_option linter.unusedVariables false
set_option maxRecDepth 100000
theorem k1 (h : Facts Tryd.prog glX tb1) : KFX fa1 := K0_ranQ (cfg := cfgAll Tryd.prog glX clX (knownI gsX tb1)) hmX (cfgAll_ok (knownI_ok h)) (fun _ _ => rfl) 3000 Tryd.func34 (by kernel_rfl)
end Go.Proofs.YtfhflfppebkmjaaDoor
