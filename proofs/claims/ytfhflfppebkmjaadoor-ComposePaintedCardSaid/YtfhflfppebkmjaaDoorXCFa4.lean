/- What calls of the examples return. -/
import Derived.Test.YtfhflfppebkmjaaDoorXCFa0
namespace Go.Proofs.YtfhflfppebkmjaaDoor
open Go Go.Proofs.YtfhflfppebkmjaaDoor.Clean
set_option linter.unusedVariables false
set_option maxRecDepth 100000
theorem k3 (h : Facts Tryd.prog glX tb3) : KFX fa3 := K0_ranQ (cfg := cfgAll Tryd.prog glX clX (knownI gsX tb3)) hmX (cfgAll_ok (knownI_ok h)) (fun _ _ => rfl) 3000 Tryd.func26 (by kernel_rfl)
end Go.Proofs.YtfhflfppebkmjaaDoor
