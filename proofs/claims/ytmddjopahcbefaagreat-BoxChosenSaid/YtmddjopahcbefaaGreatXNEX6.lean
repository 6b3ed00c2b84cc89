/- What calls of the examples return. -/
import Derived.Test.YtmddjopahcbefaaGreatXNEX0
namespace Go.Proofs.YtmddjopahcbefaaGreat
open Go Go.Proofs.YtmddjopahcbefaaGreat.Clean
set_option linter.unusedVariables false
set_option maxRecDepth 100000
theorem k5 (h : Facts Tryz.prog glX tb5) : KFX fa5 := K0_ranQ (cfg := cfgAll Tryz.prog glX clX (knownI gsX tb5)) hmX (cfgAll_ok (knownI_ok h)) (fun _ _ => rfl) 3000 Tryz.func19 (by kernel_rfl)
end Go.Proofs.YtmddjopahcbefaaGreat
