/- What calls of the examples return. -/
import Derived.Test.YtmddjopahcbefaaGreatXNEX0
namespace Go.Proofs.YtmddjopahcbefaaGreat
open Go Go.Proofs.YtmddjopahcbefaaGreat.Clean
set_option linter.unusedVariables false
set_option maxRecDepth 100000
theorem k1 (h : Facts Tryz.prog glX tb1) : KFX fa1 := K0_ranQ (cfg := cfgAll Tryz.prog glX clX (knownI gsX tb1)) hmX (cfgAll_ok (knownI_ok h)) (fun _ _ => rfl) 3000 Tryz.func51 (by kernel_rfl)
end Go.Proofs.YtmddjopahcbefaaGreat
