/- What calls of the examples return. -/
import Derived.Test.YtmddjopahcbefaaGreatXBX0
namespace Go.Proofs.YtmddjopahcbefaaGreat
open Go Go.Proofs.YtmddjopahcbefaaGreat.Clean
set_option linter.unusedVariables false
set_option maxRecDepth 100000
theorem k7 (h : Facts Tryz.prog glX tb7) : KFX fa7 := K0_ranQ (cfg := cfgAll Tryz.prog glX clX (knownI gsX tb7)) hmX (cfgAll_ok (knownI_ok h)) (fun _ _ => rfl) 3000 Tryz.func3 (by kernel_rfl)
end Go.Proofs.YtmddjopahcbefaaGreat
