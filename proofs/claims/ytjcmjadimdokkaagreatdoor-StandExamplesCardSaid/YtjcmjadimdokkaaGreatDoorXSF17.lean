/- What calls of the examples return. -/
import Derived.Test.YtjcmjadimdokkaaGreatDoorXSF0
namespace Go.Proofs.YtjcmjadimdokkaaGreatDoor
open Go Go.Proofs.YtjcmjadimdokkaaGreatDoor.Clean
set_option linter.unusedVariables false
set_option maxRecDepth 100000
theorem k52 (h : Facts Tryz.prog glX tb52) : KFX fa52 := K0_ranQ (cfg := cfgS (knownI gsX tb52)) hmX (cfgS_ok (knownI_ok h)) (fun _ _ => rfl) 3000 Tryz.func15 (by kernel_rfl)
theorem k53 (h : Facts Tryz.prog glX tb53) : KFX fa53 := K0_ranQ (cfg := cfgS (knownI gsX tb53)) hmX (cfgS_ok (knownI_ok h)) (fun _ _ => rfl) 3000 Tryz.func16 (by kernel_rfl)
theorem k54 (h : Facts Tryz.prog glX tb54) : KFX fa54 := K0_ranQ (cfg := cfgS (knownI gsX tb54)) hmX (cfgS_ok (knownI_ok h)) (fun _ _ => rfl) 3000 Tryz.func3 (by kernel_rfl)
end Go.Proofs.YtjcmjadimdokkaaGreatDoor
