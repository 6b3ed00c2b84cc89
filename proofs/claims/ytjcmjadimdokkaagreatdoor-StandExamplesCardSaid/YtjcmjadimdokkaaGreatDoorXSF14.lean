/- What calls of the examples return. -/
import Derived.Test.YtjcmjadimdokkaaGreatDoorXSF0
namespace Go.Proofs.YtjcmjadimdokkaaGreatDoor
open Go Go.Proofs.YtjcmjadimdokkaaGreatDoor.Clean
set_option linter.unusedVariables false
set_option maxRecDepth 100000
theorem k46 (h : Facts Tryz.prog glX tb46) : KFX fa46 := K0_ranQ (cfg := cfgS (knownI gsX tb46)) hmX (cfgS_ok (knownI_ok h)) (fun _ _ => rfl) 3000 Tryz.func10 (by kernel_rfl)
theorem k47 (h : Facts Tryz.prog glX tb47) : KFX fa47 := K0_ranQ (cfg := cfgS (knownI gsX tb47)) hmX (cfgS_ok (knownI_ok h)) (fun _ _ => rfl) 3000 Tryz.func13 (by kernel_rfl)
end Go.Proofs.YtjcmjadimdokkaaGreatDoor
