/- What calls of the examples return. -/
import Derived.Test.YtjcmjadimdokkaaGreatDoorXSF0
namespace Go.Proofs.YtjcmjadimdokkaaGreatDoor
open Go Go.Proofs.YtjcmjadimdokkaaGreatDoor.Clean
set_option linter.unusedVariables false
set_option maxRecDepth 100000
theorem k0 (h : Facts Tryz.prog glX tb0) : KFX fa0 := K0_ranQ (cfg := cfgS (knownI gsX tb0)) hmX (cfgS_ok (knownI_ok h)) (fun _ _ => rfl) 3000 Tryz.func83 (by kernel_rfl)
theorem k1 (h : Facts Tryz.prog glX tb1) : KFX fa1 := K0_ranQ (cfg := cfgS (knownI gsX tb1)) hmX (cfgS_ok (knownI_ok h)) (fun _ _ => rfl) 3000 Tryz.func65 (by kernel_rfl)
theorem k2 (h : Facts Tryz.prog glX tb2) : KFX fa2 := K0_ranQ (cfg := cfgS (knownI gsX tb2)) hmX (cfgS_ok (knownI_ok h)) (fun _ _ => rfl) 3000 Tryz.func38 (by kernel_rfl)
end Go.Proofs.YtjcmjadimdokkaaGreatDoor
