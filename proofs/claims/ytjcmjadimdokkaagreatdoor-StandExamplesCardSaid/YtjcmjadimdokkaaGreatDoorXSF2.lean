/- What calls of the examples return. -/
import Derived.Test.YtjcmjadimdokkaaGreatDoorXSF0
namespace Go.Proofs.YtjcmjadimdokkaaGreatDoor
open Go Go.Proofs.YtjcmjadimdokkaaGreatDoor.Clean
set_option linter.unusedVariables false
set_option maxRecDepth 100000
theorem k3 (h : Facts Tryz.prog glX tb3) : KFX fa3 := K0_ranQ (cfg := cfgS (knownI gsX tb3)) hmX (cfgS_ok (knownI_ok h)) (fun _ _ => rfl) 3000 Tryz.func66 (by kernel_rfl)
theorem k4 (h : Facts Tryz.prog glX tb4) : KFX fa4 := K0_ranQ (cfg := cfgS (knownI gsX tb4)) hmX (cfgS_ok (knownI_ok h)) (fun _ _ => rfl) 3000 Tryz.func39 (by kernel_rfl)
theorem k5 (h : Facts Tryz.prog glX tb5) : KFX fa5 := K0_ranQ (cfg := cfgS (knownI gsX tb5)) hmX (cfgS_ok (knownI_ok h)) (fun _ _ => rfl) 3000 Tryz.func66 (by kernel_rfl)
theorem k6 (h : Facts Tryz.prog glX tb6) : KFX fa6 := K0_ranQ (cfg := cfgS (knownI gsX tb6)) hmX (cfgS_ok (knownI_ok h)) (fun _ _ => rfl) 3000 Tryz.func39 (by kernel_rfl)
end Go.Proofs.YtjcmjadimdokkaaGreatDoor
