/- What calls of the examples return. -/
import Derived.Test.YtjcmjadimdokkaaGreatDoorXSF0
namespace Go.Proofs.YtjcmjadimdokkaaGreatDoor
open Go Go.Proofs.YtjcmjadimdokkaaGreatDoor.Clean
set_option linter.unusedVariables false
set_option maxRecDepth 100000
theorem k38 (h : Facts Tryz.prog glX tb38) : KFX fa38 := K0_ranQ (cfg := cfgS (knownI gsX tb38)) hmX (cfgS_ok (knownI_ok h)) (fun _ _ => rfl) 3000 Tryz.func65 (by kernel_rfl)
theorem k39 (h : Facts Tryz.prog glX tb39) : KFX fa39 := K0_ranQ (cfg := cfgS (knownI gsX tb39)) hmX (cfgS_ok (knownI_ok h)) (fun _ _ => rfl) 3000 Tryz.func38 (by kernel_rfl)
theorem k40 (h : Facts Tryz.prog glX tb40) : KFX fa40 := K0_ranQ (cfg := cfgS (knownI gsX tb40)) hmX (cfgS_ok (knownI_ok h)) (fun _ _ => rfl) 3000 Tryz.func66 (by kernel_rfl)
theorem k41 (h : Facts Tryz.prog glX tb41) : KFX fa41 := K0_ranQ (cfg := cfgS (knownI gsX tb41)) hmX (cfgS_ok (knownI_ok h)) (fun _ _ => rfl) 3000 Tryz.func39 (by kernel_rfl)
theorem k42 (h : Facts Tryz.prog glX tb42) : KFX fa42 := K0_ranQ (cfg := cfgS (knownI gsX tb42)) hmX (cfgS_ok (knownI_ok h)) (fun _ _ => rfl) 3000 Tryz.func71 (by kernel_rfl)
theorem k43 (h : Facts Tryz.prog glX tb43) : KFX fa43 := K0_ranQ (cfg := cfgS (knownI gsX tb43)) hmX (cfgS_ok (knownI_ok h)) (fun _ _ => rfl) 3000 Tryz.func72 (by kernel_rfl)
end Go.Proofs.YtjcmjadimdokkaaGreatDoor
