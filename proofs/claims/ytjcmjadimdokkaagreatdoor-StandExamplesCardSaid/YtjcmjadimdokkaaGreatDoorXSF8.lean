/- What calls of the examples return. -/
import Derived.Test.YtjcmjadimdokkaaGreatDoorXSF0
namespace Go.Proofs.YtjcmjadimdokkaaGreatDoor
open Go Go.Proofs.YtjcmjadimdokkaaGreatDoor.Clean
set_option linter.unusedVariables false
set_option maxRecDepth 100000
theorem k29 (h : Facts Tryz.prog glX tb29) : KFX fa29 := K0_ranQ (cfg := cfgS (knownI gsX tb29)) hmX (cfgS_ok (knownI_ok h)) (fun _ _ => rfl) 3000 Tryz.func13 (by kernel_rfl)
theorem k30 (h : Facts Tryz.prog glX tb30) : KFX fa30 := K0_ranQ (cfg := cfgS (knownI gsX tb30)) hmX (cfgS_ok (knownI_ok h)) (fun _ _ => rfl) 3000 Tryz.func71 (by kernel_rfl)
theorem k31 (h : Facts Tryz.prog glX tb31) : KFX fa31 := K0_ranQ (cfg := cfgS (knownI gsX tb31)) hmX (cfgS_ok (knownI_ok h)) (fun _ _ => rfl) 3000 Tryz.func71 (by kernel_rfl)
theorem k32 (h : Facts Tryz.prog glX tb32) : KFX fa32 := K0_ranQ (cfg := cfgS (knownI gsX tb32)) hmX (cfgS_ok (knownI_ok h)) (fun _ _ => rfl) 3000 Tryz.func72 (by kernel_rfl)
theorem k33 (h : Facts Tryz.prog glX tb33) : KFX fa33 := K0_ranQ (cfg := cfgS (knownI gsX tb33)) hmX (cfgS_ok (knownI_ok h)) (fun _ _ => rfl) 3000 Tryz.func25 (by kernel_rfl)
end Go.Proofs.YtjcmjadimdokkaaGreatDoor
