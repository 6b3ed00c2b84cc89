/- What calls of the examples return. -/
import Derived.Test.YtjcmjadimdokkaaGreatDoorXSF0
namespace Go.Proofs.YtjcmjadimdokkaaGreatDoor
open Go Go.Proofs.YtjcmjadimdokkaaGreatDoor.Clean
set_option linter.unusedVariables false
set_option maxRecDepth 100000
theorem k20 (h : Facts Tryz.prog glX tb20) : KFX fa20 := K0_ranQ (cfg := cfgS (knownI gsX tb20)) hmX (cfgS_ok (knownI_ok h)) (fun _ _ => rfl) 3000 Tryz.func66 (by kernel_rfl)
theorem k21 (h : Facts Tryz.prog glX tb21) : KFX fa21 := K0_ranQ (cfg := cfgS (knownI gsX tb21)) hmX (cfgS_ok (knownI_ok h)) (fun _ _ => rfl) 3000 Tryz.func39 (by kernel_rfl)
theorem k22 (h : Facts Tryz.prog glX tb22) : KFX fa22 := K0_ranQ (cfg := cfgS (knownI gsX tb22)) hmX (cfgS_ok (knownI_ok h)) (fun _ _ => rfl) 3000 Tryz.func41 (by kernel_rfl)
theorem k23 (h : Facts Tryz.prog glX tb23) : KFX fa23 := K0_ranQ (cfg := cfgS (knownI gsX tb23)) hmX (cfgS_ok (knownI_ok h)) (fun _ _ => rfl) 3000 Tryz.func8 (by kernel_rfl)
end Go.Proofs.YtjcmjadimdokkaaGreatDoor
