/- What calls of the examples return. -/
import Derived.Test.YtjcmjadimdokkaaGreatDoorXSF0
namespace Go.Proofs.YtjcmjadimdokkaaGreatDoor
open Go Go.Proofs.YtjcmjadimdokkaaGreatDoor.Clean
set_option linter.unusedVariables false
set_option maxRecDepth 100000
theorem k13 (h : Facts Tryz.prog glX tb13) : KFX fa13 := K0_ranQ (cfg := cfgS (knownI gsX tb13)) hmX (cfgS_ok (knownI_ok h)) (fun _ _ => rfl) 3000 Tryz.func66 (by kernel_rfl)
theorem k14 (h : Facts Tryz.prog glX tb14) : KFX fa14 := K0_ranQ (cfg := cfgS (knownI gsX tb14)) hmX (cfgS_ok (knownI_ok h)) (fun _ _ => rfl) 3000 Tryz.func39 (by kernel_rfl)
theorem k15 (h : Facts Tryz.prog glX tb15) : KFX fa15 := K0_ranQ (cfg := cfgS (knownI gsX tb15)) hmX (cfgS_ok (knownI_ok h)) (fun _ _ => rfl) 3000 Tryz.func41 (by kernel_rfl)
theorem k16 (h : Facts Tryz.prog glX tb16) : KFX fa16 := K0_ranQ (cfg := cfgS (knownI gsX tb16)) hmX (cfgS_ok (knownI_ok h)) (fun _ _ => rfl) 3000 Tryz.func7 (by kernel_rfl)
end Go.Proofs.YtjcmjadimdokkaaGreatDoor
