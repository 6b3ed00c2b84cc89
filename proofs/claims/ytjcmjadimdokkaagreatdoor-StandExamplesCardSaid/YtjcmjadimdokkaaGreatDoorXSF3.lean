/- What calls of the examples return. -/
import Derived.Test.YtjcmjadimdokkaaGreatDoorXSF0
namespace Go.Proofs.YtjcmjadimdokkaaGreatDoor
open Go Go.Proofs.YtjcmjadimdokkaaGreatDoor.Clean
set_option linter.unusedVariables false
set_option maxRecDepth 100000
theorem k7 (h : Facts Tryz.prog glX tb7) : KFX fa7 := K0_ranQ (cfg := cfgS (knownI gsX tb7)) hmX (cfgS_ok (knownI_ok h)) (fun _ _ => rfl) 3000 Tryz.func41 (by kernel_rfl)
theorem k8 (h : Facts Tryz.prog glX tb8) : KFX fa8 := K0_ranQ (cfg := cfgS (knownI gsX tb8)) hmX (cfgS_ok (knownI_ok h)) (fun _ _ => rfl) 3000 Tryz.func4 (by kernel_rfl)
theorem k9 (h : Facts Tryz.prog glX tb9) : KFX fa9 := K0_ranQ (cfg := cfgS (knownI gsX tb9)) hmX (cfgS_ok (knownI_ok h)) (fun _ _ => rfl) 3000 Tryz.func4 (by kernel_rfl)
theorem k10 (h : Facts Tryz.prog glX tb10) : KFX fa10 := K0_ranQ (cfg := cfgS (knownI gsX tb10)) hmX (cfgS_ok (knownI_ok h)) (fun _ _ => rfl) 3000 Tryz.func83 (by kernel_rfl)
theorem k11 (h : Facts Tryz.prog glX tb11) : KFX fa11 := K0_ranQ (cfg := cfgS (knownI gsX tb11)) hmX (cfgS_ok (knownI_ok h)) (fun _ _ => rfl) 3000 Tryz.func65 (by kernel_rfl)
theorem k12 (h : Facts Tryz.prog glX tb12) : KFX fa12 := K0_ranQ (cfg := cfgS (knownI gsX tb12)) hmX (cfgS_ok (knownI_ok h)) (fun _ _ => rfl) 3000 Tryz.func38 (by kernel_rfl)
end Go.Proofs.YtjcmjadimdokkaaGreatDoor
