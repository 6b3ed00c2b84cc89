/- What calls of the examples return. -/
import Derived.Test.YtjcmjadimdokkaaGreatDoorXSF0
namespace Go.Proofs.YtjcmjadimdokkaaGreatDoor
open Go Go.Proofs.YtjcmjadimdokkaaGreatDoor.Clean
set_option linter.unusedVariables false
set_option maxRecDepth 100000
theorem k17 (h : Facts Tryz.prog glX tb17) : KFX fa17 := K0_ranQ (cfg := cfgS (knownI gsX tb17)) hmX (cfgS_ok (knownI_ok h)) (fun _ _ => rfl) 3000 Tryz.func83 (by kernel_rfl)
theorem k18 (h : Facts Tryz.prog glX tb18) : KFX fa18 := K0_ranQ (cfg := cfgS (knownI gsX tb18)) hmX (cfgS_ok (knownI_ok h)) (fun _ _ => rfl) 3000 Tryz.func65 (by kernel_rfl)
theorem k19 (h : Facts Tryz.prog glX tb19) : KFX fa19 := K0_ranQ (cfg := cfgS (knownI gsX tb19)) hmX (cfgS_ok (knownI_ok h)) (fun _ _ => rfl) 3000 Tryz.func38 (by kernel_rfl)
end Go.Proofs.YtjcmjadimdokkaaGreatDoor
