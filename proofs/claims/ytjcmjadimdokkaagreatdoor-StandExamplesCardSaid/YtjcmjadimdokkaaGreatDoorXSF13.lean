/- What calls of the examples return. -/
import Derived.Test.YtjcmjadimdokkaaGreatDoorXSF0
namespace Go.Proofs.YtjcmjadimdokkaaGreatDoor
open Go Go.Proofs.YtjcmjadimdokkaaGreatDoor.Clean
set_option linter.unusedVariables false
set_option maxRecDepth 100000
theorem k44 (h : Facts Tryz.prog glX tb44) : KFX fa44 := K0_ranQ (cfg := cfgS (knownI gsX tb44)) hmX (cfgS_ok (knownI_ok h)) (fun _ _ => rfl) 3000 Tryz.func26 (by kernel_rfl)
theorem k45 (h : Facts Tryz.prog glX tb45) : KFX fa45 := K0_ranQ (cfg := cfgS (knownI gsX tb45)) hmX (cfgS_ok (knownI_ok h)) (fun _ _ => rfl) 3000 Tryz.func12 (by kernel_rfl)
end Go.Proofs.YtjcmjadimdokkaaGreatDoor
