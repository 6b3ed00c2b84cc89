/- What calls of the examples return. -/
import Derived.Test.YtjcmjadimdokkaaGreatDoorXSF0
namespace Go.Proofs.YtjcmjadimdokkaaGreatDoor
open Go Go.Proofs.YtjcmjadimdokkaaGreatDoor.Clean
set_option linter.unusedVariables false
set_option maxRecDepth 100000
theorem k48 (h : Facts Tryz.prog glX tb48) : KFX fa48 := K0_ranQ (cfg := cfgS (knownI gsX tb48)) hmX (cfgS_ok (knownI_ok h)) (fun _ _ => rfl) 3000 Tryz.func14 (by kernel_rfl)
theorem k49 (h : Facts Tryz.prog glX tb49) : KFX fa49 := K0_ranQ (cfg := cfgS (knownI gsX tb49)) hmX (cfgS_ok (knownI_ok h)) (fun _ _ => rfl) 3000 Tryz.func14 (by kernel_rfl)
end Go.Proofs.YtjcmjadimdokkaaGreatDoor
