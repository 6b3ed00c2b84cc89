/- What calls of the examples return. -/
import Derived.Test.YtjcmjadimdokkaaGreatDoorXSF0
namespace Go.Proofs.YtjcmjadimdokkaaGreatDoor
open Go Go.Proofs.YtjcmjadimdokkaaGreatDoor.Clean
set_option linter.unusedVariables false
set_option maxRecDepth 100000
theorem k34 (h : Facts Tryz.prog glX tb34) : KFX fa34 := K0_ranQ (cfg := cfgS (knownI gsX tb34)) hmX (cfgS_ok (knownI_ok h)) (fun _ _ => rfl) 3000 Tryz.func14 (by kernel_rfl)
theorem k35 (h : Facts Tryz.prog glX tb35) : KFX fa35 := K0_ranQ (cfg := cfgS (knownI gsX tb35)) hmX (cfgS_ok (knownI_ok h)) (fun _ _ => rfl) 3000 Tryz.func51 (by kernel_rfl)
end Go.Proofs.YtjcmjadimdokkaaGreatDoor
