/- What calls of the examples return. -/
import Derived.Test.YtjcmjadimdokkaaGreatDoorXSF0
namespace Go.Proofs.YtjcmjadimdokkaaGreatDoor
open Go Go.Proofs.YtjcmjadimdokkaaGreatDoor.Clean
set_option linter.unusedVariables false
set_option maxRecDepth 100000
theorem k37 (h : Facts Tryz.prog glX tb37) : KFX fa37 := K0_ranQ (cfg := cfgS (knownI gsX tb37)) hmX (cfgS_ok (knownI_ok h)) (fun _ _ => rfl) 3000 Tryz.func83 (by kernel_rfl)
end Go.Proofs.YtjcmjadimdokkaaGreatDoor
