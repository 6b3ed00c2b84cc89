/- What calls of the examples return. -/
import Derived.Test.YtjcmjadimdokkaaGreatDoorXSF0
namespace Go.Proofs.YtjcmjadimdokkaaGreatDoor
open Go Go.Proofs.YtjcmjadimdokkaaGreatDoor.Clean
set_option linter.unusedVariables false
set_option maxRecDepth 100000
theorem k50 (h : Facts Tryz.prog glX tb50) : KFX fa50 := K0_ranQ (cfg := cfgS (knownI gsX tb50)) hmX (cfgS_ok (knownI_ok h)) (fun _ _ => rfl) 3000 Tryz.func12 (by kernel_rfl)
theorem k51 (h : Facts Tryz.prog glX tb51) : KFX fa51 := K0_ranQ (cfg := cfgS (knownI gsX tb51)) hmX (cfgS_ok (knownI_ok h)) (fun _ _ => rfl) 3000 Tryz.func15 (by kernel_rfl)
end Go.Proofs.YtjcmjadimdokkaaGreatDoor
