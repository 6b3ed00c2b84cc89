/- What calls of the examples return. -/
import Derived.Test.YtjcmjadimdokkaaGreatDoorXSF0
namespace Go.Proofs.YtjcmjadimdokkaaGreatDoor
open Go Go.Proofs.YtjcmjadimdokkaaGreatDoor.Clean
set_option linter.unusedVariables false
set_option maxRecDepth 100000
theorem k24 (h : Facts Tryz.prog glX tb24) : KFX fa24 := K0_ranQ (cfg := cfgS (knownI gsX tb24)) hmX (cfgS_ok (knownI_ok h)) (fun _ _ => rfl) 3000 Tryz.func8 (by kernel_rfl)
theorem k25 (h : Facts Tryz.prog glX tb25) : KFX fa25 := K0_ranQ (cfg := cfgS (knownI gsX tb25)) hmX (cfgS_ok (knownI_ok h)) (fun _ _ => rfl) 3000 Tryz.func8 (by kernel_rfl)
theorem k26 (h : Facts Tryz.prog glX tb26) : KFX fa26 := K0_ranQ (cfg := cfgS (knownI gsX tb26)) hmX (cfgS_ok (knownI_ok h)) (fun _ _ => rfl) 3000 Tryz.func4 (by kernel_rfl)
theorem k27 (h : Facts Tryz.prog glX tb27) : KFX fa27 := K0_ranQ (cfg := cfgS (knownI gsX tb27)) hmX (cfgS_ok (knownI_ok h)) (fun _ _ => rfl) 3000 Tryz.func7 (by kernel_rfl)
theorem k28 (h : Facts Tryz.prog glX tb28) : KFX fa28 := K0_ranQ (cfg := cfgS (knownI gsX tb28)) hmX (cfgS_ok (knownI_ok h)) (fun _ _ => rfl) 3000 Tryz.func7 (by kernel_rfl)
end Go.Proofs.YtjcmjadimdokkaaGreatDoor
