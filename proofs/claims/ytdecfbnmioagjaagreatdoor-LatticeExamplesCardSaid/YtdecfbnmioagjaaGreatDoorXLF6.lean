/- What calls of the examples return. -/
import Derived.Test.YtdecfbnmioagjaaGreatDoorXLF0
namespace Go.Proofs.YtdecfbnmioagjaaGreatDoor
open Go Go.Proofs.YtdecfbnmioagjaaGreatDoor.Clean
set_option linter.unusedVariables false
set_option maxRecDepth 100000
theorem k25 (h : Facts Tryz.prog glX tb25) : KFX fa25 := K0_ranQ (cfg := cfgAll Tryz.prog glX clX (knownI gsX tb25)) hmX (cfgAll_ok (knownI_ok h)) (fun _ _ => rfl) 3000 Tryz.func59 (by kernel_rfl)
theorem k26 (h : Facts Tryz.prog glX tb26) : KFX fa26 := K0_ranQ (cfg := cfgAll Tryz.prog glX clX (knownI gsX tb26)) hmX (cfgAll_ok (knownI_ok h)) (fun _ _ => rfl) 3000 Tryz.func59 (by kernel_rfl)
theorem k27 (h : Facts Tryz.prog glX tb27) : KFX fa27 := K0_ranQ (cfg := cfgAll Tryz.prog glX clX (knownI gsX tb27)) hmX (cfgAll_ok (knownI_ok h)) (fun _ _ => rfl) 3000 Tryz.func59 (by kernel_rfl)
theorem k28 (h : Facts Tryz.prog glX tb28) : KFX fa28 := K0_ranQ (cfg := cfgAll Tryz.prog glX clX (knownI gsX tb28)) hmX (cfgAll_ok (knownI_ok h)) (fun _ _ => rfl) 3000 Tryz.func59 (by kernel_rfl)
end Go.Proofs.YtdecfbnmioagjaaGreatDoor
