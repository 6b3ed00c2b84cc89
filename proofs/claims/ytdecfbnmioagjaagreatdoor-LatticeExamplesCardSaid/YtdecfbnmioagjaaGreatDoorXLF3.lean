/- What calls of the examples return. -/
import Derived.Test.YtdecfbnmioagjaaGreatDoorXLF0
namespace Go.Proofs.YtdecfbnmioagjaaGreatDoor
open Go Go.Proofs.YtdecfbnmioagjaaGreatDoor.Clean
set_option linter.unusedVariables false
set_option maxRecDepth 100000
theorem k12 (h : Facts Tryz.prog glX tb12) : KFX fa12 := K0_ranQ (cfg := cfgAll Tryz.prog glX clX (knownI gsX tb12)) hmX (cfgAll_ok (knownI_ok h)) (fun _ _ => rfl) 3000 Tryz.func59 (by kernel_rfl)
theorem k13 (h : Facts Tryz.prog glX tb13) : KFX fa13 := K0_ranQ (cfg := cfgAll Tryz.prog glX clX (knownI gsX tb13)) hmX (cfgAll_ok (knownI_ok h)) (fun _ _ => rfl) 3000 Tryz.func59 (by kernel_rfl)
theorem k14 (h : Facts Tryz.prog glX tb14) : KFX fa14 := K0_ranQ (cfg := cfgAll Tryz.prog glX clX (knownI gsX tb14)) hmX (cfgAll_ok (knownI_ok h)) (fun _ _ => rfl) 3000 Tryz.func59 (by kernel_rfl)
theorem k15 (h : Facts Tryz.prog glX tb15) : KFX fa15 := K0_ranQ (cfg := cfgAll Tryz.prog glX clX (knownI gsX tb15)) hmX (cfgAll_ok (knownI_ok h)) (fun _ _ => rfl) 3000 Tryz.func59 (by kernel_rfl)
theorem k16 (h : Facts Tryz.prog glX tb16) : KFX fa16 := K0_ranQ (cfg := cfgAll Tryz.prog glX clX (knownI gsX tb16)) hmX (cfgAll_ok (knownI_ok h)) (fun _ _ => rfl) 3000 Tryz.func59 (by kernel_rfl)
end Go.Proofs.YtdecfbnmioagjaaGreatDoor
