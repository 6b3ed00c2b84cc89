/- What calls of the examples return. -/
import Derived.Test.YtdecfbnmioagjaaGreatDoorXLF0
namespace Go.Proofs.YtdecfbnmioagjaaGreatDoor
open Go Go.Proofs.YtdecfbnmioagjaaGreatDoor.Clean
set_option linter.unusedVariables false
set_option maxRecDepth 100000
theorem k17 (h : Facts Tryz.prog glX tb17) : KFX fa17 := K0_ranQ (cfg := cfgAll Tryz.prog glX clX (knownI gsX tb17)) hmX (cfgAll_ok (knownI_ok h)) (fun _ _ => rfl) 3000 Tryz.func59 (by kernel_rfl)
theorem k18 (h : Facts Tryz.prog glX tb18) : KFX fa18 := K0_ranQ (cfg := cfgAll Tryz.prog glX clX (knownI gsX tb18)) hmX (cfgAll_ok (knownI_ok h)) (fun _ _ => rfl) 3000 Tryz.func59 (by kernel_rfl)
theorem k19 (h : Facts Tryz.prog glX tb19) : KFX fa19 := K0_ranQ (cfg := cfgAll Tryz.prog glX clX (knownI gsX tb19)) hmX (cfgAll_ok (knownI_ok h)) (fun _ _ => rfl) 3000 Tryz.func59 (by kernel_rfl)
theorem k20 (h : Facts Tryz.prog glX tb20) : KFX fa20 := K0_ranQ (cfg := cfgAll Tryz.prog glX clX (knownI gsX tb20)) hmX (cfgAll_ok (knownI_ok h)) (fun _ _ => rfl) 3000 Tryz.func59 (by kernel_rfl)
end Go.Proofs.YtdecfbnmioagjaaGreatDoor
