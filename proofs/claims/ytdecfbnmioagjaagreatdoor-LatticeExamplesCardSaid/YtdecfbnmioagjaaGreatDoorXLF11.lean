/- What calls of the examples return. -/
import Derived.Test.YtdecfbnmioagjaaGreatDoorXLF0
namespace Go.Proofs.YtdecfbnmioagjaaGreatDoor
open Go Go.Proofs.YtdecfbnmioagjaaGreatDoor.Clean
set_option linter.unusedVariables false
set_option maxRecDepth 100000
theorem k46 (h : Facts Tryz.prog glX tb46) : KFX fa46 := K0_ranQ (cfg := cfgAll Tryz.prog glX clX (knownI gsX tb46)) hmX (cfgAll_ok (knownI_ok h)) (fun _ _ => rfl) 3000 Tryz.func19 (by kernel_rfl)
theorem k47 (h : Facts Tryz.prog glX tb47) : KFX fa47 := K0_ranQ (cfg := cfgAll Tryz.prog glX clX (knownI gsX tb47)) hmX (cfgAll_ok (knownI_ok h)) (fun _ _ => rfl) 3000 Tryz.func39 (by kernel_rfl)
theorem k48 (h : Facts Tryz.prog glX tb48) : KFX fa48 := K0_ranQ (cfg := cfgAll Tryz.prog glX clX (knownI gsX tb48)) hmX (cfgAll_ok (knownI_ok h)) (fun _ _ => rfl) 3000 Tryz.func21 (by kernel_rfl)
theorem k49 (h : Facts Tryz.prog glX tb49) : KFX fa49 := K0_ranQ (cfg := cfgAll Tryz.prog glX clX (knownI gsX tb49)) hmX (cfgAll_ok (knownI_ok h)) (fun _ _ => rfl) 3000 Tryz.func3 (by kernel_rfl)
end Go.Proofs.YtdecfbnmioagjaaGreatDoor
