/- What calls of the examples return. -/
import Derived.Test.YtdecfbnmioagjaaGreatDoorXLF0
namespace Go.Proofs.YtdecfbnmioagjaaGreatDoor
open Go Go.Proofs.YtdecfbnmioagjaaGreatDoor.Clean
set_option linter.unusedVariables false
set_option maxRecDepth 100000
theorem k21 (h : Facts Tryz.prog glX tb21) : KFX fa21 := K0_ranQ (cfg := cfgAll Tryz.prog glX clX (knownI gsX tb21)) hmX (cfgAll_ok (knownI_ok h)) (fun _ _ => rfl) 3000 Tryz.func59 (by kernel_rfl)
theorem k22 (h : Facts Tryz.prog glX tb22) : KFX fa22 := K0_ranQ (cfg := cfgAll Tryz.prog glX clX (knownI gsX tb22)) hmX (cfgAll_ok (knownI_ok h)) (fun _ _ => rfl) 3000 Tryz.func59 (by kernel_rfl)
theorem k23 (h : Facts Tryz.prog glX tb23) : KFX fa23 := K0_ranQ (cfg := cfgAll Tryz.prog glX clX (knownI gsX tb23)) hmX (cfgAll_ok (knownI_ok h)) (fun _ _ => rfl) 3000 Tryz.func59 (by kernel_rfl)
theorem k24 (h : Facts Tryz.prog glX tb24) : KFX fa24 := K0_ranQ (cfg := cfgAll Tryz.prog glX clX (knownI gsX tb24)) hmX (cfgAll_ok (knownI_ok h)) (fun _ _ => rfl) 3000 Tryz.func59 (by kernel_rfl)
end Go.Proofs.YtdecfbnmioagjaaGreatDoor
