/- What calls of the examples return. -/
import Derived.Test.YtdecfbnmioagjaaGreatDoorXLF0
namespace Go.Proofs.YtdecfbnmioagjaaGreatDoor
open Go Go.Proofs.YtdecfbnmioagjaaGreatDoor.Clean
set_option linter.unusedVariables false
set_option maxRecDepth 100000
theorem k31 (h : Facts Tryz.prog glX tb31) : KFX fa31 := K0_ranQ (cfg := cfgAll Tryz.prog glX clX (knownI gsX tb31)) hmX (cfgAll_ok (knownI_ok h)) (fun _ _ => rfl) 3000 Tryz.func42 (by kernel_rfl)
end Go.Proofs.YtdecfbnmioagjaaGreatDoor
