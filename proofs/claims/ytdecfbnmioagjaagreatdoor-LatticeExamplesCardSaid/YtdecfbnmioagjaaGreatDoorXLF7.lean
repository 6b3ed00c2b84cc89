/- What calls of the examples return. -/
import Derived.Test.YtdecfbnmioagjaaGreatDoorXLF0
namespace Go.Proofs.YtdecfbnmioagjaaGreatDoor
open Go Go.Proofs.YtdecfbnmioagjaaGreatDoor.Clean
set_option linter.unusedVariables false
set_option maxRecDepth 100000
theorem k29 (h : Facts Tryz.prog glX tb29) : KFX fa29 := K0_ranQ (cfg := cfgAll Tryz.prog glX clX (knownI gsX tb29)) hmX (cfgAll_ok (knownI_ok h)) (fun _ _ => rfl) 3000 Tryz.func59 (by kernel_rfl)
theorem k30 (h : Facts Tryz.prog glX tb30) : KFX fa30 := K0_ranQ (cfg := cfgAll Tryz.prog glX clX (knownI gsX tb30)) hmX (cfgAll_ok (knownI_ok h)) (fun _ _ => rfl) 3000 Tryz.func59 (by kernel_rfl)
end Go.Proofs.YtdecfbnmioagjaaGreatDoor
