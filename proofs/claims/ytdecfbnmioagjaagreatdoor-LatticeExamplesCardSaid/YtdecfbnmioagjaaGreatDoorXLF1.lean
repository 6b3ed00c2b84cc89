/- What calls of the examples return. -/
import Derived.Test.YtdecfbnmioagjaaGreatDoorXLF0
namespace Go.Proofs.YtdecfbnmioagjaaGreatDoor
open Go Go.Proofs.YtdecfbnmioagjaaGreatDoor.Clean
set_option linter.unusedVariables false
set_option maxRecDepth 100000
theorem k0 (h : Facts Tryz.prog glX tb0) : KFX fa0 := K0_ranQ (cfg := cfgAll Tryz.prog glX clX (knownI gsX tb0)) hmX (cfgAll_ok (knownI_ok h)) (fun _ _ => rfl) 3000 Tryz.func38 (by kernel_rfl)
theorem k1 (h : Facts Tryz.prog glX tb1) : KFX fa1 := K0_ranQ (cfg := cfgAll Tryz.prog glX clX (knownI gsX tb1)) hmX (cfgAll_ok (knownI_ok h)) (fun _ _ => rfl) 3000 Tryz.func9 (by kernel_rfl)
theorem k2 (h : Facts Tryz.prog glX tb2) : KFX fa2 := K0_ranQ (cfg := cfgAll Tryz.prog glX clX (knownI gsX tb2)) hmX (cfgAll_ok (knownI_ok h)) (fun _ _ => rfl) 3000 Tryz.func60 (by kernel_rfl)
theorem k3 (h : Facts Tryz.prog glX tb3) : KFX fa3 := K0_ranQ (cfg := cfgAll Tryz.prog glX clX (knownI gsX tb3)) hmX (cfgAll_ok (knownI_ok h)) (fun _ _ => rfl) 3000 Tryz.func39 (by kernel_rfl)
theorem k4 (h : Facts Tryz.prog glX tb4) : KFX fa4 := K0_ranQ (cfg := cfgAll Tryz.prog glX clX (knownI gsX tb4)) hmX (cfgAll_ok (knownI_ok h)) (fun _ _ => rfl) 3000 Tryz.func11 (by kernel_rfl)
end Go.Proofs.YtdecfbnmioagjaaGreatDoor
