/- What calls of the examples return. -/
import Derived.Test.YtdecfbnmioagjaaGreatDoorXLF0
namespace Go.Proofs.YtdecfbnmioagjaaGreatDoor
open Go Go.Proofs.YtdecfbnmioagjaaGreatDoor.Clean
set_option linter.unusedVariables false
set_option maxRecDepth 100000
theorem k5 (h : Facts Tryz.prog glX tb5) : KFX fa5 := K0_ranQ (cfg := cfgAll Tryz.prog glX clX (knownI gsX tb5)) hmX (cfgAll_ok (knownI_ok h)) (fun _ _ => rfl) 3000 Tryz.func35 (by kernel_rfl)
theorem k6 (h : Facts Tryz.prog glX tb6) : KFX fa6 := K0_ranQ (cfg := cfgAll Tryz.prog glX clX (knownI gsX tb6)) hmX (cfgAll_ok (knownI_ok h)) (fun _ _ => rfl) 3000 Tryz.func34 (by kernel_rfl)
theorem k7 (h : Facts Tryz.prog glX tb7) : KFX fa7 := K0_ranQ (cfg := cfgAll Tryz.prog glX clX (knownI gsX tb7)) hmX (cfgAll_ok (knownI_ok h)) (fun _ _ => rfl) 3000 Tryz.func7 (by kernel_rfl)
theorem k8 (h : Facts Tryz.prog glX tb8) : KFX fa8 := K0_ranQ (cfg := cfgAll Tryz.prog glX clX (knownI gsX tb8)) hmX (cfgAll_ok (knownI_ok h)) (fun _ _ => rfl) 3000 Tryz.func60 (by kernel_rfl)
theorem k9 (h : Facts Tryz.prog glX tb9) : KFX fa9 := K0_ranQ (cfg := cfgAll Tryz.prog glX clX (knownI gsX tb9)) hmX (cfgAll_ok (knownI_ok h)) (fun _ _ => rfl) 3000 Tryz.func39 (by kernel_rfl)
theorem k10 (h : Facts Tryz.prog glX tb10) : KFX fa10 := K0_ranQ (cfg := cfgAll Tryz.prog glX clX (knownI gsX tb10)) hmX (cfgAll_ok (knownI_ok h)) (fun _ _ => rfl) 3000 Tryz.func41 (by kernel_rfl)
theorem k11 (h : Facts Tryz.prog glX tb11) : KFX fa11 := K0_ranQ (cfg := cfgAll Tryz.prog glX clX (knownI gsX tb11)) hmX (cfgAll_ok (knownI_ok h)) (fun _ _ => rfl) 3000 Tryz.func11 (by kernel_rfl)
end Go.Proofs.YtdecfbnmioagjaaGreatDoor
