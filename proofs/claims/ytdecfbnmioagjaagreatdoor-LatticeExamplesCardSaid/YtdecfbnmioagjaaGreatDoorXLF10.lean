/- What calls of the examples return. -/
import Derived.Test.YtdecfbnmioagjaaGreatDoorXLF0
namespace Go.Proofs.YtdecfbnmioagjaaGreatDoor
open Go Go.Proofs.YtdecfbnmioagjaaGreatDoor.Clean
set_option linter.unusedVariables false
set_option maxRecDepth 100000
theorem k38 (h : Facts Tryz.prog glX tb38) : KFX fa38 := K0_ranQ (cfg := cfgAll Tryz.prog glX clX (knownI gsX tb38)) hmX (cfgAll_ok (knownI_ok h)) (fun _ _ => rfl) 3000 Tryz.func60 (by kernel_rfl)
theorem k39 (h : Facts Tryz.prog glX tb39) : KFX fa39 := K0_ranQ (cfg := cfgAll Tryz.prog glX clX (knownI gsX tb39)) hmX (cfgAll_ok (knownI_ok h)) (fun _ _ => rfl) 3000 Tryz.func39 (by kernel_rfl)
theorem k40 (h : Facts Tryz.prog glX tb40) : KFX fa40 := K0_ranQ (cfg := cfgAll Tryz.prog glX clX (knownI gsX tb40)) hmX (cfgAll_ok (knownI_ok h)) (fun _ _ => rfl) 3000 Tryz.func17 (by kernel_rfl)
theorem k41 (h : Facts Tryz.prog glX tb41) : KFX fa41 := K0_ranQ (cfg := cfgAll Tryz.prog glX clX (knownI gsX tb41)) hmX (cfgAll_ok (knownI_ok h)) (fun _ _ => rfl) 3000 Tryz.func60 (by kernel_rfl)
theorem k42 (h : Facts Tryz.prog glX tb42) : KFX fa42 := K0_ranQ (cfg := cfgAll Tryz.prog glX clX (knownI gsX tb42)) hmX (cfgAll_ok (knownI_ok h)) (fun _ _ => rfl) 3000 Tryz.func39 (by kernel_rfl)
theorem k43 (h : Facts Tryz.prog glX tb43) : KFX fa43 := K0_ranQ (cfg := cfgAll Tryz.prog glX clX (knownI gsX tb43)) hmX (cfgAll_ok (knownI_ok h)) (fun _ _ => rfl) 3000 Tryz.func18 (by kernel_rfl)
theorem k44 (h : Facts Tryz.prog glX tb44) : KFX fa44 := K0_ranQ (cfg := cfgAll Tryz.prog glX clX (knownI gsX tb44)) hmX (cfgAll_ok (knownI_ok h)) (fun _ _ => rfl) 3000 Tryz.func21 (by kernel_rfl)
theorem k45 (h : Facts Tryz.prog glX tb45) : KFX fa45 := K0_ranQ (cfg := cfgAll Tryz.prog glX clX (knownI gsX tb45)) hmX (cfgAll_ok (knownI_ok h)) (fun _ _ => rfl) 3000 Tryz.func19 (by kernel_rfl)
end Go.Proofs.YtdecfbnmioagjaaGreatDoor
