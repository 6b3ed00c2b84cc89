/- What calls of the examples return. -/
import Derived.Test.YtdecfbnmioagjaaGreatDoorXGF0
namespace Go.Proofs.YtdecfbnmioagjaaGreatDoor
open Go Go.Proofs.YtdecfbnmioagjaaGreatDoor.Clean
set_option linter.unusedVariables false
set_option maxRecDepth 100000
theorem k31 (h : Facts Tryz.prog glX tb31) : KFX fa31 := K0_ranQ (cfg := cfgAll Tryz.prog glX clX (knownI gsX tb31)) hmX (cfgAll_ok (knownI_ok h)) (fun _ _ => rfl) 3000 Tryz.func42 (by kernel_rfl)
theorem k32 (h : Facts Tryz.prog glX tb32) : KFX fa32 := K0_ranQ (cfg := cfgAll Tryz.prog glX clX (knownI gsX tb32)) hmX (cfgAll_ok (knownI_ok h)) (fun _ _ => rfl) 3000 Tryz.func59 (by kernel_rfl)
theorem k33 (h : Facts Tryz.prog glX tb33) : KFX fa33 := K0_ranQ (cfg := cfgAll Tryz.prog glX clX (knownI gsX tb33)) hmX (cfgAll_ok (knownI_ok h)) (fun _ _ => rfl) 3000 Tryz.func38 (by kernel_rfl)
theorem k34 (h : Facts Tryz.prog glX tb34) : KFX fa34 := K0_ranQ (cfg := cfgAll Tryz.prog glX clX (knownI gsX tb34)) hmX (cfgAll_ok (knownI_ok h)) (fun _ _ => rfl) 3000 Tryz.func43 (by kernel_rfl)
theorem k35 (h : Facts Tryz.prog glX tb35) : KFX fa35 := K0_ranQ (cfg := cfgAll Tryz.prog glX clX (knownI gsX tb35)) hmX (cfgAll_ok (knownI_ok h)) (fun _ _ => rfl) 3000 Tryz.func60 (by kernel_rfl)
theorem k36 (h : Facts Tryz.prog glX tb36) : KFX fa36 := K0_ranQ (cfg := cfgAll Tryz.prog glX clX (knownI gsX tb36)) hmX (cfgAll_ok (knownI_ok h)) (fun _ _ => rfl) 3000 Tryz.func44 (by kernel_rfl)
theorem k37 (h : Facts Tryz.prog glX tb37) : KFX fa37 := K0_ranQ (cfg := cfgAll Tryz.prog glX clX (knownI gsX tb37)) hmX (cfgAll_ok (knownI_ok h)) (fun _ _ => rfl) 3000 Tryz.func13 (by kernel_rfl)
theorem k38 (h : Facts Tryz.prog glX tb38) : KFX fa38 := K0_ranQ (cfg := cfgAll Tryz.prog glX clX (knownI gsX tb38)) hmX (cfgAll_ok (knownI_ok h)) (fun _ _ => rfl) 3000 Tryz.func60 (by kernel_rfl)
theorem k39 (h : Facts Tryz.prog glX tb39) : KFX fa39 := K0_ranQ (cfg := cfgAll Tryz.prog glX clX (knownI gsX tb39)) hmX (cfgAll_ok (knownI_ok h)) (fun _ _ => rfl) 3000 Tryz.func39 (by kernel_rfl)
theorem k40 (h : Facts Tryz.prog glX tb40) : KFX fa40 := K0_ranQ (cfg := cfgAll Tryz.prog glX clX (knownI gsX tb40)) hmX (cfgAll_ok (knownI_ok h)) (fun _ _ => rfl) 3000 Tryz.func17 (by kernel_rfl)
theorem k41 (h : Facts Tryz.prog glX tb41) : KFX fa41 := K0_ranQ (cfg := cfgAll Tryz.prog glX clX (knownI gsX tb41)) hmX (cfgAll_ok (knownI_ok h)) (fun _ _ => rfl) 3000 Tryz.func60 (by kernel_rfl)
theorem k42 (h : Facts Tryz.prog glX tb42) : KFX fa42 := K0_ranQ (cfg := cfgAll Tryz.prog glX clX (knownI gsX tb42)) hmX (cfgAll_ok (knownI_ok h)) (fun _ _ => rfl) 3000 Tryz.func39 (by kernel_rfl)
theorem k43 (h : Facts Tryz.prog glX tb43) : KFX fa43 := K0_ranQ (cfg := cfgAll Tryz.prog glX clX (knownI gsX tb43)) hmX (cfgAll_ok (knownI_ok h)) (fun _ _ => rfl) 3000 Tryz.func18 (by kernel_rfl)
end Go.Proofs.YtdecfbnmioagjaaGreatDoor
