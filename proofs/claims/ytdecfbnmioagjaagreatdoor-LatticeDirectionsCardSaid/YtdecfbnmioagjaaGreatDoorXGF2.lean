/- What calls of the examples return. -/
import Derived.Test.YtdecfbnmioagjaaGreatDoorXGF0
namespace Go.Proofs.YtdecfbnmioagjaaGreatDoor
open Go Go.Proofs.YtdecfbnmioagjaaGreatDoor.Clean
set_option linter.unusedVariables false
set_option maxRecDepth 100000
theorem k20 (h : Facts Tryz.prog glX tb20) : KFX fa20 := K0_ranQ (cfg := cfgAll Tryz.prog glX clX (knownI gsX tb20)) hmX (cfgAll_ok (knownI_ok h)) (fun _ _ => rfl) 3000 Tryz.func59 (by kernel_rfl)
theorem k21 (h : Facts Tryz.prog glX tb21) : KFX fa21 := K0_ranQ (cfg := cfgAll Tryz.prog glX clX (knownI gsX tb21)) hmX (cfgAll_ok (knownI_ok h)) (fun _ _ => rfl) 3000 Tryz.func59 (by kernel_rfl)
theorem k22 (h : Facts Tryz.prog glX tb22) : KFX fa22 := K0_ranQ (cfg := cfgAll Tryz.prog glX clX (knownI gsX tb22)) hmX (cfgAll_ok (knownI_ok h)) (fun _ _ => rfl) 3000 Tryz.func59 (by kernel_rfl)
theorem k23 (h : Facts Tryz.prog glX tb23) : KFX fa23 := K0_ranQ (cfg := cfgAll Tryz.prog glX clX (knownI gsX tb23)) hmX (cfgAll_ok (knownI_ok h)) (fun _ _ => rfl) 3000 Tryz.func59 (by kernel_rfl)
theorem k24 (h : Facts Tryz.prog glX tb24) : KFX fa24 := K0_ranQ (cfg := cfgAll Tryz.prog glX clX (knownI gsX tb24)) hmX (cfgAll_ok (knownI_ok h)) (fun _ _ => rfl) 3000 Tryz.func59 (by kernel_rfl)
theorem k25 (h : Facts Tryz.prog glX tb25) : KFX fa25 := K0_ranQ (cfg := cfgAll Tryz.prog glX clX (knownI gsX tb25)) hmX (cfgAll_ok (knownI_ok h)) (fun _ _ => rfl) 3000 Tryz.func59 (by kernel_rfl)
theorem k26 (h : Facts Tryz.prog glX tb26) : KFX fa26 := K0_ranQ (cfg := cfgAll Tryz.prog glX clX (knownI gsX tb26)) hmX (cfgAll_ok (knownI_ok h)) (fun _ _ => rfl) 3000 Tryz.func59 (by kernel_rfl)
theorem k27 (h : Facts Tryz.prog glX tb27) : KFX fa27 := K0_ranQ (cfg := cfgAll Tryz.prog glX clX (knownI gsX tb27)) hmX (cfgAll_ok (knownI_ok h)) (fun _ _ => rfl) 3000 Tryz.func59 (by kernel_rfl)
theorem k28 (h : Facts Tryz.prog glX tb28) : KFX fa28 := K0_ranQ (cfg := cfgAll Tryz.prog glX clX (knownI gsX tb28)) hmX (cfgAll_ok (knownI_ok h)) (fun _ _ => rfl) 3000 Tryz.func59 (by kernel_rfl)
theorem k29 (h : Facts Tryz.prog glX tb29) : KFX fa29 := K0_ranQ (cfg := cfgAll Tryz.prog glX clX (knownI gsX tb29)) hmX (cfgAll_ok (knownI_ok h)) (fun _ _ => rfl) 3000 Tryz.func59 (by kernel_rfl)
theorem k30 (h : Facts Tryz.prog glX tb30) : KFX fa30 := K0_ranQ (cfg := cfgAll Tryz.prog glX clX (knownI gsX tb30)) hmX (cfgAll_ok (knownI_ok h)) (fun _ _ => rfl) 3000 Tryz.func59 (by kernel_rfl)
end Go.Proofs.YtdecfbnmioagjaaGreatDoor
