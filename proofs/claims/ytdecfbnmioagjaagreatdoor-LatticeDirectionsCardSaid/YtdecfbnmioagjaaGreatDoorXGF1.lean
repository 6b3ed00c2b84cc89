/- What calls of the examples return. -/
import Derived.Test.YtdecfbnmioagjaaGreatDoorXGF0
namespace Go.Proofs.YtdecfbnmioagjaaGreatDoor
open Go Go.Proofs.YtdecfbnmioagjaaGreatDoor.Clean
set_option linter.unusedVariables false
set_option maxRecDepth 100000
theorem k0 (h : Facts Tryz.prog glX tb0) : KFX fa0 := K0_ranQ (cfg := cfgAll Tryz.prog glX clX (knownI gsX tb0)) hmX (cfgAll_ok (knownI_ok h)) (fun _ _ => rfl) 3000 Tryz.func38 (by kernel_rfl)
theorem k1 (h : Facts Tryz.prog glX tb1) : KFX fa1 := K0_ranQ (cfg := cfgAll Tryz.prog glX clX (knownI gsX tb1)) hmX (cfgAll_ok (knownI_ok h)) (fun _ _ => rfl) 3000 Tryz.func9 (by kernel_rfl)
theorem k2 (h : Facts Tryz.prog glX tb2) : KFX fa2 := K0_ranQ (cfg := cfgAll Tryz.prog glX clX (knownI gsX tb2)) hmX (cfgAll_ok (knownI_ok h)) (fun _ _ => rfl) 3000 Tryz.func60 (by kernel_rfl)
theorem k3 (h : Facts Tryz.prog glX tb3) : KFX fa3 := K0_ranQ (cfg := cfgAll Tryz.prog glX clX (knownI gsX tb3)) hmX (cfgAll_ok (knownI_ok h)) (fun _ _ => rfl) 3000 Tryz.func39 (by kernel_rfl)
theorem k4 (h : Facts Tryz.prog glX tb4) : KFX fa4 := K0_ranQ (cfg := cfgAll Tryz.prog glX clX (knownI gsX tb4)) hmX (cfgAll_ok (knownI_ok h)) (fun _ _ => rfl) 3000 Tryz.func11 (by kernel_rfl)
theorem k5 (h : Facts Tryz.prog glX tb5) : KFX fa5 := K0_ranQ (cfg := cfgAll Tryz.prog glX clX (knownI gsX tb5)) hmX (cfgAll_ok (knownI_ok h)) (fun _ _ => rfl) 3000 Tryz.func35 (by kernel_rfl)
theorem k6 (h : Facts Tryz.prog glX tb6) : KFX fa6 := K0_ranQ (cfg := cfgAll Tryz.prog glX clX (knownI gsX tb6)) hmX (cfgAll_ok (knownI_ok h)) (fun _ _ => rfl) 3000 Tryz.func34 (by kernel_rfl)
theorem k7 (h : Facts Tryz.prog glX tb7) : KFX fa7 := K0_ranQ (cfg := cfgAll Tryz.prog glX clX (knownI gsX tb7)) hmX (cfgAll_ok (knownI_ok h)) (fun _ _ => rfl) 3000 Tryz.func7 (by kernel_rfl)
theorem k8 (h : Facts Tryz.prog glX tb8) : KFX fa8 := K0_ranQ (cfg := cfgAll Tryz.prog glX clX (knownI gsX tb8)) hmX (cfgAll_ok (knownI_ok h)) (fun _ _ => rfl) 3000 Tryz.func60 (by kernel_rfl)
theorem k9 (h : Facts Tryz.prog glX tb9) : KFX fa9 := K0_ranQ (cfg := cfgAll Tryz.prog glX clX (knownI gsX tb9)) hmX (cfgAll_ok (knownI_ok h)) (fun _ _ => rfl) 3000 Tryz.func39 (by kernel_rfl)
theorem k10 (h : Facts Tryz.prog glX tb10) : KFX fa10 := K0_ranQ (cfg := cfgAll Tryz.prog glX clX (knownI gsX tb10)) hmX (cfgAll_ok (knownI_ok h)) (fun _ _ => rfl) 3000 Tryz.func41 (by kernel_rfl)
theorem k11 (h : Facts Tryz.prog glX tb11) : KFX fa11 := K0_ranQ (cfg := cfgAll Tryz.prog glX clX (knownI gsX tb11)) hmX (cfgAll_ok (knownI_ok h)) (fun _ _ => rfl) 3000 Tryz.func11 (by kernel_rfl)
theorem k12 (h : Facts Tryz.prog glX tb12) : KFX fa12 := K0_ranQ (cfg := cfgAll Tryz.prog glX clX (knownI gsX tb12)) hmX (cfgAll_ok (knownI_ok h)) (fun _ _ => rfl) 3000 Tryz.func59 (by kernel_rfl)
theorem k13 (h : Facts Tryz.prog glX tb13) : KFX fa13 := K0_ranQ (cfg := cfgAll Tryz.prog glX clX (knownI gsX tb13)) hmX (cfgAll_ok (knownI_ok h)) (fun _ _ => rfl) 3000 Tryz.func59 (by kernel_rfl)
theorem k14 (h : Facts Tryz.prog glX tb14) : KFX fa14 := K0_ranQ (cfg := cfgAll Tryz.prog glX clX (knownI gsX tb14)) hmX (cfgAll_ok (knownI_ok h)) (fun _ _ => rfl) 3000 Tryz.func59 (by kernel_rfl)
theorem k15 (h : Facts Tryz.prog glX tb15) : KFX fa15 := K0_ranQ (cfg := cfgAll Tryz.prog glX clX (knownI gsX tb15)) hmX (cfgAll_ok (knownI_ok h)) (fun _ _ => rfl) 3000 Tryz.func59 (by kernel_rfl)
theorem k16 (h : Facts Tryz.prog glX tb16) : KFX fa16 := K0_ranQ (cfg := cfgAll Tryz.prog glX clX (knownI gsX tb16)) hmX (cfgAll_ok (knownI_ok h)) (fun _ _ => rfl) 3000 Tryz.func59 (by kernel_rfl)
theorem k17 (h : Facts Tryz.prog glX tb17) : KFX fa17 := K0_ranQ (cfg := cfgAll Tryz.prog glX clX (knownI gsX tb17)) hmX (cfgAll_ok (knownI_ok h)) (fun _ _ => rfl) 3000 Tryz.func59 (by kernel_rfl)
theorem k18 (h : Facts Tryz.prog glX tb18) : KFX fa18 := K0_ranQ (cfg := cfgAll Tryz.prog glX clX (knownI gsX tb18)) hmX (cfgAll_ok (knownI_ok h)) (fun _ _ => rfl) 3000 Tryz.func59 (by kernel_rfl)
theorem k19 (h : Facts Tryz.prog glX tb19) : KFX fa19 := K0_ranQ (cfg := cfgAll Tryz.prog glX clX (knownI gsX tb19)) hmX (cfgAll_ok (knownI_ok h)) (fun _ _ => rfl) 3000 Tryz.func59 (by kernel_rfl)
end Go.Proofs.YtdecfbnmioagjaaGreatDoor
