/- What calls of the examples return. -/
import Derived.Test.YtnplldjabhnloabXHF0
namespace Go.Proofs.Ytnplldjabhnloab
open Go Go.Proofs.Ytnplldjabhnloab.Clean
set_option linter.unusedVariables false
set_option maxRecDepth 100000
theorem k1 (h : Facts Try.prog glX tb1) : KFX fa1 := K0_ranQ (cfg := cfgAll Try.prog glX clX (knownI gsX tb1)) hmX (cfgAll_ok (knownI_ok h)) (fun _ _ => rfl) 3000 Try.func5 (by kernel_rfl)
theorem k2 (h : Facts Try.prog glX tb2) : KFX fa2 := K0_ranQ (cfg := cfgAll Try.prog glX clX (knownI gsX tb2)) hmX (cfgAll_ok (knownI_ok h)) (fun _ _ => rfl) 3000 Try.func14 (by kernel_rfl)
theorem k3 (h : Facts Try.prog glX tb3) : KFX fa3 := K0_ranQ (cfg := cfgAll Try.prog glX clX (knownI gsX tb3)) hmX (cfgAll_ok (knownI_ok h)) (fun _ _ => rfl) 3000 Try.func15 (by kernel_rfl)
theorem k4 (h : Facts Try.prog glX tb4) : KFX fa4 := K0_ranQ (cfg := cfgAll Try.prog glX clX (knownI gsX tb4)) hmX (cfgAll_ok (knownI_ok h)) (fun _ _ => rfl) 3000 Try.func30 (by kernel_rfl)
theorem k5 (h : Facts Try.prog glX tb5) : KFX fa5 := K0_ranQ (cfg := cfgAll Try.prog glX clX (knownI gsX tb5)) hmX (cfgAll_ok (knownI_ok h)) (fun _ _ => rfl) 3000 Try.func31 (by kernel_rfl)
theorem k6 (h : Facts Try.prog glX tb6) : KFX fa6 := K0_ranQ (cfg := cfgAll Try.prog glX clX (knownI gsX tb6)) hmX (cfgAll_ok (knownI_ok h)) (fun _ _ => rfl) 3000 Try.func10 (by kernel_rfl)
theorem k7 (h : Facts Try.prog glX tb7) : KFX fa7 := K0_ranQ (cfg := cfgAll Try.prog glX clX (knownI gsX tb7)) hmX (cfgAll_ok (knownI_ok h)) (fun _ _ => rfl) 3000 Try.func30 (by kernel_rfl)
theorem k8 (h : Facts Try.prog glX tb8) : KFX fa8 := K0_ranQ (cfg := cfgAll Try.prog glX clX (knownI gsX tb8)) hmX (cfgAll_ok (knownI_ok h)) (fun _ _ => rfl) 3000 Try.func31 (by kernel_rfl)
theorem k9 (h : Facts Try.prog glX tb9) : KFX fa9 := K0_ranQ (cfg := cfgAll Try.prog glX clX (knownI gsX tb9)) hmX (cfgAll_ok (knownI_ok h)) (fun _ _ => rfl) 3000 Try.func10 (by kernel_rfl)
theorem k10 (h : Facts Try.prog glX tb10) : KFX fa10 := K0_ranQ (cfg := cfgAll Try.prog glX clX (knownI gsX tb10)) hmX (cfgAll_ok (knownI_ok h)) (fun _ _ => rfl) 3000 Try.func16 (by kernel_rfl)
theorem k11 (h : Facts Try.prog glX tb11) : KFX fa11 := K0_ranQ (cfg := cfgAll Try.prog glX clX (knownI gsX tb11)) hmX (cfgAll_ok (knownI_ok h)) (fun _ _ => rfl) 3000 Try.func8 (by kernel_rfl)
theorem k12 (h : Facts Try.prog glX tb12) : KFX fa12 := K0_ranQ (cfg := cfgAll Try.prog glX clX (knownI gsX tb12)) hmX (cfgAll_ok (knownI_ok h)) (fun _ _ => rfl) 3000 Try.func11 (by kernel_rfl)
theorem k13 (h : Facts Try.prog glX tb13) : KFX fa13 := K0_ranQ (cfg := cfgAll Try.prog glX clX (knownI gsX tb13)) hmX (cfgAll_ok (knownI_ok h)) (fun _ _ => rfl) 3000 Try.func11 (by kernel_rfl)
theorem k14 (h : Facts Try.prog glX tb14) : KFX fa14 := K0_ranQ (cfg := cfgAll Try.prog glX clX (knownI gsX tb14)) hmX (cfgAll_ok (knownI_ok h)) (fun _ _ => rfl) 3000 Try.func4 (by kernel_rfl)
theorem k15 (h : Facts Try.prog glX tb15) : KFX fa15 := K0_ranQ (cfg := cfgAll Try.prog glX clX (knownI gsX tb15)) hmX (cfgAll_ok (knownI_ok h)) (fun _ _ => rfl) 3000 Try.func5 (by kernel_rfl)
theorem k16 (h : Facts Try.prog glX tb16) : KFX fa16 := K0_ranQ (cfg := cfgAll Try.prog glX clX (knownI gsX tb16)) hmX (cfgAll_ok (knownI_ok h)) (fun _ _ => rfl) 3000 Try.func5 (by kernel_rfl)
theorem k17 (h : Facts Try.prog glX tb17) : KFX fa17 := K0_ranQ (cfg := cfgAll Try.prog glX clX (knownI gsX tb17)) hmX (cfgAll_ok (knownI_ok h)) (fun _ _ => rfl) 3000 Try.func5 (by kernel_rfl)
theorem k18 (h : Facts Try.prog glX tb18) : KFX fa18 := K0_ranQ (cfg := cfgAll Try.prog glX clX (knownI gsX tb18)) hmX (cfgAll_ok (knownI_ok h)) (fun _ _ => rfl) 3000 Try.func5 (by kernel_rfl)
end Go.Proofs.Ytnplldjabhnloab
