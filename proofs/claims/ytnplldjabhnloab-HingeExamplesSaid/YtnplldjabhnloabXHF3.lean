/- What calls of the examples return. -/
import Derived.Test.YtnplldjabhnloabXHF0
namespace Go.Proofs.Ytnplldjabhnloab
open Go Go.Proofs.Ytnplldjabhnloab.Clean
set_option linter.unusedVariables false
set_option maxRecDepth 100000
theorem k19 (h : Facts Try.prog glX tb19) : KFX fa19 := K0_ranQ (cfg := cfgAll Try.prog glX clX (knownI gsX tb19)) hmX (cfgAll_ok (knownI_ok h)) (fun _ _ => rfl) 3000 Try.func31 (by kernel_rfl)
theorem k20 (h : Facts Try.prog glX tb20) : KFX fa20 := K0_ranQ (cfg := cfgAll Try.prog glX clX (knownI gsX tb20)) hmX (cfgAll_ok (knownI_ok h)) (fun _ _ => rfl) 3000 Try.func23 (by kernel_rfl)
theorem k21 (h : Facts Try.prog glX tb21) : KFX fa21 := K0_ranQ (cfg := cfgAll Try.prog glX clX (knownI gsX tb21)) hmX (cfgAll_ok (knownI_ok h)) (fun _ _ => rfl) 3000 Try.func31 (by kernel_rfl)
theorem k22 (h : Facts Try.prog glX tb22) : KFX fa22 := K0_ranQ (cfg := cfgAll Try.prog glX clX (knownI gsX tb22)) hmX (cfgAll_ok (knownI_ok h)) (fun _ _ => rfl) 3000 Try.func23 (by kernel_rfl)
theorem k23 (h : Facts Try.prog glX tb23) : KFX fa23 := K0_ranQ (cfg := cfgAll Try.prog glX clX (knownI gsX tb23)) hmX (cfgAll_ok (knownI_ok h)) (fun _ _ => rfl) 3000 Try.func31 (by kernel_rfl)
theorem k24 (h : Facts Try.prog glX tb24) : KFX fa24 := K0_ranQ (cfg := cfgAll Try.prog glX clX (knownI gsX tb24)) hmX (cfgAll_ok (knownI_ok h)) (fun _ _ => rfl) 3000 Try.func23 (by kernel_rfl)
theorem k25 (h : Facts Try.prog glX tb25) : KFX fa25 := K0_ranQ (cfg := cfgAll Try.prog glX clX (knownI gsX tb25)) hmX (cfgAll_ok (knownI_ok h)) (fun _ _ => rfl) 3000 Try.func23 (by kernel_rfl)
theorem k26 (h : Facts Try.prog glX tb26) : KFX fa26 := K0_ranQ (cfg := cfgAll Try.prog glX clX (knownI gsX tb26)) hmX (cfgAll_ok (knownI_ok h)) (fun _ _ => rfl) 3000 Try.func31 (by kernel_rfl)
theorem k27 (h : Facts Try.prog glX tb27) : KFX fa27 := K0_ranQ (cfg := cfgAll Try.prog glX clX (knownI gsX tb27)) hmX (cfgAll_ok (knownI_ok h)) (fun _ _ => rfl) 3000 Try.func23 (by kernel_rfl)
theorem k28 (h : Facts Try.prog glX tb28) : KFX fa28 := K0_ranQ (cfg := cfgAll Try.prog glX clX (knownI gsX tb28)) hmX (cfgAll_ok (knownI_ok h)) (fun _ _ => rfl) 3000 Try.func31 (by kernel_rfl)
theorem k29 (h : Facts Try.prog glX tb29) : KFX fa29 := K0_ranQ (cfg := cfgAll Try.prog glX clX (knownI gsX tb29)) hmX (cfgAll_ok (knownI_ok h)) (fun _ _ => rfl) 3000 Try.func23 (by kernel_rfl)
theorem k30 (h : Facts Try.prog glX tb30) : KFX fa30 := K0_ranQ (cfg := cfgAll Try.prog glX clX (knownI gsX tb30)) hmX (cfgAll_ok (knownI_ok h)) (fun _ _ => rfl) 3000 Try.func31 (by kernel_rfl)
theorem k31 (h : Facts Try.prog glX tb31) : KFX fa31 := K0_ranQ (cfg := cfgAll Try.prog glX clX (knownI gsX tb31)) hmX (cfgAll_ok (knownI_ok h)) (fun _ _ => rfl) 3000 Try.func23 (by kernel_rfl)
theorem k32 (h : Facts Try.prog glX tb32) : KFX fa32 := K0_ranQ (cfg := cfgAll Try.prog glX clX (knownI gsX tb32)) hmX (cfgAll_ok (knownI_ok h)) (fun _ _ => rfl) 3000 Try.func31 (by kernel_rfl)
theorem k33 (h : Facts Try.prog glX tb33) : KFX fa33 := K0_ranQ (cfg := cfgAll Try.prog glX clX (knownI gsX tb33)) hmX (cfgAll_ok (knownI_ok h)) (fun _ _ => rfl) 3000 Try.func23 (by kernel_rfl)
theorem k34 (h : Facts Try.prog glX tb34) : KFX fa34 := K0_ranQ (cfg := cfgAll Try.prog glX clX (knownI gsX tb34)) hmX (cfgAll_ok (knownI_ok h)) (fun _ _ => rfl) 3000 Try.func31 (by kernel_rfl)
theorem k35 (h : Facts Try.prog glX tb35) : KFX fa35 := K0_ranQ (cfg := cfgAll Try.prog glX clX (knownI gsX tb35)) hmX (cfgAll_ok (knownI_ok h)) (fun _ _ => rfl) 3000 Try.func23 (by kernel_rfl)
theorem k36 (h : Facts Try.prog glX tb36) : KFX fa36 := K0_ranQ (cfg := cfgAll Try.prog glX clX (knownI gsX tb36)) hmX (cfgAll_ok (knownI_ok h)) (fun _ _ => rfl) 3000 Try.func23 (by kernel_rfl)
theorem k37 (h : Facts Try.prog glX tb37) : KFX fa37 := K0_ranQ (cfg := cfgAll Try.prog glX clX (knownI gsX tb37)) hmX (cfgAll_ok (knownI_ok h)) (fun _ _ => rfl) 3000 Try.func31 (by kernel_rfl)
theorem k38 (h : Facts Try.prog glX tb38) : KFX fa38 := K0_ranQ (cfg := cfgAll Try.prog glX clX (knownI gsX tb38)) hmX (cfgAll_ok (knownI_ok h)) (fun _ _ => rfl) 3000 Try.func23 (by kernel_rfl)
theorem k39 (h : Facts Try.prog glX tb39) : KFX fa39 := K0_ranQ (cfg := cfgAll Try.prog glX clX (knownI gsX tb39)) hmX (cfgAll_ok (knownI_ok h)) (fun _ _ => rfl) 3000 Try.func31 (by kernel_rfl)
theorem k40 (h : Facts Try.prog glX tb40) : KFX fa40 := K0_ranQ (cfg := cfgAll Try.prog glX clX (knownI gsX tb40)) hmX (cfgAll_ok (knownI_ok h)) (fun _ _ => rfl) 3000 Try.func23 (by kernel_rfl)
theorem k41 (h : Facts Try.prog glX tb41) : KFX fa41 := K0_ranQ (cfg := cfgAll Try.prog glX clX (knownI gsX tb41)) hmX (cfgAll_ok (knownI_ok h)) (fun _ _ => rfl) 3000 Try.func31 (by kernel_rfl)
theorem k42 (h : Facts Try.prog glX tb42) : KFX fa42 := K0_ranQ (cfg := cfgAll Try.prog glX clX (knownI gsX tb42)) hmX (cfgAll_ok (knownI_ok h)) (fun _ _ => rfl) 3000 Try.func23 (by kernel_rfl)
theorem k43 (h : Facts Try.prog glX tb43) : KFX fa43 := K0_ranQ (cfg := cfgAll Try.prog glX clX (knownI gsX tb43)) hmX (cfgAll_ok (knownI_ok h)) (fun _ _ => rfl) 3000 Try.func31 (by kernel_rfl)
theorem k44 (h : Facts Try.prog glX tb44) : KFX fa44 := K0_ranQ (cfg := cfgAll Try.prog glX clX (knownI gsX tb44)) hmX (cfgAll_ok (knownI_ok h)) (fun _ _ => rfl) 3000 Try.func23 (by kernel_rfl)
theorem k45 (h : Facts Try.prog glX tb45) : KFX fa45 := K0_ranQ (cfg := cfgAll Try.prog glX clX (knownI gsX tb45)) hmX (cfgAll_ok (knownI_ok h)) (fun _ _ => rfl) 3000 Try.func31 (by kernel_rfl)
theorem k46 (h : Facts Try.prog glX tb46) : KFX fa46 := K0_ranQ (cfg := cfgAll Try.prog glX clX (knownI gsX tb46)) hmX (cfgAll_ok (knownI_ok h)) (fun _ _ => rfl) 3000 Try.func23 (by kernel_rfl)
theorem k47 (h : Facts Try.prog glX tb47) : KFX fa47 := K0_ranQ (cfg := cfgAll Try.prog glX clX (knownI gsX tb47)) hmX (cfgAll_ok (knownI_ok h)) (fun _ _ => rfl) 3000 Try.func31 (by kernel_rfl)
theorem k48 (h : Facts Try.prog glX tb48) : KFX fa48 := K0_ranQ (cfg := cfgAll Try.prog glX clX (knownI gsX tb48)) hmX (cfgAll_ok (knownI_ok h)) (fun _ _ => rfl) 3000 Try.func23 (by kernel_rfl)
end Go.Proofs.Ytnplldjabhnloab
