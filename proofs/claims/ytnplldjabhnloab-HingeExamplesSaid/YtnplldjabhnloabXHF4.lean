/- What calls of the examples return. -/
import Derived.Test.YtnplldjabhnloabXHF0
namespace Go.Proofs.Ytnplldjabhnloab
open Go Go.Proofs.Ytnplldjabhnloab.Clean
set_option linter.unusedVariables false
set_option maxRecDepth 100000
theorem k49 (h : Facts Try.prog glX tb49) : KFX fa49 := K0_ranQ (cfg := cfgAll Try.prog glX clX (knownI gsX tb49)) hmX (cfgAll_ok (knownI_ok h)) (fun _ _ => rfl) 3000 Try.func31 (by kernel_rfl)
theorem k50 (h : Facts Try.prog glX tb50) : KFX fa50 := K0_ranQ (cfg := cfgAll Try.prog glX clX (knownI gsX tb50)) hmX (cfgAll_ok (knownI_ok h)) (fun _ _ => rfl) 3000 Try.func23 (by kernel_rfl)
theorem k51 (h : Facts Try.prog glX tb51) : KFX fa51 := K0_ranQ (cfg := cfgAll Try.prog glX clX (knownI gsX tb51)) hmX (cfgAll_ok (knownI_ok h)) (fun _ _ => rfl) 3000 Try.func31 (by kernel_rfl)
theorem k52 (h : Facts Try.prog glX tb52) : KFX fa52 := K0_ranQ (cfg := cfgAll Try.prog glX clX (knownI gsX tb52)) hmX (cfgAll_ok (knownI_ok h)) (fun _ _ => rfl) 3000 Try.func23 (by kernel_rfl)
theorem k53 (h : Facts Try.prog glX tb53) : KFX fa53 := K0_ranQ (cfg := cfgAll Try.prog glX clX (knownI gsX tb53)) hmX (cfgAll_ok (knownI_ok h)) (fun _ _ => rfl) 3000 Try.func31 (by kernel_rfl)
theorem k54 (h : Facts Try.prog glX tb54) : KFX fa54 := K0_ranQ (cfg := cfgAll Try.prog glX clX (knownI gsX tb54)) hmX (cfgAll_ok (knownI_ok h)) (fun _ _ => rfl) 3000 Try.func23 (by kernel_rfl)
theorem k55 (h : Facts Try.prog glX tb55) : KFX fa55 := K0_ranQ (cfg := cfgAll Try.prog glX clX (knownI gsX tb55)) hmX (cfgAll_ok (knownI_ok h)) (fun _ _ => rfl) 3000 Try.func31 (by kernel_rfl)
theorem k56 (h : Facts Try.prog glX tb56) : KFX fa56 := K0_ranQ (cfg := cfgAll Try.prog glX clX (knownI gsX tb56)) hmX (cfgAll_ok (knownI_ok h)) (fun _ _ => rfl) 3000 Try.func23 (by kernel_rfl)
theorem k57 (h : Facts Try.prog glX tb57) : KFX fa57 := K0_ranQ (cfg := cfgAll Try.prog glX clX (knownI gsX tb57)) hmX (cfgAll_ok (knownI_ok h)) (fun _ _ => rfl) 3000 Try.func31 (by kernel_rfl)
theorem k58 (h : Facts Try.prog glX tb58) : KFX fa58 := K0_ranQ (cfg := cfgAll Try.prog glX clX (knownI gsX tb58)) hmX (cfgAll_ok (knownI_ok h)) (fun _ _ => rfl) 3000 Try.func23 (by kernel_rfl)
theorem k59 (h : Facts Try.prog glX tb59) : KFX fa59 := K0_ranQ (cfg := cfgAll Try.prog glX clX (knownI gsX tb59)) hmX (cfgAll_ok (knownI_ok h)) (fun _ _ => rfl) 3000 Try.func31 (by kernel_rfl)
theorem k60 (h : Facts Try.prog glX tb60) : KFX fa60 := K0_ranQ (cfg := cfgAll Try.prog glX clX (knownI gsX tb60)) hmX (cfgAll_ok (knownI_ok h)) (fun _ _ => rfl) 3000 Try.func23 (by kernel_rfl)
theorem k61 (h : Facts Try.prog glX tb61) : KFX fa61 := K0_ranQ (cfg := cfgAll Try.prog glX clX (knownI gsX tb61)) hmX (cfgAll_ok (knownI_ok h)) (fun _ _ => rfl) 3000 Try.func31 (by kernel_rfl)
theorem k62 (h : Facts Try.prog glX tb62) : KFX fa62 := K0_ranQ (cfg := cfgAll Try.prog glX clX (knownI gsX tb62)) hmX (cfgAll_ok (knownI_ok h)) (fun _ _ => rfl) 3000 Try.func23 (by kernel_rfl)
theorem k63 (h : Facts Try.prog glX tb63) : KFX fa63 := K0_ranQ (cfg := cfgAll Try.prog glX clX (knownI gsX tb63)) hmX (cfgAll_ok (knownI_ok h)) (fun _ _ => rfl) 3000 Try.func31 (by kernel_rfl)
theorem k64 (h : Facts Try.prog glX tb64) : KFX fa64 := K0_ranQ (cfg := cfgAll Try.prog glX clX (knownI gsX tb64)) hmX (cfgAll_ok (knownI_ok h)) (fun _ _ => rfl) 3000 Try.func23 (by kernel_rfl)
theorem k65 (h : Facts Try.prog glX tb65) : KFX fa65 := K0_ranQ (cfg := cfgAll Try.prog glX clX (knownI gsX tb65)) hmX (cfgAll_ok (knownI_ok h)) (fun _ _ => rfl) 3000 Try.func31 (by kernel_rfl)
theorem k66 (h : Facts Try.prog glX tb66) : KFX fa66 := K0_ranQ (cfg := cfgAll Try.prog glX clX (knownI gsX tb66)) hmX (cfgAll_ok (knownI_ok h)) (fun _ _ => rfl) 3000 Try.func23 (by kernel_rfl)
theorem k67 (h : Facts Try.prog glX tb67) : KFX fa67 := K0_ranQ (cfg := cfgAll Try.prog glX clX (knownI gsX tb67)) hmX (cfgAll_ok (knownI_ok h)) (fun _ _ => rfl) 3000 Try.func31 (by kernel_rfl)
theorem k68 (h : Facts Try.prog glX tb68) : KFX fa68 := K0_ranQ (cfg := cfgAll Try.prog glX clX (knownI gsX tb68)) hmX (cfgAll_ok (knownI_ok h)) (fun _ _ => rfl) 3000 Try.func23 (by kernel_rfl)
theorem k69 (h : Facts Try.prog glX tb69) : KFX fa69 := K0_ranQ (cfg := cfgAll Try.prog glX clX (knownI gsX tb69)) hmX (cfgAll_ok (knownI_ok h)) (fun _ _ => rfl) 3000 Try.func31 (by kernel_rfl)
theorem k70 (h : Facts Try.prog glX tb70) : KFX fa70 := K0_ranQ (cfg := cfgAll Try.prog glX clX (knownI gsX tb70)) hmX (cfgAll_ok (knownI_ok h)) (fun _ _ => rfl) 3000 Try.func23 (by kernel_rfl)
theorem k71 (h : Facts Try.prog glX tb71) : KFX fa71 := K0_ranQ (cfg := cfgAll Try.prog glX clX (knownI gsX tb71)) hmX (cfgAll_ok (knownI_ok h)) (fun _ _ => rfl) 3000 Try.func31 (by kernel_rfl)
theorem k72 (h : Facts Try.prog glX tb72) : KFX fa72 := K0_ranQ (cfg := cfgAll Try.prog glX clX (knownI gsX tb72)) hmX (cfgAll_ok (knownI_ok h)) (fun _ _ => rfl) 3000 Try.func23 (by kernel_rfl)
theorem k73 (h : Facts Try.prog glX tb73) : KFX fa73 := K0_ranQ (cfg := cfgAll Try.prog glX clX (knownI gsX tb73)) hmX (cfgAll_ok (knownI_ok h)) (fun _ _ => rfl) 3000 Try.func31 (by kernel_rfl)
theorem k74 (h : Facts Try.prog glX tb74) : KFX fa74 := K0_ranQ (cfg := cfgAll Try.prog glX clX (knownI gsX tb74)) hmX (cfgAll_ok (knownI_ok h)) (fun _ _ => rfl) 3000 Try.func23 (by kernel_rfl)
theorem k75 (h : Facts Try.prog glX tb75) : KFX fa75 := K0_ranQ (cfg := cfgAll Try.prog glX clX (knownI gsX tb75)) hmX (cfgAll_ok (knownI_ok h)) (fun _ _ => rfl) 3000 Try.func31 (by kernel_rfl)
theorem k76 (h : Facts Try.prog glX tb76) : KFX fa76 := K0_ranQ (cfg := cfgAll Try.prog glX clX (knownI gsX tb76)) hmX (cfgAll_ok (knownI_ok h)) (fun _ _ => rfl) 3000 Try.func23 (by kernel_rfl)
end Go.Proofs.Ytnplldjabhnloab
