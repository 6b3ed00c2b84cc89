/- What calls of the examples return. -/
import Derived.Test.YtnplldjabhnloabXHF0
namespace Go.Proofs.Ytnplldjabhnloab
open Go Go.Proofs.Ytnplldjabhnloab.Clean
set_option linter.unusedVariables false
set_option maxRecDepth 100000
theorem k77 (h : Facts Try.prog glX tb77) : KFX fa77 := K0_ranQ (cfg := cfgAll Try.prog glX clX (knownI gsX tb77)) hmX (cfgAll_ok (knownI_ok h)) (fun _ _ => rfl) 3000 Try.func31 (by kernel_rfl)
theorem k78 (h : Facts Try.prog glX tb78) : KFX fa78 := K0_ranQ (cfg := cfgAll Try.prog glX clX (knownI gsX tb78)) hmX (cfgAll_ok (knownI_ok h)) (fun _ _ => rfl) 3000 Try.func23 (by kernel_rfl)
theorem k79 (h : Facts Try.prog glX tb79) : KFX fa79 := K0_ranQ (cfg := cfgAll Try.prog glX clX (knownI gsX tb79)) hmX (cfgAll_ok (knownI_ok h)) (fun _ _ => rfl) 3000 Try.func31 (by kernel_rfl)
theorem k80 (h : Facts Try.prog glX tb80) : KFX fa80 := K0_ranQ (cfg := cfgAll Try.prog glX clX (knownI gsX tb80)) hmX (cfgAll_ok (knownI_ok h)) (fun _ _ => rfl) 3000 Try.func23 (by kernel_rfl)
theorem k81 (h : Facts Try.prog glX tb81) : KFX fa81 := K0_ranQ (cfg := cfgAll Try.prog glX clX (knownI gsX tb81)) hmX (cfgAll_ok (knownI_ok h)) (fun _ _ => rfl) 3000 Try.func31 (by kernel_rfl)
theorem k82 (h : Facts Try.prog glX tb82) : KFX fa82 := K0_ranQ (cfg := cfgAll Try.prog glX clX (knownI gsX tb82)) hmX (cfgAll_ok (knownI_ok h)) (fun _ _ => rfl) 3000 Try.func23 (by kernel_rfl)
theorem k83 (h : Facts Try.prog glX tb83) : KFX fa83 := K0_ranQ (cfg := cfgAll Try.prog glX clX (knownI gsX tb83)) hmX (cfgAll_ok (knownI_ok h)) (fun _ _ => rfl) 3000 Try.func31 (by kernel_rfl)
theorem k84 (h : Facts Try.prog glX tb84) : KFX fa84 := K0_ranQ (cfg := cfgAll Try.prog glX clX (knownI gsX tb84)) hmX (cfgAll_ok (knownI_ok h)) (fun _ _ => rfl) 3000 Try.func23 (by kernel_rfl)
theorem k85 (h : Facts Try.prog glX tb85) : KFX fa85 := K0_ranQ (cfg := cfgAll Try.prog glX clX (knownI gsX tb85)) hmX (cfgAll_ok (knownI_ok h)) (fun _ _ => rfl) 3000 Try.func31 (by kernel_rfl)
theorem k86 (h : Facts Try.prog glX tb86) : KFX fa86 := K0_ranQ (cfg := cfgAll Try.prog glX clX (knownI gsX tb86)) hmX (cfgAll_ok (knownI_ok h)) (fun _ _ => rfl) 3000 Try.func23 (by kernel_rfl)
theorem k87 (h : Facts Try.prog glX tb87) : KFX fa87 := K0_ranQ (cfg := cfgAll Try.prog glX clX (knownI gsX tb87)) hmX (cfgAll_ok (knownI_ok h)) (fun _ _ => rfl) 3000 Try.func31 (by kernel_rfl)
theorem k88 (h : Facts Try.prog glX tb88) : KFX fa88 := K0_ranQ (cfg := cfgAll Try.prog glX clX (knownI gsX tb88)) hmX (cfgAll_ok (knownI_ok h)) (fun _ _ => rfl) 3000 Try.func23 (by kernel_rfl)
end Go.Proofs.Ytnplldjabhnloab
