/- What calls of the examples return. -/
import Derived.Test.YtnplldjabhnloabXHF0
namespace Go.Proofs.Ytnplldjabhnloab
open Go Go.Proofs.Ytnplldjabhnloab.Clean
set_option linter.unusedVariables false
set_option maxRecDepth 100000
theorem k90 (h : Facts Try.prog glX tb90) : KFX fa90 := K0_ranQ (cfg := cfgAll Try.prog glX clX (knownI gsX tb90)) hmX (cfgAll_ok (knownI_ok h)) (fun _ _ => rfl) 3000 Try.func8 (by kernel_rfl)
theorem k91 (h : Facts Try.prog glX tb91) : KFX fa91 := K0_ranQ (cfg := cfgAll Try.prog glX clX (knownI gsX tb91)) hmX (cfgAll_ok (knownI_ok h)) (fun _ _ => rfl) 3000 Try.func8 (by kernel_rfl)
theorem k92 (h : Facts Try.prog glX tb92) : KFX fa92 := K0_ranQ (cfg := cfgAll Try.prog glX clX (knownI gsX tb92)) hmX (cfgAll_ok (knownI_ok h)) (fun _ _ => rfl) 3000 Try.func30 (by kernel_rfl)
theorem k93 (h : Facts Try.prog glX tb93) : KFX fa93 := K0_ranQ (cfg := cfgAll Try.prog glX clX (knownI gsX tb93)) hmX (cfgAll_ok (knownI_ok h)) (fun _ _ => rfl) 3000 Try.func10 (by kernel_rfl)
theorem k94 (h : Facts Try.prog glX tb94) : KFX fa94 := K0_ranQ (cfg := cfgAll Try.prog glX clX (knownI gsX tb94)) hmX (cfgAll_ok (knownI_ok h)) (fun _ _ => rfl) 3000 Try.func5 (by kernel_rfl)
theorem k95 (h : Facts Try.prog glX tb95) : KFX fa95 := K0_ranQ (cfg := cfgAll Try.prog glX clX (knownI gsX tb95)) hmX (cfgAll_ok (knownI_ok h)) (fun _ _ => rfl) 3000 Try.func5 (by kernel_rfl)
theorem k96 (h : Facts Try.prog glX tb96) : KFX fa96 := K0_ranQ (cfg := cfgAll Try.prog glX clX (knownI gsX tb96)) hmX (cfgAll_ok (knownI_ok h)) (fun _ _ => rfl) 3000 Try.func5 (by kernel_rfl)
theorem k97 (h : Facts Try.prog glX tb97) : KFX fa97 := K0_ranQ (cfg := cfgAll Try.prog glX clX (knownI gsX tb97)) hmX (cfgAll_ok (knownI_ok h)) (fun _ _ => rfl) 3000 Try.func5 (by kernel_rfl)
theorem k98 (h : Facts Try.prog glX tb98) : KFX fa98 := K0_ranQ (cfg := cfgAll Try.prog glX clX (knownI gsX tb98)) hmX (cfgAll_ok (knownI_ok h)) (fun _ _ => rfl) 3000 Try.func5 (by kernel_rfl)
theorem k99 (h : Facts Try.prog glX tb99) : KFX fa99 := K0_ranQ (cfg := cfgAll Try.prog glX clX (knownI gsX tb99)) hmX (cfgAll_ok (knownI_ok h)) (fun _ _ => rfl) 3000 Try.func5 (by kernel_rfl)
theorem k100 (h : Facts Try.prog glX tb100) : KFX fa100 := K0_ranQ (cfg := cfgAll Try.prog glX clX (knownI gsX tb100)) hmX (cfgAll_ok (knownI_ok h)) (fun _ _ => rfl) 3000 Try.func5 (by kernel_rfl)
theorem k101 (h : Facts Try.prog glX tb101) : KFX fa101 := K0_ranQ (cfg := cfgAll Try.prog glX clX (knownI gsX tb101)) hmX (cfgAll_ok (knownI_ok h)) (fun _ _ => rfl) 3000 Try.func5 (by kernel_rfl)
theorem k102 (h : Facts Try.prog glX tb102) : KFX fa102 := K0_ranQ (cfg := cfgAll Try.prog glX clX (knownI gsX tb102)) hmX (cfgAll_ok (knownI_ok h)) (fun _ _ => rfl) 3000 Try.func5 (by kernel_rfl)
theorem k103 (h : Facts Try.prog glX tb103) : KFX fa103 := K0_ranQ (cfg := cfgAll Try.prog glX clX (knownI gsX tb103)) hmX (cfgAll_ok (knownI_ok h)) (fun _ _ => rfl) 3000 Try.func5 (by kernel_rfl)
theorem k104 (h : Facts Try.prog glX tb104) : KFX fa104 := K0_ranQ (cfg := cfgAll Try.prog glX clX (knownI gsX tb104)) hmX (cfgAll_ok (knownI_ok h)) (fun _ _ => rfl) 3000 Try.func5 (by kernel_rfl)
theorem k105 (h : Facts Try.prog glX tb105) : KFX fa105 := K0_ranQ (cfg := cfgAll Try.prog glX clX (knownI gsX tb105)) hmX (cfgAll_ok (knownI_ok h)) (fun _ _ => rfl) 3000 Try.func5 (by kernel_rfl)
theorem k106 (h : Facts Try.prog glX tb106) : KFX fa106 := K0_ranQ (cfg := cfgAll Try.prog glX clX (knownI gsX tb106)) hmX (cfgAll_ok (knownI_ok h)) (fun _ _ => rfl) 3000 Try.func5 (by kernel_rfl)
theorem k107 (h : Facts Try.prog glX tb107) : KFX fa107 := K0_ranQ (cfg := cfgAll Try.prog glX clX (knownI gsX tb107)) hmX (cfgAll_ok (knownI_ok h)) (fun _ _ => rfl) 3000 Try.func5 (by kernel_rfl)
theorem k108 (h : Facts Try.prog glX tb108) : KFX fa108 := K0_ranQ (cfg := cfgAll Try.prog glX clX (knownI gsX tb108)) hmX (cfgAll_ok (knownI_ok h)) (fun _ _ => rfl) 3000 Try.func5 (by kernel_rfl)
theorem k109 (h : Facts Try.prog glX tb109) : KFX fa109 := K0_ranQ (cfg := cfgAll Try.prog glX clX (knownI gsX tb109)) hmX (cfgAll_ok (knownI_ok h)) (fun _ _ => rfl) 3000 Try.func5 (by kernel_rfl)
theorem k110 (h : Facts Try.prog glX tb110) : KFX fa110 := K0_ranQ (cfg := cfgAll Try.prog glX clX (knownI gsX tb110)) hmX (cfgAll_ok (knownI_ok h)) (fun _ _ => rfl) 3000 Try.func11 (by kernel_rfl)
end Go.Proofs.Ytnplldjabhnloab
