/- What calls of the examples return. -/
import Derived.Test.YtnplldjabhnloabXHF0
namespace Go.Proofs.Ytnplldjabhnloab
open Go Go.Proofs.Ytnplldjabhnloab.Clean
set_option linter.unusedVariables false
set_option maxRecDepth 100000
theorem k89 (h : Facts Try.prog glX tb89) : KFX fa89 := K0_ranQ (cfg := cfgAll Try.prog glX clX (knownI gsX tb89)) hmX (cfgAll_ok (knownI_ok h)) (fun _ _ => rfl) 3000 Try.func6 (by kernel_rfl)
end Go.Proofs.Ytnplldjabhnloab
