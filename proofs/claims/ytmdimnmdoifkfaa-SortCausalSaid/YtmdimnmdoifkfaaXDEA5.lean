/- What calls of the examples return. -/
import Derived.Test.YtmdimnmdoifkfaaXDEA0
namespace Go.Proofs.Ytmdimnmdoifkfaa
open Go Go.Proofs.Ytmdimnmdoifkfaa.Clean
set_option linter.unusedVariables false
set_option maxRecDepth 100000
theorem k5 (h : Facts Try.prog glX tb5) : KFX fa5 := K0_ranR (p := ((fa5.r = fa5.r) ∧ (fa5.r = fa5.r)) ∧ ((fa5.r = fa5.r) ∧ (fa5.r = fa5.r))) (cfg := cfgAll Try.prog glX clX (knownI gsX tb5)) hmX (cfgAll_ok (knownI_ok h)) (fun _ _ => rfl) 3000 Try.func44 ⟨⟨rfl, rfl⟩, rfl, rfl⟩ (by kernel_rfl)
end Go.Proofs.Ytmdimnmdoifkfaa
