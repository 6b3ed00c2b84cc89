/- Round 0, and the function's beginning. -/
import Derived.Test.YtnplldjabhnloabXAN0
namespace Go.Proofs.Ytnplldjabhnloab
open Go Go.Proofs.Ytnplldjabhnloab.Clean
set_option linter.unusedVariables false
set_option maxRecDepth 100000
theorem rd0 (R : V → Prop) (J : St → Prop) : J (sA 1) = BA (Qla 0 slA J (QA R)) (sA 0) := by kernel_rfl
end Go.Proofs.Ytnplldjabhnloab
