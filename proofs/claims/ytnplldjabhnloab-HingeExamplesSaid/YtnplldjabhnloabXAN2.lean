/- Round 1. -/
import Derived.Test.YtnplldjabhnloabXAN0
namespace Go.Proofs.Ytnplldjabhnloab
open Go Go.Proofs.Ytnplldjabhnloab.Clean
set_option linter.unusedVariables false
set_option maxRecDepth 100000
theorem rd1 (R : V → Prop) (J : St → Prop) : J (sA 2) = BA (Qla 0 slA J (QA R)) (sA 1) := by kernel_rfl
theorem rd5 (R : V → Prop) (J : St → Prop) : R tabV = BA (Qla 0 slA J (QA R)) (sA 5) := by kernel_rfl
end Go.Proofs.Ytnplldjabhnloab
