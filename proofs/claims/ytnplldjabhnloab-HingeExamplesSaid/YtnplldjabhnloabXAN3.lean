/- Round 2. -/
import Derived.Test.YtnplldjabhnloabXAN0
namespace Go.Proofs.Ytnplldjabhnloab
open Go Go.Proofs.Ytnplldjabhnloab.Clean
set_option linter.unusedVariables false
set_option maxRecDepth 100000
theorem rd2 (R : V → Prop) (J : St → Prop) : J (sA 3) = BA (Qla 0 slA J (QA R)) (sA 2) := by kernel_rfl
end Go.Proofs.Ytnplldjabhnloab
