/- What calls of the examples return. -/
import Derived.Test.YtnplldjabhnloabXHF0
import Derived.Test.YtnplldjabhnloabXAN
namespace Go.Proofs.Ytnplldjabhnloab
open Go Go.Proofs.Ytnplldjabhnloab.Clean
set_option linter.unusedVariables false
set_option maxRecDepth 100000
theorem k0 (h : Facts Try.prog glX tb0) : KFX fa0 := angles (R := fun v => v = fa0.r) rfl
end Go.Proofs.Ytnplldjabhnloab
