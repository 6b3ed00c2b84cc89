/- Words for the texts of this claim. -/
import Derived.Test.YtnplldjabhnloabXCU
import Derived.Test.YtnplldjabhnloabProg
namespace Go.Proofs.Ytnplldjabhnloab
open Go Go.Proofs.Ytnplldjabhnloab.Clean
set_option linter.unusedVariables false
set_option maxRecDepth 100000
def glX : Nat → Option (List V) := fun _ => none
def strV (l : List Nat) : V := .raw (.string ⟨⟨l.map UInt8.ofNat⟩⟩)
def clX (g : FuncId) : Bool := !(inN [26] g)
abbrev KFX (f : Fact) : Prop := K0G Try.prog glX f.g f.args fun v => v = f.r
theorem hmX : Try.prog.follows .mixedOrders = true := by kernel_rfl
end Go.Proofs.Ytnplldjabhnloab
