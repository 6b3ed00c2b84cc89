/- Words for the texts of this claim. -/
import Derived.Test.YtmddjopahcbefaaGreatXCU
import Derived.Test.YtmddjopahcbefaaGreatProg
namespace Go.Proofs.YtmddjopahcbefaaGreat
open Go Go.Proofs.YtmddjopahcbefaaGreat.Clean
set_option linter.unusedVariables false
set_option maxRecDepth 100000
def glX : Nat → Option (List V) := fun _ => none
def strV (l : List Nat) : V := .raw (.string ⟨⟨l.map UInt8.ofNat⟩⟩)
def clX (g : FuncId) : Bool := !(inN [45, 93, 120, 94, 61, 58, 106, 116, 118, 121, 107, 126, 129, 104, 125, 132, 133, 134, 136, 137, 138, 139, 140, 141, 142, 143, 144, 145, 148, 149, 150, 151, 152, 153, 154, 155, 156, 157, 159, 160, 161, 162, 163, 164, 165, 166] g)
abbrev KFX (f : Fact) : Prop := K0G Tryz.prog glX f.g f.args fun v => v = f.r
theorem hmX : Tryz.prog.follows .mixedOrders = true := by kernel_rfl
end Go.Proofs.YtmddjopahcbefaaGreat
