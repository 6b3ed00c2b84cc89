/- Words for the texts of this claim. -/
import Derived.Test.YtfhflfppebkmjaaDoorXCU
import Derived.Test.YtfhflfppebkmjaaDoorProg
namespace Go.Proofs.YtfhflfppebkmjaaDoor
open Go Go.Proofs.YtfhflfppebkmjaaDoor.Clean
set_option linter.unusedVariables false
set_option maxRecDepth 100000
def tabC : List V := [V.raw (.int .u8 0), V.raw (.int .u8 1), V.raw (.int .u8 28), V.raw (.int .u8 2), V.raw (.int .u8 29), V.raw (.int .u8 14), V.raw (.int .u8 24), V.raw (.int .u8 3), V.raw (.int .u8 30), V.raw (.int .u8 22), V.raw (.int .u8 20), V.raw (.int .u8 15), V.raw (.int .u8 25), V.raw (.int .u8 17), V.raw (.int .u8 4), V.raw (.int .u8 8), V.raw (.int .u8 31), V.raw (.int .u8 27), V.raw (.int .u8 13), V.raw (.int .u8 23), V.raw (.int .u8 21), V.raw (.int .u8 19), V.raw (.int .u8 16), V.raw (.int .u8 7), V.raw (.int .u8 26), V.raw (.int .u8 12), V.raw (.int .u8 18), V.raw (.int .u8 6), V.raw (.int .u8 11), V.raw (.int .u8 5), V.raw (.int .u8 10), V.raw (.int .u8 9)]
def glX : Nat → Option (List V) := fun g => match g with | 0 => some tabC | _ => none
def strV (l : List Nat) : V := .raw (.string ⟨⟨l.map UInt8.ofNat⟩⟩)
def clX (g : FuncId) : Bool := !(inN [53, 63, 64, 80, 85, 86, 88, 101, 107, 108, 111, 112, 123, 125] g)
abbrev KFX (f : Fact) : Prop := K0G Tryd.prog glX f.g f.args fun v => v = f.r
theorem hmX : Tryd.prog.follows .mixedOrders = true := by kernel_rfl
end Go.Proofs.YtfhflfppebkmjaaDoor
