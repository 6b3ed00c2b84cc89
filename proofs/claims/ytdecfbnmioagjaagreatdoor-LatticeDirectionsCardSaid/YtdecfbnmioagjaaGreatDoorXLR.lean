/- Words for the texts of this claim. -/
import Derived.Test.YtdecfbnmioagjaaGreatDoorXCU
import Derived.Test.YtdecfbnmioagjaaGreatDoorProg
namespace Go.Proofs.YtdecfbnmioagjaaGreatDoor
open Go Go.Proofs.YtdecfbnmioagjaaGreatDoor.Clean
set_option linter.unusedVariables false
set_option maxRecDepth 100000
def stepC : List V := [iv 1, iv 0, iv 0, iv (-1), iv 0, iv 0, iv 0, iv 1, iv 0, iv 0, iv (-1), iv 0, iv 0, iv 0, iv 1, iv 0, iv 0, iv (-1)]
def glX : Nat → Option (List V) := fun g => match g with | 0 => some stepC | _ => none
def strV (l : List Nat) : V := .raw (.string ⟨⟨l.map UInt8.ofNat⟩⟩)
def clX (g : FuncId) : Bool := !(inN [68,85,75,79,88,92,95,98,101,112,120] g)
abbrev KFX (f : Fact) : Prop := K0G Tryz.prog glX f.g f.args fun v => v = f.r
theorem hmX : Tryz.prog.follows .mixedOrders = true := by kernel_rfl
end Go.Proofs.YtdecfbnmioagjaaGreatDoor
