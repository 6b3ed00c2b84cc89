/- Words for the texts of this claim. -/
import Derived.Test.YtjcmjadimdokkaaGreatDoorXCU
import Derived.Test.YtjcmjadimdokkaaGreatDoorProg
namespace Go.Proofs.YtjcmjadimdokkaaGreatDoor
open Go Go.Proofs.YtjcmjadimdokkaaGreatDoor.Clean
set_option linter.unusedVariables false
set_option maxRecDepth 100000
def stepC : List V := [iv 1, iv 0, iv 0, iv (-1), iv 0, iv 0, iv 0, iv 1, iv 0, iv 0, iv (-1), iv 0, iv 0, iv 0, iv 1, iv 0, iv 0, iv (-1)]
def glX : Nat → Option (List V) := fun g => match g with | 0 => some stepC | _ => none
def strV (l : List Nat) : V := .raw (.string ⟨⟨l.map UInt8.ofNat⟩⟩)
def clX (g : FuncId) : Bool := !(inN [46, 68, 90, 92, 54, 118, 123, 98, 95, 77, 141, 143, 128, 99, 157, 166, 145] g)
abbrev KFX (f : Fact) : Prop := K0G Tryz.prog glX f.g f.args fun v => v = f.r
theorem hmX : Tryz.prog.follows .mixedOrders = true := by kernel_rfl
def cfgS (known : FuncId → List V → Option V) : Cfg := { cfgAll Tryz.prog glX clX known with spare := fun g => bif Nat.beq g 90 then [2, 3, 4] else [] }
theorem cfgS_ok {known : FuncId → List V → Option V} (h : KnowsY Tryz.prog glX known) : (cfgS known).ok Tryz.prog := ⟨(cfgAll_ok (clean := clX) h).c0, h⟩
end Go.Proofs.YtjcmjadimdokkaaGreatDoor
