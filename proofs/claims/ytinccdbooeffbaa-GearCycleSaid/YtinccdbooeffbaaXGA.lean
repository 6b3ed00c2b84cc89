/- Contract: some of the chapter's examples (alive) return true. -/
import Derived.Test.YtinccdbooeffbaaXCX
import Derived.Test.YtinccdbooeffbaaProg
namespace Go.Proofs.Ytinccdbooeffbaa
open Go Go.Proofs.Ytinccdbooeffbaa.Clean
set_option linter.unusedVariables false
theorem hm : Try.prog.follows .mixedOrders = true := by kernel_rfl
/-- Which functions touch nothing that was there. -/
def clean (g : FuncId) : Bool := !(Nat.beq g 82 || Nat.beq g 95 || Nat.beq g 84)
set_option maxRecDepth 100000 in
theorem alive22 : K0 Try.prog 22 [] (fun v => v = bv true) := K0_ran hm clean knows_none 3000 Try.func22 (by kernel_rfl)
end Go.Proofs.Ytinccdbooeffbaa
