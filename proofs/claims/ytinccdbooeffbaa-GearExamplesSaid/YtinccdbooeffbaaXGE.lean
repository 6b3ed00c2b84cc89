/- Contract: GearExamples. -/
import Derived.Test.YtinccdbooeffbaaXGA
namespace Go.Proofs.Ytinccdbooeffbaa
open Go Go.Proofs.Ytinccdbooeffbaa.Clean
set_option linter.unusedVariables false
/-- What is known: alive. -/
def known (g : FuncId) : Option V := match Nat.beq g 22 with | true => some (bv true) | false => none
theorem knows : Knows Try.prog known := by
  intro g r h
  unfold known at h
  split at h
  · rename_i hg
    have hg := Nat.eq_of_beq_eq_true hg
    subst hg
    simp at h
    subst h
    exact alive22
  · cases h
set_option maxRecDepth 100000 in
theorem examples3 : K0 Try.prog 3 [] (fun v => v = bv true) := K0_ran hm clean knows 3000 Try.func3 (by kernel_rfl)
end Go.Proofs.Ytinccdbooeffbaa
