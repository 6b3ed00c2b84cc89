/- The law of the hinge's examples: a walk through a map of four entries, in any order. -/
import Derived.Test.YtnplldjabhnloabXHFZ
namespace Go.Proofs.Ytnplldjabhnloab
open Go Go.Proofs.Ytnplldjabhnloab.Clean
set_option linter.unusedVariables false
set_option maxRecDepth 100000
theorem law3 : K0 Try.prog 3 [] fun v => v = bv true := K0_ranR (cfg := cfgAll Try.prog glX clX (knownI gsX tb111)) hmX (cfgAll_ok (knownI_ok tok111)) (fun _ _ => rfl) 3000 Try.func3 (orders_mk (p := (bv true = bv true)) rfl 4) (by kernel_rfl)
end Go.Proofs.Ytnplldjabhnloab
