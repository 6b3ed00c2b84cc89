/- Words for the texts of this claim. -/
import Derived.Test.YtnplldjabhnloabXCU
import Derived.Test.YtnplldjabhnloabProg
import Derived.Test.YtnplldjabhnloabXHR
namespace Go.Proofs.Ytnplldjabhnloab
open Go Go.Proofs.Ytnplldjabhnloab.Clean
set_option linter.unusedVariables false
set_option maxRecDepth 100000
noncomputable def cfA : Cfg := cfgQ Try.prog (fun _ => none) (fun _ => true) (slotsOf [(21, 0, [0, 1, 2, 7, 8])]) (fun _ _ => none) (fun g => !(inN [26] g))
end Go.Proofs.Ytnplldjabhnloab
