/- A part of the proof. -/
import Derived.Test.YtbionhgjgcpogaaGreatDoorXP4G17
namespace Go.Proofs.YtbionhgjgcpogaaGreatDoor
open Go Go.Proofs.YtbionhgjgcpogaaGreatDoor.Clean
set_option linter.unusedVariables false
set_option maxRecDepth 100000
end Go.Proofs.YtbionhgjgcpogaaGreatDoor
