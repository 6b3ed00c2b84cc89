/- SeatR4: a part of the proof. -/
import Derived.Test.YtahoindkdkhpmaaXSeatR3
import Derived.Test.YtahoindkdkhpmaaXCL
namespace Go.Proofs.Ytahoindkdkhpmaa
open Go.Proofs.Ytahoindkdkhpmaa.Clean
def kp13 (i : Nat) : Keep := match i with
  | 0 => ⟨[3,4,5,6,9,10,11,16,99,100,101], [(0,0),(1,1),(2,2),(3,3),(4,4),(5,9),(9,9)], 10, [], [0,1,2]⟩
  | 2 => ⟨[3,5,6,9,10,23,24,143,144,145], [(1,1),(2,2),(3,3),(4,4),(5,5),(10,3),(11,4),(12,5)], 6, [], [1,2]⟩
  | _ => ⟨[3,5,6,9,10,23,24,165,166], [(1,1),(2,2),(3,3),(4,4),(5,5)], 6, [], [1,2]⟩
end Go.Proofs.Ytahoindkdkhpmaa
