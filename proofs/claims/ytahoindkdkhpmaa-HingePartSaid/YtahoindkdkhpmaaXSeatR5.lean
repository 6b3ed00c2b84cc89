/- SeatR5: a part of the proof. -/
import Derived.Test.YtahoindkdkhpmaaXSeatR4
import Derived.Test.YtahoindkdkhpmaaXCL
namespace Go.Proofs.Ytahoindkdkhpmaa
open Go.Proofs.Ytahoindkdkhpmaa.Clean
/-- how the law of a panel without a corner calls: Clash is lent what is the law's own while it runs -/
def moP (g : Nat) : Nat := match g with | 35 => 4 | _ => moT g
noncomputable def CP : Calling := callsM Try.prog (fun _ => none) knA moP (fun t => t.beq 56) 0
end Go.Proofs.Ytahoindkdkhpmaa
