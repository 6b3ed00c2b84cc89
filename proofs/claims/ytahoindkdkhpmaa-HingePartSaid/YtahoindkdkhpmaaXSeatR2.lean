/- SeatR2: a part of the proof. -/
import Derived.Test.YtahoindkdkhpmaaXSeatR
namespace Go.Proofs.Ytahoindkdkhpmaa
open Go.Proofs.Ytahoindkdkhpmaa.Clean
def kp87 (i : Nat) : Keep := match i with | 0 => ⟨[0,1,2,3,9], [], 0, [], []⟩ | _ => ⟨[0,1,2,3,9,10,11], [], 0, [], []⟩
def kp92 (i : Nat) : Keep := match i with | 0 => ⟨[1,2,3,4,5,11], [(0,0)], 1, [], [0]⟩ | _ => ⟨[3,4,5,12], [(0,0)], 1, [], [0]⟩
def kp70 (i : Nat) : Keep := match i with | 0 => ⟨[7,9,10,11,12,13], [(1,1)], 2, [], [1]⟩ | _ => ⟨[7,9,10,11,12,15], [(1,1)], 2, [], [1]⟩
def kp33 (i : Nat) : Keep := match i with | 0 => ⟨[1,4,5], [(1,1),(0,0)], 2, [(4,1,2)], [0]⟩ | _ => ⟨[1,4,5,6], [(0,0),(1,1),(3,1)], 2, [], [0]⟩
def kp34 (_ : Nat) : Keep := ⟨[0,1,5], [], 0, [], []⟩
/-- how the laws of swings call -/
def moT (g : Nat) : Nat := match g with | 20 => 1 | 94 => 2 | _ => moH g
noncomputable def CT : Calling := callsM Try.prog (fun _ => none) knA moT (fun _ => false) 0
noncomputable def CT22 : Calling := callsM Try.prog (fun _ => none) knA moT (fun t => t.beq 22) 0
def kp20 (_ : Nat) : Keep := ⟨[2,3,12,13,14], [(1,1),(3,3),(4,4),(5,5),(9,5)], 6, [], []⟩
def kp12 (_ : Nat) : Keep := ⟨[2,7,8,11,12,13,65,66,67], [], 0, [], []⟩
def kp94 (_ : Nat) : Keep := ⟨[1,4,5,6], [(1,1),(3,3),(4,4)], 5, [], []⟩
def kp40 (_ : Nat) : Keep := ⟨[1,2,6,7], [(0,0),(1,1)], 2, [(6,1,1)], [0]⟩
end Go.Proofs.Ytahoindkdkhpmaa
