/- The words of the seat: which slots a loop keeps, a piston as data, its places, periods. -/
import Derived.Test.YtinccdbooeffbaaXCL
import Derived.Test.YtinccdbooeffbaaProg
namespace Go.Proofs.Ytinccdbooeffbaa
open Go.Proofs.Ytinccdbooeffbaa.Clean
noncomputable def CC : Calling := callsOf Try.prog fun _ => true
def kp0 : Nat → Keep := fun _ => ⟨[], [], 0⟩
def kp11 (_ : Nat) : Keep := ⟨[2,5,6,8], [(0,0)], 1⟩
def kp12 (i : Nat) : Keep := match i with | 0 => ⟨[0,3,20,21], [], 0⟩ | 2 => ⟨[3,5,6,8,64,65,66], [], 0⟩ | _ => ⟨[3,5,6,8,11,13,64,65,66], [], 0⟩
/-- a piston, as data -/
def pc (p : List Int × Int × Int) : List V := [.lst 1 (il p.1), iv p.2.1, iv p.2.2]
def kp17 (i : Nat) : Keep := match i with | 0 => ⟨[1,2,5,6], [(0,0)], 1⟩ | _ => ⟨[1,2,5,6,7,8], [(0,0)], 1⟩
def kp7 (_ : Nat) : Keep := ⟨[23,24,25], [], 0⟩
def kp4 (_ : Nat) : Keep := ⟨[1,2,7,8], [(0,0),(1,1),(3,1)], 2⟩
def kp3 (_ : Nat) : Keep := ⟨[1,2,3,33,34,35], [(0,0)], 1⟩
def kp6 (_ : Nat) : Keep := ⟨[0,1,5], [], 0⟩
def kp9 (i : Nat) : Keep := match i with | 0 => ⟨[0,2,3,14,15,16], [], 0⟩ | _ => ⟨[0,2,3,39,40,41], [], 0⟩
def kp10 (i : Nat) : Keep := match i with | 0 => ⟨[0,5], [], 0⟩ | 2 => ⟨[0,6,7,8], [], 0⟩ | _ => ⟨[0,6,7,8,9,10], [], 0⟩
def kp13 (_ : Nat) : Keep := ⟨[1,3], [(0,0)], 1⟩
def kp15 (_ : Nat) : Keep := ⟨[1,2,5,6], [(0,0),(1,1),(3,1)], 2⟩
def kp16 (_ : Nat) : Keep := ⟨[0,1], [], 0⟩
def kp18 (_ : Nat) : Keep := ⟨[0,3], [], 0⟩
def kp19 (_ : Nat) : Keep := ⟨[0,1,5], [], 0⟩
abbrev Pst := List Int × Int × Int
/-- A piston moves: the tick before, the place before. -/
def mv (p : Pst) (t : Nat) (a : Int) : Int :=
  if p.1.getD (t % p.1.length) 0 ≥ p.2.1 then (if p.2.2 < a + 1 then p.2.2 else a + 1) else (if 0 > a - 1 then 0 else a - 1)

def place (p : Pst) : Nat → Int
  | 0 => 0
  | t + 1 => mv p t (place p t)
def places (p : Pst) (n : Nat) : List Int := (List.range (n + 1)).map (place p)

/-- Is n a number that all numbers of entries divide, or above the greatest period? -/
def fitsB (ps : List Pst) (n : Nat) : Bool := ps.all (fun p => n % p.1.length == 0) || decide (n > 5000)
def resP (p : Pst) (ticks : Int) (ok : Bool) : V := match ok with
  | true => .tup [.lst 1 (il (places p ticks.toNat)), iv 0]
  | false => .tup [nilS, iv 2]
def lcmL (ps : List Pst) : Nat := ps.foldl (fun n p => Nat.lcm n p.1.length) 1
def settleFrom (p : Pst) (P : Nat) : Nat → Nat → Nat
  | 0, k => k
  | f + 1, k => if place p (k * P) = place p (k * P + P) then k else settleFrom p P f (k + 1)
def settle (p : Pst) (P : Nat) : Nat := settleFrom p P 21 0
def startL (ps : List Pst) (P : Nat) : Nat := ps.foldl (fun s p => if settle p P * P > s then settle p P * P else s) 0
/-- The pistons that do not do the same one period earlier. -/
def difP (S P : Nat) (p : Pst) : Bool := decide (S > 0) && (place p (S - P) != place p S)
def dif (ps : List Pst) (S P i : Nat) : Bool := (ps.take i).any (difP S P)
end Go.Proofs.Ytinccdbooeffbaa
