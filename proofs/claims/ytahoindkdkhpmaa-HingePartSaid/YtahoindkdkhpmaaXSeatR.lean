/- SeatR: a part of the proof. -/
import Derived.Test.YtahoindkdkhpmaaXCL
import Derived.Test.YtahoindkdkhpmaaProg
namespace Go.Proofs.Ytahoindkdkhpmaa
open Go.Proofs.Ytahoindkdkhpmaa.Clean
/-- all angles -/
def tabL : List (Int × Int × Int) := [(-1, 0, 1), (0, -1, 1), (0, 1, 1), (1, 0, 1), (-4, -3, 5), (-4, 3, 5), (-3, -4, 5), (-3, 4, 5), (3, -4, 5), (3, 4, 5), (4, -3, 5), (4, 3, 5), (-12, -5, 13), (-12, 5, 13), (-5, -12, 13), (-5, 12, 13), (5, -12, 13), (5, 12, 13), (12, -5, 13), (12, 5, 13), (-15, -8, 17), (-15, 8, 17), (-8, -15, 17), (-8, 15, 17), (8, -15, 17), (8, 15, 17), (15, -8, 17), (15, 8, 17), (-24, -7, 25), (-24, 7, 25), (-7, -24, 25), (-7, 24, 25), (7, -24, 25), (7, 24, 25), (24, -7, 25), (24, 7, 25)]
def tabC : List V := [iv (-1), iv 0, iv 1, iv 0, iv (-1), iv 1, iv 0, iv 1, iv 1, iv 1, iv 0, iv 1, iv (-4), iv (-3), iv 5, iv (-4), iv 3, iv 5, iv (-3), iv (-4), iv 5, iv (-3), iv 4, iv 5, iv 3, iv (-4), iv 5, iv 3, iv 4, iv 5, iv 4, iv (-3), iv 5, iv 4, iv 3, iv 5, iv (-12), iv (-5), iv 13, iv (-12), iv 5, iv 13, iv (-5), iv (-12), iv 13, iv (-5), iv 12, iv 13, iv 5, iv (-12), iv 13, iv 5, iv 12, iv 13, iv 12, iv (-5), iv 13, iv 12, iv 5, iv 13, iv (-15), iv (-8), iv 17, iv (-15), iv 8, iv 17, iv (-8), iv (-15), iv 17, iv (-8), iv 15, iv 17, iv 8, iv (-15), iv 17, iv 8, iv 15, iv 17, iv 15, iv (-8), iv 17, iv 15, iv 8, iv 17, iv (-24), iv (-7), iv 25, iv (-24), iv 7, iv 25, iv (-7), iv (-24), iv 25, iv (-7), iv 24, iv 25, iv 7, iv (-24), iv 25, iv 7, iv 24, iv 25, iv 24, iv (-7), iv 25, iv 24, iv 7, iv 25]
def tabV : V := .agg tabC
/-- nothing is known yet -/
noncomputable def CN : Calling := callsM Try.prog (fun _ => none) (fun _ => none) (fun _ => 0) (fun _ => false) 0
def knH (g : Nat) : Option V := match g with | 48 => some tabV | _ => none
noncomputable def CC : Calling := callsM Try.prog (fun _ => none) knH (fun _ => 0) (fun _ => false) 0
def kp0 : Nat → Keep := fun _ => ⟨[], [], 0, [], []⟩
abbrev Sp := Int × Int
/-- a place, as data -/
def sp (s : Sp) : List V := [iv s.1, iv s.2]
abbrev Po := Int × Int × Int × Int × Int
/-- a pose, as data -/
def po (p : Po) : List V := [iv p.1, iv p.2.1, iv p.2.2.1, iv p.2.2.2.1, iv p.2.2.2.2]
abbrev Hi := Sp × Sp × Int
/-- a hinge, as data -/
def hi (h : Hi) : List V := [iv h.1.1, iv h.1.2, iv h.2.1.1, iv h.2.1.2, iv h.2.2]
/-- a panel, as data -/
def pl (p : List Sp) : V := .lst 2 (p.map sp)
/-- a linkage, as data -/
def lk (l : List (List Sp) × List Hi) : List V := [.lst 1 (l.1.map fun p => [pl p]), .lst 5 (l.2.map hi)]
def kp78 (i : Nat) : Keep := match i with | 0 => ⟨[3,6,7,8], [], 0, [], []⟩ | _ => ⟨[3,5,6,7,8], [], 0, [], []⟩
def kp48 (i : Nat) : Keep := match i with | 0 => ⟨[0,1,2,7,8], [(0,0),(1,1)], 2, [], [1]⟩ | 2 => ⟨[0,1,2,4,5,7,8], [(0,0),(1,1)], 2, [], [1]⟩ | _ => ⟨[0,1,2,4,5,6,7,8], [(0,0),(1,1)], 2, [], [1]⟩
def zrow : List V := (List.replicate 108 (iv 0))
/-- how functions are called -/
def moH (g : Nat) : Nat := match g with | 102 => 1 | 71 => 1 | 88 => 1 | 100 => 1 | 101 => 1 | 89 => 1 | _ => 0
noncomputable def CF (fz : Tmp → Bool) : Calling := callsM Try.prog (fun _ => none) knH moH fz 0
noncomputable def CM : Calling := CF fun _ => false
noncomputable def C38 : Calling := CF fun t => t.beq 38
def kp51 (_ : Nat) : Keep := ⟨[5,6,7], [], 0, [], []⟩
def kp97 (i : Nat) : Keep := match i with | 0 => ⟨[0,3,9,10,11], [], 0, [], []⟩ | _ => ⟨[6,25,26,27], [(0,0),(1,0)], 1, [], [0]⟩
def kp80 (_ : Nat) : Keep := ⟨[3,4,5,13,14], [(2,0),(3,0)], 1, [(5,0,1)], [0]⟩
def kp52 (i : Nat) : Keep := match i with | 0 => ⟨[8,9,10], [], 0, [], []⟩ | _ => ⟨[4,8,9,10,15,16,17], [], 0, [], []⟩
def kp24 (i : Nat) : Keep := match i with | 0 => ⟨[1,24,25,26], [(0,0)], 1, [], [0]⟩ | _ => ⟨[37,38,39], [], 0, [], []⟩
def kp54 (_ : Nat) : Keep := ⟨[2,5,11,12,13], [(0,0),(2,1),(5,1)], 3, [], [0,1]⟩
def kp57 (i : Nat) : Keep := match i with | 0 => ⟨[3,5,13,14,15], [(9,0),(1,1)], 4, [(5,0,2)], [0,1]⟩ | _ => ⟨[3,5,7,8,13,14,15,24,25,26], [(10,3),(0,0),(1,1),(4,2),(2,2)], 8, [(8,3,2)], [0,1,2,3]⟩
/-- places, as data -/
def sl2 (l : List Sp) : List (List V) := l.map sp
abbrev Li := List (List Sp) × List Hi
/-- a panel where it is -/
abbrev Pd := List Sp × Int
def pd (p : Pd) : List V := [pl p.1, iv p.2]
def kp53 (i : Nat) : Keep := match i with | 0 => ⟨[0,3], [], 0, [], []⟩ | 2 => ⟨[0,4], [], 0, [], []⟩ | _ => ⟨[0,4,5,6], [], 0, [], []⟩
def kp55 (i : Nat) : Keep := match i with | 0 => ⟨[1,3], [(0,0)], 1, [], [0]⟩ | _ => ⟨[1,4], [(0,0)], 1, [], [0]⟩
def kp50 (i : Nat) : Keep := match i with | 0 => ⟨[1,2,3], [(1,1),(0,0)], 3, [(1,1,3)], [0,1]⟩ | 2 => ⟨[1,2,3,4,5], [(1,1),(0,0)], 3, [], [0,1]⟩ | _ => ⟨[1,2,3,4,5,6], [(4,1),(1,1),(0,0)], 3, [], [0,1]⟩
def kp79 (_ : Nat) : Keep := ⟨[0,1], [], 0, [], []⟩
def kp56 (_ : Nat) : Keep := ⟨[1,3,4], [(0,0),(1,1),(4,1)], 3, [], [0,1]⟩
def kp58 (_ : Nat) : Keep := ⟨[1,2,6,7,8], [(6,2),(0,0),(1,1)], 5, [(7,2,2)], [0,1,2]⟩
def kp23 (_ : Nat) : Keep := ⟨[0,1,5], [], 0, [], []⟩
def kp31 (i : Nat) : Keep := match i with | 0 => ⟨[2,3,5], [(0,0),(1,1)], 2, [], [0,1]⟩ | _ => ⟨[2,3,6], [(0,0),(1,1)], 2, [], [0,1]⟩
def kp15 (_ : Nat) : Keep := ⟨[1,3], [(0,0)], 1, [], [0]⟩
/-- how laws call -/
def knA (g : Nat) : Option V := match g with | 48 => some tabV | 44 => some (bv true) | _ => none
noncomputable def CA : Calling := callsM Try.prog (fun _ => none) knA moH (fun _ => false) 0
def kp9 (_ : Nat) : Keep := ⟨[7,16,99,100,101], [], 0, [], []⟩
def kp8 (i : Nat) : Keep := match i with | 0 => ⟨[1,3,4,49,50,51], [(0,0)], 1, [], [0]⟩ | 2 => ⟨[1,3,4,6,7,8,9,49,50,51,105,106], [(0,0),(1,1)], 2, [], [0,1]⟩ | _ => ⟨[1,3,4,6,7,8,9,11,49,50,51,105,106,110,111], [(0,0),(1,1)], 2, [], [0,1]⟩
def kp88 (_ : Nat) : Keep := ⟨[2,3,5,10,11,12], [(8,2),(0,0),(1,1)], 6, [(5,2,1)], [0,1,2]⟩
/-- with three lent blocks -/
noncomputable def C3 : Calling := callsM Try.prog (fun _ => none) knH moH (fun _ => false) 3
def h3 (e : List Sp) (p q : Pd) : Hp := ⟨[(0, .rows 1 false [[pl e]]), (1, .rows 2 true [pd p]), (2, .rows 2 true [pd q])], 3⟩
def kp100 (_ : Nat) : Keep := ⟨[0,1,7,8], [(0,0),(1,1),(2,2)], 3, [], []⟩
def kp89 (_ : Nat) : Keep := ⟨[0,1,7,8], [(0,0)], 1, [], []⟩
noncomputable def C1 : Calling := callsM Try.prog (fun _ => none) knH moH (fun _ => false) 1
/-- a proof of two panels -/
abbrev Ap := Bool × Int × Int × Int × Int × List Int
def apV (a : Ap) (s : Nat) : V := .agg [bv a.1, iv a.2.1, iv a.2.2.1, iv a.2.2.2.1, iv a.2.2.2.2.1, .lst s (il a.2.2.2.2.2)]
def kp68 (i : Nat) : Keep := match i with | 0 => ⟨[3,4,5,48,49,50], [(0,0),(1,1),(2,2)], 3, [], [0,1,2]⟩ | _ => ⟨[3,5,76,77,78], [(0,0),(1,1),(2,2)], 3, [], [0,1,2]⟩
def kp91 (_ : Nat) : Keep := ⟨[0,4,5,11,12,13], [(0,0),(1,1)], 2, [], [0,1]⟩
def kp63 (i : Nat) : Keep := match i with | 0 => ⟨[0,3,7,8,9], [(0,0)], 2, [(3,0,2)], [0]⟩ | _ => ⟨[0,3,4,5,6,7,8,9], [(4,0),(0,0),(2,1),(1,1)], 3, [], [0,1]⟩
def kp39 (_ : Nat) : Keep := ⟨[1,2,7,8,27], [(11,3),(3,3),(0,0),(1,1),(2,2)], 9, [(8,3,1)], [3]⟩
/-- a list of pairs, as data -/
def pr (p : Int × Int) : List V := [iv p.1, iv p.2]
/-- where hinges are lent -/
def moS (g : Nat) : Nat := match g with | 57 => 1 | 54 => 1 | _ => moH g
noncomputable def CS : Calling := callsM Try.prog (fun _ => none) knH moS (fun _ => false) 0
noncomputable def CS1 : Calling := callsM Try.prog (fun _ => none) knH moS (fun _ => false) 1
noncomputable def CS38 : Calling := callsM Try.prog (fun _ => none) knH moS (fun t => t.beq 38) 1
def hh (hs : List Hi) : Hp := ⟨[(0, .rows 5 true (hs.map hi))], 1⟩
/-- a linkage whose hinges are lent -/
def lkh (ps : List (List Sp)) (n : Nat) : V := .agg [.lst 1 (ps.map fun p => [pl p]), .sl 0 0 n]
def kq54 (_ : Nat) : Keep := ⟨[2,5,11,12,13], [(0,0),(1,1),(3,2),(6,2)], 4, [], [0,1,2]⟩
def kq57 (i : Nat) : Keep := match i with | 0 => ⟨[3,5,13,14,15], [(9,4),(0,0),(1,1),(2,2),(3,3)], 7, [(5,4,2)], [3,4]⟩ | _ => ⟨[3,5,7,8,13,14,15,24,25,26], [(10,6),(0,0),(1,1),(2,2),(3,3),(4,4),(7,5),(5,5)], 8, [(8,6,2)], [3,4,5,6]⟩
end Go.Proofs.Ytahoindkdkhpmaa
