/- SeatR3: a part of the proof. -/
import Derived.Test.YtahoindkdkhpmaaXSeatR2
import Derived.Test.YtahoindkdkhpmaaXCM
namespace Go.Proofs.Ytahoindkdkhpmaa
open Go.Proofs.Ytahoindkdkhpmaa.Clean
/-- how Close and what it calls are called -/
def moL (g : Nat) : Nat := match g with | 73 => 3 | _ => moH g
/-- behind a call of 'try' -/
def postL (g : Nat) : Hp → Us → Hp := match g with
  | 73 => fun h us => ⟨[(0, .rows 1 false [[.sl 7 0 (us.getD 1 []).length]]), (2, getO h 2), (3, getO h 3), (4, getO h 4), (5, getO h 5), (6, getO h 6), (7, .rows 1 true (us.getD 0 []))], 8⟩
  | _ => fun h _ => h
/-- behind the first call of it -/
def postF (g : Nat) : Hp → Us → Hp := match g with
  | 73 => fun h us => ⟨[(0, .rows 1 false [[.sl 6 0 (us.getD 1 []).length]]), (1, getO h 1), (2, getO h 2), (3, getO h 3), (4, getO h 4), (5, getO h 5), (6, .rows 1 true (us.getD 0 []))], 7⟩
  | _ => fun h _ => h
/-- behind the first call of it, where there are no hinges -/
def postN (_ : Nat) : Hp → Us → Hp := fun h _ => h
def rtL (g : Nat) : Us → V → (V → Prop) → Prop := match g with | 73 => fun _ v k => typedR Try.prog (some 4) v k | _ => fun _ v k => k v
noncomputable def CL : Calling := callsF Try.prog (fun _ => none) knH moL (fun _ => false) 0 postL rtL
noncomputable def CLF : Calling := callsF Try.prog (fun _ => none) knH moL (fun _ => false) 0 postF rtL
noncomputable def CLN : Calling := callsF Try.prog (fun _ => none) knH moL (fun _ => false) 0 postN rtL
def kp73 (_ : Nat) : Keep := ⟨[1,2,6,7,9,25,26], [(0,0),(2,2),(3,3),(4,4),(5,5),(6,6),(7,7),(1,8),(12,8)], 9, [], []⟩
def kpE73 : Keep := ⟨[], [(0,0),(2,2),(3,3),(4,4),(5,5),(6,6),(1,7),(8,7),(12,7)], 8, [], []⟩
def kf73 (_ : Nat) : Keep := ⟨[1,2,6,7,9,25,26], [(0,0),(1,1),(2,2),(3,3),(4,4),(5,5),(6,6),(7,7),(11,7)], 8, [], []⟩
def kfE73 : Keep := ⟨[], [(0,0),(1,1),(2,2),(3,3),(4,4),(5,5),(7,6),(11,6)], 7, [], []⟩
def knE73 : Keep := ⟨[], [(0,0),(1,1),(2,2),(3,3),(4,4),(5,5)], 6, [], []⟩
def caps6 (a b c d e f : Nat) : V := .fn (.func 73) [] [.ptr a 0 0, .ptr b 0 0, .ptr c 0 0, .ptr d 0 0, .ptr e 0 0, .ptr f 0 0]
/-- what 'try' is lent -/
def mem1 (l : Li) (a b : Sp) (xs : List Int) (i : Nat) : Hp := ⟨[(0, .rows 1 false [[.sl 1 0 i]]), (1, .rows 1 true (il xs)), (2, .rows 2 false [lk l]), (3, .rows 2 false [sp a]), (4, .rows 2 false [sp b]), (5, .rows 108 false [tabC]), (6, .rows 1 false [[caps6 0 2 3 4 5 6]])], 7⟩
def mem0 (l : Li) (a b : Sp) : Hp := ⟨[(0, .rows 1 false [[nilS]]), (1, .rows 2 false [lk l]), (2, .rows 2 false [sp a]), (3, .rows 2 false [sp b]), (4, .rows 108 false [tabC]), (5, .rows 1 false [[caps6 0 1 2 3 4 5]])], 6⟩
def kp76 (_ : Nat) : Keep := ⟨[3,5,6,7,9,13,14], [(0,0),(1,1),(2,2),(3,3),(4,4)], 5, [], [0,1,2,3]⟩
noncomputable def CT0 : Calling := callsM Try.prog (fun _ => none) knA moH (fun _ => false) 0
/-- how Bent calls With -/
def moW (g : Nat) : Nat := match g with | 94 => 3 | _ => moH g
def postW (g : Nat) : Hp → Us → Hp := match g with | 94 => fun _ us => ⟨[(0, .rows 5 true (us.getD 0 []))], 1⟩ | _ => fun h _ => h
def rvW (us : Us) : V := .agg [.lst 1 (us.getD 1 []), .sl 0 0 (us.getD 0 []).length]
def rtW (g : Nat) : Us → V → (V → Prop) → Prop := match g with | 94 => fun us v k => sameV v (rvW us) (k (rvW us)) | _ => fun _ v k => k v
noncomputable def CW : Calling := callsF Try.prog (fun _ => none) knH moW (fun _ => false) 0 postW rtW
def kw94 (_ : Nat) : Keep := ⟨[1,4,5,6], [(1,1),(3,3),(4,4)], 5, [], []⟩
def kwE94 : Keep := ⟨[], [(3,0)], 1, [], []⟩
def kr40 (_ : Nat) : Keep := ⟨[1,2,6,7], [(1,1),(3,1),(0,0)], 2, [(6,1,1)], [0]⟩
end Go.Proofs.Ytahoindkdkhpmaa
