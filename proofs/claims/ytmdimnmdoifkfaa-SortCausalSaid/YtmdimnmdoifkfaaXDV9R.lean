/- Words for the texts of this claim. -/
import Derived.Test.YtmdimnmdoifkfaaXDCI
import Derived.Test.YtmdimnmdoifkfaaProg
import Derived.Test.YtmdimnmdoifkfaaXDS9R
import Derived.Test.YtmdimnmdoifkfaaXDT9R
namespace Go.Proofs.Ytmdimnmdoifkfaa
open Go Go.Proofs.Ytmdimnmdoifkfaa.Clean
set_option linter.unusedVariables false
set_option maxRecDepth 100000
abbrev Sw := Int × Int × Bool
def swr (x : Sw) : List V := [iv x.1, iv x.2.1, bv x.2.2]
def swl (l : List Sw) : List (List V) := l.map swr
def kpV : FuncId → Nat → Option (List Tmp) := slotsOf [(64, 0, [0, 2, 4, 7]), (90, 0, [0, 1, 2]), (90, 2, [0, 1, 2, 4])]
noncomputable def cfV : Cfg := cfgM Try.prog glX moT tyT (inN [54, 94, 93, 109]) kpV
def moI (f : FuncId) : Nat := bif inN [64] f then 3 else 0
noncomputable def postI (f : FuncId) (args : List V) (h : Hp) (us : Us) : Hp := match args with
  | .sl _ _ _ :: .agg x :: _ => ⟨[(3, O.rows 3 true (us.getD 0 [])), (2, O.rows 3 true [x]), (1, O.rows 3 false [x])], 4, []⟩
  | _ :: .agg x :: _ => ⟨[(2, O.rows 3 true (us.getD 0 [])), (1, O.rows 3 true [x]), (0, O.rows 3 false [x])], 3, []⟩
  | _ => h
def rtI (f : FuncId) (args : List V) (us : Us) (v : V) (k : V → Prop) : Prop := match args with
  | .sl _ _ n :: _ => sameV v (.sl (.p 3) 0 (n + 1)) (k (.sl (.p 3) 0 (n + 1)))
  | _ => sameV v (.sl (.p 2) 0 1) (k (.sl (.p 2) 0 1))
noncomputable def cfI : Cfg := cfgG Try.prog glX moI postI rtI (inN [57, 58, 90, 63]) kpV
noncomputable def cfIS : Cfg := { cfI with clean := fun g => !inN [90] g }
noncomputable def mem64 (l : List Sw) : Hp := ⟨[(0, O.rows 3 true (swl l))], 1, []⟩
noncomputable def sh64 (l : List Sw) (x : Sw) (k : Nat) : St := ⟨mkT [(0, V.sl (Id.p 0) 0 l.length), (2, V.fn (Fn.func 65) [] []), (4, V.ptr (Id.p 1) 0 0), (7, iv (k : Int))], ⟨[(0, O.rows 3 true (swl l)), (1, O.rows 3 false [swr x])], 2, []⟩⟩
noncomputable def sh64n (x : Sw) (k : Nat) : St := ⟨mkT [(0, nilS), (2, V.fn (Fn.func 65) [] []), (4, V.ptr (Id.p 0) 0 0), (7, iv (k : Int))], ⟨[(0, O.rows 3 false [swr x])], 1, []⟩⟩
noncomputable def rec24 (b : Bt) (l : List Fd) (n n' : Int) : Lr := Lr.mk LoopState.ready none (mkT [(0, V.agg (bel b)), (1, V.lst 3 (fdl l)), (2, V.ptr (Id.p 0) 0 0), (4, nilS), (5, iv 0), (6, iv 0), (7, V.ptr (Id.p 2) 0 0), (13, V.agg (bel b)), (14, iv n), (15, V.lst 3 (fdl l)), (16, iv n'), (17, V.sl (Id.p 1) 0 2), (18, iv 0), (19, iv 0), (20, bv false), (22, V.lst 3 (fdl l)), (23, V.ptr (Id.p 0) 0 2), (24, iv b.S), (25, V.fn (Fn.func 90) [] [V.ptr (Id.p 3) 0 0, V.ptr (Id.p 4) 0 0])]) 64 (Array.mk [26]) (rfA (cdAt [1, 1, 1, 0, 1, 0] (bodyOf Try.f24))) (rfB (cdAt [1, 1, 1, 0, 1, 0] (bodyOf Try.f24))) 24
noncomputable def nA (b : Bt) (l : List Fd) (n n' : Int) (r : List (List V)) : Hp := ⟨[(5, O.lp (rec24 b l n n')), (4, O.rows 1 false [[iv b.S]]), (3, O.rows 1 false [[V.lst 3 r]]), (2, O.rows 1 false [[nilS]]), (1, O.rows 1 true [[iv n], [iv n']]), (0, O.rows 5 false [bel b])], 6, []⟩
noncomputable def nB (b : Bt) (l : List Fd) (n n' : Int) (r : List (List V)) : Hp := ⟨[(3, O.rows 1 false [[V.lst 3 r]]), (5, O.lp (rec24 b l n n')), (4, O.rows 1 false [[iv b.S]]), (2, O.rows 1 false [[nilS]]), (1, O.rows 1 true [[iv n], [iv n']]), (0, O.rows 5 false [bel b])], 6, []⟩
noncomputable def nC (b : Bt) (l : List Fd) (n n' : Int) (r : List (List V)) (F : List Sw) : Hp := ⟨[(3, O.rows 1 false [[V.lst 3 r]]), (5, O.lp (rec24 b l n n')), (2, O.rows 1 false [[V.sl (Id.p 6) 0 F.length]]), (4, O.rows 1 false [[iv b.S]]), (1, O.rows 1 true [[iv n], [iv n']]), (0, O.rows 5 false [bel b]), (6, O.rows 3 true (swl F))], 7, []⟩
end Go.Proofs.Ytmdimnmdoifkfaa
