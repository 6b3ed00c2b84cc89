/- Words for the texts of this claim. -/
import Derived.Test.YtmdimnmdoifkfaaXDCRU
import Derived.Test.YtmdimnmdoifkfaaProg
namespace Go.Proofs.Ytmdimnmdoifkfaa
open Go Go.Proofs.Ytmdimnmdoifkfaa.Clean
set_option linter.unusedVariables false
set_option maxRecDepth 100000
def glX : Nat → Option (List V) := fun _ => none
def clX (g : FuncId) : Bool := !(inN [90, 100, 103, 64, 81] g)
abbrev KFX (f : Fact) : Prop := K0G Try.prog glX f.g f.args fun v => v = f.r
theorem hmX : Try.prog.follows .mixedOrders = true := by kernel_rfl
def nl (l : List Int) : List (List V) := l.map fun n => [iv n]
def gl (l : List (Int × Int)) : List (List V) := l.map fun g => [iv g.1, iv g.2]
/-- a belt, as data -/
structure Bt where
  L : Int
  C : Int
  S : Int
  gs : List (Int × Int)
  bins : List Int
def bel (b : Bt) : List V := [iv b.L, iv b.C, iv b.S, .lst 2 (gl b.gs), .lst 1 (nl b.bins)]
abbrev Fd := Int × Int × List Int
/-- a part, as data -/
def fdr (x : Fd) : List V := [iv x.1, iv x.2.1, .lst 1 (nl x.2.2)]
def fdl (l : List Fd) : List (List V) := l.map fdr
def ivs (l : List Int) : List V := l.map iv
def bvs (l : List Bool) : List V := l.map bv
def kpP : FuncId → Nat → Option (List Tmp) := slotsOf [(15, 0, [1, 5]), (20, 0, [3, 9, 10, 11]), (45, 0, [1, 3]), (45, 2, [1, 5]), (46, 0, [1, 2, 5]), (48, 0, [0, 3]), (51, 0, [3, 6, 7, 8]), (52, 0, [0, 3]), (53, 0, [0, 3, 4, 5, 6]), (55, 0, [1, 3, 4, 14, 15, 16]), (111, 0, [0, 1, 7, 8]), (88, 0, [3, 4, 7, 8, 9]), (89, 0, [0, 1, 5, 6])]
def moC (f : FuncId) : Nat := bif inN [88, 111, 104] f then 3 else 0
def tyC (f : FuncId) : Option TypeId := bif inN [104] f then some 4 else some 3
noncomputable def cfM : Cfg := cfgM Try.prog glX moC tyC (inN [54, 75, 105, 56, 61]) kpP
noncomputable def sh15 (l : List Fd) (k : Nat) : St := ⟨mkT [(1, V.lst 3 (fdl l)), (5, iv (k : Int))], ⟨[], 0, []⟩⟩
noncomputable def sh20 (l : List Fd) (b : Int) (k : Nat) : St := ⟨mkT [(3, iv b), (9, V.lst 3 (fdl l)), (10, iv ((fdl l).length : Int)), (11, iv (k : Int))], ⟨[], 0, []⟩⟩
noncomputable def sh45a (b : Bt) (k : Nat) : St := ⟨mkT [(1, V.ptr (Id.p 0) 0 0), (3, iv (k : Int))], ⟨[(0, O.rows 5 false [bel b])], 1, []⟩⟩
noncomputable def sh45b (b : Bt) (k : Nat) : St := ⟨mkT [(1, V.ptr (Id.p 0) 0 0), (5, iv (k : Int))], ⟨[(0, O.rows 5 false [bel b])], 1, []⟩⟩
noncomputable def sh46 (b : Bt) (n : Int) (k : Nat) : St := ⟨mkT [(1, iv n), (2, V.ptr (Id.p 0) 0 0), (5, iv (k : Int))], ⟨[(0, O.rows 5 false [bel b])], 1, []⟩⟩
noncomputable def sh48 (l : List Fd) (k : Nat) : St := ⟨mkT [(0, V.lst 3 (fdl l)), (3, iv (k : Int))], ⟨[], 0, []⟩⟩
noncomputable def sh51 (l c : List Int) (k : Nat) : St := ⟨mkT [(3, V.ptr (Id.p 0) 0 0), (6, V.lst 1 (nl l)), (7, iv ((nl l).length : Int)), (8, iv (k : Int))], ⟨[(0, O.rows 16 true [ivs c])], 1, []⟩⟩
noncomputable def sh88 (c : List Int) (a b : Int) (k : Nat) : St := ⟨mkT [(3, iv a), (4, iv b), (7, V.sla (Id.p 0) 0 0 16), (8, iv 16), (9, iv (k : Int))], ⟨[(0, O.rows 16 true [ivs c])], 1, []⟩⟩
noncomputable def sh52 (l : List Int) (k : Nat) : St := ⟨mkT [(0, V.lst 1 (nl l)), (3, iv (k : Int))], ⟨[], 0, []⟩⟩
noncomputable def sh53 (l : List Int) (a b : Int) (e : Bool) (k : Nat) : St := ⟨mkT [(0, V.lst 1 (nl l)), (3, iv a), (4, iv b), (5, bv e), (6, iv (k : Int))], ⟨[], 0, []⟩⟩
noncomputable def sh55 (b : Bt) (n : Int) (c : List Bool) (k : Nat) : St := ⟨mkT [(1, V.ptr (Id.p 0) 0 0), (3, iv n), (4, V.ptr (Id.p 1) 0 0), (14, V.lst 2 (gl b.gs)), (15, iv ((gl b.gs).length : Int)), (16, iv (k : Int))], ⟨[(0, O.rows 5 false [bel b]), (1, O.rows 8 true [bvs c])], 2, []⟩⟩
noncomputable def sh111 (l : List Int) (a b : Int) (k : Nat) : St := ⟨mkT [(0, V.lst 1 (nl l)), (1, V.fn (Fn.func 105) [] [V.ptr (Id.p 0) 0 0, V.ptr (Id.p 1) 0 0]), (7, iv ((nl l).length : Int)), (8, iv (k : Int))], ⟨[(0, O.rows 1 false [[iv a]]), (1, O.rows 1 false [[iv b]])], 2, []⟩⟩
noncomputable def sh89 (l : List Int) (n m : Int) (k : Nat) : St := ⟨mkT [(0, V.lst 1 (nl l)), (1, iv n), (5, iv m), (6, iv (k : Int))], ⟨[], 0, []⟩⟩
noncomputable def mem2 (a b : Int) : Hp := ⟨[(0, O.rows 1 false [[iv a]]), (1, O.rows 1 false [[iv b]])], 2, []⟩
end Go.Proofs.Ytmdimnmdoifkfaa
