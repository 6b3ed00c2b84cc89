/- Words for the texts of this claim. -/
import Derived.Test.YtfhflfppebkmjaaDoorXCU
import Derived.Test.YtfhflfppebkmjaaDoorProg
import Derived.Test.YtfhflfppebkmjaaDoorXCR
namespace Go.Proofs.YtfhflfppebkmjaaDoor
open Go Go.Proofs.YtfhflfppebkmjaaDoor.Clean
set_option linter.unusedVariables false
set_option maxRecDepth 100000
abbrev Hu := Int × Int × Int
def u8v (n : Int) : V := .raw (.int .u8 n)
/-- a hue, as data -/
def hu (h : Hu) : List V := [u8v h.1, u8v h.2.1, u8v h.2.2]
def hul (l : List Hu) : List (List V) := l.map hu
/-- bytes, as data -/
def ul (l : List Int) : List (List V) := l.map fun n => [u8v n]
def kpP : FuncId → Nat → Option (List Tmp) := slotsOf [(19, 0, [1, 6, 9, 45, 46, 47]), (59, 0, [1, 2, 5, 8, 9, 10]), (28, 0, [40, 41, 42]), (57, 0, [3, 7, 8, 9]), (12, 0, [0, 1, 7, 69, 70, 71]), (12, 2, [0, 1, 7, 10, 11, 12, 69, 70, 71, 95, 96, 97])]
noncomputable def cfP : Cfg := cfgQ Tryd.prog glX (inN [58, 118]) kpP (fun _ _ => none) (fun _ => true)
def hrow (h : Hu) : List V := [V.raw (Value.int IntKind.u8 h.1), V.raw (Value.int IntKind.u8 h.2.1), V.raw (Value.int IntKind.u8 h.2.2)]
/-- the loop of nearest -/
noncomputable def sh8 (h : Hu) (p : List Hu) (i b : Nat) : St := ⟨mkT [(1, V.lst 3 (hul p)), (2, V.ptr (Id.p 0) 0 0), (5, iv (b : Int)), (8, V.lst 3 (hul p)), (9, iv ((hul p).length : Int)), (10, iv (i : Int))], ⟨[(0, O.rows 3 false [hrow h])], 1, []⟩⟩
def dist (a b : Hu) : Int := IntKind.i64.wrap (IntKind.i64.wrap (IntKind.i64.wrap (IntKind.i64.wrap (IntKind.i64.wrap a.1 - IntKind.i64.wrap b.1) * IntKind.i64.wrap (IntKind.i64.wrap a.1 - IntKind.i64.wrap b.1)) + IntKind.i64.wrap (IntKind.i64.wrap (IntKind.i64.wrap a.2.1 - IntKind.i64.wrap b.2.1) * IntKind.i64.wrap (IntKind.i64.wrap a.2.1 - IntKind.i64.wrap b.2.1))) + IntKind.i64.wrap (IntKind.i64.wrap (IntKind.i64.wrap a.2.2 - IntKind.i64.wrap b.2.2) * IntKind.i64.wrap (IntKind.i64.wrap a.2.2 - IntKind.i64.wrap b.2.2)))
/-- the best of the first i hues -/
def bst (h : Hu) (p : List Hu) : Nat → Nat
  | 0 => 0
  | i + 1 => if dist h (p.getD i (0, 0, 0)) < dist h (p.getD (bst h p i) (0, 0, 0)) then i else bst h p i
/-- the colour of a pixel -/
def colN (n : Int) : Int := IntKind.u8.wrap (IntKind.i64.wrap (n + 1))
def col (p : List Hu) (h : Hu) : Int := colN (bst h p p.length)
def zr4 : List V := [iv 0, iv 0, iv 0, nilS]
noncomputable def sh4a (q p : List Hu) (w : Int) : St := ⟨mkT [(1, V.lst 3 (hul p)), (6, V.ptr (Id.p 0) 0 0), (9, V.ptr (Id.p 1) 0 0), (45, V.lst 3 (hul q)), (46, iv ((hul q).length : Int)), (47, iv 0)], ⟨[(0, O.rows 4 false [zr4]), (1, O.rows 4 false [[iv w, iv (IntKind.i64.wrap (((hul q).length : Int).tdiv w)), iv 1, nilS]])], 2, []⟩⟩
noncomputable def sh4b (q p : List Hu) (w : Int) (l : List Int) (k : Nat) : St := ⟨mkT [(1, V.lst 3 (hul p)), (6, V.ptr (Id.p 0) 0 0), (9, V.ptr (Id.p 1) 0 0), (45, V.lst 3 (hul q)), (46, iv ((hul q).length : Int)), (47, iv (k : Int))], ⟨[(0, O.rows 4 false [zr4]), (1, O.rows 4 false [[iv w, iv (IntKind.i64.wrap (((hul q).length : Int).tdiv w)), iv 1, .sl (.p 2) 0 k]]), (2, O.rows 1 true (ul l))], 3, []⟩⟩
/-- the result for a picture that is right -/
def okV (q p : List Hu) (w : Int) (l : List Int) : V := .tup [.agg [iv w, iv (IntKind.i64.wrap ((q.length : Int).tdiv w)), iv 1, .lst 1 (ul l)], iv 0]
def errV : V := .tup [.agg zr4, iv 2]
/-- is the picture right? -/
def good (q p : List Hu) (w : Int) : Bool := decide (1 ≤ w) && decide (w ≤ 8) && decide (1 ≤ (q.length : Int)) && decide ((q.length : Int) ≤ 16) && decide ((q.length : Int).tmod w = 0) && decide (IntKind.i64.wrap ((q.length : Int).tdiv w) ≤ 8) && decide (1 ≤ (p.length : Int)) && decide ((p.length : Int) ≤ 15)
noncomputable def sh57 (l : List Int) (n : Int) (i : Nat) : St := ⟨mkT [(3, iv n), (7, V.lst 1 (ul l)), (8, iv ((ul l).length : Int)), (9, iv (i : Int))], ⟨[], 0, []⟩⟩
noncomputable def sh28 (l : List Int) (i : Nat) : St := ⟨mkT [(40, V.lst 1 (ul l)), (41, iv ((ul l).length : Int)), (42, iv (i : Int))], ⟨[], 0, []⟩⟩
noncomputable def sh12a (q p : List Hu) (l : List Int) (i : Nat) : St := ⟨mkT [(0, V.lst 3 (hul q)), (1, V.lst 3 (hul p)), (7, bv true), (69, V.lst 1 (ul l)), (70, iv ((ul l).length : Int)), (71, iv (i : Int))], ⟨[], 0, []⟩⟩
noncomputable def sh12b (q p : List Hu) (l : List Int) (c d : Int) (i k : Nat) : St := ⟨mkT [(0, V.lst 3 (hul q)), (1, V.lst 3 (hul p)), (7, bv true), (10, iv (i : Int)), (11, u8v c), (12, iv d), (69, V.lst 1 (ul l)), (70, iv ((ul l).length : Int)), (71, iv (i : Int)), (95, V.lst 3 (hul p)), (96, iv ((hul p).length : Int)), (97, iv (k : Int))], ⟨[], 0, []⟩⟩
end Go.Proofs.YtfhflfppebkmjaaDoor
