/- Words for the texts of this claim. -/
import Derived.Test.YtknofcicagcmiabXCZ
import Derived.Test.YtknofcicagcmiabProg
namespace Go.Proofs.Ytknofcicagcmiab
open Go Go.Proofs.Ytknofcicagcmiab.Clean
set_option linter.unusedVariables false
set_option maxRecDepth 100000
abbrev Hu := Int × Int × Int
def u8v (n : Int) : V := .raw (.int .u8 n)
/-- a hue, as data -/
def hu (h : Hu) : List V := [u8v h.1, u8v h.2.1, u8v h.2.2]
def hul (l : List Hu) : List (List V) := l.map hu
/-- bytes, as data -/
def ul (l : List Int) : List (List V) := l.map fun n => [u8v n]
def kpP : FuncId → Nat → Option (List Tmp) := slotsOf [(4, 0, [1, 6, 9, 45, 46, 47]), (5, 0, [0, 1, 6, 8, 9, 10]), (5, 2, [0, 1, 6, 8, 9, 10, 11, 12]), (8, 0, [1, 2, 5, 8, 9, 10])]
noncomputable def cfP : Cfg := cfgQ Try.prog (fun _ => none) (inN [6, 7, 9, 12]) kpP (fun _ _ => none) (fun _ => true)
def hrow (h : Hu) : List V := [V.raw (Value.int IntKind.u8 h.1), V.raw (Value.int IntKind.u8 h.2.1), V.raw (Value.int IntKind.u8 h.2.2)]
/-- the loop of nearest -/
noncomputable def sh8 (h : Hu) (p : List Hu) (i b : Nat) : St := ⟨mkT [(1, V.lst 3 (hul p)), (2, V.ptr (Id.p 0) 0 0), (5, iv (b : Int)), (8, V.lst 3 (hul p)), (9, iv ((hul p).length : Int)), (10, iv (i : Int))], ⟨[(0, O.rows 3 false [hrow h])], 1, []⟩⟩
def dist (a b : Hu) : Int := IntKind.i64.wrap (IntKind.i64.wrap (IntKind.i64.wrap (IntKind.i64.wrap (IntKind.i64.wrap a.1 - IntKind.i64.wrap b.1) * IntKind.i64.wrap (IntKind.i64.wrap a.1 - IntKind.i64.wrap b.1)) + IntKind.i64.wrap (IntKind.i64.wrap (IntKind.i64.wrap a.2.1 - IntKind.i64.wrap b.2.1) * IntKind.i64.wrap (IntKind.i64.wrap a.2.1 - IntKind.i64.wrap b.2.1))) + IntKind.i64.wrap (IntKind.i64.wrap (IntKind.i64.wrap a.2.2 - IntKind.i64.wrap b.2.2) * IntKind.i64.wrap (IntKind.i64.wrap a.2.2 - IntKind.i64.wrap b.2.2)))
/-- the best of the first i hues -/
def bst (h : Hu) (p : List Hu) : Nat → Nat
  | 0 => 0
  | i + 1 => if dist h (p.getD i (0, 0, 0)) < dist h (p.getD (bst h p i) (0, 0, 0)) then i else bst h p i
/-- the colour of a pixel -/
def colN (n : Int) : Int := IntKind.u8.wrap (IntKind.i64.wrap (n + 1))
def col (p : List Hu) (h : Hu) : Int := colN (bst h p p.length)
def zr4 : List V := [iv 0, iv 0, iv 0, nilS]
noncomputable def sh4a (q p : List Hu) (w : Int) : St := ⟨mkT [(1, V.lst 3 (hul p)), (6, V.ptr (Id.p 0) 0 0), (9, V.ptr (Id.p 1) 0 0), (45, V.lst 3 (hul q)), (46, iv ((hul q).length : Int)), (47, iv 0)], ⟨[(0, O.rows 4 false [zr4]), (1, O.rows 4 false [[iv w, iv (IntKind.i64.wrap (((hul q).length : Int).tdiv w)), iv 1, nilS]])], 2, []⟩⟩
noncomputable def sh4b (q p : List Hu) (w : Int) (l : List Int) (k : Nat) : St := ⟨mkT [(1, V.lst 3 (hul p)), (6, V.ptr (Id.p 0) 0 0), (9, V.ptr (Id.p 1) 0 0), (45, V.lst 3 (hul q)), (46, iv ((hul q).length : Int)), (47, iv (k : Int))], ⟨[(0, O.rows 4 false [zr4]), (1, O.rows 4 false [[iv w, iv (IntKind.i64.wrap (((hul q).length : Int).tdiv w)), iv 1, .sl (.p 2) 0 k]]), (2, O.rows 1 true (ul l))], 3, []⟩⟩
/-- the result for a picture that is right -/
def okV (q p : List Hu) (w : Int) (l : List Int) : V := .tup [.agg [iv w, iv (IntKind.i64.wrap ((q.length : Int).tdiv w)), iv 1, .lst 1 (ul l)], iv 0]
def errV : V := .tup [.agg zr4, iv 2]
/-- is the picture right? -/
def good (q p : List Hu) (w : Int) : Bool := decide (1 ≤ w) && decide (w ≤ 8) && decide (1 ≤ (q.length : Int)) && decide ((q.length : Int) ≤ 16) && decide ((q.length : Int).tmod w = 0) && decide (IntKind.i64.wrap ((q.length : Int).tdiv w) ≤ 8) && decide (1 ≤ (p.length : Int)) && decide ((p.length : Int) ≤ 15)
noncomputable def sh5a (q p : List Hu) (w : Int) : St := ⟨mkT [(0, V.lst 3 (hul q)), (1, V.lst 3 (hul p)), (6, V.ptr (Id.p 0) 0 0), (8, iv ((hul q).length : Int)), (9, V.ptr (Id.p 1) 0 0), (10, iv 0)], ⟨[(0, O.rows 4 false [zr4]), (1, O.rows 4 false [[iv w, iv (IntKind.i64.wrap (((hul q).length : Int).tdiv w)), iv 1, nilS]])], 2, []⟩⟩
noncomputable def sh5b (q p : List Hu) (w : Int) (l : List Int) (k : Nat) : St := ⟨mkT [(0, V.lst 3 (hul q)), (1, V.lst 3 (hul p)), (6, V.ptr (Id.p 0) 0 0), (8, iv ((hul q).length : Int)), (9, V.ptr (Id.p 1) 0 0), (10, iv (k : Int))], ⟨[(0, O.rows 4 false [zr4]), (1, O.rows 4 false [[iv w, iv (IntKind.i64.wrap (((hul q).length : Int).tdiv w)), iv 1, .sl (.p 2) 0 k]]), (2, O.rows 1 true (ul l))], 3, []⟩⟩
/-- the inner loop -/
noncomputable def sh5c (q p : List Hu) (w : Int) (b i : Nat) : St := ⟨mkT [(0, V.lst 3 (hul q)), (1, V.lst 3 (hul p)), (6, V.ptr (Id.p 0) 0 0), (8, iv ((hul q).length : Int)), (9, V.ptr (Id.p 1) 0 0), (10, iv 0), (11, iv (b : Int)), (12, iv (i : Int))], ⟨[(0, O.rows 4 false [zr4]), (1, O.rows 4 false [[iv w, iv (IntKind.i64.wrap (((hul q).length : Int).tdiv w)), iv 1, nilS]])], 2, []⟩⟩
noncomputable def sh5d (q p : List Hu) (w : Int) (l : List Int) (k b i : Nat) : St := ⟨mkT [(0, V.lst 3 (hul q)), (1, V.lst 3 (hul p)), (6, V.ptr (Id.p 0) 0 0), (8, iv ((hul q).length : Int)), (9, V.ptr (Id.p 1) 0 0), (10, iv (k : Int)), (11, iv (b : Int)), (12, iv (i : Int))], ⟨[(0, O.rows 4 false [zr4]), (1, O.rows 4 false [[iv w, iv (IntKind.i64.wrap (((hul q).length : Int).tdiv w)), iv 1, .sl (.p 2) 0 k]]), (2, O.rows 1 true (ul l))], 3, []⟩⟩
end Go.Proofs.Ytknofcicagcmiab
