/- Words for the texts of this claim. -/
import Derived.Test.YtmddjopahcbefaaXCRU
import Derived.Test.YtmddjopahcbefaaProg
namespace Go.Proofs.Ytmddjopahcbefaa
open Go Go.Proofs.Ytmddjopahcbefaa.Clean
set_option linter.unusedVariables false
set_option maxRecDepth 100000
def glX : Nat → Option (List V) := fun _ => none
def strV (l : List Nat) : V := .raw (.string ⟨⟨l.map UInt8.ofNat⟩⟩)
def clX (g : FuncId) : Bool := true
abbrev KFX (f : Fact) : Prop := K0G Try.prog glX f.g f.args fun v => v = f.r
theorem hmX : Try.prog.follows .mixedOrders = true := by kernel_rfl
def u8v (n : Int) : V := .raw (.int .u8 n)
/-- numbers, as data -/
def nl (l : List Int) : List (List V) := l.map fun n => [iv n]
/-- lists of numbers, as data -/
def wl (l : List (List Int)) : List (List V) := l.map fun x => [.lst 1 (nl x)]
def kpP : FuncId → Nat → Option (List Tmp) := slotsOf [(30, 0, [0, 5, 6, 7]), (86, 0, [0, 3]), (89, 0, [0, 1, 5, 6]), (122, 0, [0, 1, 5]), (80, 0, [0, 9, 10, 11]), (87, 0, [1, 5, 12, 13, 14]), (121, 0, [0, 1, 2, 4, 5, 10, 21, 22, 23]), (83, 0, [1, 7, 8, 9]), (31, 0, [0, 5, 6]), (31, 2, [0, 5, 6, 7, 25, 26]), (31, 4, [0, 5, 6, 7, 8]), (90, 0, [0, 1, 2, 3, 4, 5]), (90, 2, [0, 1, 2, 3, 4, 5, 13]), (32, 0, [0, 4, 5, 6, 7]), (32, 2, [0, 4, 5, 6, 7, 8, 9]), (32, 4, [0, 4, 5, 6, 7, 8, 9, 10]), (32, 6, [0, 4, 5, 6, 7, 8, 11, 12]), (32, 8, [0, 4, 5, 6, 7, 8, 11, 12, 13, 14]), (32, 10, [0, 4, 5, 6, 7, 8, 11, 15]), (23, 0, [0, 1, 5])]
noncomputable def cfP : Cfg := cfgQ Try.prog glX (inN [91, 44, 120]) kpP (fun _ _ => none) (fun _ => true)
def nn (l : List Nat) : List (List V) := l.map fun (n : Nat) => [iv (n : Int)]
def wn (w : List (List Nat)) : List (List V) := w.map fun l => [.lst 1 (nn l)]
def sv (s : Nat) : V := u8v (s : Int)
def moG (f : FuncId) : Nat := bif Nat.beq f 121 then 3 else 0
def tyG (f : FuncId) : Option TypeId := some 4
noncomputable def cfM : Cfg := cfgM Try.prog glX moG tyG (inN [91, 44]) kpP
def memG (w : List (List Nat)) (t : List Nat) : Hp := ⟨[(0, .rows 1 false [[.lst 1 (wn w)]]), (1, .rows 1 false [[.fn (.func 121) [] [.ptr (.p 0) 0 0, .ptr (.p 1) 0 0, .ptr (.p 2) 0 0]]]), (2, .rows 1 false [[.lst 1 (nn t)]])], 3, []⟩
noncomputable def shG (w : List (List Nat)) (tr : List Nat) (T L : Nat) (g : Bool) (t : Nat) (l : List Nat) (k : Nat) : St := ⟨mkT [(0, sv T), (1, sv L), (2, bv g), (4, V.ptr (Id.p 1) 0 0), (5, V.ptr (Id.p 2) 0 0), (10, iv (t : Int)), (21, V.lst 1 (nn l)), (22, iv ((nn l).length : Int)), (23, iv (k : Int))], memG w tr⟩
noncomputable def sh50 (l : List Int) (n s k : Nat) : St := ⟨mkT [(1, iv (n : Int)), (5, sv s), (12, V.lst 1 (nl l)), (13, iv ((nl l).length : Int)), (14, iv (k : Int))], ⟨[], 0, []⟩⟩
noncomputable def sh43 (w : List (List Int)) (k : Nat) : St := ⟨mkT [(0, V.lst 1 (wl w)), (9, V.lst 1 (wl w)), (10, iv ((wl w).length : Int)), (11, iv (k : Int))], ⟨[], 0, []⟩⟩
def bl (l : List Bool) : List (List V) := l.map fun b => [bv b]
noncomputable def sh16 (l : List Int) (n : Nat) (s : List Bool) (k : Nat) : St := ⟨mkT [(0, V.lst 1 (nl l)), (1, iv (n : Int)), (5, V.sl (Id.p 0) 0 n), (6, iv (k : Int))], ⟨[(0, O.rows 1 true (bl s))], 1, []⟩⟩
noncomputable def sh15 (w : List (List Int)) (k : Nat) : St := ⟨mkT [(0, V.lst 1 (wl w)), (3, iv (k : Int))], ⟨[], 0, []⟩⟩
noncomputable def sh17 (l : List Nat) (x k : Nat) : St := ⟨mkT [(0, V.lst 1 (nn l)), (1, iv (x : Int)), (5, iv (k : Int))], ⟨[], 0, []⟩⟩
noncomputable def sh13 (w : List (List Int)) (b : V) (k : Nat) : St := ⟨mkT [(0, V.lst 1 (wl w)), (5, V.lst 1 (wl w)), (6, iv ((wl w).length : Int)), (7, iv (k : Int))], ⟨[], 0, []⟩⟩
noncomputable def sh5 (w : List (List Nat)) (t o : List Nat) (a b : Bool) (k : Nat) : St := ⟨mkT [(0, V.lst 1 (wn w)), (1, V.lst 1 (nn t)), (2, V.lst 1 (nn o)), (9, bv true), (13, bv a), (14, bv b), (81, V.lst 1 (wn w)), (82, iv ((wn w).length : Int)), (83, iv (k : Int))], ⟨[], 0, []⟩⟩
noncomputable def sh46 (l : List Nat) (L k : Nat) : St := ⟨mkT [(1, sv L), (7, V.lst 1 (nn l)), (8, iv ((nn l).length : Int)), (9, iv (k : Int))], ⟨[], 0, []⟩⟩
noncomputable def sh14 (w : List (List Nat)) (s : List Nat) (L : Nat) : St := ⟨mkT [(0, V.lst 1 (wn w)), (5, V.sl (Id.p 0) 0 w.length), (6, sv L)], ⟨[(0, O.rows 1 true (nn s))], 1, []⟩⟩
noncomputable def sh14a (w : List (List Nat)) (s : List Nat) (L x k : Nat) : St := ⟨mkT [(0, V.lst 1 (wn w)), (5, V.sl (Id.p 0) 0 w.length), (6, sv L), (7, iv (x : Int)), (25, iv ((wn w).length : Int)), (26, iv (k : Int))], ⟨[(0, O.rows 1 true (nn s))], 1, []⟩⟩
noncomputable def sh14b (w : List (List Nat)) (s : List Nat) (L x c : Nat) : St := ⟨mkT [(0, V.lst 1 (wn w)), (5, V.sl (Id.p 0) 0 w.length), (6, sv L), (7, iv (x : Int)), (8, sv c)], ⟨[(0, O.rows 1 true (nn s))], 1, []⟩⟩
noncomputable def sh4 (w : List (List Nat)) (t : List Nat) (g : Int) (k : Nat) : St := ⟨mkT [(0, V.lst 1 (wn w)), (1, u8v g), (5, bv true), (6, V.lst 1 (nn t)), (43, V.lst 1 (wn w)), (44, iv ((wn w).length : Int)), (45, iv (k : Int))], ⟨[], 0, []⟩⟩
noncomputable def sh90a (w : List (List Nat)) (t : List Nat) (G m F : Nat) (b : Bool) : St := ⟨mkT [(0, V.lst 1 (wn w)), (1, V.lst 1 (nn t)), (2, sv G), (3, iv (m : Int)), (4, sv F), (5, bv b)], ⟨[], 0, []⟩⟩
noncomputable def sh90b (w : List (List Nat)) (t : List Nat) (G m F : Nat) (b : Bool) (k : Nat) : St := ⟨mkT [(0, V.lst 1 (wn w)), (1, V.lst 1 (nn t)), (2, sv G), (3, iv (m : Int)), (4, sv F), (5, bv b), (13, iv (k : Int))], ⟨[], 0, []⟩⟩
noncomputable def sh32 (w : List (List Nat)) (s : List Nat) (g : List Bool) (c : Nat) : St := ⟨mkT [(0, V.lst 1 (wn w)), (4, iv (w.length : Int)), (5, V.sl (Id.p 0) 0 w.length), (6, V.sl (Id.p 1) 0 w.length), (7, iv (c : Int))], ⟨[(0, O.rows 1 true (nn s)), (1, O.rows 1 true (bl g))], 2, []⟩⟩
noncomputable def sh32p (w : List (List Nat)) (s : List Nat) (g : List Bool) (c : Nat) (p : List Nat) (i : Nat) : St := ⟨mkT [(0, V.lst 1 (wn w)), (4, iv (w.length : Int)), (5, V.sl (Id.p 0) 0 w.length), (6, V.sl (Id.p 1) 0 w.length), (7, iv (c : Int)), (8, V.sl (Id.p 2) 0 w.length), (9, iv (i : Int))], ⟨[(0, O.rows 1 true (nn s)), (1, O.rows 1 true (bl g)), (2, O.rows 1 true (nn p))], 3, []⟩⟩
noncomputable def sh32k (w : List (List Nat)) (s : List Nat) (g : List Bool) (c : Nat) (p : List Nat) (i k : Nat) : St := ⟨mkT [(0, V.lst 1 (wn w)), (4, iv (w.length : Int)), (5, V.sl (Id.p 0) 0 w.length), (6, V.sl (Id.p 1) 0 w.length), (7, iv (c : Int)), (8, V.sl (Id.p 2) 0 w.length), (9, iv (i : Int)), (10, iv (k : Int))], ⟨[(0, O.rows 1 true (nn s)), (1, O.rows 1 true (bl g)), (2, O.rows 1 true (nn p))], 3, []⟩⟩
noncomputable def sh32o (w : List (List Nat)) (s : List Nat) (g : List Bool) (c : Nat) (p : List Nat) (o : List Bool) (i : Nat) : St := ⟨mkT [(0, V.lst 1 (wn w)), (4, iv (w.length : Int)), (5, V.sl (Id.p 0) 0 w.length), (6, V.sl (Id.p 1) 0 w.length), (7, iv (c : Int)), (8, V.sl (Id.p 2) 0 w.length), (11, V.sl (Id.p 3) 0 w.length), (12, iv (i : Int))], ⟨[(0, O.rows 1 true (nn s)), (1, O.rows 1 true (bl g)), (2, O.rows 1 true (nn p)), (3, O.rows 1 true (bl o))], 4, []⟩⟩
noncomputable def sh32q (w : List (List Nat)) (s : List Nat) (g : List Bool) (c : Nat) (p : List Nat) (o : List Bool) (i k e : Nat) : St := ⟨mkT [(0, V.lst 1 (wn w)), (4, iv (w.length : Int)), (5, V.sl (Id.p 0) 0 w.length), (6, V.sl (Id.p 1) 0 w.length), (7, iv (c : Int)), (8, V.sl (Id.p 2) 0 w.length), (11, V.sl (Id.p 3) 0 w.length), (12, iv (i : Int)), (13, iv (k : Int)), (14, iv (e : Int))], ⟨[(0, O.rows 1 true (nn s)), (1, O.rows 1 true (bl g)), (2, O.rows 1 true (nn p)), (3, O.rows 1 true (bl o))], 4, []⟩⟩
noncomputable def sh32e (w : List (List Nat)) (s : List Nat) (g : List Bool) (c : Nat) (p : List Nat) (o : List Bool) (i : Nat) : St := ⟨mkT [(0, V.lst 1 (wn w)), (4, iv (w.length : Int)), (5, V.sl (Id.p 0) 0 w.length), (6, V.sl (Id.p 1) 0 w.length), (7, iv (c : Int)), (8, V.sl (Id.p 2) 0 w.length), (11, V.sl (Id.p 3) 0 w.length), (15, iv (i : Int))], ⟨[(0, O.rows 1 true (nn s)), (1, O.rows 1 true (bl g)), (2, O.rows 1 true (nn p)), (3, O.rows 1 true (bl o))], 4, []⟩⟩
noncomputable def sh23 (a b : List Nat) (k : Nat) : St := ⟨mkT [(0, V.lst 1 (nn a)), (1, V.lst 1 (nn b)), (5, iv (k : Int))], ⟨[], 0, []⟩⟩
noncomputable def sh23n (k : Nat) : St := ⟨mkT [(0, V.lst 0 []), (1, V.lst 0 []), (5, iv (k : Int))], ⟨[], 0, []⟩⟩
end Go.Proofs.Ytmddjopahcbefaa
