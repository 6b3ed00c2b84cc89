/- Words for the texts of this claim. -/
import Derived.Test.YtmddjopahcbefaaGreatXNCRU
import Derived.Test.YtmddjopahcbefaaGreatProg
namespace Go.Proofs.YtmddjopahcbefaaGreat
open Go Go.Proofs.YtmddjopahcbefaaGreat.Clean
set_option linter.unusedVariables false
set_option maxRecDepth 100000
def glX : Nat → Option (List V) := fun _ => none
def strV (l : List Nat) : V := .raw (.string ⟨⟨l.map UInt8.ofNat⟩⟩)
def clX (g : FuncId) : Bool := !(inN [45, 93, 120, 94, 61, 58, 106, 116, 118, 121, 107, 126, 129, 104, 125, 132, 133, 134, 136, 137, 138, 139, 140, 141, 142, 143, 144, 145, 148, 149, 150, 151, 152, 153, 154, 155, 156, 157, 159, 160, 161, 162, 163, 164, 165, 166] g)
abbrev KFX (f : Fact) : Prop := K0G Tryz.prog glX f.g f.args fun v => v = f.r
theorem hmX : Tryz.prog.follows .mixedOrders = true := by kernel_rfl
def u8v (n : Int) : V := .raw (.int .u8 n)
abbrev It := Int × Int × Int
/-- an item, as data -/
def itm (x : It) : List V := [iv x.1, u8v x.2.1, iv x.2.2]
def itl (l : List It) : List (List V) := l.map itm
def pll (l : List (List It)) : List (List V) := l.map fun x => [.lst 3 (itl x)]
def nl (l : List Int) : List (List V) := l.map fun n => [iv n]
def nn (l : List Nat) : List (List V) := l.map fun (n : Nat) => [iv (n : Int)]
def sv (s : Nat) : V := u8v (s : Int)
def kpP : FuncId → Nat → Option (List Tmp) := slotsOf [(121, 0, [0, 5, 6]), (98, 0, [1, 2, 8, 10, 20, 21, 22]), (43, 0, [1, 6, 9, 10, 11]), (90, 0, [0, 3]), (39, 0, [0, 1, 2, 3, 13, 14, 15]), (39, 2, [0, 1, 2, 3, 9, 13, 14, 15, 20, 21, 22]), (41, 0, [1, 2, 7, 9, 12, 13, 14]), (40, 0, [0, 1, 2, 7]), (31, 0, [3, 6, 7, 8]), (88, 0, [0, 1, 4, 5, 6]), (72, 0, [0, 1, 7, 8, 9]), (26, 0, [13, 14, 15]), (42, 0, [6, 7, 8]), (49, 0, [15, 16, 17]), (28, 0, [5, 6, 7]), (78, 0, [0, 3, 4]), (115, 0, [0, 1, 9, 10, 11]), (9, 0, [0, 1, 2, 3, 9, 10, 12, 13, 14, 15, 69, 70, 71]), (9, 2, [0, 1, 2, 3, 9, 10, 12, 13, 14, 15, 109, 110]), (9, 4, [0, 1, 9, 10, 12, 13, 14, 15, 139, 140, 141])]
def moC (f : FuncId) : Nat := bif inN [39, 41] f then 4 else 0
def tyC (f : FuncId) : Option TypeId := none
noncomputable def cfM : Cfg := cfgM Tryz.prog glX moC tyC (inN [97, 121, 73, 74, 76, 100, 123, 48, 99, 124, 131, 82]) kpP
noncomputable def sh43a (a o : List It) (k : Nat) : St := ⟨mkT [(1, V.lst 3 (itl o)), (6, nilS), (9, V.lst 3 (itl a)), (10, iv ((itl a).length : Int)), (11, iv (k : Int))], ⟨[], 0, []⟩⟩
noncomputable def sh43b (a o l : List It) (k : Nat) : St := ⟨mkT [(1, V.lst 3 (itl o)), (6, V.sl (Id.p 0) 0 l.length), (9, V.lst 3 (itl a)), (10, iv ((itl a).length : Int)), (11, iv (k : Int))], ⟨[(0, O.rows 3 true (itl l))], 1, []⟩⟩
noncomputable def sh90a (s : Nat) : St := ⟨mkT [(0, sv s), (3, nilS)], ⟨[], 0, []⟩⟩
noncomputable def sh90b (s : Nat) (l : List Nat) : St := ⟨mkT [(0, sv s), (3, V.sl (Id.p 0) 0 l.length)], ⟨[(0, O.rows 1 true (nn l))], 1, []⟩⟩
noncomputable def sh98 (plans : List (List It)) (vals : List Int) (e : Nat) (q : List (List V)) (s : Nat) (v : Int) (l : List (List V)) (d k : Nat) : St := ⟨mkT [(1, V.lst 1 (pll plans)), (2, V.lst 1 (nl vals)), (8, V.ptr (Id.p 0) 0 0), (10, V.ptr (Id.p 1) 0 0), (20, V.lst e q), (21, iv (q.length : Int)), (22, iv (k : Int))], ⟨[(0, O.rows 3 false [[sv 0, iv 0, nilS]]), (1, O.rows 3 false [[sv s, iv v, V.lst d l]])], 2, []⟩⟩
noncomputable def sh43 (a : List It) (s : List It × List It × Nat) : St := match s.2.1 with | [] => sh43a a s.1 s.2.2 | x :: r => sh43b a s.1 (x :: r) s.2.2
noncomputable def sh90 (s : Nat × List Nat) : St := match s.2 with | [] => sh90a s.1 | x :: r => sh90b s.1 (x :: r)
def lsI (l : List It) : V := match l with | [] => nilS | x :: r => .lst 3 (itl (x :: r))
def lsN (l : List Nat) : V := match l with | [] => nilS | x :: r => .lst 1 (nn (x :: r))
abbrev Ch := Nat × Int × List It × Nat
/-- a choice, as data -/
def chr (c : Ch) : List V := [sv c.1, iv c.2.1, .lst c.2.2.2 (itl c.2.2.1)]
def chl (l : List Ch) : List (List V) := l.map chr
noncomputable def rec51 (bx : List It) (plans : List (List It)) (vals : List Int) : Lr := ⟨.ready, none, mkT [(0, V.lst 3 (itl bx)), (1, V.lst 1 (pll plans)), (2, V.lst 1 (nl vals)), (3, V.ptr (Id.p 0) 0 0), (4, V.ptr (Id.p 1) 0 0), (5, V.ptr (Id.p 2) 0 0), (6, nilS), (7, V.ptr (Id.p 3) 0 0), (11, V.lst 1 (pll plans)), (12, iv ((pll plans).length : Int)), (13, V.fn (Fn.func 121) [] [V.ptr (Id.p 4) 0 0])], 29, Array.mk [14], rfA (cdAt [1, 1, 0, 1, 0] (bodyOf Tryz.f51)), rfB (cdAt [1, 1, 0, 1, 0] (bodyOf Tryz.f51)), 51⟩
noncomputable def sh51a (bx : List It) (plans : List (List It)) (vals : List Int) (N i : Nat) : St := ⟨mkT [(0, V.yl (Id.p 5)), (5, iv (N : Int)), (6, iv (i : Int))], ⟨[(5, O.lp (rec51 bx plans vals)), (4, O.rows 1 false [[iv ((pll plans).length : Int)]]), (3, O.rows 1 false [[nilS]]), (2, O.rows 1 false [[V.lst 1 (nl vals)]]), (1, O.rows 1 false [[V.lst 1 (pll plans)]]), (0, O.rows 1 false [[V.lst 3 (itl bx)]])], 6, []⟩⟩
/-- The closure that walks is not clean: its rounds write. -/
noncomputable def cfI : Cfg := { cfM with clean := fun g => !inN [121] g }
noncomputable def sh51b (bx : List It) (plans : List (List It)) (vals : List Int) (N i : Nat) (cs : List Ch) : St := ⟨mkT [(0, V.yl (Id.p 5)), (5, iv (N : Int)), (6, iv (i : Int))], ⟨[(5, O.lp (rec51 bx plans vals)), (3, O.rows 1 false [[V.sl (Id.p 6) 0 cs.length]]), (4, O.rows 1 false [[iv ((pll plans).length : Int)]]), (2, O.rows 1 false [[V.lst 1 (nl vals)]]), (1, O.rows 1 false [[V.lst 1 (pll plans)]]), (0, O.rows 1 false [[V.lst 3 (itl bx)]]), (6, O.rows 3 true (chl cs))], 7, []⟩⟩
noncomputable def sh51 (bx : List It) (plans : List (List It)) (vals : List Int) (N : Nat) (x : Nat × List Ch) : St := match x.2 with | [] => sh51a bx plans vals N x.1 | c :: r => sh51b bx plans vals N x.1 (c :: r)
noncomputable def sh115 (a b : List Nat) (k : Nat) : St := ⟨mkT [(0, V.lst 1 (nn a)), (1, V.lst 1 (nn b)), (9, V.lst 1 (nn a)), (10, iv ((nn a).length : Int)), (11, iv (k : Int))], ⟨[], 0, []⟩⟩
noncomputable def sh88 (cs : List Ch) (c : Ch) (k : Nat) : St := ⟨mkT [(0, V.lst 3 (chl cs)), (1, V.fn (Fn.func 89) [] []), (4, V.ptr (Id.p 0) 0 0), (5, V.ptr (Id.p 1) 0 0), (6, iv (k : Int))], ⟨[(0, O.rows 3 false [[sv 0, iv 0, nilS]]), (1, O.rows 3 false [chr c])], 2, []⟩⟩
noncomputable def sh26 (l : List It) (k : Nat) : St := ⟨mkT [(13, V.lst 3 (itl l)), (14, iv ((itl l).length : Int)), (15, iv (k : Int))], ⟨[], 0, []⟩⟩
noncomputable def sh72 (l : List It) (k : Nat) : St := ⟨mkT [(0, V.lst 3 (itl l)), (1, V.fn (Fn.func 73) [] []), (7, V.lst 3 (itl l)), (8, iv ((itl l).length : Int)), (9, iv (k : Int))], ⟨[], 0, []⟩⟩
noncomputable def sh42 (p : List (List It)) (k : Nat) : St := ⟨mkT [(6, V.lst 1 (pll p)), (7, iv ((pll p).length : Int)), (8, iv (k : Int))], ⟨[], 0, []⟩⟩
noncomputable def sh49 (v : List Int) (k : Nat) : St := ⟨mkT [(15, V.lst 1 (nl v)), (16, iv ((nl v).length : Int)), (17, iv (k : Int))], ⟨[], 0, []⟩⟩
def ul (l : List Nat) : List (List V) := l.map fun n => [sv n]
noncomputable def sh31 (l : List It) (n : Int) (k : Nat) : St := ⟨mkT [(3, iv n), (6, V.lst 3 (itl l)), (7, iv ((itl l).length : Int)), (8, iv (k : Int))], ⟨[], 0, []⟩⟩
noncomputable def sh40 (l : List It) (a b : Int) (k : Nat) : St := ⟨mkT [(0, V.lst 3 (itl l)), (1, iv a), (2, u8v b), (7, iv (k : Int))], ⟨[], 0, []⟩⟩
noncomputable def sh41 (p : List (List It)) (who : List Nat) (m : Nat) (x : It) (n : Int) (k : Nat) : St := ⟨mkT [(1, V.lst 1 (ul who)), (2, sv m), (7, V.ptr (Id.p 0) 0 0), (9, iv n), (12, V.lst 1 (pll p)), (13, iv ((pll p).length : Int)), (14, iv (k : Int))], ⟨[(0, O.rows 3 false [itm x])], 1, []⟩⟩
noncomputable def sh39 (bx : List It) (p : List (List It)) (who : List Nat) (m : Nat) (k : Nat) : St := ⟨mkT [(0, V.lst 3 (itl bx)), (1, V.lst 1 (pll p)), (2, V.lst 1 (ul who)), (3, sv m), (13, V.lst 1 (pll p)), (14, iv ((pll p).length : Int)), (15, iv (k : Int))], ⟨[], 0, []⟩⟩
noncomputable def sh39b (bx : List It) (p : List (List It)) (who : List Nat) (m : Nat) (k : Nat) (l : List It) (j : Nat) : St := ⟨mkT [(0, V.lst 3 (itl bx)), (1, V.lst 1 (pll p)), (2, V.lst 1 (ul who)), (3, sv m), (9, iv (k : Int)), (13, V.lst 1 (pll p)), (14, iv ((pll p).length : Int)), (15, iv (k : Int)), (20, V.lst 3 (itl l)), (21, iv ((itl l).length : Int)), (22, iv (j : Int))], ⟨[], 0, []⟩⟩
noncomputable def sh28 (p : List (List It)) (k : Nat) : St := ⟨mkT [(5, V.lst 1 (pll p)), (6, iv ((pll p).length : Int)), (7, iv (k : Int))], ⟨[], 0, []⟩⟩
noncomputable def sh78 (l : List It) (n : Int) (k : Nat) : St := ⟨mkT [(0, V.lst 3 (itl l)), (3, iv n), (4, iv (k : Int))], ⟨[], 0, []⟩⟩
noncomputable def mem9 (x : List (List V)) (n : Int) (l : List (List V)) (d1 d2 : Nat) (w o : List Nat) : Hp := ⟨[(0, O.rows 3 false [[V.lst d1 x, iv n, V.lst d2 l]]), (1, O.rows 1 true (ul w)), (2, O.rows 1 true (ul o))], 3, []⟩
noncomputable def sh9a (bx : List It) (p : List (List It)) (v : List Int) (s : Nat) (x : List (List V)) (n : Int) (l : List (List V)) (d1 d2 : Nat) (w o : List Nat) (a b : Int) (k : Nat) : St := ⟨mkT [(0, V.lst 3 (itl bx)), (1, V.lst 1 (pll p)), (2, V.lst 1 (nl v)), (3, sv s), (9, bv true), (10, V.ptr (Id.p 0) 0 0), (12, V.sl (Id.p 1) 0 (pll p).length), (13, V.sl (Id.p 2) 0 (pll p).length), (14, iv a), (15, iv b), (69, V.lst d1 x), (70, iv (x.length : Int)), (71, iv (k : Int))], mem9 x n l d1 d2 w o⟩
noncomputable def sh9b (bx : List It) (p : List (List It)) (v : List Int) (s : Nat) (x : List (List V)) (n : Int) (l : List (List V)) (d1 d2 : Nat) (w o : List Nat) (a b : Int) (k : Nat) : St := ⟨mkT [(0, V.lst 3 (itl bx)), (1, V.lst 1 (pll p)), (2, V.lst 1 (nl v)), (3, sv s), (9, bv true), (10, V.ptr (Id.p 0) 0 0), (12, V.sl (Id.p 1) 0 (pll p).length), (13, V.sl (Id.p 2) 0 (pll p).length), (14, iv a), (15, iv b), (109, iv ((pll p).length : Int)), (110, iv (k : Int))], mem9 x n l d1 d2 w o⟩
noncomputable def sh9c (bx : List It) (p : List (List It)) (x : List (List V)) (n : Int) (l : List (List V)) (d1 d2 : Nat) (w o : List Nat) (a b : Int) (k : Nat) : St := ⟨mkT [(0, V.lst 3 (itl bx)), (1, V.lst 1 (pll p)), (9, bv true), (10, V.ptr (Id.p 0) 0 0), (12, V.sl (Id.p 1) 0 (pll p).length), (13, V.sl (Id.p 2) 0 (pll p).length), (14, iv a), (15, iv b), (139, V.lst 3 (itl bx)), (140, iv ((itl bx).length : Int)), (141, iv (k : Int))], mem9 x n l d1 d2 w o⟩
end Go.Proofs.YtmddjopahcbefaaGreat
