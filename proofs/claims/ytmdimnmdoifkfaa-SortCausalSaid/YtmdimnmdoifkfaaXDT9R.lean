/- Words for the texts of this claim. -/
import Derived.Test.YtmdimnmdoifkfaaXDCRU
import Derived.Test.YtmdimnmdoifkfaaProg
import Derived.Test.YtmdimnmdoifkfaaXDS9R
namespace Go.Proofs.Ytmdimnmdoifkfaa
open Go Go.Proofs.Ytmdimnmdoifkfaa.Clean
set_option linter.unusedVariables false
set_option maxRecDepth 100000
def kpT : FuncId → Nat → Option (List Tmp) := slotsOf [(90, 0, [0, 1, 2]), (90, 2, [0, 1, 2, 4]), (22, 2, [2, 7, 9, 29, 30, 31]), (59, 0, [2, 7, 44, 45, 46]), (107, 0, [0, 1, 7, 8]), (62, 0, [1, 3, 7, 8, 9, 10]), (66, 0, [1, 2, 3]), (68, 0, [1, 2, 3]), (23, 0, [1, 2, 7, 8]), (27, 0, [0, 1, 5]), (28, 0, [0, 1, 5]), (25, 0, [1, 2, 7, 8]), (64, 0, [0, 2, 4, 7]), (67, 0, [0, 3, 5, 6])]
def moT (f : FuncId) : Nat := 0
def tyT (f : FuncId) : Option TypeId := some 3
noncomputable def cfT : Cfg := cfgM Try.prog glX moT tyT (inN [54, 75, 57, 58, 90, 63, 108, 107]) kpT
noncomputable def cfS : Cfg := { cfT with clean := fun g => !inN [90] g }
noncomputable def mem107 (b : Bt) (m : Int) : Hp := ⟨[(1, O.rows 1 false [[iv m]]), (0, O.rows 5 false [bel b])], 2, []⟩
noncomputable def sh107 (b : Bt) (m : Int) (k : Nat) : St := ⟨mkT [(0, V.lst 2 (gl b.gs)), (1, V.fn (Fn.func 108) [] [V.ptr (Id.p 0) 0 0, V.ptr (Id.p 1) 0 0]), (7, iv ((gl b.gs).length : Int)), (8, iv (k : Int))], mem107 b m⟩
noncomputable def sh59 (b : Bt) (c : List Fd) (g : Int) (k : Nat) : St := ⟨mkT [(2, V.ptr (Id.p 0) 0 0), (7, iv g), (44, V.lst 3 (fdl c)), (45, iv ((fdl c).length : Int)), (46, iv (k : Int))], ⟨[(0, O.rows 5 false [bel b])], 1, []⟩⟩
abbrev Ft := Int × Int × Int
def ftr (x : Ft) : List V := [iv x.1, iv x.2.1, iv x.2.2]
def ftl (l : List Ft) : List (List V) := l.map ftr
noncomputable def rec22 (b : Bt) (l : List Fd) (n n' : Int) : Lr := Lr.mk LoopState.ready none (mkT [(0, V.agg (bel b)), (1, V.lst 3 (fdl l)), (2, V.ptr (Id.p 0) 0 0), (4, nilS), (5, iv 0), (6, iv 0), (7, V.ptr (Id.p 2) 0 0), (12, V.agg (bel b)), (13, iv n), (14, V.lst 3 (fdl l)), (15, iv n'), (16, V.sl (Id.p 1) 0 2), (17, iv 0), (18, iv 0), (19, bv false), (21, V.lst 3 (fdl l)), (22, V.ptr (Id.p 0) 0 2), (23, iv b.S), (24, V.fn (Fn.func 90) [] [V.ptr (Id.p 3) 0 0, V.ptr (Id.p 4) 0 0])]) 44 (Array.mk [25]) (rfA (cdAt [1, 1, 1, 0, 1, 0] (bodyOf Try.f22))) (rfB (cdAt [1, 1, 1, 0, 1, 0] (bodyOf Try.f22))) 22
noncomputable def rec22b (b : Bt) (l : List Fd) (n n' : Int) : Lr := Lr.mk LoopState.busy none (mkT [(0, V.agg (bel b)), (1, V.lst 3 (fdl l)), (2, V.ptr (Id.p 0) 0 0), (4, nilS), (5, iv 0), (6, iv 0), (7, V.ptr (Id.p 2) 0 0), (12, V.agg (bel b)), (13, iv n), (14, V.lst 3 (fdl l)), (15, iv n'), (16, V.sl (Id.p 1) 0 2), (17, iv 0), (18, iv 0), (19, bv false), (21, V.lst 3 (fdl l)), (22, V.ptr (Id.p 0) 0 2), (23, iv b.S), (24, V.fn (Fn.func 90) [] [V.ptr (Id.p 3) 0 0, V.ptr (Id.p 4) 0 0])]) 44 (Array.mk [25]) (rfA (cdAt [1, 1, 1, 0, 1, 0] (bodyOf Try.f22))) (rfB (cdAt [1, 1, 1, 0, 1, 0] (bodyOf Try.f22))) 22
noncomputable def st22 (h : Hp) : St := ⟨mkT [(0, V.yl (Id.p 5)), (1, V.ptr (Id.p 3) 0 0), (2, V.ptr (Id.p 4) 0 0)], h⟩
noncomputable def st90 (n : Nat) (h : Hp) : St := ⟨mkT [(0, V.yl (Id.p 5)), (1, V.ptr (Id.p 3) 0 0), (2, V.ptr (Id.p 4) 0 0), (4, iv (n : Int))], h⟩
noncomputable def st22c (g : Int) (c : List (List V)) (k : Nat) (h : Hp) : St := ⟨mkT [(2, V.ptr (Id.p 0) 0 0), (7, V.ptr (Id.p 2) 0 0), (9, iv g), (29, V.lst 3 c), (30, iv (c.length : Int)), (31, iv (k : Int))], h⟩
noncomputable def mA (b : Bt) (n n' : Int) (q : Lr) (r : List (List V)) : Hp := ⟨[(5, O.lp q), (4, O.rows 1 false [[iv b.S]]), (3, O.rows 1 false [[V.lst 3 r]]), (2, O.rows 1 false [[nilS]]), (1, O.rows 1 true [[iv n], [iv n']]), (0, O.rows 5 false [bel b])], 6, []⟩
noncomputable def mA1 (b : Bt) (n n' : Int) (q : Lr) (r : List (List V)) (F : List Ft) : Hp := ⟨[(2, O.rows 1 false [[V.sl (Id.p 6) 0 F.length]]), (5, O.lp q), (4, O.rows 1 false [[iv b.S]]), (3, O.rows 1 false [[V.lst 3 r]]), (1, O.rows 1 true [[iv n], [iv n']]), (0, O.rows 5 false [bel b]), (6, O.rows 3 true (ftl F))], 7, []⟩
noncomputable def mB (b : Bt) (n n' : Int) (q : Lr) (r : List (List V)) (F : List Ft) : Hp := ⟨[(3, O.rows 1 false [[V.lst 3 r]]), (5, O.lp q), (2, O.rows 1 false [[V.sl (Id.p 6) 0 F.length]]), (4, O.rows 1 false [[iv b.S]]), (1, O.rows 1 true [[iv n], [iv n']]), (0, O.rows 5 false [bel b]), (6, O.rows 3 true (ftl F))], 7, []⟩
noncomputable def mB0 (b : Bt) (n n' : Int) (q : Lr) (r : List (List V)) (F : List Ft) : Hp := ⟨[(5, O.lp q), (3, O.rows 1 false [[V.lst 3 r]]), (2, O.rows 1 false [[V.sl (Id.p 6) 0 F.length]]), (4, O.rows 1 false [[iv b.S]]), (1, O.rows 1 true [[iv n], [iv n']]), (0, O.rows 5 false [bel b]), (6, O.rows 3 true (ftl F))], 7, []⟩
noncomputable def mB1 (b : Bt) (n n' : Int) (q : Lr) (r : List (List V)) (F : List Ft) : Hp := ⟨[(2, O.rows 1 false [[V.sl (Id.p 7) 0 F.length]]), (5, O.lp q), (3, O.rows 1 false [[V.lst 3 r]]), (4, O.rows 1 false [[iv b.S]]), (1, O.rows 1 true [[iv n], [iv n']]), (0, O.rows 5 false [bel b]), (7, O.rows 3 true (ftl F))], 8, []⟩
noncomputable def sh22 (b : Bt) (l : List Fd) (n n' : Int) (s : List Fd × List Ft) : St := match s.2 with
  | [] => st22 (mA b n n' (rec22 b l n n') (fdl s.1))
  | x :: t => st22 (mB b n n' (rec22 b l n n') (fdl s.1) (x :: t))
noncomputable def shA (b : Bt) (l : List Fd) (n n' g : Int) (r c : List (List V)) (s : List Ft × Nat) : St := match s.1 with
  | [] => st22c g c s.2 (mA b n n' (rec22b b l n n') r)
  | x :: t => st22c g c s.2 (mA1 b n n' (rec22b b l n n') r (x :: t))
noncomputable def shB (b : Bt) (l : List Fd) (n n' g : Int) (r c : List (List V)) (F : List Ft) (s : List Ft × Nat) : St := match s.2 with
  | 0 => st22c g c 0 (mB0 b n n' (rec22b b l n n') r F)
  | k + 1 => st22c g c (k + 1) (mB1 b n n' (rec22b b l n n') r s.1)
end Go.Proofs.Ytmdimnmdoifkfaa
