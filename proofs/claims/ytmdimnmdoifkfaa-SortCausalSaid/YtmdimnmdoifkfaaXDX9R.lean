/- Words for the texts of this claim. -/
import Derived.Test.YtmdimnmdoifkfaaXDCI
import Derived.Test.YtmdimnmdoifkfaaProg
import Derived.Test.YtmdimnmdoifkfaaXDS9R
import Derived.Test.YtmdimnmdoifkfaaXDT9R
import Derived.Test.YtmdimnmdoifkfaaXDV9R
import Derived.Test.YtmdimnmdoifkfaaXDU9R
import Derived.Test.YtmdimnmdoifkfaaXDW9R
namespace Go.Proofs.Ytmdimnmdoifkfaa
open Go Go.Proofs.Ytmdimnmdoifkfaa.Clean
set_option linter.unusedVariables false
set_option maxRecDepth 100000
def kpX : FuncId → Nat → Option (List Tmp) := slotsOf [(47, 0, [1, 5, 8, 9, 10]), (10, 0, [1, 2, 3, 4, 9, 10, 50, 51, 52]), (10, 2, [1, 3, 4, 9, 10, 68, 69, 70])]
noncomputable def cfX : Cfg := cfgM Try.prog glX moT tyT (inN []) kpX
noncomputable def sh47a (s : Nat) (l : List Sw) (t : Int) (k : Nat) : St := ⟨mkT [(1, iv t), (5, nilS), (8, V.lst s (swl l)), (9, iv ((swl l).length : Int)), (10, iv (k : Int))], ⟨[], 0, []⟩⟩
noncomputable def sh47b (s : Nat) (l : List Sw) (t : Int) (F : List Sw) (k : Nat) : St := ⟨mkT [(1, iv t), (5, V.sl (Id.p 0) 0 F.length), (8, V.lst s (swl l)), (9, iv ((swl l).length : Int)), (10, iv (k : Int))], ⟨[(0, O.rows 3 true (swl F))], 1, []⟩⟩
noncomputable def sh10a (b : Bt) (l m : List Fd) (t : Int) (k : Nat) : St := ⟨mkT [(1, V.lst 3 (fdl l)), (2, V.lst 3 (fdl m)), (3, iv t), (4, V.ptr (Id.p 0) 0 0), (9, bv true), (10, nilS), (50, V.lst 3 (fdl l)), (51, iv ((fdl l).length : Int)), (52, iv (k : Int))], ⟨[(0, O.rows 5 false [bel b])], 1, []⟩⟩
noncomputable def sh10b (b : Bt) (l m : List Fd) (t : Int) (F : List Fd) (k : Nat) : St := ⟨mkT [(1, V.lst 3 (fdl l)), (2, V.lst 3 (fdl m)), (3, iv t), (4, V.ptr (Id.p 0) 0 0), (9, bv true), (10, V.sl (Id.p 1) 0 F.length), (50, V.lst 3 (fdl l)), (51, iv ((fdl l).length : Int)), (52, iv (k : Int))], ⟨[(0, O.rows 5 false [bel b]), (1, O.rows 3 true (fdl F))], 2, []⟩⟩
noncomputable def sh10c (b : Bt) (l m : List Fd) (t : Int) (k : Nat) : St := ⟨mkT [(1, V.lst 3 (fdl l)), (3, iv t), (4, V.ptr (Id.p 0) 0 0), (9, bv true), (10, nilS), (68, V.lst 3 (fdl m)), (69, iv ((fdl m).length : Int)), (70, iv (k : Int))], ⟨[(0, O.rows 5 false [bel b])], 1, []⟩⟩
noncomputable def sh10d (b : Bt) (l m : List Fd) (t : Int) (F : List Fd) (k : Nat) : St := ⟨mkT [(1, V.lst 3 (fdl l)), (3, iv t), (4, V.ptr (Id.p 0) 0 0), (9, bv true), (10, V.sl (Id.p 1) 0 F.length), (68, V.lst 3 (fdl m)), (69, iv ((fdl m).length : Int)), (70, iv (k : Int))], ⟨[(0, O.rows 5 false [bel b]), (1, O.rows 3 true (fdl F))], 2, []⟩⟩
end Go.Proofs.Ytmdimnmdoifkfaa
