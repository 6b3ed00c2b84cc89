/- Words for the texts of this claim. -/
import Derived.Test.YtmdimnmdoifkfaaXDCRU
import Derived.Test.YtmdimnmdoifkfaaProg
import Derived.Test.YtmdimnmdoifkfaaXDS9R
import Derived.Test.YtmdimnmdoifkfaaXDT9R
namespace Go.Proofs.Ytmdimnmdoifkfaa
open Go Go.Proofs.Ytmdimnmdoifkfaa.Clean
set_option linter.unusedVariables false
set_option maxRecDepth 100000
def kpU : FuncId → Nat → Option (List Tmp) := slotsOf [(9, 0, [1, 2, 5, 41, 42, 43]), (11, 0, [1, 2, 5, 6]), (11, 2, [2, 5, 71, 72, 73]), (4, 0, [1, 5, 6, 7, 8, 9, 10, 11, 12, 13, 46, 47]), (10, 0, [1, 2, 3, 4, 9, 10, 50, 51, 52]), (10, 2, [1, 3, 4, 9, 10, 68, 69, 70]), (26, 0, [0, 1, 5]), (27, 0, [0, 1, 5]), (28, 0, [0, 1, 5])]
noncomputable def cfU : Cfg := cfgM Try.prog glX moT tyT (inN [54, 75]) kpU
noncomputable def sh9 (b : Bt) (l : List Fd) (s : Nat) (F : List Ft) (k : Nat) : St := ⟨mkT [(1, V.lst 3 (fdl l)), (2, V.ptr (Id.p 0) 0 0), (5, bv true), (41, V.lst s (ftl F)), (42, iv ((ftl F).length : Int)), (43, iv (k : Int))], ⟨[(0, O.rows 5 false [bel b])], 1, []⟩⟩
noncomputable def sh11a (b : Bt) (l : List Fd) (k : Nat) : St := ⟨mkT [(1, V.lst 3 (fdl l)), (2, V.ptr (Id.p 0) 0 0), (5, bv true), (6, iv (k : Int))], ⟨[(0, O.rows 5 false [bel b])], 1, []⟩⟩
noncomputable def sh11b (b : Bt) (s : Nat) (F : List Ft) (k : Nat) : St := ⟨mkT [(2, V.ptr (Id.p 0) 0 0), (5, bv true), (71, V.lst s (ftl F)), (72, iv ((ftl F).length : Int)), (73, iv (k : Int))], ⟨[(0, O.rows 5 false [bel b])], 1, []⟩⟩
end Go.Proofs.Ytmdimnmdoifkfaa
