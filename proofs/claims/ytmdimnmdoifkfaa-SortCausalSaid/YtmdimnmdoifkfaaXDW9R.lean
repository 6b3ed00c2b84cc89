/- Words for the texts of this claim. -/
import Derived.Test.YtmdimnmdoifkfaaXDCI
import Derived.Test.YtmdimnmdoifkfaaProg
import Derived.Test.YtmdimnmdoifkfaaXDS9R
import Derived.Test.YtmdimnmdoifkfaaXDT9R
import Derived.Test.YtmdimnmdoifkfaaXDV9R
import Derived.Test.YtmdimnmdoifkfaaXDU9R
namespace Go.Proofs.Ytmdimnmdoifkfaa
open Go Go.Proofs.Ytmdimnmdoifkfaa.Clean
set_option linter.unusedVariables false
set_option maxRecDepth 100000
noncomputable def cfR : Cfg := cfgM Try.prog glX moT tyT (inN [75, 61, 95]) kpT
noncomputable def hB (b : Bt) : Hp := ⟨[(0, O.rows 5 false [bel b])], 1, []⟩
noncomputable def sh66 (b : Bt) (l : List Fd) (i : Nat) : St := ⟨mkT [(1, V.lst 3 (fdl l)), (2, iv (i : Int)), (3, V.ptr (Id.p 0) 0 0)], hB b⟩
noncomputable def sh62 (b : Bt) (l : List Fd) (p q : Nat) (g : Int) (k : Nat) : St := ⟨mkT [(1, V.lst 3 (fdl l)), (3, V.ptr (Id.p 0) 0 0), (7, iv (p : Int)), (8, iv (q : Int)), (9, iv g), (10, iv (k : Int))], hB b⟩
noncomputable def sh23a (b : Bt) (l : List Fd) (k : Nat) : St := ⟨mkT [(1, V.lst 3 (fdl l)), (2, V.ptr (Id.p 0) 0 0), (7, nilS), (8, iv (k : Int))], hB b⟩
noncomputable def sh23b (b : Bt) (l : List Fd) (F : List Ft) (k : Nat) : St := ⟨mkT [(1, V.lst 3 (fdl l)), (2, V.ptr (Id.p 0) 0 0), (7, V.sl (Id.p 1) 0 F.length), (8, iv (k : Int))], ⟨[(0, O.rows 5 false [bel b]), (1, O.rows 3 true (ftl F))], 2, []⟩⟩
noncomputable def sh25a (b : Bt) (l : List Fd) (k : Nat) : St := ⟨mkT [(1, V.lst 3 (fdl l)), (2, V.ptr (Id.p 0) 0 0), (7, nilS), (8, iv (k : Int))], hB b⟩
noncomputable def sh25b (b : Bt) (l : List Fd) (F : List Sw) (k : Nat) : St := ⟨mkT [(1, V.lst 3 (fdl l)), (2, V.ptr (Id.p 0) 0 0), (7, V.lst 3 (swl F)), (8, iv (k : Int))], hB b⟩
noncomputable def sh67a (l : List Sw) (x : Sw) (k : Nat) : St := ⟨mkT [(0, V.lst 3 (swl l)), (3, V.ptr (Id.p 0) 0 0), (5, nilS), (6, iv (k : Int))], ⟨[(0, O.rows 3 false [swr x])], 1, []⟩⟩
noncomputable def sh67b (l : List Sw) (x : Sw) (F : List Sw) (k : Nat) : St := ⟨mkT [(0, V.lst 3 (swl l)), (3, V.ptr (Id.p 0) 0 0), (5, V.sl (Id.p 1) 0 F.length), (6, iv (k : Int))], ⟨[(0, O.rows 3 false [swr x]), (1, O.rows 3 true (swl F))], 2, []⟩⟩
noncomputable def sh27 (s s' : Nat) (l m : List Ft) (k : Nat) : St := ⟨mkT [(0, V.lst s (ftl l)), (1, V.lst s' (ftl m)), (5, iv (k : Int))], ⟨[], 0, []⟩⟩
noncomputable def sh28 (s s' : Nat) (l m : List Sw) (k : Nat) : St := ⟨mkT [(0, V.lst s (swl l)), (1, V.lst s' (swl m)), (5, iv (k : Int))], ⟨[], 0, []⟩⟩
noncomputable def sh26 (l m : List Int) (k : Nat) : St := ⟨mkT [(0, V.lst 1 (nl l)), (1, V.lst 1 (nl m)), (5, iv (k : Int))], ⟨[], 0, []⟩⟩
noncomputable def cfL : Cfg := { cfgM Try.prog glX moT tyT (inN []) kpU with fz := fun f t => inN [4] f && inN [20] t }
noncomputable def sh4 (l : List Fd) (s s1 s2 s3 : Nat) (x y : List Ft) (u v : List Sw) (e f g h : Int) (k : Nat) : St := ⟨mkT [(1, V.lst 3 (fdl l)), (5, V.lst 3 (fdl l)), (6, V.lst s (ftl x)), (7, iv e), (8, V.lst s1 (ftl y)), (9, iv f), (10, V.lst s2 (swl u)), (11, iv g), (12, V.lst s3 (swl v)), (13, iv h), (46, iv ((fdl l).length : Int)), (47, iv (k : Int))], ⟨[], 0, []⟩⟩
end Go.Proofs.Ytmdimnmdoifkfaa
