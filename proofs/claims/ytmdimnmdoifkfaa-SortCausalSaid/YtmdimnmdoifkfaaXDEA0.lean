/- What calls of the examples return. -/
import Derived.Test.YtmdimnmdoifkfaaXDS9R
namespace Go.Proofs.Ytmdimnmdoifkfaa
open Go Go.Proofs.Ytmdimnmdoifkfaa.Clean
set_option linter.unusedVariables false
set_option maxRecDepth 100000
def gsX : List Nat := [22, 24, 33, 44, 73]
def tb0 : List Fact := []
/-- studwork/sort.Sort -/
def fa0 : Fact := ⟨22, [V.agg [iv 20, iv 2, iv 2, V.lst 2 [[iv 10, iv 0], [iv 15, iv 1]], V.lst 1 [[iv 0], [iv 1], [iv (-1)], [iv (-1)], [iv (-1)], [iv (-1)], [iv (-1)], [iv (-1)], [iv (-1)], [iv (-1)], [iv (-1)], [iv (-1)], [iv (-1)], [iv (-1)], [iv (-1)], [iv (-1)]]], V.lst 3 [[iv 0, iv 0, V.lst 1 [[iv 0]]], [iv 6, iv 1, V.lst 1 [[iv 1]]], [iv 12, iv 2, V.lst 1 [[iv 2]]]]], V.tup [V.lst 3 [[iv 0, iv 0, iv 10], [iv 1, iv 1, iv 21], [iv 2, iv (-1), iv 32]], iv 0]⟩
def tb1 : List Fact := fa0 :: tb0
/-- studwork/sort.Sort -/
def fa1 : Fact := ⟨22, [V.agg [iv 20, iv 2, iv 2, V.lst 2 [[iv 10, iv 0], [iv 15, iv 1]], V.lst 1 [[iv 0], [iv 1], [iv (-1)], [iv (-1)], [iv (-1)], [iv (-1)], [iv (-1)], [iv (-1)], [iv (-1)], [iv (-1)], [iv (-1)], [iv (-1)], [iv (-1)], [iv (-1)], [iv (-1)], [iv (-1)]]], V.lst 3 [[iv 0, iv 0, V.lst 1 [[iv 0]]], [iv 4, iv 1, V.lst 1 [[iv 1]]]]], V.tup [V.lst 3 [[iv 0, iv (-1), iv 20], [iv 1, iv (-1), iv 24]], iv 0]⟩
def tb2 : List Fact := fa1 :: tb1
/-- studwork/sort.Swings -/
def fa2 : Fact := ⟨24, [V.agg [iv 20, iv 2, iv 2, V.lst 2 [[iv 10, iv 0], [iv 15, iv 1]], V.lst 1 [[iv 0], [iv 1], [iv (-1)], [iv (-1)], [iv (-1)], [iv (-1)], [iv (-1)], [iv (-1)], [iv (-1)], [iv (-1)], [iv (-1)], [iv (-1)], [iv (-1)], [iv (-1)], [iv (-1)], [iv (-1)]]], V.lst 3 [[iv 0, iv 0, V.lst 1 [[iv 0]]], [iv 6, iv 1, V.lst 1 [[iv 1]]], [iv 12, iv 2, V.lst 1 [[iv 2]]]]], V.tup [V.lst 3 [[iv 8, iv 0, bv true], [iv 11, iv 0, bv false], [iv 19, iv 1, bv true], [iv 22, iv 1, bv false]], iv 0]⟩
def tb3 : List Fact := fa2 :: tb2
/-- studwork/sort.chances -/
def fa3 : Fact := ⟨73, [V.lst 1 [[iv 900], [iv 50], [iv 50]], iv 2], V.lst 1 [[iv 900000], [iv 7500], [iv 92500]]⟩
def tb4 : List Fact := fa3 :: tb3
/-- studwork/sort.Chances -/
def fa4 : Fact := ⟨33, [V.lst 1 [[V.lst 1 [[iv 900], [iv 50], [iv 50]]], [V.lst 1 [[iv 100], [iv 800], [iv 100]]]], iv 0, iv 2], V.tup [V.lst 1 [[iv 900000], [iv 7500], [iv 92500]], iv 0]⟩
def tb5 : List Fact := fa4 :: tb4
/-- studwork/studworklaw09.alive -/
def fa5 : Fact := ⟨44, [], bv true⟩
def tb6 : List Fact := fa5 :: tb5
end Go.Proofs.Ytmdimnmdoifkfaa
