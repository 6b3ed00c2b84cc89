/- What calls of the examples return. -/
import Derived.Test.YtfhflfppebkmjaaDoorXCR
namespace Go.Proofs.YtfhflfppebkmjaaDoor
open Go Go.Proofs.YtfhflfppebkmjaaDoor.Clean
set_option linter.unusedVariables false
set_option maxRecDepth 100000
def gsX : List Nat := [3, 18, 21, 22, 23, 26, 34]
def tb0 : List Fact := []
/-- studwork/compose.Count -/
def fa0 : Fact := ⟨22, [V.agg [iv 2, iv 1, iv 2, V.lst 1 [[V.raw (.int .u8 3)], [V.raw (.int .u8 3)], [V.raw (.int .u8 3)], [V.raw (.int .u8 3)]]], V.lst 4 [[iv 1, iv 1, iv 9, V.raw (.int .u8 0)], [iv 1, iv 2, iv 9, V.raw (.int .u8 0)]]], V.tup [iv 4, iv 0]⟩
def tb1 : List Fact := fa0 :: tb0
/-- studwork/compose.Compose -/
def fa1 : Fact := ⟨34, [V.agg [iv 2, iv 1, iv 2, V.lst 1 [[V.raw (.int .u8 3)], [V.raw (.int .u8 3)], [V.raw (.int .u8 3)], [V.raw (.int .u8 3)]]], V.lst 4 [[iv 1, iv 1, iv 9, V.raw (.int .u8 0)], [iv 1, iv 2, iv 9, V.raw (.int .u8 0)]]], V.tup [V.lst 5 [[iv 1, iv 0, iv 0, iv 0, bv true], [iv 1, iv 0, iv 0, iv 1, bv true]], iv 0]⟩
def tb2 : List Fact := fa1 :: tb1
/-- studwork/compose.Compose -/
def fa2 : Fact := ⟨34, [V.agg [iv 2, iv 1, iv 2, V.lst 1 [[V.raw (.int .u8 3)], [V.raw (.int .u8 3)], [V.raw (.int .u8 3)], [V.raw (.int .u8 3)]]], V.lst 4 [[iv 1, iv 1, iv 9, V.raw (.int .u8 0)], [iv 1, iv 2, iv 1, V.raw (.int .u8 0)]]], V.tup [V.lst 5 [[iv 0, iv 0, iv 0, iv 0, bv false], [iv 0, iv 1, iv 0, iv 0, bv false], [iv 1, iv 0, iv 0, iv 1, bv true]], iv 0]⟩
def tb3 : List Fact := fa2 :: tb2
/-- studwork/compose.Weak -/
def fa3 : Fact := ⟨26, [V.agg [iv 2, iv 1, iv 2, V.lst 1 [[V.raw (.int .u8 3)], [V.raw (.int .u8 3)], [V.raw (.int .u8 3)], [V.raw (.int .u8 3)]]], V.lst 4 [[iv 1, iv 1, iv 9, V.raw (.int .u8 0)], [iv 1, iv 2, iv 9, V.raw (.int .u8 0)]], V.lst 5 [[iv 0, iv 0, iv 0, iv 0, bv false], [iv 0, iv 1, iv 0, iv 0, bv false], [iv 0, iv 0, iv 0, iv 1, bv false], [iv 0, iv 1, iv 0, iv 1, bv false]]], V.tup [iv 1, iv 0]⟩
def tb4 : List Fact := fa3 :: tb3
/-- studwork/compose.Compose -/
def fa4 : Fact := ⟨34, [V.agg [iv 2, iv 1, iv 1, V.lst 1 [[V.raw (.int .u8 1)], [V.raw (.int .u8 2)]]], V.lst 4 [[iv 1, iv 1, iv 9, V.raw (.int .u8 0)], [iv 1, iv 2, iv 9, V.raw (.int .u8 0)]]], V.tup [nilS, iv 6]⟩
def tb5 : List Fact := fa4 :: tb4
/-- studwork/studworklaw07.alive -/
def fa5 : Fact := ⟨18, [], bv true⟩
def tb6 : List Fact := fa5 :: tb5
/-- studwork/compose.Model -/
def fa6 : Fact := ⟨21, [V.agg [iv 2, iv 1, iv 2, V.lst 1 [[V.raw (.int .u8 3)], [V.raw (.int .u8 3)], [V.raw (.int .u8 3)], [V.raw (.int .u8 3)]]], V.lst 4 [[iv 1, iv 1, iv 9, V.raw (.int .u8 0)], [iv 1, iv 2, iv 9, V.raw (.int .u8 0)]], V.lst 5 [[iv 1, iv 0, iv 0, iv 0, bv true], [iv 1, iv 0, iv 0, iv 1, bv true]]], V.tup [V.agg [V.lst 6 [[iv 1, iv 1, iv 0, iv 0, V.raw (.int .u8 1), V.raw (.int .u8 3)], [iv 1, iv 1, iv 0, iv 1, V.raw (.int .u8 1), V.raw (.int .u8 3)]]], iv 0]⟩
def tb7 : List Fact := fa6 :: tb6
/-- studwork/compose.Check -/
def fa7 : Fact := ⟨23, [V.agg [iv 2, iv 1, iv 2, V.lst 1 [[V.raw (.int .u8 3)], [V.raw (.int .u8 3)], [V.raw (.int .u8 3)], [V.raw (.int .u8 3)]]], V.lst 4 [[iv 1, iv 1, iv 9, V.raw (.int .u8 0)], [iv 1, iv 2, iv 9, V.raw (.int .u8 0)]], V.lst 5 [[iv 0, iv 1, iv 0, iv 0, bv false], [iv 0, iv 0, iv 0, iv 1, bv false], [iv 0, iv 1, iv 0, iv 1, bv false]]], iv 8⟩
def tb8 : List Fact := fa7 :: tb7
/-- studwork/studworklaw07.ComposeExamples -/
def fa8 : Fact := ⟨3, [], bv true⟩
def tb9 : List Fact := fa8 :: tb8
end Go.Proofs.YtfhflfppebkmjaaDoor
