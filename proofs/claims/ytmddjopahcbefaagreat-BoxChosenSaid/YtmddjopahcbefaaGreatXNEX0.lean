/- What calls of the examples return. -/
import Derived.Test.YtmddjopahcbefaaGreatXNC8R
namespace Go.Proofs.YtmddjopahcbefaaGreat
open Go Go.Proofs.YtmddjopahcbefaaGreat.Clean
set_option linter.unusedVariables false
set_option maxRecDepth 100000
def gsX : List Nat := [17, 19, 38, 51]
def tb0 : List Fact := []
/-- studwork/box.choices -/
def fa0 : Fact := ⟨51, [V.lst 3 [[iv 1, V.raw (.int .u8 1), iv 2]], V.lst 1 [[V.lst 3 [[iv 1, V.raw (.int .u8 1), iv 2]]], [V.lst 3 [[iv 1, V.raw (.int .u8 1), iv 1]]], [V.lst 3 [[iv 1, V.raw (.int .u8 1), iv 3]]]], V.lst 1 [[iv 5], [iv 4], [iv 9]]], V.lst 3 [[V.raw (.int .u8 0), iv 0, V.lst 3 [[iv 1, V.raw (.int .u8 1), iv 2]]], [V.raw (.int .u8 1), iv 5, nilS], [V.raw (.int .u8 2), iv 4, V.lst 3 [[iv 1, V.raw (.int .u8 1), iv 1]]]]⟩
def tb1 : List Fact := fa0 :: tb0
/-- studwork/box.choices -/
def fa1 : Fact := ⟨51, [V.lst 3 [[iv 1, V.raw (.int .u8 1), iv 1]], V.lst 1 [[V.lst 3 [[iv 1, V.raw (.int .u8 1), iv 2]]], [V.lst 3 [[iv 1, V.raw (.int .u8 1), iv 1]]], [V.lst 3 [[iv 1, V.raw (.int .u8 1), iv 3]]]], V.lst 1 [[iv 5], [iv 4], [iv 9]]], V.lst 3 [[V.raw (.int .u8 0), iv 0, V.lst 3 [[iv 1, V.raw (.int .u8 1), iv 1]]], [V.raw (.int .u8 2), iv 4, nilS]]⟩
def tb2 : List Fact := fa1 :: tb1
/-- studwork/box.Buy -/
def fa2 : Fact := ⟨17, [V.lst 3 [[iv 1, V.raw (.int .u8 1), iv 4]], V.lst 3 [[iv 1, V.raw (.int .u8 1), iv 3], [iv 2, V.raw (.int .u8 1), iv 2]], V.lst 4 [[iv 2, V.raw (.int .u8 1), iv 1, V.raw (.int .u8 1)]], V.lst 3 [[iv 1, V.raw (.int .u8 1), iv 5], [iv 2, V.raw (.int .u8 1), iv 3]]], V.tup [V.agg [V.lst 1 [[iv 3], [iv 1]], V.lst 3 [[iv 2, V.raw (.int .u8 1), iv 1]], iv 3], iv 0]⟩
def tb3 : List Fact := fa2 :: tb2
/-- studwork/box.choices -/
def fa3 : Fact := ⟨51, [V.lst 3 [[iv 1, V.raw (.int .u8 1), iv 3]], V.lst 1 [[V.lst 3 [[iv 1, V.raw (.int .u8 1), iv 2]]], [V.lst 3 [[iv 1, V.raw (.int .u8 1), iv 1]]], [V.lst 3 [[iv 1, V.raw (.int .u8 1), iv 3]]]], V.lst 1 [[iv 5], [iv 4], [iv 9]]], V.lst 3 [[V.raw (.int .u8 0), iv 0, V.lst 3 [[iv 1, V.raw (.int .u8 1), iv 3]]], [V.raw (.int .u8 1), iv 5, V.lst 3 [[iv 1, V.raw (.int .u8 1), iv 1]]], [V.raw (.int .u8 2), iv 4, V.lst 3 [[iv 1, V.raw (.int .u8 1), iv 2]]], [V.raw (.int .u8 3), iv 9, nilS], [V.raw (.int .u8 4), iv 9, nilS]]⟩
def tb4 : List Fact := fa3 :: tb3
/-- studwork/box.Choose -/
def fa4 : Fact := ⟨38, [V.lst 3 [[iv 1, V.raw (.int .u8 1), iv 3]], V.lst 1 [[V.lst 3 [[iv 1, V.raw (.int .u8 1), iv 2]]], [V.lst 3 [[iv 1, V.raw (.int .u8 1), iv 1]]], [V.lst 3 [[iv 1, V.raw (.int .u8 1), iv 3]]]], V.lst 1 [[iv 5], [iv 4], [iv 9]]], V.tup [V.agg [V.lst 1 [[iv 2]], iv 9, V.lst 0 []], iv 0]⟩
def tb5 : List Fact := fa4 :: tb4
/-- studwork/studworklaw08.alive -/
def fa5 : Fact := ⟨19, [], bv true⟩
def tb6 : List Fact := fa5 :: tb5
end Go.Proofs.YtmddjopahcbefaaGreat
