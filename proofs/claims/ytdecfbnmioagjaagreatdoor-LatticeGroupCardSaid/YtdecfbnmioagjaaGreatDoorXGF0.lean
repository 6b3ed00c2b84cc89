/- What calls of the examples return. -/
import Derived.Test.YtdecfbnmioagjaaGreatDoorXGR
namespace Go.Proofs.YtdecfbnmioagjaaGreatDoor
open Go Go.Proofs.YtdecfbnmioagjaaGreatDoor.Clean
set_option linter.unusedVariables false
set_option maxRecDepth 100000
def gsX : List Nat := [3, 6, 7, 8, 9, 11, 13, 17, 18, 19, 21, 26, 29, 34, 35, 38, 39, 41, 42, 43, 44, 59, 60]
def tb0 : List Fact := []
/-- studwork/lattice.bodyOf -/
def fa0 : Fact := ⟨38, [V.lst 3 [[V.lst 3 [[iv 0, iv 0, iv 0], [iv 1, iv 0, iv 0]], V.lst 5 [[iv 0, iv 0, iv 0, V.raw (.int .u8 4), V.raw (.int .u8 1)], [iv 0, iv 0, iv 0, V.raw (.int .u8 5), V.raw (.int .u8 2)], [iv 1, iv 0, iv 0, V.raw (.int .u8 4), V.raw (.int .u8 1)], [iv 1, iv 0, iv 0, V.raw (.int .u8 5), V.raw (.int .u8 2)]], iv 2]], V.agg [iv 0, iv 5, iv 0, iv 0, V.raw (.int .u8 1), V.raw (.int .u8 0)]], V.tup [V.agg [V.lst 3 [[iv 5, iv 0, iv 0], [iv 5, iv 1, iv 0]], V.lst 5 [[iv 5, iv 0, iv 0, V.raw (.int .u8 4), V.raw (.int .u8 1)], [iv 5, iv 0, iv 0, V.raw (.int .u8 5), V.raw (.int .u8 2)], [iv 5, iv 1, iv 0, V.raw (.int .u8 4), V.raw (.int .u8 1)], [iv 5, iv 1, iv 0, V.raw (.int .u8 5), V.raw (.int .u8 2)]]], iv 0]⟩
def tb1 : List Fact := fa0 :: tb0
/-- studwork/lattice.Cells -/
def fa1 : Fact := ⟨9, [V.lst 3 [[V.lst 3 [[iv 0, iv 0, iv 0], [iv 1, iv 0, iv 0]], V.lst 5 [[iv 0, iv 0, iv 0, V.raw (.int .u8 4), V.raw (.int .u8 1)], [iv 0, iv 0, iv 0, V.raw (.int .u8 5), V.raw (.int .u8 2)], [iv 1, iv 0, iv 0, V.raw (.int .u8 4), V.raw (.int .u8 1)], [iv 1, iv 0, iv 0, V.raw (.int .u8 5), V.raw (.int .u8 2)]], iv 2]], V.agg [iv 0, iv 5, iv 0, iv 0, V.raw (.int .u8 1), V.raw (.int .u8 0)]], V.tup [V.lst 3 [[iv 5, iv 0, iv 0], [iv 5, iv 1, iv 0]], iv 0]⟩
def tb2 : List Fact := fa1 :: tb1
/-- studwork/lattice.bodiesOf -/
def fa2 : Fact := ⟨60, [V.lst 3 [[V.lst 3 [[iv 0, iv 0, iv 0], [iv 1, iv 0, iv 0]], V.lst 5 [[iv 0, iv 0, iv 0, V.raw (.int .u8 4), V.raw (.int .u8 1)], [iv 0, iv 0, iv 0, V.raw (.int .u8 5), V.raw (.int .u8 2)], [iv 1, iv 0, iv 0, V.raw (.int .u8 4), V.raw (.int .u8 1)], [iv 1, iv 0, iv 0, V.raw (.int .u8 5), V.raw (.int .u8 2)]], iv 2]], V.agg [V.lst 6 [[iv 0, iv 0, iv 0, iv 0, V.raw (.int .u8 0), V.raw (.int .u8 0)], [iv 0, iv 0, iv 0, iv 1, V.raw (.int .u8 0), V.raw (.int .u8 0)]]]], V.tup [V.lst 2 [[V.lst 3 [[iv 0, iv 0, iv 0], [iv 1, iv 0, iv 0]], V.lst 5 [[iv 0, iv 0, iv 0, V.raw (.int .u8 4), V.raw (.int .u8 1)], [iv 0, iv 0, iv 0, V.raw (.int .u8 5), V.raw (.int .u8 2)], [iv 1, iv 0, iv 0, V.raw (.int .u8 4), V.raw (.int .u8 1)], [iv 1, iv 0, iv 0, V.raw (.int .u8 5), V.raw (.int .u8 2)]]], [V.lst 3 [[iv 0, iv 0, iv 1], [iv 1, iv 0, iv 1]], V.lst 5 [[iv 0, iv 0, iv 1, V.raw (.int .u8 4), V.raw (.int .u8 1)], [iv 0, iv 0, iv 1, V.raw (.int .u8 5), V.raw (.int .u8 2)], [iv 1, iv 0, iv 1, V.raw (.int .u8 4), V.raw (.int .u8 1)], [iv 1, iv 0, iv 1, V.raw (.int .u8 5), V.raw (.int .u8 2)]]]], iv 0]⟩
def tb3 : List Fact := fa2 :: tb2
/-- studwork/lattice.validBodies -/
def fa3 : Fact := ⟨39, [V.lst 3 [[V.lst 3 [[iv 0, iv 0, iv 0], [iv 1, iv 0, iv 0]], V.lst 5 [[iv 0, iv 0, iv 0, V.raw (.int .u8 4), V.raw (.int .u8 1)], [iv 0, iv 0, iv 0, V.raw (.int .u8 5), V.raw (.int .u8 2)], [iv 1, iv 0, iv 0, V.raw (.int .u8 4), V.raw (.int .u8 1)], [iv 1, iv 0, iv 0, V.raw (.int .u8 5), V.raw (.int .u8 2)]], iv 2]], V.agg [V.lst 6 [[iv 0, iv 0, iv 0, iv 0, V.raw (.int .u8 0), V.raw (.int .u8 0)], [iv 0, iv 0, iv 0, iv 1, V.raw (.int .u8 0), V.raw (.int .u8 0)]]]], V.tup [V.lst 2 [[V.lst 3 [[iv 0, iv 0, iv 0], [iv 1, iv 0, iv 0]], V.lst 5 [[iv 0, iv 0, iv 0, V.raw (.int .u8 4), V.raw (.int .u8 1)], [iv 0, iv 0, iv 0, V.raw (.int .u8 5), V.raw (.int .u8 2)], [iv 1, iv 0, iv 0, V.raw (.int .u8 4), V.raw (.int .u8 1)], [iv 1, iv 0, iv 0, V.raw (.int .u8 5), V.raw (.int .u8 2)]]], [V.lst 3 [[iv 0, iv 0, iv 1], [iv 1, iv 0, iv 1]], V.lst 5 [[iv 0, iv 0, iv 1, V.raw (.int .u8 4), V.raw (.int .u8 1)], [iv 0, iv 0, iv 1, V.raw (.int .u8 5), V.raw (.int .u8 2)], [iv 1, iv 0, iv 1, V.raw (.int .u8 4), V.raw (.int .u8 1)], [iv 1, iv 0, iv 1, V.raw (.int .u8 5), V.raw (.int .u8 2)]]]], iv 0]⟩
def tb4 : List Fact := fa3 :: tb3
/-- studwork/lattice.Joints -/
def fa4 : Fact := ⟨11, [V.lst 3 [[V.lst 3 [[iv 0, iv 0, iv 0], [iv 1, iv 0, iv 0]], V.lst 5 [[iv 0, iv 0, iv 0, V.raw (.int .u8 4), V.raw (.int .u8 1)], [iv 0, iv 0, iv 0, V.raw (.int .u8 5), V.raw (.int .u8 2)], [iv 1, iv 0, iv 0, V.raw (.int .u8 4), V.raw (.int .u8 1)], [iv 1, iv 0, iv 0, V.raw (.int .u8 5), V.raw (.int .u8 2)]], iv 2]], V.agg [V.lst 6 [[iv 0, iv 0, iv 0, iv 0, V.raw (.int .u8 0), V.raw (.int .u8 0)], [iv 0, iv 0, iv 0, iv 1, V.raw (.int .u8 0), V.raw (.int .u8 0)]]]], V.tup [V.lst 5 [[iv 0, iv 1, iv 4, V.raw (.int .u8 0), bv false]], iv 0]⟩
def tb5 : List Fact := fa4 :: tb4
/-- studwork/lattice.turnBetween -/
def fa5 : Fact := ⟨35, [V.agg [iv 1, iv 2, iv 3], V.agg [iv 3, iv 1, iv 2]], iv 16⟩
def tb6 : List Fact := fa5 :: tb5
/-- studwork/lattice.compose -/
def fa6 : Fact := ⟨34, [iv 4, iv 1], iv 16⟩
def tb7 : List Fact := fa6 :: tb6
/-- studwork/lattice.Compose -/
def fa7 : Fact := ⟨7, [iv 4, iv 1], V.tup [iv 16, iv 0]⟩
def tb8 : List Fact := fa7 :: tb7
/-- studwork/lattice.bodiesOf -/
def fa8 : Fact := ⟨60, [V.lst 3 [[V.lst 3 [[iv 0, iv 0, iv 0], [iv 1, iv 0, iv 0]], V.lst 5 [[iv 0, iv 0, iv 0, V.raw (.int .u8 4), V.raw (.int .u8 1)], [iv 0, iv 0, iv 0, V.raw (.int .u8 5), V.raw (.int .u8 2)], [iv 1, iv 0, iv 0, V.raw (.int .u8 4), V.raw (.int .u8 1)], [iv 1, iv 0, iv 0, V.raw (.int .u8 5), V.raw (.int .u8 2)]], iv 2]], V.agg [V.lst 6 [[iv 0, iv 0, iv 0, iv 0, V.raw (.int .u8 0), V.raw (.int .u8 0)], [iv 0, iv 1, iv 0, iv 1, V.raw (.int .u8 0), V.raw (.int .u8 0)]]]], V.tup [V.lst 2 [[V.lst 3 [[iv 0, iv 0, iv 0], [iv 1, iv 0, iv 0]], V.lst 5 [[iv 0, iv 0, iv 0, V.raw (.int .u8 4), V.raw (.int .u8 1)], [iv 0, iv 0, iv 0, V.raw (.int .u8 5), V.raw (.int .u8 2)], [iv 1, iv 0, iv 0, V.raw (.int .u8 4), V.raw (.int .u8 1)], [iv 1, iv 0, iv 0, V.raw (.int .u8 5), V.raw (.int .u8 2)]]], [V.lst 3 [[iv 1, iv 0, iv 1], [iv 2, iv 0, iv 1]], V.lst 5 [[iv 1, iv 0, iv 1, V.raw (.int .u8 4), V.raw (.int .u8 1)], [iv 1, iv 0, iv 1, V.raw (.int .u8 5), V.raw (.int .u8 2)], [iv 2, iv 0, iv 1, V.raw (.int .u8 4), V.raw (.int .u8 1)], [iv 2, iv 0, iv 1, V.raw (.int .u8 5), V.raw (.int .u8 2)]]]], iv 0]⟩
def tb9 : List Fact := fa8 :: tb8
/-- studwork/lattice.validBodies -/
def fa9 : Fact := ⟨39, [V.lst 3 [[V.lst 3 [[iv 0, iv 0, iv 0], [iv 1, iv 0, iv 0]], V.lst 5 [[iv 0, iv 0, iv 0, V.raw (.int .u8 4), V.raw (.int .u8 1)], [iv 0, iv 0, iv 0, V.raw (.int .u8 5), V.raw (.int .u8 2)], [iv 1, iv 0, iv 0, V.raw (.int .u8 4), V.raw (.int .u8 1)], [iv 1, iv 0, iv 0, V.raw (.int .u8 5), V.raw (.int .u8 2)]], iv 2]], V.agg [V.lst 6 [[iv 0, iv 0, iv 0, iv 0, V.raw (.int .u8 0), V.raw (.int .u8 0)], [iv 0, iv 1, iv 0, iv 1, V.raw (.int .u8 0), V.raw (.int .u8 0)]]]], V.tup [V.lst 2 [[V.lst 3 [[iv 0, iv 0, iv 0], [iv 1, iv 0, iv 0]], V.lst 5 [[iv 0, iv 0, iv 0, V.raw (.int .u8 4), V.raw (.int .u8 1)], [iv 0, iv 0, iv 0, V.raw (.int .u8 5), V.raw (.int .u8 2)], [iv 1, iv 0, iv 0, V.raw (.int .u8 4), V.raw (.int .u8 1)], [iv 1, iv 0, iv 0, V.raw (.int .u8 5), V.raw (.int .u8 2)]]], [V.lst 3 [[iv 1, iv 0, iv 1], [iv 2, iv 0, iv 1]], V.lst 5 [[iv 1, iv 0, iv 1, V.raw (.int .u8 4), V.raw (.int .u8 1)], [iv 1, iv 0, iv 1, V.raw (.int .u8 5), V.raw (.int .u8 2)], [iv 2, iv 0, iv 1, V.raw (.int .u8 4), V.raw (.int .u8 1)], [iv 2, iv 0, iv 1, V.raw (.int .u8 5), V.raw (.int .u8 2)]]]], iv 0]⟩
def tb10 : List Fact := fa9 :: tb9
/-- studwork/lattice.Links -/
def fa10 : Fact := ⟨41, [V.lst 3 [[V.lst 3 [[iv 0, iv 0, iv 0], [iv 1, iv 0, iv 0]], V.lst 5 [[iv 0, iv 0, iv 0, V.raw (.int .u8 4), V.raw (.int .u8 1)], [iv 0, iv 0, iv 0, V.raw (.int .u8 5), V.raw (.int .u8 2)], [iv 1, iv 0, iv 0, V.raw (.int .u8 4), V.raw (.int .u8 1)], [iv 1, iv 0, iv 0, V.raw (.int .u8 5), V.raw (.int .u8 2)]], iv 2]], V.agg [V.lst 6 [[iv 0, iv 0, iv 0, iv 0, V.raw (.int .u8 0), V.raw (.int .u8 0)], [iv 0, iv 1, iv 0, iv 1, V.raw (.int .u8 0), V.raw (.int .u8 0)]]]], V.tup [V.lst 5 [[iv 0, iv 1, iv 2, iv 1, V.raw (.int .u8 1)]], iv 0]⟩
def tb11 : List Fact := fa10 :: tb10
/-- studwork/lattice.Joints -/
def fa11 : Fact := ⟨11, [V.lst 3 [[V.lst 3 [[iv 0, iv 0, iv 0], [iv 1, iv 0, iv 0]], V.lst 5 [[iv 0, iv 0, iv 0, V.raw (.int .u8 4), V.raw (.int .u8 1)], [iv 0, iv 0, iv 0, V.raw (.int .u8 5), V.raw (.int .u8 2)], [iv 1, iv 0, iv 0, V.raw (.int .u8 4), V.raw (.int .u8 1)], [iv 1, iv 0, iv 0, V.raw (.int .u8 5), V.raw (.int .u8 2)]], iv 2]], V.agg [V.lst 6 [[iv 0, iv 0, iv 0, iv 0, V.raw (.int .u8 0), V.raw (.int .u8 0)], [iv 0, iv 1, iv 0, iv 1, V.raw (.int .u8 0), V.raw (.int .u8 0)]]]], V.tup [V.lst 5 [[iv 0, iv 1, iv 2, V.raw (.int .u8 3), bv false]], iv 0]⟩
def tb12 : List Fact := fa11 :: tb11
/-- studwork/lattice.put -/
def fa12 : Fact := ⟨59, [V.agg [V.lst 3 [[iv 0, iv 0, iv 0], [iv 1, iv 0, iv 0]], V.lst 5 [[iv 0, iv 0, iv 0, V.raw (.int .u8 4), V.raw (.int .u8 1)], [iv 0, iv 0, iv 0, V.raw (.int .u8 5), V.raw (.int .u8 2)], [iv 1, iv 0, iv 0, V.raw (.int .u8 4), V.raw (.int .u8 1)], [iv 1, iv 0, iv 0, V.raw (.int .u8 5), V.raw (.int .u8 2)]], iv 2], iv 2, V.agg [iv 0, iv 0, iv 0]], V.agg [V.lst 3 [[iv (-1), iv 0, iv 0], [iv 0, iv 0, iv 0]], V.lst 5 [[iv 0, iv 0, iv 0, V.raw (.int .u8 4), V.raw (.int .u8 1)], [iv 0, iv 0, iv 0, V.raw (.int .u8 5), V.raw (.int .u8 2)], [iv (-1), iv 0, iv 0, V.raw (.int .u8 4), V.raw (.int .u8 1)], [iv (-1), iv 0, iv 0, V.raw (.int .u8 5), V.raw (.int .u8 2)]]]⟩
def tb13 : List Fact := fa12 :: tb12
/-- studwork/lattice.put -/
def fa13 : Fact := ⟨59, [V.agg [V.lst 3 [[iv 0, iv 0, iv 0], [iv 1, iv 0, iv 0]], V.lst 5 [[iv 0, iv 0, iv 0, V.raw (.int .u8 4), V.raw (.int .u8 1)], [iv 0, iv 0, iv 0, V.raw (.int .u8 5), V.raw (.int .u8 2)], [iv 1, iv 0, iv 0, V.raw (.int .u8 4), V.raw (.int .u8 1)], [iv 1, iv 0, iv 0, V.raw (.int .u8 5), V.raw (.int .u8 2)]], iv 2], iv 3, V.agg [iv 0, iv 0, iv 0]], V.agg [V.lst 3 [[iv 0, iv (-1), iv 0], [iv 0, iv 0, iv 0]], V.lst 5 [[iv 0, iv 0, iv 0, V.raw (.int .u8 4), V.raw (.int .u8 1)], [iv 0, iv 0, iv 0, V.raw (.int .u8 5), V.raw (.int .u8 2)], [iv 0, iv (-1), iv 0, V.raw (.int .u8 4), V.raw (.int .u8 1)], [iv 0, iv (-1), iv 0, V.raw (.int .u8 5), V.raw (.int .u8 2)]]]⟩
def tb14 : List Fact := fa13 :: tb13
/-- studwork/lattice.put -/
def fa14 : Fact := ⟨59, [V.agg [V.lst 3 [[iv 0, iv 0, iv 0], [iv 1, iv 0, iv 0]], V.lst 5 [[iv 0, iv 0, iv 0, V.raw (.int .u8 4), V.raw (.int .u8 1)], [iv 0, iv 0, iv 0, V.raw (.int .u8 5), V.raw (.int .u8 2)], [iv 1, iv 0, iv 0, V.raw (.int .u8 4), V.raw (.int .u8 1)], [iv 1, iv 0, iv 0, V.raw (.int .u8 5), V.raw (.int .u8 2)]], iv 2], iv 6, V.agg [iv 0, iv 0, iv 0]], V.agg [V.lst 3 [[iv (-1), iv 0, iv 0], [iv 0, iv 0, iv 0]], V.lst 5 [[iv 0, iv 0, iv 0, V.raw (.int .u8 3), V.raw (.int .u8 1)], [iv 0, iv 0, iv 0, V.raw (.int .u8 2), V.raw (.int .u8 2)], [iv (-1), iv 0, iv 0, V.raw (.int .u8 3), V.raw (.int .u8 1)], [iv (-1), iv 0, iv 0, V.raw (.int .u8 2), V.raw (.int .u8 2)]]]⟩
def tb15 : List Fact := fa14 :: tb14
/-- studwork/lattice.put -/
def fa15 : Fact := ⟨59, [V.agg [V.lst 3 [[iv 0, iv 0, iv 0], [iv 1, iv 0, iv 0]], V.lst 5 [[iv 0, iv 0, iv 0, V.raw (.int .u8 4), V.raw (.int .u8 1)], [iv 0, iv 0, iv 0, V.raw (.int .u8 5), V.raw (.int .u8 2)], [iv 1, iv 0, iv 0, V.raw (.int .u8 4), V.raw (.int .u8 1)], [iv 1, iv 0, iv 0, V.raw (.int .u8 5), V.raw (.int .u8 2)]], iv 2], iv 7, V.agg [iv 0, iv 0, iv 0]], V.agg [V.lst 3 [[iv 0, iv 0, iv (-1)], [iv 0, iv 0, iv 0]], V.lst 5 [[iv 0, iv 0, iv 0, V.raw (.int .u8 3), V.raw (.int .u8 1)], [iv 0, iv 0, iv 0, V.raw (.int .u8 2), V.raw (.int .u8 2)], [iv 0, iv 0, iv (-1), V.raw (.int .u8 3), V.raw (.int .u8 1)], [iv 0, iv 0, iv (-1), V.raw (.int .u8 2), V.raw (.int .u8 2)]]]⟩
def tb16 : List Fact := fa15 :: tb15
/-- studwork/lattice.put -/
def fa16 : Fact := ⟨59, [V.agg [V.lst 3 [[iv 0, iv 0, iv 0], [iv 1, iv 0, iv 0]], V.lst 5 [[iv 0, iv 0, iv 0, V.raw (.int .u8 4), V.raw (.int .u8 1)], [iv 0, iv 0, iv 0, V.raw (.int .u8 5), V.raw (.int .u8 2)], [iv 1, iv 0, iv 0, V.raw (.int .u8 4), V.raw (.int .u8 1)], [iv 1, iv 0, iv 0, V.raw (.int .u8 5), V.raw (.int .u8 2)]], iv 2], iv 8, V.agg [iv 0, iv 0, iv 0]], V.agg [V.lst 3 [[iv 0, iv 0, iv 0], [iv 1, iv 0, iv 0]], V.lst 5 [[iv 0, iv 0, iv 0, V.raw (.int .u8 5), V.raw (.int .u8 1)], [iv 0, iv 0, iv 0, V.raw (.int .u8 4), V.raw (.int .u8 2)], [iv 1, iv 0, iv 0, V.raw (.int .u8 5), V.raw (.int .u8 1)], [iv 1, iv 0, iv 0, V.raw (.int .u8 4), V.raw (.int .u8 2)]]]⟩
def tb17 : List Fact := fa16 :: tb16
/-- studwork/lattice.put -/
def fa17 : Fact := ⟨59, [V.agg [V.lst 3 [[iv 0, iv 0, iv 0], [iv 1, iv 0, iv 0]], V.lst 5 [[iv 0, iv 0, iv 0, V.raw (.int .u8 4), V.raw (.int .u8 1)], [iv 0, iv 0, iv 0, V.raw (.int .u8 5), V.raw (.int .u8 2)], [iv 1, iv 0, iv 0, V.raw (.int .u8 4), V.raw (.int .u8 1)], [iv 1, iv 0, iv 0, V.raw (.int .u8 5), V.raw (.int .u8 2)]], iv 2], iv 9, V.agg [iv 0, iv 0, iv 0]], V.agg [V.lst 3 [[iv 0, iv (-1), iv 0], [iv 0, iv 0, iv 0]], V.lst 5 [[iv 0, iv 0, iv 0, V.raw (.int .u8 5), V.raw (.int .u8 1)], [iv 0, iv 0, iv 0, V.raw (.int .u8 4), V.raw (.int .u8 2)], [iv 0, iv (-1), iv 0, V.raw (.int .u8 5), V.raw (.int .u8 1)], [iv 0, iv (-1), iv 0, V.raw (.int .u8 4), V.raw (.int .u8 2)]]]⟩
def tb18 : List Fact := fa17 :: tb17
/-- studwork/lattice.put -/
def fa18 : Fact := ⟨59, [V.agg [V.lst 3 [[iv 0, iv 0, iv 0], [iv 1, iv 0, iv 0]], V.lst 5 [[iv 0, iv 0, iv 0, V.raw (.int .u8 4), V.raw (.int .u8 1)], [iv 0, iv 0, iv 0, V.raw (.int .u8 5), V.raw (.int .u8 2)], [iv 1, iv 0, iv 0, V.raw (.int .u8 4), V.raw (.int .u8 1)], [iv 1, iv 0, iv 0, V.raw (.int .u8 5), V.raw (.int .u8 2)]], iv 2], iv 10, V.agg [iv 0, iv 0, iv 0]], V.agg [V.lst 3 [[iv (-1), iv 0, iv 0], [iv 0, iv 0, iv 0]], V.lst 5 [[iv 0, iv 0, iv 0, V.raw (.int .u8 5), V.raw (.int .u8 1)], [iv 0, iv 0, iv 0, V.raw (.int .u8 4), V.raw (.int .u8 2)], [iv (-1), iv 0, iv 0, V.raw (.int .u8 5), V.raw (.int .u8 1)], [iv (-1), iv 0, iv 0, V.raw (.int .u8 4), V.raw (.int .u8 2)]]]⟩
def tb19 : List Fact := fa18 :: tb18
/-- studwork/lattice.put -/
def fa19 : Fact := ⟨59, [V.agg [V.lst 3 [[iv 0, iv 0, iv 0], [iv 1, iv 0, iv 0]], V.lst 5 [[iv 0, iv 0, iv 0, V.raw (.int .u8 4), V.raw (.int .u8 1)], [iv 0, iv 0, iv 0, V.raw (.int .u8 5), V.raw (.int .u8 2)], [iv 1, iv 0, iv 0, V.raw (.int .u8 4), V.raw (.int .u8 1)], [iv 1, iv 0, iv 0, V.raw (.int .u8 5), V.raw (.int .u8 2)]], iv 2], iv 11, V.agg [iv 0, iv 0, iv 0]], V.agg [V.lst 3 [[iv 0, iv 0, iv 0], [iv 0, iv 1, iv 0]], V.lst 5 [[iv 0, iv 0, iv 0, V.raw (.int .u8 5), V.raw (.int .u8 1)], [iv 0, iv 0, iv 0, V.raw (.int .u8 4), V.raw (.int .u8 2)], [iv 0, iv 1, iv 0, V.raw (.int .u8 5), V.raw (.int .u8 1)], [iv 0, iv 1, iv 0, V.raw (.int .u8 4), V.raw (.int .u8 2)]]]⟩
def tb20 : List Fact := fa19 :: tb19
/-- studwork/lattice.put -/
def fa20 : Fact := ⟨59, [V.agg [V.lst 3 [[iv 0, iv 0, iv 0], [iv 1, iv 0, iv 0]], V.lst 5 [[iv 0, iv 0, iv 0, V.raw (.int .u8 4), V.raw (.int .u8 1)], [iv 0, iv 0, iv 0, V.raw (.int .u8 5), V.raw (.int .u8 2)], [iv 1, iv 0, iv 0, V.raw (.int .u8 4), V.raw (.int .u8 1)], [iv 1, iv 0, iv 0, V.raw (.int .u8 5), V.raw (.int .u8 2)]], iv 2], iv 12, V.agg [iv 0, iv 0, iv 0]], V.agg [V.lst 3 [[iv 0, iv 0, iv 0], [iv 1, iv 0, iv 0]], V.lst 5 [[iv 0, iv 0, iv 0, V.raw (.int .u8 2), V.raw (.int .u8 1)], [iv 0, iv 0, iv 0, V.raw (.int .u8 3), V.raw (.int .u8 2)], [iv 1, iv 0, iv 0, V.raw (.int .u8 2), V.raw (.int .u8 1)], [iv 1, iv 0, iv 0, V.raw (.int .u8 3), V.raw (.int .u8 2)]]]⟩
def tb21 : List Fact := fa20 :: tb20
/-- studwork/lattice.put -/
def fa21 : Fact := ⟨59, [V.agg [V.lst 3 [[iv 0, iv 0, iv 0], [iv 1, iv 0, iv 0]], V.lst 5 [[iv 0, iv 0, iv 0, V.raw (.int .u8 4), V.raw (.int .u8 1)], [iv 0, iv 0, iv 0, V.raw (.int .u8 5), V.raw (.int .u8 2)], [iv 1, iv 0, iv 0, V.raw (.int .u8 4), V.raw (.int .u8 1)], [iv 1, iv 0, iv 0, V.raw (.int .u8 5), V.raw (.int .u8 2)]], iv 2], iv 13, V.agg [iv 0, iv 0, iv 0]], V.agg [V.lst 3 [[iv 0, iv 0, iv (-1)], [iv 0, iv 0, iv 0]], V.lst 5 [[iv 0, iv 0, iv 0, V.raw (.int .u8 2), V.raw (.int .u8 1)], [iv 0, iv 0, iv 0, V.raw (.int .u8 3), V.raw (.int .u8 2)], [iv 0, iv 0, iv (-1), V.raw (.int .u8 2), V.raw (.int .u8 1)], [iv 0, iv 0, iv (-1), V.raw (.int .u8 3), V.raw (.int .u8 2)]]]⟩
def tb22 : List Fact := fa21 :: tb21
/-- studwork/lattice.put -/
def fa22 : Fact := ⟨59, [V.agg [V.lst 3 [[iv 0, iv 0, iv 0], [iv 1, iv 0, iv 0]], V.lst 5 [[iv 0, iv 0, iv 0, V.raw (.int .u8 4), V.raw (.int .u8 1)], [iv 0, iv 0, iv 0, V.raw (.int .u8 5), V.raw (.int .u8 2)], [iv 1, iv 0, iv 0, V.raw (.int .u8 4), V.raw (.int .u8 1)], [iv 1, iv 0, iv 0, V.raw (.int .u8 5), V.raw (.int .u8 2)]], iv 2], iv 14, V.agg [iv 0, iv 0, iv 0]], V.agg [V.lst 3 [[iv (-1), iv 0, iv 0], [iv 0, iv 0, iv 0]], V.lst 5 [[iv 0, iv 0, iv 0, V.raw (.int .u8 2), V.raw (.int .u8 1)], [iv 0, iv 0, iv 0, V.raw (.int .u8 3), V.raw (.int .u8 2)], [iv (-1), iv 0, iv 0, V.raw (.int .u8 2), V.raw (.int .u8 1)], [iv (-1), iv 0, iv 0, V.raw (.int .u8 3), V.raw (.int .u8 2)]]]⟩
def tb23 : List Fact := fa22 :: tb22
/-- studwork/lattice.put -/
def fa23 : Fact := ⟨59, [V.agg [V.lst 3 [[iv 0, iv 0, iv 0], [iv 1, iv 0, iv 0]], V.lst 5 [[iv 0, iv 0, iv 0, V.raw (.int .u8 4), V.raw (.int .u8 1)], [iv 0, iv 0, iv 0, V.raw (.int .u8 5), V.raw (.int .u8 2)], [iv 1, iv 0, iv 0, V.raw (.int .u8 4), V.raw (.int .u8 1)], [iv 1, iv 0, iv 0, V.raw (.int .u8 5), V.raw (.int .u8 2)]], iv 2], iv 15, V.agg [iv 0, iv 0, iv 0]], V.agg [V.lst 3 [[iv 0, iv 0, iv 0], [iv 0, iv 0, iv 1]], V.lst 5 [[iv 0, iv 0, iv 0, V.raw (.int .u8 2), V.raw (.int .u8 1)], [iv 0, iv 0, iv 0, V.raw (.int .u8 3), V.raw (.int .u8 2)], [iv 0, iv 0, iv 1, V.raw (.int .u8 2), V.raw (.int .u8 1)], [iv 0, iv 0, iv 1, V.raw (.int .u8 3), V.raw (.int .u8 2)]]]⟩
def tb24 : List Fact := fa23 :: tb23
/-- studwork/lattice.put -/
def fa24 : Fact := ⟨59, [V.agg [V.lst 3 [[iv 0, iv 0, iv 0], [iv 1, iv 0, iv 0]], V.lst 5 [[iv 0, iv 0, iv 0, V.raw (.int .u8 4), V.raw (.int .u8 1)], [iv 0, iv 0, iv 0, V.raw (.int .u8 5), V.raw (.int .u8 2)], [iv 1, iv 0, iv 0, V.raw (.int .u8 4), V.raw (.int .u8 1)], [iv 1, iv 0, iv 0, V.raw (.int .u8 5), V.raw (.int .u8 2)]], iv 2], iv 17, V.agg [iv 0, iv 0, iv 0]], V.agg [V.lst 3 [[iv 0, iv 0, iv 0], [iv 0, iv 0, iv 1]], V.lst 5 [[iv 0, iv 0, iv 0, V.raw (.int .u8 0), V.raw (.int .u8 1)], [iv 0, iv 0, iv 0, V.raw (.int .u8 1), V.raw (.int .u8 2)], [iv 0, iv 0, iv 1, V.raw (.int .u8 0), V.raw (.int .u8 1)], [iv 0, iv 0, iv 1, V.raw (.int .u8 1), V.raw (.int .u8 2)]]]⟩
def tb25 : List Fact := fa24 :: tb24
/-- studwork/lattice.put -/
def fa25 : Fact := ⟨59, [V.agg [V.lst 3 [[iv 0, iv 0, iv 0], [iv 1, iv 0, iv 0]], V.lst 5 [[iv 0, iv 0, iv 0, V.raw (.int .u8 4), V.raw (.int .u8 1)], [iv 0, iv 0, iv 0, V.raw (.int .u8 5), V.raw (.int .u8 2)], [iv 1, iv 0, iv 0, V.raw (.int .u8 4), V.raw (.int .u8 1)], [iv 1, iv 0, iv 0, V.raw (.int .u8 5), V.raw (.int .u8 2)]], iv 2], iv 18, V.agg [iv 0, iv 0, iv 0]], V.agg [V.lst 3 [[iv 0, iv (-1), iv 0], [iv 0, iv 0, iv 0]], V.lst 5 [[iv 0, iv 0, iv 0, V.raw (.int .u8 0), V.raw (.int .u8 1)], [iv 0, iv 0, iv 0, V.raw (.int .u8 1), V.raw (.int .u8 2)], [iv 0, iv (-1), iv 0, V.raw (.int .u8 0), V.raw (.int .u8 1)], [iv 0, iv (-1), iv 0, V.raw (.int .u8 1), V.raw (.int .u8 2)]]]⟩
def tb26 : List Fact := fa25 :: tb25
/-- studwork/lattice.put -/
def fa26 : Fact := ⟨59, [V.agg [V.lst 3 [[iv 0, iv 0, iv 0], [iv 1, iv 0, iv 0]], V.lst 5 [[iv 0, iv 0, iv 0, V.raw (.int .u8 4), V.raw (.int .u8 1)], [iv 0, iv 0, iv 0, V.raw (.int .u8 5), V.raw (.int .u8 2)], [iv 1, iv 0, iv 0, V.raw (.int .u8 4), V.raw (.int .u8 1)], [iv 1, iv 0, iv 0, V.raw (.int .u8 5), V.raw (.int .u8 2)]], iv 2], iv 19, V.agg [iv 0, iv 0, iv 0]], V.agg [V.lst 3 [[iv 0, iv 0, iv (-1)], [iv 0, iv 0, iv 0]], V.lst 5 [[iv 0, iv 0, iv 0, V.raw (.int .u8 0), V.raw (.int .u8 1)], [iv 0, iv 0, iv 0, V.raw (.int .u8 1), V.raw (.int .u8 2)], [iv 0, iv 0, iv (-1), V.raw (.int .u8 0), V.raw (.int .u8 1)], [iv 0, iv 0, iv (-1), V.raw (.int .u8 1), V.raw (.int .u8 2)]]]⟩
def tb27 : List Fact := fa26 :: tb26
/-- studwork/lattice.put -/
def fa27 : Fact := ⟨59, [V.agg [V.lst 3 [[iv 0, iv 0, iv 0], [iv 1, iv 0, iv 0]], V.lst 5 [[iv 0, iv 0, iv 0, V.raw (.int .u8 4), V.raw (.int .u8 1)], [iv 0, iv 0, iv 0, V.raw (.int .u8 5), V.raw (.int .u8 2)], [iv 1, iv 0, iv 0, V.raw (.int .u8 4), V.raw (.int .u8 1)], [iv 1, iv 0, iv 0, V.raw (.int .u8 5), V.raw (.int .u8 2)]], iv 2], iv 20, V.agg [iv 0, iv 0, iv 0]], V.agg [V.lst 3 [[iv 0, iv (-1), iv 0], [iv 0, iv 0, iv 0]], V.lst 5 [[iv 0, iv 0, iv 0, V.raw (.int .u8 1), V.raw (.int .u8 1)], [iv 0, iv 0, iv 0, V.raw (.int .u8 0), V.raw (.int .u8 2)], [iv 0, iv (-1), iv 0, V.raw (.int .u8 1), V.raw (.int .u8 1)], [iv 0, iv (-1), iv 0, V.raw (.int .u8 0), V.raw (.int .u8 2)]]]⟩
def tb28 : List Fact := fa27 :: tb27
/-- studwork/lattice.put -/
def fa28 : Fact := ⟨59, [V.agg [V.lst 3 [[iv 0, iv 0, iv 0], [iv 1, iv 0, iv 0]], V.lst 5 [[iv 0, iv 0, iv 0, V.raw (.int .u8 4), V.raw (.int .u8 1)], [iv 0, iv 0, iv 0, V.raw (.int .u8 5), V.raw (.int .u8 2)], [iv 1, iv 0, iv 0, V.raw (.int .u8 4), V.raw (.int .u8 1)], [iv 1, iv 0, iv 0, V.raw (.int .u8 5), V.raw (.int .u8 2)]], iv 2], iv 21, V.agg [iv 0, iv 0, iv 0]], V.agg [V.lst 3 [[iv 0, iv 0, iv 0], [iv 0, iv 0, iv 1]], V.lst 5 [[iv 0, iv 0, iv 0, V.raw (.int .u8 1), V.raw (.int .u8 1)], [iv 0, iv 0, iv 0, V.raw (.int .u8 0), V.raw (.int .u8 2)], [iv 0, iv 0, iv 1, V.raw (.int .u8 1), V.raw (.int .u8 1)], [iv 0, iv 0, iv 1, V.raw (.int .u8 0), V.raw (.int .u8 2)]]]⟩
def tb29 : List Fact := fa28 :: tb28
/-- studwork/lattice.put -/
def fa29 : Fact := ⟨59, [V.agg [V.lst 3 [[iv 0, iv 0, iv 0], [iv 1, iv 0, iv 0]], V.lst 5 [[iv 0, iv 0, iv 0, V.raw (.int .u8 4), V.raw (.int .u8 1)], [iv 0, iv 0, iv 0, V.raw (.int .u8 5), V.raw (.int .u8 2)], [iv 1, iv 0, iv 0, V.raw (.int .u8 4), V.raw (.int .u8 1)], [iv 1, iv 0, iv 0, V.raw (.int .u8 5), V.raw (.int .u8 2)]], iv 2], iv 22, V.agg [iv 0, iv 0, iv 0]], V.agg [V.lst 3 [[iv 0, iv 0, iv 0], [iv 0, iv 1, iv 0]], V.lst 5 [[iv 0, iv 0, iv 0, V.raw (.int .u8 1), V.raw (.int .u8 1)], [iv 0, iv 0, iv 0, V.raw (.int .u8 0), V.raw (.int .u8 2)], [iv 0, iv 1, iv 0, V.raw (.int .u8 1), V.raw (.int .u8 1)], [iv 0, iv 1, iv 0, V.raw (.int .u8 0), V.raw (.int .u8 2)]]]⟩
def tb30 : List Fact := fa29 :: tb29
/-- studwork/lattice.put -/
def fa30 : Fact := ⟨59, [V.agg [V.lst 3 [[iv 0, iv 0, iv 0], [iv 1, iv 0, iv 0]], V.lst 5 [[iv 0, iv 0, iv 0, V.raw (.int .u8 4), V.raw (.int .u8 1)], [iv 0, iv 0, iv 0, V.raw (.int .u8 5), V.raw (.int .u8 2)], [iv 1, iv 0, iv 0, V.raw (.int .u8 4), V.raw (.int .u8 1)], [iv 1, iv 0, iv 0, V.raw (.int .u8 5), V.raw (.int .u8 2)]], iv 2], iv 23, V.agg [iv 0, iv 0, iv 0]], V.agg [V.lst 3 [[iv 0, iv 0, iv (-1)], [iv 0, iv 0, iv 0]], V.lst 5 [[iv 0, iv 0, iv 0, V.raw (.int .u8 1), V.raw (.int .u8 1)], [iv 0, iv 0, iv 0, V.raw (.int .u8 0), V.raw (.int .u8 2)], [iv 0, iv 0, iv (-1), V.raw (.int .u8 1), V.raw (.int .u8 1)], [iv 0, iv 0, iv (-1), V.raw (.int .u8 0), V.raw (.int .u8 2)]]]⟩
def tb31 : List Fact := fa30 :: tb30
/-- studwork/lattice.Symmetries -/
def fa31 : Fact := ⟨42, [V.agg [V.lst 3 [[iv 0, iv 0, iv 0], [iv 1, iv 0, iv 0]], V.lst 5 [[iv 0, iv 0, iv 0, V.raw (.int .u8 4), V.raw (.int .u8 1)], [iv 0, iv 0, iv 0, V.raw (.int .u8 5), V.raw (.int .u8 2)], [iv 1, iv 0, iv 0, V.raw (.int .u8 4), V.raw (.int .u8 1)], [iv 1, iv 0, iv 0, V.raw (.int .u8 5), V.raw (.int .u8 2)]], iv 2]], V.tup [V.lst 1 [[iv 0], [iv 2]], iv 0]⟩
def tb32 : List Fact := fa31 :: tb31
/-- studwork/lattice.put -/
def fa32 : Fact := ⟨59, [V.agg [V.lst 3 [[iv 0, iv 0, iv 0], [iv 1, iv 0, iv 0]], V.lst 5 [[iv 0, iv 0, iv 0, V.raw (.int .u8 4), V.raw (.int .u8 1)], [iv 0, iv 0, iv 0, V.raw (.int .u8 5), V.raw (.int .u8 2)], [iv 1, iv 0, iv 0, V.raw (.int .u8 4), V.raw (.int .u8 1)], [iv 1, iv 0, iv 0, V.raw (.int .u8 5), V.raw (.int .u8 2)]], iv 2], iv 2, V.agg [iv 5, iv 0, iv 0]], V.agg [V.lst 3 [[iv 4, iv 0, iv 0], [iv 5, iv 0, iv 0]], V.lst 5 [[iv 5, iv 0, iv 0, V.raw (.int .u8 4), V.raw (.int .u8 1)], [iv 5, iv 0, iv 0, V.raw (.int .u8 5), V.raw (.int .u8 2)], [iv 4, iv 0, iv 0, V.raw (.int .u8 4), V.raw (.int .u8 1)], [iv 4, iv 0, iv 0, V.raw (.int .u8 5), V.raw (.int .u8 2)]]]⟩
def tb33 : List Fact := fa32 :: tb32
/-- studwork/lattice.bodyOf -/
def fa33 : Fact := ⟨38, [V.lst 3 [[V.lst 3 [[iv 0, iv 0, iv 0], [iv 1, iv 0, iv 0]], V.lst 5 [[iv 0, iv 0, iv 0, V.raw (.int .u8 4), V.raw (.int .u8 1)], [iv 0, iv 0, iv 0, V.raw (.int .u8 5), V.raw (.int .u8 2)], [iv 1, iv 0, iv 0, V.raw (.int .u8 4), V.raw (.int .u8 1)], [iv 1, iv 0, iv 0, V.raw (.int .u8 5), V.raw (.int .u8 2)]], iv 2]], V.agg [iv 0, iv 5, iv 0, iv 0, V.raw (.int .u8 2), V.raw (.int .u8 0)]], V.tup [V.agg [V.lst 3 [[iv 4, iv 0, iv 0], [iv 5, iv 0, iv 0]], V.lst 5 [[iv 5, iv 0, iv 0, V.raw (.int .u8 4), V.raw (.int .u8 1)], [iv 5, iv 0, iv 0, V.raw (.int .u8 5), V.raw (.int .u8 2)], [iv 4, iv 0, iv 0, V.raw (.int .u8 4), V.raw (.int .u8 1)], [iv 4, iv 0, iv 0, V.raw (.int .u8 5), V.raw (.int .u8 2)]]], iv 0]⟩
def tb34 : List Fact := fa33 :: tb33
/-- studwork/lattice.Normal -/
def fa34 : Fact := ⟨43, [V.lst 3 [[V.lst 3 [[iv 0, iv 0, iv 0], [iv 1, iv 0, iv 0]], V.lst 5 [[iv 0, iv 0, iv 0, V.raw (.int .u8 4), V.raw (.int .u8 1)], [iv 0, iv 0, iv 0, V.raw (.int .u8 5), V.raw (.int .u8 2)], [iv 1, iv 0, iv 0, V.raw (.int .u8 4), V.raw (.int .u8 1)], [iv 1, iv 0, iv 0, V.raw (.int .u8 5), V.raw (.int .u8 2)]], iv 2]], V.agg [iv 0, iv 5, iv 0, iv 0, V.raw (.int .u8 2), V.raw (.int .u8 0)]], V.tup [V.agg [iv 0, iv 4, iv 0, iv 0, V.raw (.int .u8 0), V.raw (.int .u8 0)], iv 0]⟩
def tb35 : List Fact := fa34 :: tb34
/-- studwork/lattice.bodiesOf -/
def fa35 : Fact := ⟨60, [V.lst 3 [[V.lst 3 [[iv 0, iv 0, iv 0], [iv 1, iv 0, iv 0]], V.lst 5 [[iv 0, iv 0, iv 0, V.raw (.int .u8 4), V.raw (.int .u8 1)], [iv 0, iv 0, iv 0, V.raw (.int .u8 5), V.raw (.int .u8 2)], [iv 1, iv 0, iv 0, V.raw (.int .u8 4), V.raw (.int .u8 1)], [iv 1, iv 0, iv 0, V.raw (.int .u8 5), V.raw (.int .u8 2)]], iv 2]], V.agg [V.lst 6 [[iv 0, iv 0, iv 0, iv 0, V.raw (.int .u8 0), V.raw (.int .u8 0)], [iv 0, iv 1, iv 0, iv 0, V.raw (.int .u8 0), V.raw (.int .u8 0)]]]], V.tup [V.lst 2 [[V.lst 3 [[iv 0, iv 0, iv 0], [iv 1, iv 0, iv 0]], V.lst 5 [[iv 0, iv 0, iv 0, V.raw (.int .u8 4), V.raw (.int .u8 1)], [iv 0, iv 0, iv 0, V.raw (.int .u8 5), V.raw (.int .u8 2)], [iv 1, iv 0, iv 0, V.raw (.int .u8 4), V.raw (.int .u8 1)], [iv 1, iv 0, iv 0, V.raw (.int .u8 5), V.raw (.int .u8 2)]]], [V.lst 3 [[iv 1, iv 0, iv 0], [iv 2, iv 0, iv 0]], V.lst 5 [[iv 1, iv 0, iv 0, V.raw (.int .u8 4), V.raw (.int .u8 1)], [iv 1, iv 0, iv 0, V.raw (.int .u8 5), V.raw (.int .u8 2)], [iv 2, iv 0, iv 0, V.raw (.int .u8 4), V.raw (.int .u8 1)], [iv 2, iv 0, iv 0, V.raw (.int .u8 5), V.raw (.int .u8 2)]]]], iv 0]⟩
def tb36 : List Fact := fa35 :: tb35
/-- studwork/lattice.Overlaps -/
def fa36 : Fact := ⟨44, [V.lst 3 [[V.lst 3 [[iv 0, iv 0, iv 0], [iv 1, iv 0, iv 0]], V.lst 5 [[iv 0, iv 0, iv 0, V.raw (.int .u8 4), V.raw (.int .u8 1)], [iv 0, iv 0, iv 0, V.raw (.int .u8 5), V.raw (.int .u8 2)], [iv 1, iv 0, iv 0, V.raw (.int .u8 4), V.raw (.int .u8 1)], [iv 1, iv 0, iv 0, V.raw (.int .u8 5), V.raw (.int .u8 2)]], iv 2]], V.agg [V.lst 6 [[iv 0, iv 0, iv 0, iv 0, V.raw (.int .u8 0), V.raw (.int .u8 0)], [iv 0, iv 1, iv 0, iv 0, V.raw (.int .u8 0), V.raw (.int .u8 0)]]]], V.tup [V.lst 2 [[iv 0, iv 1]], iv 0]⟩
def tb37 : List Fact := fa36 :: tb36
/-- studwork/studworklaw01.alive -/
def fa37 : Fact := ⟨13, [], bv true⟩
def tb38 : List Fact := fa37 :: tb37
/-- studwork/lattice.bodiesOf -/
def fa38 : Fact := ⟨60, [V.lst 3 [[V.lst 3 [[iv 0, iv 0, iv 0], [iv 1, iv 0, iv 0]], V.lst 5 [[iv 0, iv 0, iv 0, V.raw (.int .u8 4), V.raw (.int .u8 1)], [iv 0, iv 0, iv 0, V.raw (.int .u8 5), V.raw (.int .u8 2)], [iv 1, iv 0, iv 0, V.raw (.int .u8 4), V.raw (.int .u8 1)], [iv 1, iv 0, iv 0, V.raw (.int .u8 5), V.raw (.int .u8 2)]], iv 2]], V.agg [V.lst 6 [[iv 0, iv 0, iv 0, iv 0, V.raw (.int .u8 0), V.raw (.int .u8 0)], [iv 0, iv 3, iv 0, iv 0, V.raw (.int .u8 0), V.raw (.int .u8 0)]]]], V.tup [V.lst 2 [[V.lst 3 [[iv 0, iv 0, iv 0], [iv 1, iv 0, iv 0]], V.lst 5 [[iv 0, iv 0, iv 0, V.raw (.int .u8 4), V.raw (.int .u8 1)], [iv 0, iv 0, iv 0, V.raw (.int .u8 5), V.raw (.int .u8 2)], [iv 1, iv 0, iv 0, V.raw (.int .u8 4), V.raw (.int .u8 1)], [iv 1, iv 0, iv 0, V.raw (.int .u8 5), V.raw (.int .u8 2)]]], [V.lst 3 [[iv 3, iv 0, iv 0], [iv 4, iv 0, iv 0]], V.lst 5 [[iv 3, iv 0, iv 0, V.raw (.int .u8 4), V.raw (.int .u8 1)], [iv 3, iv 0, iv 0, V.raw (.int .u8 5), V.raw (.int .u8 2)], [iv 4, iv 0, iv 0, V.raw (.int .u8 4), V.raw (.int .u8 1)], [iv 4, iv 0, iv 0, V.raw (.int .u8 5), V.raw (.int .u8 2)]]]], iv 0]⟩
def tb39 : List Fact := fa38 :: tb38
/-- studwork/lattice.validBodies -/
def fa39 : Fact := ⟨39, [V.lst 3 [[V.lst 3 [[iv 0, iv 0, iv 0], [iv 1, iv 0, iv 0]], V.lst 5 [[iv 0, iv 0, iv 0, V.raw (.int .u8 4), V.raw (.int .u8 1)], [iv 0, iv 0, iv 0, V.raw (.int .u8 5), V.raw (.int .u8 2)], [iv 1, iv 0, iv 0, V.raw (.int .u8 4), V.raw (.int .u8 1)], [iv 1, iv 0, iv 0, V.raw (.int .u8 5), V.raw (.int .u8 2)]], iv 2]], V.agg [V.lst 6 [[iv 0, iv 0, iv 0, iv 0, V.raw (.int .u8 0), V.raw (.int .u8 0)], [iv 0, iv 3, iv 0, iv 0, V.raw (.int .u8 0), V.raw (.int .u8 0)]]]], V.tup [V.lst 2 [[V.lst 3 [[iv 0, iv 0, iv 0], [iv 1, iv 0, iv 0]], V.lst 5 [[iv 0, iv 0, iv 0, V.raw (.int .u8 4), V.raw (.int .u8 1)], [iv 0, iv 0, iv 0, V.raw (.int .u8 5), V.raw (.int .u8 2)], [iv 1, iv 0, iv 0, V.raw (.int .u8 4), V.raw (.int .u8 1)], [iv 1, iv 0, iv 0, V.raw (.int .u8 5), V.raw (.int .u8 2)]]], [V.lst 3 [[iv 3, iv 0, iv 0], [iv 4, iv 0, iv 0]], V.lst 5 [[iv 3, iv 0, iv 0, V.raw (.int .u8 4), V.raw (.int .u8 1)], [iv 3, iv 0, iv 0, V.raw (.int .u8 5), V.raw (.int .u8 2)], [iv 4, iv 0, iv 0, V.raw (.int .u8 4), V.raw (.int .u8 1)], [iv 4, iv 0, iv 0, V.raw (.int .u8 5), V.raw (.int .u8 2)]]]], iv 0]⟩
def tb40 : List Fact := fa39 :: tb39
/-- studwork/lattice.Groups -/
def fa40 : Fact := ⟨17, [V.lst 3 [[V.lst 3 [[iv 0, iv 0, iv 0], [iv 1, iv 0, iv 0]], V.lst 5 [[iv 0, iv 0, iv 0, V.raw (.int .u8 4), V.raw (.int .u8 1)], [iv 0, iv 0, iv 0, V.raw (.int .u8 5), V.raw (.int .u8 2)], [iv 1, iv 0, iv 0, V.raw (.int .u8 4), V.raw (.int .u8 1)], [iv 1, iv 0, iv 0, V.raw (.int .u8 5), V.raw (.int .u8 2)]], iv 2]], V.agg [V.lst 6 [[iv 0, iv 0, iv 0, iv 0, V.raw (.int .u8 0), V.raw (.int .u8 0)], [iv 0, iv 3, iv 0, iv 0, V.raw (.int .u8 0), V.raw (.int .u8 0)]]]], V.tup [V.lst 1 [[iv 0], [iv 1]], iv 0]⟩
def tb41 : List Fact := fa40 :: tb40
/-- studwork/lattice.bodiesOf -/
def fa41 : Fact := ⟨60, [V.lst 3 [[V.lst 3 [[iv 0, iv 0, iv 0], [iv 1, iv 0, iv 0]], V.lst 5 [[iv 0, iv 0, iv 0, V.raw (.int .u8 4), V.raw (.int .u8 1)], [iv 0, iv 0, iv 0, V.raw (.int .u8 5), V.raw (.int .u8 2)], [iv 1, iv 0, iv 0, V.raw (.int .u8 4), V.raw (.int .u8 1)], [iv 1, iv 0, iv 0, V.raw (.int .u8 5), V.raw (.int .u8 2)]], iv 2]], V.agg [V.lst 6 [[iv 0, iv 0, iv 0, iv 0, V.raw (.int .u8 0), V.raw (.int .u8 0)], [iv 0, iv 3, iv 0, iv 2, V.raw (.int .u8 0), V.raw (.int .u8 0)]]]], V.tup [V.lst 2 [[V.lst 3 [[iv 0, iv 0, iv 0], [iv 1, iv 0, iv 0]], V.lst 5 [[iv 0, iv 0, iv 0, V.raw (.int .u8 4), V.raw (.int .u8 1)], [iv 0, iv 0, iv 0, V.raw (.int .u8 5), V.raw (.int .u8 2)], [iv 1, iv 0, iv 0, V.raw (.int .u8 4), V.raw (.int .u8 1)], [iv 1, iv 0, iv 0, V.raw (.int .u8 5), V.raw (.int .u8 2)]]], [V.lst 3 [[iv 3, iv 0, iv 2], [iv 4, iv 0, iv 2]], V.lst 5 [[iv 3, iv 0, iv 2, V.raw (.int .u8 4), V.raw (.int .u8 1)], [iv 3, iv 0, iv 2, V.raw (.int .u8 5), V.raw (.int .u8 2)], [iv 4, iv 0, iv 2, V.raw (.int .u8 4), V.raw (.int .u8 1)], [iv 4, iv 0, iv 2, V.raw (.int .u8 5), V.raw (.int .u8 2)]]]], iv 0]⟩
def tb42 : List Fact := fa41 :: tb41
/-- studwork/lattice.validBodies -/
def fa42 : Fact := ⟨39, [V.lst 3 [[V.lst 3 [[iv 0, iv 0, iv 0], [iv 1, iv 0, iv 0]], V.lst 5 [[iv 0, iv 0, iv 0, V.raw (.int .u8 4), V.raw (.int .u8 1)], [iv 0, iv 0, iv 0, V.raw (.int .u8 5), V.raw (.int .u8 2)], [iv 1, iv 0, iv 0, V.raw (.int .u8 4), V.raw (.int .u8 1)], [iv 1, iv 0, iv 0, V.raw (.int .u8 5), V.raw (.int .u8 2)]], iv 2]], V.agg [V.lst 6 [[iv 0, iv 0, iv 0, iv 0, V.raw (.int .u8 0), V.raw (.int .u8 0)], [iv 0, iv 3, iv 0, iv 2, V.raw (.int .u8 0), V.raw (.int .u8 0)]]]], V.tup [V.lst 2 [[V.lst 3 [[iv 0, iv 0, iv 0], [iv 1, iv 0, iv 0]], V.lst 5 [[iv 0, iv 0, iv 0, V.raw (.int .u8 4), V.raw (.int .u8 1)], [iv 0, iv 0, iv 0, V.raw (.int .u8 5), V.raw (.int .u8 2)], [iv 1, iv 0, iv 0, V.raw (.int .u8 4), V.raw (.int .u8 1)], [iv 1, iv 0, iv 0, V.raw (.int .u8 5), V.raw (.int .u8 2)]]], [V.lst 3 [[iv 3, iv 0, iv 2], [iv 4, iv 0, iv 2]], V.lst 5 [[iv 3, iv 0, iv 2, V.raw (.int .u8 4), V.raw (.int .u8 1)], [iv 3, iv 0, iv 2, V.raw (.int .u8 5), V.raw (.int .u8 2)], [iv 4, iv 0, iv 2, V.raw (.int .u8 4), V.raw (.int .u8 1)], [iv 4, iv 0, iv 2, V.raw (.int .u8 5), V.raw (.int .u8 2)]]]], iv 0]⟩
def tb43 : List Fact := fa42 :: tb42
/-- studwork/lattice.Bounds -/
def fa43 : Fact := ⟨18, [V.lst 3 [[V.lst 3 [[iv 0, iv 0, iv 0], [iv 1, iv 0, iv 0]], V.lst 5 [[iv 0, iv 0, iv 0, V.raw (.int .u8 4), V.raw (.int .u8 1)], [iv 0, iv 0, iv 0, V.raw (.int .u8 5), V.raw (.int .u8 2)], [iv 1, iv 0, iv 0, V.raw (.int .u8 4), V.raw (.int .u8 1)], [iv 1, iv 0, iv 0, V.raw (.int .u8 5), V.raw (.int .u8 2)]], iv 2]], V.agg [V.lst 6 [[iv 0, iv 0, iv 0, iv 0, V.raw (.int .u8 0), V.raw (.int .u8 0)], [iv 0, iv 3, iv 0, iv 2, V.raw (.int .u8 0), V.raw (.int .u8 0)]]]], V.tup [V.agg [iv 0, iv 0, iv 0, iv 4, iv 0, iv 2], iv 0]⟩
def tb44 : List Fact := fa43 :: tb43
/-- studwork/lattice.Check -/
def fa44 : Fact := ⟨21, [V.lst 3 [[V.lst 3 [[iv 0, iv 0, iv 0], [iv 1, iv 0, iv 0]], V.lst 5 [[iv 0, iv 0, iv 0, V.raw (.int .u8 4), V.raw (.int .u8 1)], [iv 0, iv 0, iv 0, V.raw (.int .u8 5), V.raw (.int .u8 2)], [iv 1, iv 0, iv 0, V.raw (.int .u8 4), V.raw (.int .u8 1)], [iv 1, iv 0, iv 0, V.raw (.int .u8 5), V.raw (.int .u8 2)]], iv 2]], V.agg [V.lst 6 [[iv 0, iv 0, iv 0, iv 0, V.raw (.int .u8 0), V.raw (.int .u8 0)], [iv 0, iv 1, iv 0, iv 1, V.raw (.int .u8 0), V.raw (.int .u8 0)]]]], iv 0⟩
def tb45 : List Fact := fa44 :: tb44
/-- studwork/lattice.Move -/
def fa45 : Fact := ⟨19, [V.lst 3 [[V.lst 3 [[iv 0, iv 0, iv 0], [iv 1, iv 0, iv 0]], V.lst 5 [[iv 0, iv 0, iv 0, V.raw (.int .u8 4), V.raw (.int .u8 1)], [iv 0, iv 0, iv 0, V.raw (.int .u8 5), V.raw (.int .u8 2)], [iv 1, iv 0, iv 0, V.raw (.int .u8 4), V.raw (.int .u8 1)], [iv 1, iv 0, iv 0, V.raw (.int .u8 5), V.raw (.int .u8 2)]], iv 2]], V.agg [V.lst 6 [[iv 0, iv 0, iv 0, iv 0, V.raw (.int .u8 0), V.raw (.int .u8 0)], [iv 0, iv 1, iv 0, iv 1, V.raw (.int .u8 0), V.raw (.int .u8 0)]]], iv 24, V.agg [iv 0, iv 0, iv 0]], V.tup [V.agg [nilS], iv 2]⟩
def tb46 : List Fact := fa45 :: tb45
/-- studwork/lattice.Move -/
def fa46 : Fact := ⟨19, [V.lst 3 [[V.lst 3 [[iv 0, iv 0, iv 0], [iv 1, iv 0, iv 0]], V.lst 5 [[iv 0, iv 0, iv 0, V.raw (.int .u8 4), V.raw (.int .u8 1)], [iv 0, iv 0, iv 0, V.raw (.int .u8 5), V.raw (.int .u8 2)], [iv 1, iv 0, iv 0, V.raw (.int .u8 4), V.raw (.int .u8 1)], [iv 1, iv 0, iv 0, V.raw (.int .u8 5), V.raw (.int .u8 2)]], iv 2]], V.agg [V.lst 6 [[iv 0, iv 0, iv 0, iv 0, V.raw (.int .u8 0), V.raw (.int .u8 0)], [iv 0, iv 1, iv 0, iv 1, V.raw (.int .u8 0), V.raw (.int .u8 0)]]], iv 0, V.agg [iv 0, iv 0, iv 1000]], V.tup [V.agg [nilS], iv 11]⟩
def tb47 : List Fact := fa46 :: tb46
/-- studwork/lattice.validBodies -/
def fa47 : Fact := ⟨39, [V.lst 3 [[V.lst 3 [[iv 0, iv 0, iv 0], [iv 1, iv 0, iv 0]], V.lst 5 [[iv 0, iv 0, iv 0, V.raw (.int .u8 4), V.raw (.int .u8 1)], [iv 0, iv 0, iv 0, V.raw (.int .u8 5), V.raw (.int .u8 2)], [iv 1, iv 0, iv 0, V.raw (.int .u8 4), V.raw (.int .u8 1)], [iv 1, iv 0, iv 0, V.raw (.int .u8 5), V.raw (.int .u8 2)]], iv 2]], V.agg [V.lst 6 [[iv 0, iv 0, iv 0, iv 0, V.raw (.int .u8 0), V.raw (.int .u8 0)], [iv 0, iv 1, iv 0, iv 0, V.raw (.int .u8 0), V.raw (.int .u8 0)]]]], V.tup [nilS, iv 12]⟩
def tb48 : List Fact := fa47 :: tb47
/-- studwork/lattice.Check -/
def fa48 : Fact := ⟨21, [V.lst 3 [[V.lst 3 [[iv 0, iv 0, iv 0], [iv 1, iv 0, iv 0]], V.lst 5 [[iv 0, iv 0, iv 0, V.raw (.int .u8 4), V.raw (.int .u8 1)], [iv 0, iv 0, iv 0, V.raw (.int .u8 5), V.raw (.int .u8 2)], [iv 1, iv 0, iv 0, V.raw (.int .u8 4), V.raw (.int .u8 1)], [iv 1, iv 0, iv 0, V.raw (.int .u8 5), V.raw (.int .u8 2)]], iv 2]], V.agg [V.lst 6 [[iv 0, iv 0, iv 0, iv 0, V.raw (.int .u8 0), V.raw (.int .u8 0)], [iv 0, iv 1, iv 0, iv 0, V.raw (.int .u8 0), V.raw (.int .u8 0)]]]], iv 12⟩
def tb49 : List Fact := fa48 :: tb48
/-- studwork/studworklaw01.LatticeExamples -/
def fa49 : Fact := ⟨3, [], bv true⟩
def tb50 : List Fact := fa49 :: tb49
/-- studwork/studworkref01.Step -/
def fa50 : Fact := ⟨29, [iv 0], V.agg [iv 1, iv 0, iv 0]⟩
def tb51 : List Fact := fa50 :: tb50
/-- studwork/studworkref01.Step -/
def fa51 : Fact := ⟨29, [iv 1], V.agg [iv (-1), iv 0, iv 0]⟩
def tb52 : List Fact := fa51 :: tb51
/-- studwork/studworkref01.Step -/
def fa52 : Fact := ⟨29, [iv 2], V.agg [iv 0, iv 1, iv 0]⟩
def tb53 : List Fact := fa52 :: tb52
/-- studwork/studworkref01.Step -/
def fa53 : Fact := ⟨29, [iv 3], V.agg [iv 0, iv (-1), iv 0]⟩
def tb54 : List Fact := fa53 :: tb53
/-- studwork/studworkref01.Step -/
def fa54 : Fact := ⟨29, [iv 4], V.agg [iv 0, iv 0, iv 1]⟩
def tb55 : List Fact := fa54 :: tb54
/-- studwork/studworkref01.Step -/
def fa55 : Fact := ⟨29, [iv 5], V.agg [iv 0, iv 0, iv (-1)]⟩
def tb56 : List Fact := fa55 :: tb55
/-- studwork/lattice.Direction -/
def fa56 : Fact := ⟨6, [iv 0, iv 0], V.tup [iv 0, iv 0]⟩
def tb57 : List Fact := fa56 :: tb56
/-- studwork/lattice.Turn -/
def fa57 : Fact := ⟨26, [V.agg [iv 1, iv 0, iv 0], iv 0], V.tup [V.agg [iv 1, iv 0, iv 0], iv 0]⟩
def tb58 : List Fact := fa57 :: tb57
/-- studwork/lattice.Direction -/
def fa58 : Fact := ⟨6, [iv 1, iv 0], V.tup [iv 1, iv 0]⟩
def tb59 : List Fact := fa58 :: tb58
/-- studwork/lattice.Turn -/
def fa59 : Fact := ⟨26, [V.agg [iv (-1), iv 0, iv 0], iv 0], V.tup [V.agg [iv (-1), iv 0, iv 0], iv 0]⟩
def tb60 : List Fact := fa59 :: tb59
/-- studwork/lattice.Direction -/
def fa60 : Fact := ⟨6, [iv 2, iv 0], V.tup [iv 2, iv 0]⟩
def tb61 : List Fact := fa60 :: tb60
/-- studwork/lattice.Turn -/
def fa61 : Fact := ⟨26, [V.agg [iv 0, iv 1, iv 0], iv 0], V.tup [V.agg [iv 0, iv 1, iv 0], iv 0]⟩
def tb62 : List Fact := fa61 :: tb61
/-- studwork/lattice.Direction -/
def fa62 : Fact := ⟨6, [iv 3, iv 0], V.tup [iv 3, iv 0]⟩
def tb63 : List Fact := fa62 :: tb62
/-- studwork/lattice.Turn -/
def fa63 : Fact := ⟨26, [V.agg [iv 0, iv (-1), iv 0], iv 0], V.tup [V.agg [iv 0, iv (-1), iv 0], iv 0]⟩
def tb64 : List Fact := fa63 :: tb63
/-- studwork/lattice.Direction -/
def fa64 : Fact := ⟨6, [iv 4, iv 0], V.tup [iv 4, iv 0]⟩
def tb65 : List Fact := fa64 :: tb64
/-- studwork/lattice.Turn -/
def fa65 : Fact := ⟨26, [V.agg [iv 0, iv 0, iv 1], iv 0], V.tup [V.agg [iv 0, iv 0, iv 1], iv 0]⟩
def tb66 : List Fact := fa65 :: tb65
/-- studwork/lattice.Direction -/
def fa66 : Fact := ⟨6, [iv 5, iv 0], V.tup [iv 5, iv 0]⟩
def tb67 : List Fact := fa66 :: tb66
/-- studwork/lattice.Turn -/
def fa67 : Fact := ⟨26, [V.agg [iv 0, iv 0, iv (-1)], iv 0], V.tup [V.agg [iv 0, iv 0, iv (-1)], iv 0]⟩
def tb68 : List Fact := fa67 :: tb67
/-- studwork/lattice.Direction -/
def fa68 : Fact := ⟨6, [iv 0, iv 1], V.tup [iv 2, iv 0]⟩
def tb69 : List Fact := fa68 :: tb68
/-- studwork/lattice.Turn -/
def fa69 : Fact := ⟨26, [V.agg [iv 1, iv 0, iv 0], iv 1], V.tup [V.agg [iv 0, iv 1, iv 0], iv 0]⟩
def tb70 : List Fact := fa69 :: tb69
/-- studwork/lattice.Direction -/
def fa70 : Fact := ⟨6, [iv 1, iv 1], V.tup [iv 3, iv 0]⟩
def tb71 : List Fact := fa70 :: tb70
/-- studwork/lattice.Turn -/
def fa71 : Fact := ⟨26, [V.agg [iv (-1), iv 0, iv 0], iv 1], V.tup [V.agg [iv 0, iv (-1), iv 0], iv 0]⟩
def tb72 : List Fact := fa71 :: tb71
/-- studwork/lattice.Direction -/
def fa72 : Fact := ⟨6, [iv 2, iv 1], V.tup [iv 1, iv 0]⟩
def tb73 : List Fact := fa72 :: tb72
/-- studwork/lattice.Turn -/
def fa73 : Fact := ⟨26, [V.agg [iv 0, iv 1, iv 0], iv 1], V.tup [V.agg [iv (-1), iv 0, iv 0], iv 0]⟩
def tb74 : List Fact := fa73 :: tb73
/-- studwork/lattice.Direction -/
def fa74 : Fact := ⟨6, [iv 3, iv 1], V.tup [iv 0, iv 0]⟩
def tb75 : List Fact := fa74 :: tb74
/-- studwork/lattice.Turn -/
def fa75 : Fact := ⟨26, [V.agg [iv 0, iv (-1), iv 0], iv 1], V.tup [V.agg [iv 1, iv 0, iv 0], iv 0]⟩
def tb76 : List Fact := fa75 :: tb75
/-- studwork/lattice.Direction -/
def fa76 : Fact := ⟨6, [iv 4, iv 1], V.tup [iv 4, iv 0]⟩
def tb77 : List Fact := fa76 :: tb76
/-- studwork/lattice.Turn -/
def fa77 : Fact := ⟨26, [V.agg [iv 0, iv 0, iv 1], iv 1], V.tup [V.agg [iv 0, iv 0, iv 1], iv 0]⟩
def tb78 : List Fact := fa77 :: tb77
/-- studwork/lattice.Direction -/
def fa78 : Fact := ⟨6, [iv 5, iv 1], V.tup [iv 5, iv 0]⟩
def tb79 : List Fact := fa78 :: tb78
/-- studwork/lattice.Turn -/
def fa79 : Fact := ⟨26, [V.agg [iv 0, iv 0, iv (-1)], iv 1], V.tup [V.agg [iv 0, iv 0, iv (-1)], iv 0]⟩
def tb80 : List Fact := fa79 :: tb79
/-- studwork/lattice.Direction -/
def fa80 : Fact := ⟨6, [iv 0, iv 2], V.tup [iv 1, iv 0]⟩
def tb81 : List Fact := fa80 :: tb80
/-- studwork/lattice.Turn -/
def fa81 : Fact := ⟨26, [V.agg [iv 1, iv 0, iv 0], iv 2], V.tup [V.agg [iv (-1), iv 0, iv 0], iv 0]⟩
def tb82 : List Fact := fa81 :: tb81
/-- studwork/lattice.Direction -/
def fa82 : Fact := ⟨6, [iv 1, iv 2], V.tup [iv 0, iv 0]⟩
def tb83 : List Fact := fa82 :: tb82
/-- studwork/lattice.Turn -/
def fa83 : Fact := ⟨26, [V.agg [iv (-1), iv 0, iv 0], iv 2], V.tup [V.agg [iv 1, iv 0, iv 0], iv 0]⟩
def tb84 : List Fact := fa83 :: tb83
/-- studwork/lattice.Direction -/
def fa84 : Fact := ⟨6, [iv 2, iv 2], V.tup [iv 3, iv 0]⟩
def tb85 : List Fact := fa84 :: tb84
/-- studwork/lattice.Turn -/
def fa85 : Fact := ⟨26, [V.agg [iv 0, iv 1, iv 0], iv 2], V.tup [V.agg [iv 0, iv (-1), iv 0], iv 0]⟩
def tb86 : List Fact := fa85 :: tb85
/-- studwork/lattice.Direction -/
def fa86 : Fact := ⟨6, [iv 3, iv 2], V.tup [iv 2, iv 0]⟩
def tb87 : List Fact := fa86 :: tb86
/-- studwork/lattice.Turn -/
def fa87 : Fact := ⟨26, [V.agg [iv 0, iv (-1), iv 0], iv 2], V.tup [V.agg [iv 0, iv 1, iv 0], iv 0]⟩
def tb88 : List Fact := fa87 :: tb87
/-- studwork/lattice.Direction -/
def fa88 : Fact := ⟨6, [iv 4, iv 2], V.tup [iv 4, iv 0]⟩
def tb89 : List Fact := fa88 :: tb88
/-- studwork/lattice.Turn -/
def fa89 : Fact := ⟨26, [V.agg [iv 0, iv 0, iv 1], iv 2], V.tup [V.agg [iv 0, iv 0, iv 1], iv 0]⟩
def tb90 : List Fact := fa89 :: tb89
/-- studwork/lattice.Direction -/
def fa90 : Fact := ⟨6, [iv 5, iv 2], V.tup [iv 5, iv 0]⟩
def tb91 : List Fact := fa90 :: tb90
/-- studwork/lattice.Turn -/
def fa91 : Fact := ⟨26, [V.agg [iv 0, iv 0, iv (-1)], iv 2], V.tup [V.agg [iv 0, iv 0, iv (-1)], iv 0]⟩
def tb92 : List Fact := fa91 :: tb91
/-- studwork/lattice.Direction -/
def fa92 : Fact := ⟨6, [iv 0, iv 3], V.tup [iv 3, iv 0]⟩
def tb93 : List Fact := fa92 :: tb92
/-- studwork/lattice.Turn -/
def fa93 : Fact := ⟨26, [V.agg [iv 1, iv 0, iv 0], iv 3], V.tup [V.agg [iv 0, iv (-1), iv 0], iv 0]⟩
def tb94 : List Fact := fa93 :: tb93
/-- studwork/lattice.Direction -/
def fa94 : Fact := ⟨6, [iv 1, iv 3], V.tup [iv 2, iv 0]⟩
def tb95 : List Fact := fa94 :: tb94
/-- studwork/lattice.Turn -/
def fa95 : Fact := ⟨26, [V.agg [iv (-1), iv 0, iv 0], iv 3], V.tup [V.agg [iv 0, iv 1, iv 0], iv 0]⟩
def tb96 : List Fact := fa95 :: tb95
/-- studwork/lattice.Direction -/
def fa96 : Fact := ⟨6, [iv 2, iv 3], V.tup [iv 0, iv 0]⟩
def tb97 : List Fact := fa96 :: tb96
/-- studwork/lattice.Turn -/
def fa97 : Fact := ⟨26, [V.agg [iv 0, iv 1, iv 0], iv 3], V.tup [V.agg [iv 1, iv 0, iv 0], iv 0]⟩
def tb98 : List Fact := fa97 :: tb97
/-- studwork/lattice.Direction -/
def fa98 : Fact := ⟨6, [iv 3, iv 3], V.tup [iv 1, iv 0]⟩
def tb99 : List Fact := fa98 :: tb98
/-- studwork/lattice.Turn -/
def fa99 : Fact := ⟨26, [V.agg [iv 0, iv (-1), iv 0], iv 3], V.tup [V.agg [iv (-1), iv 0, iv 0], iv 0]⟩
def tb100 : List Fact := fa99 :: tb99
/-- studwork/lattice.Direction -/
def fa100 : Fact := ⟨6, [iv 4, iv 3], V.tup [iv 4, iv 0]⟩
def tb101 : List Fact := fa100 :: tb100
/-- studwork/lattice.Turn -/
def fa101 : Fact := ⟨26, [V.agg [iv 0, iv 0, iv 1], iv 3], V.tup [V.agg [iv 0, iv 0, iv 1], iv 0]⟩
def tb102 : List Fact := fa101 :: tb101
/-- studwork/lattice.Direction -/
def fa102 : Fact := ⟨6, [iv 5, iv 3], V.tup [iv 5, iv 0]⟩
def tb103 : List Fact := fa102 :: tb102
/-- studwork/lattice.Turn -/
def fa103 : Fact := ⟨26, [V.agg [iv 0, iv 0, iv (-1)], iv 3], V.tup [V.agg [iv 0, iv 0, iv (-1)], iv 0]⟩
def tb104 : List Fact := fa103 :: tb103
/-- studwork/lattice.Direction -/
def fa104 : Fact := ⟨6, [iv 0, iv 4], V.tup [iv 0, iv 0]⟩
def tb105 : List Fact := fa104 :: tb104
/-- studwork/lattice.Turn -/
def fa105 : Fact := ⟨26, [V.agg [iv 1, iv 0, iv 0], iv 4], V.tup [V.agg [iv 1, iv 0, iv 0], iv 0]⟩
def tb106 : List Fact := fa105 :: tb105
/-- studwork/lattice.Direction -/
def fa106 : Fact := ⟨6, [iv 1, iv 4], V.tup [iv 1, iv 0]⟩
def tb107 : List Fact := fa106 :: tb106
/-- studwork/lattice.Turn -/
def fa107 : Fact := ⟨26, [V.agg [iv (-1), iv 0, iv 0], iv 4], V.tup [V.agg [iv (-1), iv 0, iv 0], iv 0]⟩
def tb108 : List Fact := fa107 :: tb107
/-- studwork/lattice.Direction -/
def fa108 : Fact := ⟨6, [iv 2, iv 4], V.tup [iv 4, iv 0]⟩
def tb109 : List Fact := fa108 :: tb108
/-- studwork/lattice.Turn -/
def fa109 : Fact := ⟨26, [V.agg [iv 0, iv 1, iv 0], iv 4], V.tup [V.agg [iv 0, iv 0, iv 1], iv 0]⟩
def tb110 : List Fact := fa109 :: tb109
/-- studwork/lattice.Direction -/
def fa110 : Fact := ⟨6, [iv 3, iv 4], V.tup [iv 5, iv 0]⟩
def tb111 : List Fact := fa110 :: tb110
/-- studwork/lattice.Turn -/
def fa111 : Fact := ⟨26, [V.agg [iv 0, iv (-1), iv 0], iv 4], V.tup [V.agg [iv 0, iv 0, iv (-1)], iv 0]⟩
def tb112 : List Fact := fa111 :: tb111
/-- studwork/lattice.Direction -/
def fa112 : Fact := ⟨6, [iv 4, iv 4], V.tup [iv 3, iv 0]⟩
def tb113 : List Fact := fa112 :: tb112
/-- studwork/lattice.Turn -/
def fa113 : Fact := ⟨26, [V.agg [iv 0, iv 0, iv 1], iv 4], V.tup [V.agg [iv 0, iv (-1), iv 0], iv 0]⟩
def tb114 : List Fact := fa113 :: tb113
/-- studwork/lattice.Direction -/
def fa114 : Fact := ⟨6, [iv 5, iv 4], V.tup [iv 2, iv 0]⟩
def tb115 : List Fact := fa114 :: tb114
/-- studwork/lattice.Turn -/
def fa115 : Fact := ⟨26, [V.agg [iv 0, iv 0, iv (-1)], iv 4], V.tup [V.agg [iv 0, iv 1, iv 0], iv 0]⟩
def tb116 : List Fact := fa115 :: tb115
/-- studwork/lattice.Direction -/
def fa116 : Fact := ⟨6, [iv 0, iv 5], V.tup [iv 4, iv 0]⟩
def tb117 : List Fact := fa116 :: tb116
/-- studwork/lattice.Turn -/
def fa117 : Fact := ⟨26, [V.agg [iv 1, iv 0, iv 0], iv 5], V.tup [V.agg [iv 0, iv 0, iv 1], iv 0]⟩
def tb118 : List Fact := fa117 :: tb117
/-- studwork/lattice.Direction -/
def fa118 : Fact := ⟨6, [iv 1, iv 5], V.tup [iv 5, iv 0]⟩
def tb119 : List Fact := fa118 :: tb118
/-- studwork/lattice.Turn -/
def fa119 : Fact := ⟨26, [V.agg [iv (-1), iv 0, iv 0], iv 5], V.tup [V.agg [iv 0, iv 0, iv (-1)], iv 0]⟩
def tb120 : List Fact := fa119 :: tb119
/-- studwork/lattice.Direction -/
def fa120 : Fact := ⟨6, [iv 2, iv 5], V.tup [iv 1, iv 0]⟩
def tb121 : List Fact := fa120 :: tb120
/-- studwork/lattice.Turn -/
def fa121 : Fact := ⟨26, [V.agg [iv 0, iv 1, iv 0], iv 5], V.tup [V.agg [iv (-1), iv 0, iv 0], iv 0]⟩
def tb122 : List Fact := fa121 :: tb121
/-- studwork/lattice.Direction -/
def fa122 : Fact := ⟨6, [iv 3, iv 5], V.tup [iv 0, iv 0]⟩
def tb123 : List Fact := fa122 :: tb122
/-- studwork/lattice.Turn -/
def fa123 : Fact := ⟨26, [V.agg [iv 0, iv (-1), iv 0], iv 5], V.tup [V.agg [iv 1, iv 0, iv 0], iv 0]⟩
def tb124 : List Fact := fa123 :: tb123
/-- studwork/lattice.Direction -/
def fa124 : Fact := ⟨6, [iv 4, iv 5], V.tup [iv 3, iv 0]⟩
def tb125 : List Fact := fa124 :: tb124
/-- studwork/lattice.Turn -/
def fa125 : Fact := ⟨26, [V.agg [iv 0, iv 0, iv 1], iv 5], V.tup [V.agg [iv 0, iv (-1), iv 0], iv 0]⟩
def tb126 : List Fact := fa125 :: tb125
/-- studwork/lattice.Direction -/
def fa126 : Fact := ⟨6, [iv 5, iv 5], V.tup [iv 2, iv 0]⟩
def tb127 : List Fact := fa126 :: tb126
/-- studwork/lattice.Turn -/
def fa127 : Fact := ⟨26, [V.agg [iv 0, iv 0, iv (-1)], iv 5], V.tup [V.agg [iv 0, iv 1, iv 0], iv 0]⟩
def tb128 : List Fact := fa127 :: tb127
/-- studwork/lattice.Direction -/
def fa128 : Fact := ⟨6, [iv 0, iv 6], V.tup [iv 1, iv 0]⟩
def tb129 : List Fact := fa128 :: tb128
/-- studwork/lattice.Turn -/
def fa129 : Fact := ⟨26, [V.agg [iv 1, iv 0, iv 0], iv 6], V.tup [V.agg [iv (-1), iv 0, iv 0], iv 0]⟩
def tb130 : List Fact := fa129 :: tb129
/-- studwork/lattice.Direction -/
def fa130 : Fact := ⟨6, [iv 1, iv 6], V.tup [iv 0, iv 0]⟩
def tb131 : List Fact := fa130 :: tb130
/-- studwork/lattice.Turn -/
def fa131 : Fact := ⟨26, [V.agg [iv (-1), iv 0, iv 0], iv 6], V.tup [V.agg [iv 1, iv 0, iv 0], iv 0]⟩
def tb132 : List Fact := fa131 :: tb131
/-- studwork/lattice.Direction -/
def fa132 : Fact := ⟨6, [iv 2, iv 6], V.tup [iv 5, iv 0]⟩
def tb133 : List Fact := fa132 :: tb132
/-- studwork/lattice.Turn -/
def fa133 : Fact := ⟨26, [V.agg [iv 0, iv 1, iv 0], iv 6], V.tup [V.agg [iv 0, iv 0, iv (-1)], iv 0]⟩
def tb134 : List Fact := fa133 :: tb133
/-- studwork/lattice.Direction -/
def fa134 : Fact := ⟨6, [iv 3, iv 6], V.tup [iv 4, iv 0]⟩
def tb135 : List Fact := fa134 :: tb134
/-- studwork/lattice.Turn -/
def fa135 : Fact := ⟨26, [V.agg [iv 0, iv (-1), iv 0], iv 6], V.tup [V.agg [iv 0, iv 0, iv 1], iv 0]⟩
def tb136 : List Fact := fa135 :: tb135
/-- studwork/lattice.Direction -/
def fa136 : Fact := ⟨6, [iv 4, iv 6], V.tup [iv 3, iv 0]⟩
def tb137 : List Fact := fa136 :: tb136
/-- studwork/lattice.Turn -/
def fa137 : Fact := ⟨26, [V.agg [iv 0, iv 0, iv 1], iv 6], V.tup [V.agg [iv 0, iv (-1), iv 0], iv 0]⟩
def tb138 : List Fact := fa137 :: tb137
/-- studwork/lattice.Direction -/
def fa138 : Fact := ⟨6, [iv 5, iv 6], V.tup [iv 2, iv 0]⟩
def tb139 : List Fact := fa138 :: tb138
/-- studwork/lattice.Turn -/
def fa139 : Fact := ⟨26, [V.agg [iv 0, iv 0, iv (-1)], iv 6], V.tup [V.agg [iv 0, iv 1, iv 0], iv 0]⟩
def tb140 : List Fact := fa139 :: tb139
/-- studwork/lattice.Direction -/
def fa140 : Fact := ⟨6, [iv 0, iv 7], V.tup [iv 5, iv 0]⟩
def tb141 : List Fact := fa140 :: tb140
/-- studwork/lattice.Turn -/
def fa141 : Fact := ⟨26, [V.agg [iv 1, iv 0, iv 0], iv 7], V.tup [V.agg [iv 0, iv 0, iv (-1)], iv 0]⟩
def tb142 : List Fact := fa141 :: tb141
/-- studwork/lattice.Direction -/
def fa142 : Fact := ⟨6, [iv 1, iv 7], V.tup [iv 4, iv 0]⟩
def tb143 : List Fact := fa142 :: tb142
/-- studwork/lattice.Turn -/
def fa143 : Fact := ⟨26, [V.agg [iv (-1), iv 0, iv 0], iv 7], V.tup [V.agg [iv 0, iv 0, iv 1], iv 0]⟩
def tb144 : List Fact := fa143 :: tb143
/-- studwork/lattice.Direction -/
def fa144 : Fact := ⟨6, [iv 2, iv 7], V.tup [iv 0, iv 0]⟩
def tb145 : List Fact := fa144 :: tb144
/-- studwork/lattice.Turn -/
def fa145 : Fact := ⟨26, [V.agg [iv 0, iv 1, iv 0], iv 7], V.tup [V.agg [iv 1, iv 0, iv 0], iv 0]⟩
def tb146 : List Fact := fa145 :: tb145
/-- studwork/lattice.Direction -/
def fa146 : Fact := ⟨6, [iv 3, iv 7], V.tup [iv 1, iv 0]⟩
def tb147 : List Fact := fa146 :: tb146
/-- studwork/lattice.Turn -/
def fa147 : Fact := ⟨26, [V.agg [iv 0, iv (-1), iv 0], iv 7], V.tup [V.agg [iv (-1), iv 0, iv 0], iv 0]⟩
def tb148 : List Fact := fa147 :: tb147
/-- studwork/lattice.Direction -/
def fa148 : Fact := ⟨6, [iv 4, iv 7], V.tup [iv 3, iv 0]⟩
def tb149 : List Fact := fa148 :: tb148
/-- studwork/lattice.Turn -/
def fa149 : Fact := ⟨26, [V.agg [iv 0, iv 0, iv 1], iv 7], V.tup [V.agg [iv 0, iv (-1), iv 0], iv 0]⟩
def tb150 : List Fact := fa149 :: tb149
/-- studwork/lattice.Direction -/
def fa150 : Fact := ⟨6, [iv 5, iv 7], V.tup [iv 2, iv 0]⟩
def tb151 : List Fact := fa150 :: tb150
/-- studwork/lattice.Turn -/
def fa151 : Fact := ⟨26, [V.agg [iv 0, iv 0, iv (-1)], iv 7], V.tup [V.agg [iv 0, iv 1, iv 0], iv 0]⟩
def tb152 : List Fact := fa151 :: tb151
/-- studwork/lattice.Direction -/
def fa152 : Fact := ⟨6, [iv 0, iv 8], V.tup [iv 0, iv 0]⟩
def tb153 : List Fact := fa152 :: tb152
/-- studwork/lattice.Turn -/
def fa153 : Fact := ⟨26, [V.agg [iv 1, iv 0, iv 0], iv 8], V.tup [V.agg [iv 1, iv 0, iv 0], iv 0]⟩
def tb154 : List Fact := fa153 :: tb153
/-- studwork/lattice.Direction -/
def fa154 : Fact := ⟨6, [iv 1, iv 8], V.tup [iv 1, iv 0]⟩
def tb155 : List Fact := fa154 :: tb154
/-- studwork/lattice.Turn -/
def fa155 : Fact := ⟨26, [V.agg [iv (-1), iv 0, iv 0], iv 8], V.tup [V.agg [iv (-1), iv 0, iv 0], iv 0]⟩
def tb156 : List Fact := fa155 :: tb155
/-- studwork/lattice.Direction -/
def fa156 : Fact := ⟨6, [iv 2, iv 8], V.tup [iv 3, iv 0]⟩
def tb157 : List Fact := fa156 :: tb156
/-- studwork/lattice.Turn -/
def fa157 : Fact := ⟨26, [V.agg [iv 0, iv 1, iv 0], iv 8], V.tup [V.agg [iv 0, iv (-1), iv 0], iv 0]⟩
def tb158 : List Fact := fa157 :: tb157
/-- studwork/lattice.Direction -/
def fa158 : Fact := ⟨6, [iv 3, iv 8], V.tup [iv 2, iv 0]⟩
def tb159 : List Fact := fa158 :: tb158
/-- studwork/lattice.Turn -/
def fa159 : Fact := ⟨26, [V.agg [iv 0, iv (-1), iv 0], iv 8], V.tup [V.agg [iv 0, iv 1, iv 0], iv 0]⟩
def tb160 : List Fact := fa159 :: tb159
/-- studwork/lattice.Direction -/
def fa160 : Fact := ⟨6, [iv 4, iv 8], V.tup [iv 5, iv 0]⟩
def tb161 : List Fact := fa160 :: tb160
/-- studwork/lattice.Turn -/
def fa161 : Fact := ⟨26, [V.agg [iv 0, iv 0, iv 1], iv 8], V.tup [V.agg [iv 0, iv 0, iv (-1)], iv 0]⟩
def tb162 : List Fact := fa161 :: tb161
/-- studwork/lattice.Direction -/
def fa162 : Fact := ⟨6, [iv 5, iv 8], V.tup [iv 4, iv 0]⟩
def tb163 : List Fact := fa162 :: tb162
/-- studwork/lattice.Turn -/
def fa163 : Fact := ⟨26, [V.agg [iv 0, iv 0, iv (-1)], iv 8], V.tup [V.agg [iv 0, iv 0, iv 1], iv 0]⟩
def tb164 : List Fact := fa163 :: tb163
/-- studwork/lattice.Direction -/
def fa164 : Fact := ⟨6, [iv 0, iv 9], V.tup [iv 3, iv 0]⟩
def tb165 : List Fact := fa164 :: tb164
/-- studwork/lattice.Turn -/
def fa165 : Fact := ⟨26, [V.agg [iv 1, iv 0, iv 0], iv 9], V.tup [V.agg [iv 0, iv (-1), iv 0], iv 0]⟩
def tb166 : List Fact := fa165 :: tb165
/-- studwork/lattice.Direction -/
def fa166 : Fact := ⟨6, [iv 1, iv 9], V.tup [iv 2, iv 0]⟩
def tb167 : List Fact := fa166 :: tb166
/-- studwork/lattice.Turn -/
def fa167 : Fact := ⟨26, [V.agg [iv (-1), iv 0, iv 0], iv 9], V.tup [V.agg [iv 0, iv 1, iv 0], iv 0]⟩
def tb168 : List Fact := fa167 :: tb167
/-- studwork/lattice.Direction -/
def fa168 : Fact := ⟨6, [iv 2, iv 9], V.tup [iv 1, iv 0]⟩
def tb169 : List Fact := fa168 :: tb168
/-- studwork/lattice.Turn -/
def fa169 : Fact := ⟨26, [V.agg [iv 0, iv 1, iv 0], iv 9], V.tup [V.agg [iv (-1), iv 0, iv 0], iv 0]⟩
def tb170 : List Fact := fa169 :: tb169
/-- studwork/lattice.Direction -/
def fa170 : Fact := ⟨6, [iv 3, iv 9], V.tup [iv 0, iv 0]⟩
def tb171 : List Fact := fa170 :: tb170
/-- studwork/lattice.Turn -/
def fa171 : Fact := ⟨26, [V.agg [iv 0, iv (-1), iv 0], iv 9], V.tup [V.agg [iv 1, iv 0, iv 0], iv 0]⟩
def tb172 : List Fact := fa171 :: tb171
/-- studwork/lattice.Direction -/
def fa172 : Fact := ⟨6, [iv 4, iv 9], V.tup [iv 5, iv 0]⟩
def tb173 : List Fact := fa172 :: tb172
/-- studwork/lattice.Turn -/
def fa173 : Fact := ⟨26, [V.agg [iv 0, iv 0, iv 1], iv 9], V.tup [V.agg [iv 0, iv 0, iv (-1)], iv 0]⟩
def tb174 : List Fact := fa173 :: tb173
/-- studwork/lattice.Direction -/
def fa174 : Fact := ⟨6, [iv 5, iv 9], V.tup [iv 4, iv 0]⟩
def tb175 : List Fact := fa174 :: tb174
/-- studwork/lattice.Turn -/
def fa175 : Fact := ⟨26, [V.agg [iv 0, iv 0, iv (-1)], iv 9], V.tup [V.agg [iv 0, iv 0, iv 1], iv 0]⟩
def tb176 : List Fact := fa175 :: tb175
/-- studwork/lattice.Direction -/
def fa176 : Fact := ⟨6, [iv 0, iv 10], V.tup [iv 1, iv 0]⟩
def tb177 : List Fact := fa176 :: tb176
/-- studwork/lattice.Turn -/
def fa177 : Fact := ⟨26, [V.agg [iv 1, iv 0, iv 0], iv 10], V.tup [V.agg [iv (-1), iv 0, iv 0], iv 0]⟩
def tb178 : List Fact := fa177 :: tb177
/-- studwork/lattice.Direction -/
def fa178 : Fact := ⟨6, [iv 1, iv 10], V.tup [iv 0, iv 0]⟩
def tb179 : List Fact := fa178 :: tb178
/-- studwork/lattice.Turn -/
def fa179 : Fact := ⟨26, [V.agg [iv (-1), iv 0, iv 0], iv 10], V.tup [V.agg [iv 1, iv 0, iv 0], iv 0]⟩
def tb180 : List Fact := fa179 :: tb179
/-- studwork/lattice.Direction -/
def fa180 : Fact := ⟨6, [iv 2, iv 10], V.tup [iv 2, iv 0]⟩
def tb181 : List Fact := fa180 :: tb180
/-- studwork/lattice.Turn -/
def fa181 : Fact := ⟨26, [V.agg [iv 0, iv 1, iv 0], iv 10], V.tup [V.agg [iv 0, iv 1, iv 0], iv 0]⟩
def tb182 : List Fact := fa181 :: tb181
/-- studwork/lattice.Direction -/
def fa182 : Fact := ⟨6, [iv 3, iv 10], V.tup [iv 3, iv 0]⟩
def tb183 : List Fact := fa182 :: tb182
/-- studwork/lattice.Turn -/
def fa183 : Fact := ⟨26, [V.agg [iv 0, iv (-1), iv 0], iv 10], V.tup [V.agg [iv 0, iv (-1), iv 0], iv 0]⟩
def tb184 : List Fact := fa183 :: tb183
/-- studwork/lattice.Direction -/
def fa184 : Fact := ⟨6, [iv 4, iv 10], V.tup [iv 5, iv 0]⟩
def tb185 : List Fact := fa184 :: tb184
/-- studwork/lattice.Turn -/
def fa185 : Fact := ⟨26, [V.agg [iv 0, iv 0, iv 1], iv 10], V.tup [V.agg [iv 0, iv 0, iv (-1)], iv 0]⟩
def tb186 : List Fact := fa185 :: tb185
/-- studwork/lattice.Direction -/
def fa186 : Fact := ⟨6, [iv 5, iv 10], V.tup [iv 4, iv 0]⟩
def tb187 : List Fact := fa186 :: tb186
/-- studwork/lattice.Turn -/
def fa187 : Fact := ⟨26, [V.agg [iv 0, iv 0, iv (-1)], iv 10], V.tup [V.agg [iv 0, iv 0, iv 1], iv 0]⟩
def tb188 : List Fact := fa187 :: tb187
/-- studwork/lattice.Direction -/
def fa188 : Fact := ⟨6, [iv 0, iv 11], V.tup [iv 2, iv 0]⟩
def tb189 : List Fact := fa188 :: tb188
/-- studwork/lattice.Turn -/
def fa189 : Fact := ⟨26, [V.agg [iv 1, iv 0, iv 0], iv 11], V.tup [V.agg [iv 0, iv 1, iv 0], iv 0]⟩
def tb190 : List Fact := fa189 :: tb189
/-- studwork/lattice.Direction -/
def fa190 : Fact := ⟨6, [iv 1, iv 11], V.tup [iv 3, iv 0]⟩
def tb191 : List Fact := fa190 :: tb190
/-- studwork/lattice.Turn -/
def fa191 : Fact := ⟨26, [V.agg [iv (-1), iv 0, iv 0], iv 11], V.tup [V.agg [iv 0, iv (-1), iv 0], iv 0]⟩
def tb192 : List Fact := fa191 :: tb191
/-- studwork/lattice.Direction -/
def fa192 : Fact := ⟨6, [iv 2, iv 11], V.tup [iv 0, iv 0]⟩
def tb193 : List Fact := fa192 :: tb192
/-- studwork/lattice.Turn -/
def fa193 : Fact := ⟨26, [V.agg [iv 0, iv 1, iv 0], iv 11], V.tup [V.agg [iv 1, iv 0, iv 0], iv 0]⟩
def tb194 : List Fact := fa193 :: tb193
/-- studwork/lattice.Direction -/
def fa194 : Fact := ⟨6, [iv 3, iv 11], V.tup [iv 1, iv 0]⟩
def tb195 : List Fact := fa194 :: tb194
/-- studwork/lattice.Turn -/
def fa195 : Fact := ⟨26, [V.agg [iv 0, iv (-1), iv 0], iv 11], V.tup [V.agg [iv (-1), iv 0, iv 0], iv 0]⟩
def tb196 : List Fact := fa195 :: tb195
/-- studwork/lattice.Direction -/
def fa196 : Fact := ⟨6, [iv 4, iv 11], V.tup [iv 5, iv 0]⟩
def tb197 : List Fact := fa196 :: tb196
/-- studwork/lattice.Turn -/
def fa197 : Fact := ⟨26, [V.agg [iv 0, iv 0, iv 1], iv 11], V.tup [V.agg [iv 0, iv 0, iv (-1)], iv 0]⟩
def tb198 : List Fact := fa197 :: tb197
/-- studwork/lattice.Direction -/
def fa198 : Fact := ⟨6, [iv 5, iv 11], V.tup [iv 4, iv 0]⟩
def tb199 : List Fact := fa198 :: tb198
/-- studwork/lattice.Turn -/
def fa199 : Fact := ⟨26, [V.agg [iv 0, iv 0, iv (-1)], iv 11], V.tup [V.agg [iv 0, iv 0, iv 1], iv 0]⟩
def tb200 : List Fact := fa199 :: tb199
/-- studwork/lattice.Direction -/
def fa200 : Fact := ⟨6, [iv 0, iv 12], V.tup [iv 0, iv 0]⟩
def tb201 : List Fact := fa200 :: tb200
/-- studwork/lattice.Turn -/
def fa201 : Fact := ⟨26, [V.agg [iv 1, iv 0, iv 0], iv 12], V.tup [V.agg [iv 1, iv 0, iv 0], iv 0]⟩
def tb202 : List Fact := fa201 :: tb201
/-- studwork/lattice.Direction -/
def fa202 : Fact := ⟨6, [iv 1, iv 12], V.tup [iv 1, iv 0]⟩
def tb203 : List Fact := fa202 :: tb202
/-- studwork/lattice.Turn -/
def fa203 : Fact := ⟨26, [V.agg [iv (-1), iv 0, iv 0], iv 12], V.tup [V.agg [iv (-1), iv 0, iv 0], iv 0]⟩
def tb204 : List Fact := fa203 :: tb203
/-- studwork/lattice.Direction -/
def fa204 : Fact := ⟨6, [iv 2, iv 12], V.tup [iv 5, iv 0]⟩
def tb205 : List Fact := fa204 :: tb204
/-- studwork/lattice.Turn -/
def fa205 : Fact := ⟨26, [V.agg [iv 0, iv 1, iv 0], iv 12], V.tup [V.agg [iv 0, iv 0, iv (-1)], iv 0]⟩
def tb206 : List Fact := fa205 :: tb205
/-- studwork/lattice.Direction -/
def fa206 : Fact := ⟨6, [iv 3, iv 12], V.tup [iv 4, iv 0]⟩
def tb207 : List Fact := fa206 :: tb206
/-- studwork/lattice.Turn -/
def fa207 : Fact := ⟨26, [V.agg [iv 0, iv (-1), iv 0], iv 12], V.tup [V.agg [iv 0, iv 0, iv 1], iv 0]⟩
def tb208 : List Fact := fa207 :: tb207
/-- studwork/lattice.Direction -/
def fa208 : Fact := ⟨6, [iv 4, iv 12], V.tup [iv 2, iv 0]⟩
def tb209 : List Fact := fa208 :: tb208
/-- studwork/lattice.Turn -/
def fa209 : Fact := ⟨26, [V.agg [iv 0, iv 0, iv 1], iv 12], V.tup [V.agg [iv 0, iv 1, iv 0], iv 0]⟩
def tb210 : List Fact := fa209 :: tb209
/-- studwork/lattice.Direction -/
def fa210 : Fact := ⟨6, [iv 5, iv 12], V.tup [iv 3, iv 0]⟩
def tb211 : List Fact := fa210 :: tb210
/-- studwork/lattice.Turn -/
def fa211 : Fact := ⟨26, [V.agg [iv 0, iv 0, iv (-1)], iv 12], V.tup [V.agg [iv 0, iv (-1), iv 0], iv 0]⟩
def tb212 : List Fact := fa211 :: tb211
/-- studwork/lattice.Direction -/
def fa212 : Fact := ⟨6, [iv 0, iv 13], V.tup [iv 5, iv 0]⟩
def tb213 : List Fact := fa212 :: tb212
/-- studwork/lattice.Turn -/
def fa213 : Fact := ⟨26, [V.agg [iv 1, iv 0, iv 0], iv 13], V.tup [V.agg [iv 0, iv 0, iv (-1)], iv 0]⟩
def tb214 : List Fact := fa213 :: tb213
/-- studwork/lattice.Direction -/
def fa214 : Fact := ⟨6, [iv 1, iv 13], V.tup [iv 4, iv 0]⟩
def tb215 : List Fact := fa214 :: tb214
/-- studwork/lattice.Turn -/
def fa215 : Fact := ⟨26, [V.agg [iv (-1), iv 0, iv 0], iv 13], V.tup [V.agg [iv 0, iv 0, iv 1], iv 0]⟩
def tb216 : List Fact := fa215 :: tb215
/-- studwork/lattice.Direction -/
def fa216 : Fact := ⟨6, [iv 2, iv 13], V.tup [iv 1, iv 0]⟩
def tb217 : List Fact := fa216 :: tb216
/-- studwork/lattice.Turn -/
def fa217 : Fact := ⟨26, [V.agg [iv 0, iv 1, iv 0], iv 13], V.tup [V.agg [iv (-1), iv 0, iv 0], iv 0]⟩
def tb218 : List Fact := fa217 :: tb217
/-- studwork/lattice.Direction -/
def fa218 : Fact := ⟨6, [iv 3, iv 13], V.tup [iv 0, iv 0]⟩
def tb219 : List Fact := fa218 :: tb218
/-- studwork/lattice.Turn -/
def fa219 : Fact := ⟨26, [V.agg [iv 0, iv (-1), iv 0], iv 13], V.tup [V.agg [iv 1, iv 0, iv 0], iv 0]⟩
def tb220 : List Fact := fa219 :: tb219
/-- studwork/lattice.Direction -/
def fa220 : Fact := ⟨6, [iv 4, iv 13], V.tup [iv 2, iv 0]⟩
def tb221 : List Fact := fa220 :: tb220
/-- studwork/lattice.Turn -/
def fa221 : Fact := ⟨26, [V.agg [iv 0, iv 0, iv 1], iv 13], V.tup [V.agg [iv 0, iv 1, iv 0], iv 0]⟩
def tb222 : List Fact := fa221 :: tb221
/-- studwork/lattice.Direction -/
def fa222 : Fact := ⟨6, [iv 5, iv 13], V.tup [iv 3, iv 0]⟩
def tb223 : List Fact := fa222 :: tb222
/-- studwork/lattice.Turn -/
def fa223 : Fact := ⟨26, [V.agg [iv 0, iv 0, iv (-1)], iv 13], V.tup [V.agg [iv 0, iv (-1), iv 0], iv 0]⟩
def tb224 : List Fact := fa223 :: tb223
/-- studwork/lattice.Direction -/
def fa224 : Fact := ⟨6, [iv 0, iv 14], V.tup [iv 1, iv 0]⟩
def tb225 : List Fact := fa224 :: tb224
/-- studwork/lattice.Turn -/
def fa225 : Fact := ⟨26, [V.agg [iv 1, iv 0, iv 0], iv 14], V.tup [V.agg [iv (-1), iv 0, iv 0], iv 0]⟩
def tb226 : List Fact := fa225 :: tb225
/-- studwork/lattice.Direction -/
def fa226 : Fact := ⟨6, [iv 1, iv 14], V.tup [iv 0, iv 0]⟩
def tb227 : List Fact := fa226 :: tb226
/-- studwork/lattice.Turn -/
def fa227 : Fact := ⟨26, [V.agg [iv (-1), iv 0, iv 0], iv 14], V.tup [V.agg [iv 1, iv 0, iv 0], iv 0]⟩
def tb228 : List Fact := fa227 :: tb227
/-- studwork/lattice.Direction -/
def fa228 : Fact := ⟨6, [iv 2, iv 14], V.tup [iv 4, iv 0]⟩
def tb229 : List Fact := fa228 :: tb228
/-- studwork/lattice.Turn -/
def fa229 : Fact := ⟨26, [V.agg [iv 0, iv 1, iv 0], iv 14], V.tup [V.agg [iv 0, iv 0, iv 1], iv 0]⟩
def tb230 : List Fact := fa229 :: tb229
/-- studwork/lattice.Direction -/
def fa230 : Fact := ⟨6, [iv 3, iv 14], V.tup [iv 5, iv 0]⟩
def tb231 : List Fact := fa230 :: tb230
/-- studwork/lattice.Turn -/
def fa231 : Fact := ⟨26, [V.agg [iv 0, iv (-1), iv 0], iv 14], V.tup [V.agg [iv 0, iv 0, iv (-1)], iv 0]⟩
def tb232 : List Fact := fa231 :: tb231
/-- studwork/lattice.Direction -/
def fa232 : Fact := ⟨6, [iv 4, iv 14], V.tup [iv 2, iv 0]⟩
def tb233 : List Fact := fa232 :: tb232
/-- studwork/lattice.Turn -/
def fa233 : Fact := ⟨26, [V.agg [iv 0, iv 0, iv 1], iv 14], V.tup [V.agg [iv 0, iv 1, iv 0], iv 0]⟩
def tb234 : List Fact := fa233 :: tb233
/-- studwork/lattice.Direction -/
def fa234 : Fact := ⟨6, [iv 5, iv 14], V.tup [iv 3, iv 0]⟩
def tb235 : List Fact := fa234 :: tb234
/-- studwork/lattice.Turn -/
def fa235 : Fact := ⟨26, [V.agg [iv 0, iv 0, iv (-1)], iv 14], V.tup [V.agg [iv 0, iv (-1), iv 0], iv 0]⟩
def tb236 : List Fact := fa235 :: tb235
/-- studwork/lattice.Direction -/
def fa236 : Fact := ⟨6, [iv 0, iv 15], V.tup [iv 4, iv 0]⟩
def tb237 : List Fact := fa236 :: tb236
/-- studwork/lattice.Turn -/
def fa237 : Fact := ⟨26, [V.agg [iv 1, iv 0, iv 0], iv 15], V.tup [V.agg [iv 0, iv 0, iv 1], iv 0]⟩
def tb238 : List Fact := fa237 :: tb237
/-- studwork/lattice.Direction -/
def fa238 : Fact := ⟨6, [iv 1, iv 15], V.tup [iv 5, iv 0]⟩
def tb239 : List Fact := fa238 :: tb238
/-- studwork/lattice.Turn -/
def fa239 : Fact := ⟨26, [V.agg [iv (-1), iv 0, iv 0], iv 15], V.tup [V.agg [iv 0, iv 0, iv (-1)], iv 0]⟩
def tb240 : List Fact := fa239 :: tb239
/-- studwork/lattice.Direction -/
def fa240 : Fact := ⟨6, [iv 2, iv 15], V.tup [iv 0, iv 0]⟩
def tb241 : List Fact := fa240 :: tb240
/-- studwork/lattice.Turn -/
def fa241 : Fact := ⟨26, [V.agg [iv 0, iv 1, iv 0], iv 15], V.tup [V.agg [iv 1, iv 0, iv 0], iv 0]⟩
def tb242 : List Fact := fa241 :: tb241
/-- studwork/lattice.Direction -/
def fa242 : Fact := ⟨6, [iv 3, iv 15], V.tup [iv 1, iv 0]⟩
def tb243 : List Fact := fa242 :: tb242
/-- studwork/lattice.Turn -/
def fa243 : Fact := ⟨26, [V.agg [iv 0, iv (-1), iv 0], iv 15], V.tup [V.agg [iv (-1), iv 0, iv 0], iv 0]⟩
def tb244 : List Fact := fa243 :: tb243
/-- studwork/lattice.Direction -/
def fa244 : Fact := ⟨6, [iv 4, iv 15], V.tup [iv 2, iv 0]⟩
def tb245 : List Fact := fa244 :: tb244
/-- studwork/lattice.Turn -/
def fa245 : Fact := ⟨26, [V.agg [iv 0, iv 0, iv 1], iv 15], V.tup [V.agg [iv 0, iv 1, iv 0], iv 0]⟩
def tb246 : List Fact := fa245 :: tb245
/-- studwork/lattice.Direction -/
def fa246 : Fact := ⟨6, [iv 5, iv 15], V.tup [iv 3, iv 0]⟩
def tb247 : List Fact := fa246 :: tb246
/-- studwork/lattice.Turn -/
def fa247 : Fact := ⟨26, [V.agg [iv 0, iv 0, iv (-1)], iv 15], V.tup [V.agg [iv 0, iv (-1), iv 0], iv 0]⟩
def tb248 : List Fact := fa247 :: tb247
/-- studwork/lattice.Direction -/
def fa248 : Fact := ⟨6, [iv 0, iv 16], V.tup [iv 2, iv 0]⟩
def tb249 : List Fact := fa248 :: tb248
/-- studwork/lattice.Turn -/
def fa249 : Fact := ⟨26, [V.agg [iv 1, iv 0, iv 0], iv 16], V.tup [V.agg [iv 0, iv 1, iv 0], iv 0]⟩
def tb250 : List Fact := fa249 :: tb249
/-- studwork/lattice.Direction -/
def fa250 : Fact := ⟨6, [iv 1, iv 16], V.tup [iv 3, iv 0]⟩
def tb251 : List Fact := fa250 :: tb250
/-- studwork/lattice.Turn -/
def fa251 : Fact := ⟨26, [V.agg [iv (-1), iv 0, iv 0], iv 16], V.tup [V.agg [iv 0, iv (-1), iv 0], iv 0]⟩
def tb252 : List Fact := fa251 :: tb251
/-- studwork/lattice.Direction -/
def fa252 : Fact := ⟨6, [iv 2, iv 16], V.tup [iv 4, iv 0]⟩
def tb253 : List Fact := fa252 :: tb252
/-- studwork/lattice.Turn -/
def fa253 : Fact := ⟨26, [V.agg [iv 0, iv 1, iv 0], iv 16], V.tup [V.agg [iv 0, iv 0, iv 1], iv 0]⟩
def tb254 : List Fact := fa253 :: tb253
/-- studwork/lattice.Direction -/
def fa254 : Fact := ⟨6, [iv 3, iv 16], V.tup [iv 5, iv 0]⟩
def tb255 : List Fact := fa254 :: tb254
/-- studwork/lattice.Turn -/
def fa255 : Fact := ⟨26, [V.agg [iv 0, iv (-1), iv 0], iv 16], V.tup [V.agg [iv 0, iv 0, iv (-1)], iv 0]⟩
def tb256 : List Fact := fa255 :: tb255
/-- studwork/lattice.Direction -/
def fa256 : Fact := ⟨6, [iv 4, iv 16], V.tup [iv 0, iv 0]⟩
def tb257 : List Fact := fa256 :: tb256
/-- studwork/lattice.Turn -/
def fa257 : Fact := ⟨26, [V.agg [iv 0, iv 0, iv 1], iv 16], V.tup [V.agg [iv 1, iv 0, iv 0], iv 0]⟩
def tb258 : List Fact := fa257 :: tb257
/-- studwork/lattice.Direction -/
def fa258 : Fact := ⟨6, [iv 5, iv 16], V.tup [iv 1, iv 0]⟩
def tb259 : List Fact := fa258 :: tb258
/-- studwork/lattice.Turn -/
def fa259 : Fact := ⟨26, [V.agg [iv 0, iv 0, iv (-1)], iv 16], V.tup [V.agg [iv (-1), iv 0, iv 0], iv 0]⟩
def tb260 : List Fact := fa259 :: tb259
/-- studwork/lattice.Direction -/
def fa260 : Fact := ⟨6, [iv 0, iv 17], V.tup [iv 4, iv 0]⟩
def tb261 : List Fact := fa260 :: tb260
/-- studwork/lattice.Turn -/
def fa261 : Fact := ⟨26, [V.agg [iv 1, iv 0, iv 0], iv 17], V.tup [V.agg [iv 0, iv 0, iv 1], iv 0]⟩
def tb262 : List Fact := fa261 :: tb261
/-- studwork/lattice.Direction -/
def fa262 : Fact := ⟨6, [iv 1, iv 17], V.tup [iv 5, iv 0]⟩
def tb263 : List Fact := fa262 :: tb262
/-- studwork/lattice.Turn -/
def fa263 : Fact := ⟨26, [V.agg [iv (-1), iv 0, iv 0], iv 17], V.tup [V.agg [iv 0, iv 0, iv (-1)], iv 0]⟩
def tb264 : List Fact := fa263 :: tb263
/-- studwork/lattice.Direction -/
def fa264 : Fact := ⟨6, [iv 2, iv 17], V.tup [iv 3, iv 0]⟩
def tb265 : List Fact := fa264 :: tb264
/-- studwork/lattice.Turn -/
def fa265 : Fact := ⟨26, [V.agg [iv 0, iv 1, iv 0], iv 17], V.tup [V.agg [iv 0, iv (-1), iv 0], iv 0]⟩
def tb266 : List Fact := fa265 :: tb265
/-- studwork/lattice.Direction -/
def fa266 : Fact := ⟨6, [iv 3, iv 17], V.tup [iv 2, iv 0]⟩
def tb267 : List Fact := fa266 :: tb266
/-- studwork/lattice.Turn -/
def fa267 : Fact := ⟨26, [V.agg [iv 0, iv (-1), iv 0], iv 17], V.tup [V.agg [iv 0, iv 1, iv 0], iv 0]⟩
def tb268 : List Fact := fa267 :: tb267
/-- studwork/lattice.Direction -/
def fa268 : Fact := ⟨6, [iv 4, iv 17], V.tup [iv 0, iv 0]⟩
def tb269 : List Fact := fa268 :: tb268
/-- studwork/lattice.Turn -/
def fa269 : Fact := ⟨26, [V.agg [iv 0, iv 0, iv 1], iv 17], V.tup [V.agg [iv 1, iv 0, iv 0], iv 0]⟩
def tb270 : List Fact := fa269 :: tb269
/-- studwork/lattice.Direction -/
def fa270 : Fact := ⟨6, [iv 5, iv 17], V.tup [iv 1, iv 0]⟩
def tb271 : List Fact := fa270 :: tb270
/-- studwork/lattice.Turn -/
def fa271 : Fact := ⟨26, [V.agg [iv 0, iv 0, iv (-1)], iv 17], V.tup [V.agg [iv (-1), iv 0, iv 0], iv 0]⟩
def tb272 : List Fact := fa271 :: tb271
/-- studwork/lattice.Direction -/
def fa272 : Fact := ⟨6, [iv 0, iv 18], V.tup [iv 3, iv 0]⟩
def tb273 : List Fact := fa272 :: tb272
/-- studwork/lattice.Turn -/
def fa273 : Fact := ⟨26, [V.agg [iv 1, iv 0, iv 0], iv 18], V.tup [V.agg [iv 0, iv (-1), iv 0], iv 0]⟩
def tb274 : List Fact := fa273 :: tb273
/-- studwork/lattice.Direction -/
def fa274 : Fact := ⟨6, [iv 1, iv 18], V.tup [iv 2, iv 0]⟩
def tb275 : List Fact := fa274 :: tb274
/-- studwork/lattice.Turn -/
def fa275 : Fact := ⟨26, [V.agg [iv (-1), iv 0, iv 0], iv 18], V.tup [V.agg [iv 0, iv 1, iv 0], iv 0]⟩
def tb276 : List Fact := fa275 :: tb275
/-- studwork/lattice.Direction -/
def fa276 : Fact := ⟨6, [iv 2, iv 18], V.tup [iv 5, iv 0]⟩
def tb277 : List Fact := fa276 :: tb276
/-- studwork/lattice.Turn -/
def fa277 : Fact := ⟨26, [V.agg [iv 0, iv 1, iv 0], iv 18], V.tup [V.agg [iv 0, iv 0, iv (-1)], iv 0]⟩
def tb278 : List Fact := fa277 :: tb277
/-- studwork/lattice.Direction -/
def fa278 : Fact := ⟨6, [iv 3, iv 18], V.tup [iv 4, iv 0]⟩
def tb279 : List Fact := fa278 :: tb278
/-- studwork/lattice.Turn -/
def fa279 : Fact := ⟨26, [V.agg [iv 0, iv (-1), iv 0], iv 18], V.tup [V.agg [iv 0, iv 0, iv 1], iv 0]⟩
def tb280 : List Fact := fa279 :: tb279
/-- studwork/lattice.Direction -/
def fa280 : Fact := ⟨6, [iv 4, iv 18], V.tup [iv 0, iv 0]⟩
def tb281 : List Fact := fa280 :: tb280
/-- studwork/lattice.Turn -/
def fa281 : Fact := ⟨26, [V.agg [iv 0, iv 0, iv 1], iv 18], V.tup [V.agg [iv 1, iv 0, iv 0], iv 0]⟩
def tb282 : List Fact := fa281 :: tb281
/-- studwork/lattice.Direction -/
def fa282 : Fact := ⟨6, [iv 5, iv 18], V.tup [iv 1, iv 0]⟩
def tb283 : List Fact := fa282 :: tb282
/-- studwork/lattice.Turn -/
def fa283 : Fact := ⟨26, [V.agg [iv 0, iv 0, iv (-1)], iv 18], V.tup [V.agg [iv (-1), iv 0, iv 0], iv 0]⟩
def tb284 : List Fact := fa283 :: tb283
/-- studwork/lattice.Direction -/
def fa284 : Fact := ⟨6, [iv 0, iv 19], V.tup [iv 5, iv 0]⟩
def tb285 : List Fact := fa284 :: tb284
/-- studwork/lattice.Turn -/
def fa285 : Fact := ⟨26, [V.agg [iv 1, iv 0, iv 0], iv 19], V.tup [V.agg [iv 0, iv 0, iv (-1)], iv 0]⟩
def tb286 : List Fact := fa285 :: tb285
/-- studwork/lattice.Direction -/
def fa286 : Fact := ⟨6, [iv 1, iv 19], V.tup [iv 4, iv 0]⟩
def tb287 : List Fact := fa286 :: tb286
/-- studwork/lattice.Turn -/
def fa287 : Fact := ⟨26, [V.agg [iv (-1), iv 0, iv 0], iv 19], V.tup [V.agg [iv 0, iv 0, iv 1], iv 0]⟩
def tb288 : List Fact := fa287 :: tb287
/-- studwork/lattice.Direction -/
def fa288 : Fact := ⟨6, [iv 2, iv 19], V.tup [iv 2, iv 0]⟩
def tb289 : List Fact := fa288 :: tb288
/-- studwork/lattice.Turn -/
def fa289 : Fact := ⟨26, [V.agg [iv 0, iv 1, iv 0], iv 19], V.tup [V.agg [iv 0, iv 1, iv 0], iv 0]⟩
def tb290 : List Fact := fa289 :: tb289
/-- studwork/lattice.Direction -/
def fa290 : Fact := ⟨6, [iv 3, iv 19], V.tup [iv 3, iv 0]⟩
def tb291 : List Fact := fa290 :: tb290
/-- studwork/lattice.Turn -/
def fa291 : Fact := ⟨26, [V.agg [iv 0, iv (-1), iv 0], iv 19], V.tup [V.agg [iv 0, iv (-1), iv 0], iv 0]⟩
def tb292 : List Fact := fa291 :: tb291
/-- studwork/lattice.Direction -/
def fa292 : Fact := ⟨6, [iv 4, iv 19], V.tup [iv 0, iv 0]⟩
def tb293 : List Fact := fa292 :: tb292
/-- studwork/lattice.Turn -/
def fa293 : Fact := ⟨26, [V.agg [iv 0, iv 0, iv 1], iv 19], V.tup [V.agg [iv 1, iv 0, iv 0], iv 0]⟩
def tb294 : List Fact := fa293 :: tb293
/-- studwork/lattice.Direction -/
def fa294 : Fact := ⟨6, [iv 5, iv 19], V.tup [iv 1, iv 0]⟩
def tb295 : List Fact := fa294 :: tb294
/-- studwork/lattice.Turn -/
def fa295 : Fact := ⟨26, [V.agg [iv 0, iv 0, iv (-1)], iv 19], V.tup [V.agg [iv (-1), iv 0, iv 0], iv 0]⟩
def tb296 : List Fact := fa295 :: tb295
/-- studwork/lattice.Direction -/
def fa296 : Fact := ⟨6, [iv 0, iv 20], V.tup [iv 3, iv 0]⟩
def tb297 : List Fact := fa296 :: tb296
/-- studwork/lattice.Turn -/
def fa297 : Fact := ⟨26, [V.agg [iv 1, iv 0, iv 0], iv 20], V.tup [V.agg [iv 0, iv (-1), iv 0], iv 0]⟩
def tb298 : List Fact := fa297 :: tb297
/-- studwork/lattice.Direction -/
def fa298 : Fact := ⟨6, [iv 1, iv 20], V.tup [iv 2, iv 0]⟩
def tb299 : List Fact := fa298 :: tb298
/-- studwork/lattice.Turn -/
def fa299 : Fact := ⟨26, [V.agg [iv (-1), iv 0, iv 0], iv 20], V.tup [V.agg [iv 0, iv 1, iv 0], iv 0]⟩
def tb300 : List Fact := fa299 :: tb299
/-- studwork/lattice.Direction -/
def fa300 : Fact := ⟨6, [iv 2, iv 20], V.tup [iv 4, iv 0]⟩
def tb301 : List Fact := fa300 :: tb300
/-- studwork/lattice.Turn -/
def fa301 : Fact := ⟨26, [V.agg [iv 0, iv 1, iv 0], iv 20], V.tup [V.agg [iv 0, iv 0, iv 1], iv 0]⟩
def tb302 : List Fact := fa301 :: tb301
/-- studwork/lattice.Direction -/
def fa302 : Fact := ⟨6, [iv 3, iv 20], V.tup [iv 5, iv 0]⟩
def tb303 : List Fact := fa302 :: tb302
/-- studwork/lattice.Turn -/
def fa303 : Fact := ⟨26, [V.agg [iv 0, iv (-1), iv 0], iv 20], V.tup [V.agg [iv 0, iv 0, iv (-1)], iv 0]⟩
def tb304 : List Fact := fa303 :: tb303
/-- studwork/lattice.Direction -/
def fa304 : Fact := ⟨6, [iv 4, iv 20], V.tup [iv 1, iv 0]⟩
def tb305 : List Fact := fa304 :: tb304
/-- studwork/lattice.Turn -/
def fa305 : Fact := ⟨26, [V.agg [iv 0, iv 0, iv 1], iv 20], V.tup [V.agg [iv (-1), iv 0, iv 0], iv 0]⟩
def tb306 : List Fact := fa305 :: tb305
/-- studwork/lattice.Direction -/
def fa306 : Fact := ⟨6, [iv 5, iv 20], V.tup [iv 0, iv 0]⟩
def tb307 : List Fact := fa306 :: tb306
/-- studwork/lattice.Turn -/
def fa307 : Fact := ⟨26, [V.agg [iv 0, iv 0, iv (-1)], iv 20], V.tup [V.agg [iv 1, iv 0, iv 0], iv 0]⟩
def tb308 : List Fact := fa307 :: tb307
/-- studwork/lattice.Direction -/
def fa308 : Fact := ⟨6, [iv 0, iv 21], V.tup [iv 4, iv 0]⟩
def tb309 : List Fact := fa308 :: tb308
/-- studwork/lattice.Turn -/
def fa309 : Fact := ⟨26, [V.agg [iv 1, iv 0, iv 0], iv 21], V.tup [V.agg [iv 0, iv 0, iv 1], iv 0]⟩
def tb310 : List Fact := fa309 :: tb309
/-- studwork/lattice.Direction -/
def fa310 : Fact := ⟨6, [iv 1, iv 21], V.tup [iv 5, iv 0]⟩
def tb311 : List Fact := fa310 :: tb310
/-- studwork/lattice.Turn -/
def fa311 : Fact := ⟨26, [V.agg [iv (-1), iv 0, iv 0], iv 21], V.tup [V.agg [iv 0, iv 0, iv (-1)], iv 0]⟩
def tb312 : List Fact := fa311 :: tb311
/-- studwork/lattice.Direction -/
def fa312 : Fact := ⟨6, [iv 2, iv 21], V.tup [iv 2, iv 0]⟩
def tb313 : List Fact := fa312 :: tb312
/-- studwork/lattice.Turn -/
def fa313 : Fact := ⟨26, [V.agg [iv 0, iv 1, iv 0], iv 21], V.tup [V.agg [iv 0, iv 1, iv 0], iv 0]⟩
def tb314 : List Fact := fa313 :: tb313
/-- studwork/lattice.Direction -/
def fa314 : Fact := ⟨6, [iv 3, iv 21], V.tup [iv 3, iv 0]⟩
def tb315 : List Fact := fa314 :: tb314
/-- studwork/lattice.Turn -/
def fa315 : Fact := ⟨26, [V.agg [iv 0, iv (-1), iv 0], iv 21], V.tup [V.agg [iv 0, iv (-1), iv 0], iv 0]⟩
def tb316 : List Fact := fa315 :: tb315
/-- studwork/lattice.Direction -/
def fa316 : Fact := ⟨6, [iv 4, iv 21], V.tup [iv 1, iv 0]⟩
def tb317 : List Fact := fa316 :: tb316
/-- studwork/lattice.Turn -/
def fa317 : Fact := ⟨26, [V.agg [iv 0, iv 0, iv 1], iv 21], V.tup [V.agg [iv (-1), iv 0, iv 0], iv 0]⟩
def tb318 : List Fact := fa317 :: tb317
/-- studwork/lattice.Direction -/
def fa318 : Fact := ⟨6, [iv 5, iv 21], V.tup [iv 0, iv 0]⟩
def tb319 : List Fact := fa318 :: tb318
/-- studwork/lattice.Turn -/
def fa319 : Fact := ⟨26, [V.agg [iv 0, iv 0, iv (-1)], iv 21], V.tup [V.agg [iv 1, iv 0, iv 0], iv 0]⟩
def tb320 : List Fact := fa319 :: tb319
/-- studwork/lattice.Direction -/
def fa320 : Fact := ⟨6, [iv 0, iv 22], V.tup [iv 2, iv 0]⟩
def tb321 : List Fact := fa320 :: tb320
/-- studwork/lattice.Turn -/
def fa321 : Fact := ⟨26, [V.agg [iv 1, iv 0, iv 0], iv 22], V.tup [V.agg [iv 0, iv 1, iv 0], iv 0]⟩
def tb322 : List Fact := fa321 :: tb321
/-- studwork/lattice.Direction -/
def fa322 : Fact := ⟨6, [iv 1, iv 22], V.tup [iv 3, iv 0]⟩
def tb323 : List Fact := fa322 :: tb322
/-- studwork/lattice.Turn -/
def fa323 : Fact := ⟨26, [V.agg [iv (-1), iv 0, iv 0], iv 22], V.tup [V.agg [iv 0, iv (-1), iv 0], iv 0]⟩
def tb324 : List Fact := fa323 :: tb323
/-- studwork/lattice.Direction -/
def fa324 : Fact := ⟨6, [iv 2, iv 22], V.tup [iv 5, iv 0]⟩
def tb325 : List Fact := fa324 :: tb324
/-- studwork/lattice.Turn -/
def fa325 : Fact := ⟨26, [V.agg [iv 0, iv 1, iv 0], iv 22], V.tup [V.agg [iv 0, iv 0, iv (-1)], iv 0]⟩
def tb326 : List Fact := fa325 :: tb325
/-- studwork/lattice.Direction -/
def fa326 : Fact := ⟨6, [iv 3, iv 22], V.tup [iv 4, iv 0]⟩
def tb327 : List Fact := fa326 :: tb326
/-- studwork/lattice.Turn -/
def fa327 : Fact := ⟨26, [V.agg [iv 0, iv (-1), iv 0], iv 22], V.tup [V.agg [iv 0, iv 0, iv 1], iv 0]⟩
def tb328 : List Fact := fa327 :: tb327
/-- studwork/lattice.Direction -/
def fa328 : Fact := ⟨6, [iv 4, iv 22], V.tup [iv 1, iv 0]⟩
def tb329 : List Fact := fa328 :: tb328
/-- studwork/lattice.Turn -/
def fa329 : Fact := ⟨26, [V.agg [iv 0, iv 0, iv 1], iv 22], V.tup [V.agg [iv (-1), iv 0, iv 0], iv 0]⟩
def tb330 : List Fact := fa329 :: tb329
/-- studwork/lattice.Direction -/
def fa330 : Fact := ⟨6, [iv 5, iv 22], V.tup [iv 0, iv 0]⟩
def tb331 : List Fact := fa330 :: tb330
/-- studwork/lattice.Turn -/
def fa331 : Fact := ⟨26, [V.agg [iv 0, iv 0, iv (-1)], iv 22], V.tup [V.agg [iv 1, iv 0, iv 0], iv 0]⟩
def tb332 : List Fact := fa331 :: tb331
/-- studwork/lattice.Direction -/
def fa332 : Fact := ⟨6, [iv 0, iv 23], V.tup [iv 5, iv 0]⟩
def tb333 : List Fact := fa332 :: tb332
/-- studwork/lattice.Turn -/
def fa333 : Fact := ⟨26, [V.agg [iv 1, iv 0, iv 0], iv 23], V.tup [V.agg [iv 0, iv 0, iv (-1)], iv 0]⟩
def tb334 : List Fact := fa333 :: tb333
/-- studwork/lattice.Direction -/
def fa334 : Fact := ⟨6, [iv 1, iv 23], V.tup [iv 4, iv 0]⟩
def tb335 : List Fact := fa334 :: tb334
/-- studwork/lattice.Turn -/
def fa335 : Fact := ⟨26, [V.agg [iv (-1), iv 0, iv 0], iv 23], V.tup [V.agg [iv 0, iv 0, iv 1], iv 0]⟩
def tb336 : List Fact := fa335 :: tb335
/-- studwork/lattice.Direction -/
def fa336 : Fact := ⟨6, [iv 2, iv 23], V.tup [iv 3, iv 0]⟩
def tb337 : List Fact := fa336 :: tb336
/-- studwork/lattice.Turn -/
def fa337 : Fact := ⟨26, [V.agg [iv 0, iv 1, iv 0], iv 23], V.tup [V.agg [iv 0, iv (-1), iv 0], iv 0]⟩
def tb338 : List Fact := fa337 :: tb337
/-- studwork/lattice.Direction -/
def fa338 : Fact := ⟨6, [iv 3, iv 23], V.tup [iv 2, iv 0]⟩
def tb339 : List Fact := fa338 :: tb338
/-- studwork/lattice.Turn -/
def fa339 : Fact := ⟨26, [V.agg [iv 0, iv (-1), iv 0], iv 23], V.tup [V.agg [iv 0, iv 1, iv 0], iv 0]⟩
def tb340 : List Fact := fa339 :: tb339
/-- studwork/lattice.Direction -/
def fa340 : Fact := ⟨6, [iv 4, iv 23], V.tup [iv 1, iv 0]⟩
def tb341 : List Fact := fa340 :: tb340
/-- studwork/lattice.Turn -/
def fa341 : Fact := ⟨26, [V.agg [iv 0, iv 0, iv 1], iv 23], V.tup [V.agg [iv (-1), iv 0, iv 0], iv 0]⟩
def tb342 : List Fact := fa341 :: tb341
/-- studwork/lattice.Direction -/
def fa342 : Fact := ⟨6, [iv 5, iv 23], V.tup [iv 0, iv 0]⟩
def tb343 : List Fact := fa342 :: tb342
/-- studwork/lattice.Turn -/
def fa343 : Fact := ⟨26, [V.agg [iv 0, iv 0, iv (-1)], iv 23], V.tup [V.agg [iv 1, iv 0, iv 0], iv 0]⟩
def tb344 : List Fact := fa343 :: tb343
/-- studwork/lattice.Turn -/
def fa344 : Fact := ⟨26, [V.agg [iv 1, iv 2, iv 3], iv 0], V.tup [V.agg [iv 1, iv 2, iv 3], iv 0]⟩
def tb345 : List Fact := fa344 :: tb344
/-- studwork/lattice.turnBetween -/
def fa345 : Fact := ⟨35, [V.agg [iv 1, iv 2, iv 3], V.agg [iv 1, iv 2, iv 3]], iv 0⟩
def tb346 : List Fact := fa345 :: tb345
/-- studwork/lattice.Invert -/
def fa346 : Fact := ⟨8, [iv 0], V.tup [iv 0, iv 0]⟩
def tb347 : List Fact := fa346 :: tb346
/-- studwork/lattice.Compose -/
def fa347 : Fact := ⟨7, [iv 0, iv 0], V.tup [iv 0, iv 0]⟩
def tb348 : List Fact := fa347 :: tb347
/-- studwork/lattice.turnBetween -/
def fa348 : Fact := ⟨35, [V.agg [iv 1, iv 2, iv 3], V.agg [iv (-2), iv 1, iv 3]], iv 1⟩
def tb349 : List Fact := fa348 :: tb348
/-- studwork/lattice.Compose -/
def fa349 : Fact := ⟨7, [iv 0, iv 1], V.tup [iv 1, iv 0]⟩
def tb350 : List Fact := fa349 :: tb349
/-- studwork/lattice.turnBetween -/
def fa350 : Fact := ⟨35, [V.agg [iv 1, iv 2, iv 3], V.agg [iv (-1), iv (-2), iv 3]], iv 2⟩
def tb351 : List Fact := fa350 :: tb350
/-- studwork/lattice.Compose -/
def fa351 : Fact := ⟨7, [iv 0, iv 2], V.tup [iv 2, iv 0]⟩
def tb352 : List Fact := fa351 :: tb351
/-- studwork/lattice.turnBetween -/
def fa352 : Fact := ⟨35, [V.agg [iv 1, iv 2, iv 3], V.agg [iv 2, iv (-1), iv 3]], iv 3⟩
def tb353 : List Fact := fa352 :: tb352
/-- studwork/lattice.Compose -/
def fa353 : Fact := ⟨7, [iv 0, iv 3], V.tup [iv 3, iv 0]⟩
def tb354 : List Fact := fa353 :: tb353
/-- studwork/lattice.turnBetween -/
def fa354 : Fact := ⟨35, [V.agg [iv 1, iv 2, iv 3], V.agg [iv 1, iv (-3), iv 2]], iv 4⟩
def tb355 : List Fact := fa354 :: tb354
/-- studwork/lattice.Compose -/
def fa355 : Fact := ⟨7, [iv 0, iv 4], V.tup [iv 4, iv 0]⟩
def tb356 : List Fact := fa355 :: tb355
/-- studwork/lattice.turnBetween -/
def fa356 : Fact := ⟨35, [V.agg [iv 1, iv 2, iv 3], V.agg [iv (-2), iv (-3), iv 1]], iv 5⟩
def tb357 : List Fact := fa356 :: tb356
/-- studwork/lattice.Compose -/
def fa357 : Fact := ⟨7, [iv 0, iv 5], V.tup [iv 5, iv 0]⟩
def tb358 : List Fact := fa357 :: tb357
/-- studwork/lattice.turnBetween -/
def fa358 : Fact := ⟨35, [V.agg [iv 1, iv 2, iv 3], V.agg [iv (-1), iv (-3), iv (-2)]], iv 6⟩
def tb359 : List Fact := fa358 :: tb358
/-- studwork/lattice.Compose -/
def fa359 : Fact := ⟨7, [iv 0, iv 6], V.tup [iv 6, iv 0]⟩
def tb360 : List Fact := fa359 :: tb359
/-- studwork/lattice.turnBetween -/
def fa360 : Fact := ⟨35, [V.agg [iv 1, iv 2, iv 3], V.agg [iv 2, iv (-3), iv (-1)]], iv 7⟩
def tb361 : List Fact := fa360 :: tb360
/-- studwork/lattice.Compose -/
def fa361 : Fact := ⟨7, [iv 0, iv 7], V.tup [iv 7, iv 0]⟩
def tb362 : List Fact := fa361 :: tb361
/-- studwork/lattice.turnBetween -/
def fa362 : Fact := ⟨35, [V.agg [iv 1, iv 2, iv 3], V.agg [iv 1, iv (-2), iv (-3)]], iv 8⟩
def tb363 : List Fact := fa362 :: tb362
/-- studwork/lattice.Compose -/
def fa363 : Fact := ⟨7, [iv 0, iv 8], V.tup [iv 8, iv 0]⟩
def tb364 : List Fact := fa363 :: tb363
/-- studwork/lattice.turnBetween -/
def fa364 : Fact := ⟨35, [V.agg [iv 1, iv 2, iv 3], V.agg [iv (-2), iv (-1), iv (-3)]], iv 9⟩
def tb365 : List Fact := fa364 :: tb364
/-- studwork/lattice.Compose -/
def fa365 : Fact := ⟨7, [iv 0, iv 9], V.tup [iv 9, iv 0]⟩
def tb366 : List Fact := fa365 :: tb365
/-- studwork/lattice.turnBetween -/
def fa366 : Fact := ⟨35, [V.agg [iv 1, iv 2, iv 3], V.agg [iv (-1), iv 2, iv (-3)]], iv 10⟩
def tb367 : List Fact := fa366 :: tb366
/-- studwork/lattice.Compose -/
def fa367 : Fact := ⟨7, [iv 0, iv 10], V.tup [iv 10, iv 0]⟩
def tb368 : List Fact := fa367 :: tb367
/-- studwork/lattice.turnBetween -/
def fa368 : Fact := ⟨35, [V.agg [iv 1, iv 2, iv 3], V.agg [iv 2, iv 1, iv (-3)]], iv 11⟩
def tb369 : List Fact := fa368 :: tb368
/-- studwork/lattice.Compose -/
def fa369 : Fact := ⟨7, [iv 0, iv 11], V.tup [iv 11, iv 0]⟩
def tb370 : List Fact := fa369 :: tb369
/-- studwork/lattice.turnBetween -/
def fa370 : Fact := ⟨35, [V.agg [iv 1, iv 2, iv 3], V.agg [iv 1, iv 3, iv (-2)]], iv 12⟩
def tb371 : List Fact := fa370 :: tb370
/-- studwork/lattice.Compose -/
def fa371 : Fact := ⟨7, [iv 0, iv 12], V.tup [iv 12, iv 0]⟩
def tb372 : List Fact := fa371 :: tb371
/-- studwork/lattice.turnBetween -/
def fa372 : Fact := ⟨35, [V.agg [iv 1, iv 2, iv 3], V.agg [iv (-2), iv 3, iv (-1)]], iv 13⟩
def tb373 : List Fact := fa372 :: tb372
/-- studwork/lattice.Compose -/
def fa373 : Fact := ⟨7, [iv 0, iv 13], V.tup [iv 13, iv 0]⟩
def tb374 : List Fact := fa373 :: tb373
/-- studwork/lattice.turnBetween -/
def fa374 : Fact := ⟨35, [V.agg [iv 1, iv 2, iv 3], V.agg [iv (-1), iv 3, iv 2]], iv 14⟩
def tb375 : List Fact := fa374 :: tb374
/-- studwork/lattice.Compose -/
def fa375 : Fact := ⟨7, [iv 0, iv 14], V.tup [iv 14, iv 0]⟩
def tb376 : List Fact := fa375 :: tb375
/-- studwork/lattice.turnBetween -/
def fa376 : Fact := ⟨35, [V.agg [iv 1, iv 2, iv 3], V.agg [iv 2, iv 3, iv 1]], iv 15⟩
def tb377 : List Fact := fa376 :: tb376
/-- studwork/lattice.Compose -/
def fa377 : Fact := ⟨7, [iv 0, iv 15], V.tup [iv 15, iv 0]⟩
def tb378 : List Fact := fa377 :: tb377
/-- studwork/lattice.Compose -/
def fa378 : Fact := ⟨7, [iv 0, iv 16], V.tup [iv 16, iv 0]⟩
def tb379 : List Fact := fa378 :: tb378
/-- studwork/lattice.turnBetween -/
def fa379 : Fact := ⟨35, [V.agg [iv 1, iv 2, iv 3], V.agg [iv 3, iv (-2), iv 1]], iv 17⟩
def tb380 : List Fact := fa379 :: tb379
/-- studwork/lattice.Compose -/
def fa380 : Fact := ⟨7, [iv 0, iv 17], V.tup [iv 17, iv 0]⟩
def tb381 : List Fact := fa380 :: tb380
/-- studwork/lattice.turnBetween -/
def fa381 : Fact := ⟨35, [V.agg [iv 1, iv 2, iv 3], V.agg [iv 3, iv (-1), iv (-2)]], iv 18⟩
def tb382 : List Fact := fa381 :: tb381
/-- studwork/lattice.Compose -/
def fa382 : Fact := ⟨7, [iv 0, iv 18], V.tup [iv 18, iv 0]⟩
def tb383 : List Fact := fa382 :: tb382
/-- studwork/lattice.turnBetween -/
def fa383 : Fact := ⟨35, [V.agg [iv 1, iv 2, iv 3], V.agg [iv 3, iv 2, iv (-1)]], iv 19⟩
def tb384 : List Fact := fa383 :: tb383
/-- studwork/lattice.Compose -/
def fa384 : Fact := ⟨7, [iv 0, iv 19], V.tup [iv 19, iv 0]⟩
def tb385 : List Fact := fa384 :: tb384
/-- studwork/lattice.turnBetween -/
def fa385 : Fact := ⟨35, [V.agg [iv 1, iv 2, iv 3], V.agg [iv (-3), iv (-1), iv 2]], iv 20⟩
def tb386 : List Fact := fa385 :: tb385
/-- studwork/lattice.Compose -/
def fa386 : Fact := ⟨7, [iv 0, iv 20], V.tup [iv 20, iv 0]⟩
def tb387 : List Fact := fa386 :: tb386
/-- studwork/lattice.turnBetween -/
def fa387 : Fact := ⟨35, [V.agg [iv 1, iv 2, iv 3], V.agg [iv (-3), iv 2, iv 1]], iv 21⟩
def tb388 : List Fact := fa387 :: tb387
/-- studwork/lattice.Compose -/
def fa388 : Fact := ⟨7, [iv 0, iv 21], V.tup [iv 21, iv 0]⟩
def tb389 : List Fact := fa388 :: tb388
/-- studwork/lattice.turnBetween -/
def fa389 : Fact := ⟨35, [V.agg [iv 1, iv 2, iv 3], V.agg [iv (-3), iv 1, iv (-2)]], iv 22⟩
def tb390 : List Fact := fa389 :: tb389
/-- studwork/lattice.Compose -/
def fa390 : Fact := ⟨7, [iv 0, iv 22], V.tup [iv 22, iv 0]⟩
def tb391 : List Fact := fa390 :: tb390
/-- studwork/lattice.turnBetween -/
def fa391 : Fact := ⟨35, [V.agg [iv 1, iv 2, iv 3], V.agg [iv (-3), iv (-2), iv (-1)]], iv 23⟩
def tb392 : List Fact := fa391 :: tb391
/-- studwork/lattice.Compose -/
def fa392 : Fact := ⟨7, [iv 0, iv 23], V.tup [iv 23, iv 0]⟩
def tb393 : List Fact := fa392 :: tb392
/-- studwork/lattice.Turn -/
def fa393 : Fact := ⟨26, [V.agg [iv 1, iv 2, iv 3], iv 1], V.tup [V.agg [iv (-2), iv 1, iv 3], iv 0]⟩
def tb394 : List Fact := fa393 :: tb393
/-- studwork/lattice.turnBetween -/
def fa394 : Fact := ⟨35, [V.agg [iv (-2), iv 1, iv 3], V.agg [iv 1, iv 2, iv 3]], iv 3⟩
def tb395 : List Fact := fa394 :: tb394
/-- studwork/lattice.Invert -/
def fa395 : Fact := ⟨8, [iv 1], V.tup [iv 3, iv 0]⟩
def tb396 : List Fact := fa395 :: tb395
/-- studwork/lattice.Compose -/
def fa396 : Fact := ⟨7, [iv 1, iv 0], V.tup [iv 1, iv 0]⟩
def tb397 : List Fact := fa396 :: tb396
/-- studwork/lattice.Compose -/
def fa397 : Fact := ⟨7, [iv 1, iv 1], V.tup [iv 2, iv 0]⟩
def tb398 : List Fact := fa397 :: tb397
/-- studwork/lattice.Compose -/
def fa398 : Fact := ⟨7, [iv 1, iv 2], V.tup [iv 3, iv 0]⟩
def tb399 : List Fact := fa398 :: tb398
/-- studwork/lattice.Compose -/
def fa399 : Fact := ⟨7, [iv 1, iv 3], V.tup [iv 0, iv 0]⟩
def tb400 : List Fact := fa399 :: tb399
/-- studwork/lattice.Compose -/
def fa400 : Fact := ⟨7, [iv 1, iv 4], V.tup [iv 5, iv 0]⟩
def tb401 : List Fact := fa400 :: tb400
/-- studwork/lattice.Compose -/
def fa401 : Fact := ⟨7, [iv 1, iv 5], V.tup [iv 6, iv 0]⟩
def tb402 : List Fact := fa401 :: tb401
/-- studwork/lattice.Compose -/
def fa402 : Fact := ⟨7, [iv 1, iv 6], V.tup [iv 7, iv 0]⟩
def tb403 : List Fact := fa402 :: tb402
/-- studwork/lattice.Compose -/
def fa403 : Fact := ⟨7, [iv 1, iv 7], V.tup [iv 4, iv 0]⟩
def tb404 : List Fact := fa403 :: tb403
/-- studwork/lattice.Compose -/
def fa404 : Fact := ⟨7, [iv 1, iv 8], V.tup [iv 9, iv 0]⟩
def tb405 : List Fact := fa404 :: tb404
/-- studwork/lattice.Compose -/
def fa405 : Fact := ⟨7, [iv 1, iv 9], V.tup [iv 10, iv 0]⟩
def tb406 : List Fact := fa405 :: tb405
/-- studwork/lattice.Compose -/
def fa406 : Fact := ⟨7, [iv 1, iv 10], V.tup [iv 11, iv 0]⟩
def tb407 : List Fact := fa406 :: tb406
/-- studwork/lattice.Compose -/
def fa407 : Fact := ⟨7, [iv 1, iv 11], V.tup [iv 8, iv 0]⟩
def tb408 : List Fact := fa407 :: tb407
/-- studwork/lattice.Compose -/
def fa408 : Fact := ⟨7, [iv 1, iv 12], V.tup [iv 13, iv 0]⟩
def tb409 : List Fact := fa408 :: tb408
/-- studwork/lattice.Compose -/
def fa409 : Fact := ⟨7, [iv 1, iv 13], V.tup [iv 14, iv 0]⟩
def tb410 : List Fact := fa409 :: tb409
/-- studwork/lattice.Compose -/
def fa410 : Fact := ⟨7, [iv 1, iv 14], V.tup [iv 15, iv 0]⟩
def tb411 : List Fact := fa410 :: tb410
/-- studwork/lattice.Compose -/
def fa411 : Fact := ⟨7, [iv 1, iv 15], V.tup [iv 12, iv 0]⟩
def tb412 : List Fact := fa411 :: tb411
/-- studwork/lattice.Compose -/
def fa412 : Fact := ⟨7, [iv 1, iv 16], V.tup [iv 17, iv 0]⟩
def tb413 : List Fact := fa412 :: tb412
/-- studwork/lattice.Compose -/
def fa413 : Fact := ⟨7, [iv 1, iv 17], V.tup [iv 18, iv 0]⟩
def tb414 : List Fact := fa413 :: tb413
/-- studwork/lattice.Compose -/
def fa414 : Fact := ⟨7, [iv 1, iv 18], V.tup [iv 19, iv 0]⟩
def tb415 : List Fact := fa414 :: tb414
/-- studwork/lattice.Compose -/
def fa415 : Fact := ⟨7, [iv 1, iv 19], V.tup [iv 16, iv 0]⟩
def tb416 : List Fact := fa415 :: tb415
/-- studwork/lattice.Compose -/
def fa416 : Fact := ⟨7, [iv 1, iv 20], V.tup [iv 21, iv 0]⟩
def tb417 : List Fact := fa416 :: tb416
/-- studwork/lattice.Compose -/
def fa417 : Fact := ⟨7, [iv 1, iv 21], V.tup [iv 22, iv 0]⟩
def tb418 : List Fact := fa417 :: tb417
/-- studwork/lattice.Compose -/
def fa418 : Fact := ⟨7, [iv 1, iv 22], V.tup [iv 23, iv 0]⟩
def tb419 : List Fact := fa418 :: tb418
/-- studwork/lattice.Compose -/
def fa419 : Fact := ⟨7, [iv 1, iv 23], V.tup [iv 20, iv 0]⟩
def tb420 : List Fact := fa419 :: tb419
/-- studwork/lattice.Turn -/
def fa420 : Fact := ⟨26, [V.agg [iv 1, iv 2, iv 3], iv 2], V.tup [V.agg [iv (-1), iv (-2), iv 3], iv 0]⟩
def tb421 : List Fact := fa420 :: tb420
/-- studwork/lattice.turnBetween -/
def fa421 : Fact := ⟨35, [V.agg [iv (-1), iv (-2), iv 3], V.agg [iv 1, iv 2, iv 3]], iv 2⟩
def tb422 : List Fact := fa421 :: tb421
/-- studwork/lattice.Invert -/
def fa422 : Fact := ⟨8, [iv 2], V.tup [iv 2, iv 0]⟩
def tb423 : List Fact := fa422 :: tb422
/-- studwork/lattice.Compose -/
def fa423 : Fact := ⟨7, [iv 2, iv 0], V.tup [iv 2, iv 0]⟩
def tb424 : List Fact := fa423 :: tb423
/-- studwork/lattice.Compose -/
def fa424 : Fact := ⟨7, [iv 2, iv 1], V.tup [iv 3, iv 0]⟩
def tb425 : List Fact := fa424 :: tb424
/-- studwork/lattice.Compose -/
def fa425 : Fact := ⟨7, [iv 2, iv 2], V.tup [iv 0, iv 0]⟩
def tb426 : List Fact := fa425 :: tb425
/-- studwork/lattice.Compose -/
def fa426 : Fact := ⟨7, [iv 2, iv 3], V.tup [iv 1, iv 0]⟩
def tb427 : List Fact := fa426 :: tb426
/-- studwork/lattice.Compose -/
def fa427 : Fact := ⟨7, [iv 2, iv 4], V.tup [iv 6, iv 0]⟩
def tb428 : List Fact := fa427 :: tb427
/-- studwork/lattice.Compose -/
def fa428 : Fact := ⟨7, [iv 2, iv 5], V.tup [iv 7, iv 0]⟩
def tb429 : List Fact := fa428 :: tb428
/-- studwork/lattice.Compose -/
def fa429 : Fact := ⟨7, [iv 2, iv 6], V.tup [iv 4, iv 0]⟩
def tb430 : List Fact := fa429 :: tb429
/-- studwork/lattice.Compose -/
def fa430 : Fact := ⟨7, [iv 2, iv 7], V.tup [iv 5, iv 0]⟩
def tb431 : List Fact := fa430 :: tb430
/-- studwork/lattice.Compose -/
def fa431 : Fact := ⟨7, [iv 2, iv 8], V.tup [iv 10, iv 0]⟩
def tb432 : List Fact := fa431 :: tb431
/-- studwork/lattice.Compose -/
def fa432 : Fact := ⟨7, [iv 2, iv 9], V.tup [iv 11, iv 0]⟩
def tb433 : List Fact := fa432 :: tb432
/-- studwork/lattice.Compose -/
def fa433 : Fact := ⟨7, [iv 2, iv 10], V.tup [iv 8, iv 0]⟩
def tb434 : List Fact := fa433 :: tb433
/-- studwork/lattice.Compose -/
def fa434 : Fact := ⟨7, [iv 2, iv 11], V.tup [iv 9, iv 0]⟩
def tb435 : List Fact := fa434 :: tb434
/-- studwork/lattice.Compose -/
def fa435 : Fact := ⟨7, [iv 2, iv 12], V.tup [iv 14, iv 0]⟩
def tb436 : List Fact := fa435 :: tb435
/-- studwork/lattice.Compose -/
def fa436 : Fact := ⟨7, [iv 2, iv 13], V.tup [iv 15, iv 0]⟩
def tb437 : List Fact := fa436 :: tb436
/-- studwork/lattice.Compose -/
def fa437 : Fact := ⟨7, [iv 2, iv 14], V.tup [iv 12, iv 0]⟩
def tb438 : List Fact := fa437 :: tb437
/-- studwork/lattice.Compose -/
def fa438 : Fact := ⟨7, [iv 2, iv 15], V.tup [iv 13, iv 0]⟩
def tb439 : List Fact := fa438 :: tb438
/-- studwork/lattice.Compose -/
def fa439 : Fact := ⟨7, [iv 2, iv 16], V.tup [iv 18, iv 0]⟩
def tb440 : List Fact := fa439 :: tb439
/-- studwork/lattice.Compose -/
def fa440 : Fact := ⟨7, [iv 2, iv 17], V.tup [iv 19, iv 0]⟩
def tb441 : List Fact := fa440 :: tb440
/-- studwork/lattice.Compose -/
def fa441 : Fact := ⟨7, [iv 2, iv 18], V.tup [iv 16, iv 0]⟩
def tb442 : List Fact := fa441 :: tb441
/-- studwork/lattice.Compose -/
def fa442 : Fact := ⟨7, [iv 2, iv 19], V.tup [iv 17, iv 0]⟩
def tb443 : List Fact := fa442 :: tb442
/-- studwork/lattice.Compose -/
def fa443 : Fact := ⟨7, [iv 2, iv 20], V.tup [iv 22, iv 0]⟩
def tb444 : List Fact := fa443 :: tb443
/-- studwork/lattice.Compose -/
def fa444 : Fact := ⟨7, [iv 2, iv 21], V.tup [iv 23, iv 0]⟩
def tb445 : List Fact := fa444 :: tb444
/-- studwork/lattice.Compose -/
def fa445 : Fact := ⟨7, [iv 2, iv 22], V.tup [iv 20, iv 0]⟩
def tb446 : List Fact := fa445 :: tb445
/-- studwork/lattice.Compose -/
def fa446 : Fact := ⟨7, [iv 2, iv 23], V.tup [iv 21, iv 0]⟩
def tb447 : List Fact := fa446 :: tb446
/-- studwork/lattice.Turn -/
def fa447 : Fact := ⟨26, [V.agg [iv 1, iv 2, iv 3], iv 3], V.tup [V.agg [iv 2, iv (-1), iv 3], iv 0]⟩
def tb448 : List Fact := fa447 :: tb447
/-- studwork/lattice.turnBetween -/
def fa448 : Fact := ⟨35, [V.agg [iv 2, iv (-1), iv 3], V.agg [iv 1, iv 2, iv 3]], iv 1⟩
def tb449 : List Fact := fa448 :: tb448
/-- studwork/lattice.Invert -/
def fa449 : Fact := ⟨8, [iv 3], V.tup [iv 1, iv 0]⟩
def tb450 : List Fact := fa449 :: tb449
/-- studwork/lattice.Compose -/
def fa450 : Fact := ⟨7, [iv 3, iv 0], V.tup [iv 3, iv 0]⟩
def tb451 : List Fact := fa450 :: tb450
/-- studwork/lattice.Compose -/
def fa451 : Fact := ⟨7, [iv 3, iv 1], V.tup [iv 0, iv 0]⟩
def tb452 : List Fact := fa451 :: tb451
/-- studwork/lattice.Compose -/
def fa452 : Fact := ⟨7, [iv 3, iv 2], V.tup [iv 1, iv 0]⟩
def tb453 : List Fact := fa452 :: tb452
/-- studwork/lattice.Compose -/
def fa453 : Fact := ⟨7, [iv 3, iv 3], V.tup [iv 2, iv 0]⟩
def tb454 : List Fact := fa453 :: tb453
/-- studwork/lattice.Compose -/
def fa454 : Fact := ⟨7, [iv 3, iv 4], V.tup [iv 7, iv 0]⟩
def tb455 : List Fact := fa454 :: tb454
/-- studwork/lattice.Compose -/
def fa455 : Fact := ⟨7, [iv 3, iv 5], V.tup [iv 4, iv 0]⟩
def tb456 : List Fact := fa455 :: tb455
/-- studwork/lattice.Compose -/
def fa456 : Fact := ⟨7, [iv 3, iv 6], V.tup [iv 5, iv 0]⟩
def tb457 : List Fact := fa456 :: tb456
/-- studwork/lattice.Compose -/
def fa457 : Fact := ⟨7, [iv 3, iv 7], V.tup [iv 6, iv 0]⟩
def tb458 : List Fact := fa457 :: tb457
/-- studwork/lattice.Compose -/
def fa458 : Fact := ⟨7, [iv 3, iv 8], V.tup [iv 11, iv 0]⟩
def tb459 : List Fact := fa458 :: tb458
/-- studwork/lattice.Compose -/
def fa459 : Fact := ⟨7, [iv 3, iv 9], V.tup [iv 8, iv 0]⟩
def tb460 : List Fact := fa459 :: tb459
/-- studwork/lattice.Compose -/
def fa460 : Fact := ⟨7, [iv 3, iv 10], V.tup [iv 9, iv 0]⟩
def tb461 : List Fact := fa460 :: tb460
/-- studwork/lattice.Compose -/
def fa461 : Fact := ⟨7, [iv 3, iv 11], V.tup [iv 10, iv 0]⟩
def tb462 : List Fact := fa461 :: tb461
/-- studwork/lattice.Compose -/
def fa462 : Fact := ⟨7, [iv 3, iv 12], V.tup [iv 15, iv 0]⟩
def tb463 : List Fact := fa462 :: tb462
/-- studwork/lattice.Compose -/
def fa463 : Fact := ⟨7, [iv 3, iv 13], V.tup [iv 12, iv 0]⟩
def tb464 : List Fact := fa463 :: tb463
/-- studwork/lattice.Compose -/
def fa464 : Fact := ⟨7, [iv 3, iv 14], V.tup [iv 13, iv 0]⟩
def tb465 : List Fact := fa464 :: tb464
/-- studwork/lattice.Compose -/
def fa465 : Fact := ⟨7, [iv 3, iv 15], V.tup [iv 14, iv 0]⟩
def tb466 : List Fact := fa465 :: tb465
/-- studwork/lattice.Compose -/
def fa466 : Fact := ⟨7, [iv 3, iv 16], V.tup [iv 19, iv 0]⟩
def tb467 : List Fact := fa466 :: tb466
/-- studwork/lattice.Compose -/
def fa467 : Fact := ⟨7, [iv 3, iv 17], V.tup [iv 16, iv 0]⟩
def tb468 : List Fact := fa467 :: tb467
/-- studwork/lattice.Compose -/
def fa468 : Fact := ⟨7, [iv 3, iv 18], V.tup [iv 17, iv 0]⟩
def tb469 : List Fact := fa468 :: tb468
/-- studwork/lattice.Compose -/
def fa469 : Fact := ⟨7, [iv 3, iv 19], V.tup [iv 18, iv 0]⟩
def tb470 : List Fact := fa469 :: tb469
/-- studwork/lattice.Compose -/
def fa470 : Fact := ⟨7, [iv 3, iv 20], V.tup [iv 23, iv 0]⟩
def tb471 : List Fact := fa470 :: tb470
/-- studwork/lattice.Compose -/
def fa471 : Fact := ⟨7, [iv 3, iv 21], V.tup [iv 20, iv 0]⟩
def tb472 : List Fact := fa471 :: tb471
/-- studwork/lattice.Compose -/
def fa472 : Fact := ⟨7, [iv 3, iv 22], V.tup [iv 21, iv 0]⟩
def tb473 : List Fact := fa472 :: tb472
/-- studwork/lattice.Compose -/
def fa473 : Fact := ⟨7, [iv 3, iv 23], V.tup [iv 22, iv 0]⟩
def tb474 : List Fact := fa473 :: tb473
/-- studwork/lattice.Turn -/
def fa474 : Fact := ⟨26, [V.agg [iv 1, iv 2, iv 3], iv 4], V.tup [V.agg [iv 1, iv (-3), iv 2], iv 0]⟩
def tb475 : List Fact := fa474 :: tb474
/-- studwork/lattice.turnBetween -/
def fa475 : Fact := ⟨35, [V.agg [iv 1, iv (-3), iv 2], V.agg [iv 1, iv 2, iv 3]], iv 12⟩
def tb476 : List Fact := fa475 :: tb475
/-- studwork/lattice.Invert -/
def fa476 : Fact := ⟨8, [iv 4], V.tup [iv 12, iv 0]⟩
def tb477 : List Fact := fa476 :: tb476
/-- studwork/lattice.Compose -/
def fa477 : Fact := ⟨7, [iv 4, iv 0], V.tup [iv 4, iv 0]⟩
def tb478 : List Fact := fa477 :: tb477
/-- studwork/lattice.Compose -/
def fa478 : Fact := ⟨7, [iv 4, iv 2], V.tup [iv 14, iv 0]⟩
def tb479 : List Fact := fa478 :: tb478
/-- studwork/lattice.Compose -/
def fa479 : Fact := ⟨7, [iv 4, iv 3], V.tup [iv 20, iv 0]⟩
def tb480 : List Fact := fa479 :: tb479
/-- studwork/lattice.Compose -/
def fa480 : Fact := ⟨7, [iv 4, iv 4], V.tup [iv 8, iv 0]⟩
def tb481 : List Fact := fa480 :: tb480
/-- studwork/lattice.Compose -/
def fa481 : Fact := ⟨7, [iv 4, iv 5], V.tup [iv 17, iv 0]⟩
def tb482 : List Fact := fa481 :: tb481
/-- studwork/lattice.Compose -/
def fa482 : Fact := ⟨7, [iv 4, iv 6], V.tup [iv 2, iv 0]⟩
def tb483 : List Fact := fa482 :: tb482
/-- studwork/lattice.Compose -/
def fa483 : Fact := ⟨7, [iv 4, iv 7], V.tup [iv 23, iv 0]⟩
def tb484 : List Fact := fa483 :: tb483
/-- studwork/lattice.Compose -/
def fa484 : Fact := ⟨7, [iv 4, iv 8], V.tup [iv 12, iv 0]⟩
def tb485 : List Fact := fa484 :: tb484
/-- studwork/lattice.Compose -/
def fa485 : Fact := ⟨7, [iv 4, iv 9], V.tup [iv 18, iv 0]⟩
def tb486 : List Fact := fa485 :: tb485
/-- studwork/lattice.Compose -/
def fa486 : Fact := ⟨7, [iv 4, iv 10], V.tup [iv 6, iv 0]⟩
def tb487 : List Fact := fa486 :: tb486
/-- studwork/lattice.Compose -/
def fa487 : Fact := ⟨7, [iv 4, iv 11], V.tup [iv 22, iv 0]⟩
def tb488 : List Fact := fa487 :: tb487
/-- studwork/lattice.Compose -/
def fa488 : Fact := ⟨7, [iv 4, iv 12], V.tup [iv 0, iv 0]⟩
def tb489 : List Fact := fa488 :: tb488
/-- studwork/lattice.Compose -/
def fa489 : Fact := ⟨7, [iv 4, iv 13], V.tup [iv 19, iv 0]⟩
def tb490 : List Fact := fa489 :: tb489
/-- studwork/lattice.Compose -/
def fa490 : Fact := ⟨7, [iv 4, iv 14], V.tup [iv 10, iv 0]⟩
def tb491 : List Fact := fa490 :: tb490
/-- studwork/lattice.Compose -/
def fa491 : Fact := ⟨7, [iv 4, iv 15], V.tup [iv 21, iv 0]⟩
def tb492 : List Fact := fa491 :: tb491
/-- studwork/lattice.Compose -/
def fa492 : Fact := ⟨7, [iv 4, iv 16], V.tup [iv 11, iv 0]⟩
def tb493 : List Fact := fa492 :: tb492
/-- studwork/lattice.Compose -/
def fa493 : Fact := ⟨7, [iv 4, iv 17], V.tup [iv 15, iv 0]⟩
def tb494 : List Fact := fa493 :: tb493
/-- studwork/lattice.Compose -/
def fa494 : Fact := ⟨7, [iv 4, iv 18], V.tup [iv 3, iv 0]⟩
def tb495 : List Fact := fa494 :: tb494
/-- studwork/lattice.Compose -/
def fa495 : Fact := ⟨7, [iv 4, iv 19], V.tup [iv 7, iv 0]⟩
def tb496 : List Fact := fa495 :: tb495
/-- studwork/lattice.Compose -/
def fa496 : Fact := ⟨7, [iv 4, iv 20], V.tup [iv 9, iv 0]⟩
def tb497 : List Fact := fa496 :: tb496
/-- studwork/lattice.Compose -/
def fa497 : Fact := ⟨7, [iv 4, iv 21], V.tup [iv 5, iv 0]⟩
def tb498 : List Fact := fa497 :: tb497
/-- studwork/lattice.Compose -/
def fa498 : Fact := ⟨7, [iv 4, iv 22], V.tup [iv 1, iv 0]⟩
def tb499 : List Fact := fa498 :: tb498
/-- studwork/lattice.Compose -/
def fa499 : Fact := ⟨7, [iv 4, iv 23], V.tup [iv 13, iv 0]⟩
def tb500 : List Fact := fa499 :: tb499
/-- studwork/lattice.Turn -/
def fa500 : Fact := ⟨26, [V.agg [iv 1, iv 2, iv 3], iv 5], V.tup [V.agg [iv (-2), iv (-3), iv 1], iv 0]⟩
def tb501 : List Fact := fa500 :: tb500
/-- studwork/lattice.turnBetween -/
def fa501 : Fact := ⟨35, [V.agg [iv (-2), iv (-3), iv 1], V.agg [iv 1, iv 2, iv 3]], iv 18⟩
def tb502 : List Fact := fa501 :: tb501
/-- studwork/lattice.Invert -/
def fa502 : Fact := ⟨8, [iv 5], V.tup [iv 18, iv 0]⟩
def tb503 : List Fact := fa502 :: tb502
/-- studwork/lattice.Compose -/
def fa503 : Fact := ⟨7, [iv 5, iv 0], V.tup [iv 5, iv 0]⟩
def tb504 : List Fact := fa503 :: tb503
/-- studwork/lattice.Compose -/
def fa504 : Fact := ⟨7, [iv 5, iv 1], V.tup [iv 17, iv 0]⟩
def tb505 : List Fact := fa504 :: tb504
/-- studwork/lattice.Compose -/
def fa505 : Fact := ⟨7, [iv 5, iv 2], V.tup [iv 15, iv 0]⟩
def tb506 : List Fact := fa505 :: tb505
/-- studwork/lattice.Compose -/
def fa506 : Fact := ⟨7, [iv 5, iv 3], V.tup [iv 21, iv 0]⟩
def tb507 : List Fact := fa506 :: tb506
/-- studwork/lattice.Compose -/
def fa507 : Fact := ⟨7, [iv 5, iv 4], V.tup [iv 9, iv 0]⟩
def tb508 : List Fact := fa507 :: tb507
/-- studwork/lattice.Compose -/
def fa508 : Fact := ⟨7, [iv 5, iv 5], V.tup [iv 18, iv 0]⟩
def tb509 : List Fact := fa508 :: tb508
/-- studwork/lattice.Compose -/
def fa509 : Fact := ⟨7, [iv 5, iv 6], V.tup [iv 3, iv 0]⟩
def tb510 : List Fact := fa509 :: tb509
/-- studwork/lattice.Compose -/
def fa510 : Fact := ⟨7, [iv 5, iv 7], V.tup [iv 20, iv 0]⟩
def tb511 : List Fact := fa510 :: tb510
/-- studwork/lattice.Compose -/
def fa511 : Fact := ⟨7, [iv 5, iv 8], V.tup [iv 13, iv 0]⟩
def tb512 : List Fact := fa511 :: tb511
/-- studwork/lattice.Compose -/
def fa512 : Fact := ⟨7, [iv 5, iv 9], V.tup [iv 19, iv 0]⟩
def tb513 : List Fact := fa512 :: tb512
/-- studwork/lattice.Compose -/
def fa513 : Fact := ⟨7, [iv 5, iv 10], V.tup [iv 7, iv 0]⟩
def tb514 : List Fact := fa513 :: tb513
/-- studwork/lattice.Compose -/
def fa514 : Fact := ⟨7, [iv 5, iv 11], V.tup [iv 23, iv 0]⟩
def tb515 : List Fact := fa514 :: tb514
/-- studwork/lattice.Compose -/
def fa515 : Fact := ⟨7, [iv 5, iv 12], V.tup [iv 1, iv 0]⟩
def tb516 : List Fact := fa515 :: tb515
/-- studwork/lattice.Compose -/
def fa516 : Fact := ⟨7, [iv 5, iv 13], V.tup [iv 16, iv 0]⟩
def tb517 : List Fact := fa516 :: tb516
/-- studwork/lattice.Compose -/
def fa517 : Fact := ⟨7, [iv 5, iv 14], V.tup [iv 11, iv 0]⟩
def tb518 : List Fact := fa517 :: tb517
/-- studwork/lattice.Compose -/
def fa518 : Fact := ⟨7, [iv 5, iv 15], V.tup [iv 22, iv 0]⟩
def tb519 : List Fact := fa518 :: tb518
/-- studwork/lattice.Compose -/
def fa519 : Fact := ⟨7, [iv 5, iv 16], V.tup [iv 8, iv 0]⟩
def tb520 : List Fact := fa519 :: tb519
/-- studwork/lattice.Compose -/
def fa520 : Fact := ⟨7, [iv 5, iv 17], V.tup [iv 12, iv 0]⟩
def tb521 : List Fact := fa520 :: tb520
/-- studwork/lattice.Compose -/
def fa521 : Fact := ⟨7, [iv 5, iv 18], V.tup [iv 0, iv 0]⟩
def tb522 : List Fact := fa521 :: tb521
/-- studwork/lattice.Compose -/
def fa522 : Fact := ⟨7, [iv 5, iv 19], V.tup [iv 4, iv 0]⟩
def tb523 : List Fact := fa522 :: tb522
/-- studwork/lattice.Compose -/
def fa523 : Fact := ⟨7, [iv 5, iv 20], V.tup [iv 10, iv 0]⟩
def tb524 : List Fact := fa523 :: tb523
/-- studwork/lattice.Compose -/
def fa524 : Fact := ⟨7, [iv 5, iv 21], V.tup [iv 6, iv 0]⟩
def tb525 : List Fact := fa524 :: tb524
/-- studwork/lattice.Compose -/
def fa525 : Fact := ⟨7, [iv 5, iv 22], V.tup [iv 2, iv 0]⟩
def tb526 : List Fact := fa525 :: tb525
/-- studwork/lattice.Compose -/
def fa526 : Fact := ⟨7, [iv 5, iv 23], V.tup [iv 14, iv 0]⟩
def tb527 : List Fact := fa526 :: tb526
/-- studwork/lattice.Turn -/
def fa527 : Fact := ⟨26, [V.agg [iv 1, iv 2, iv 3], iv 6], V.tup [V.agg [iv (-1), iv (-3), iv (-2)], iv 0]⟩
def tb528 : List Fact := fa527 :: tb527
/-- studwork/lattice.turnBetween -/
def fa528 : Fact := ⟨35, [V.agg [iv (-1), iv (-3), iv (-2)], V.agg [iv 1, iv 2, iv 3]], iv 6⟩
def tb529 : List Fact := fa528 :: tb528
/-- studwork/lattice.Invert -/
def fa529 : Fact := ⟨8, [iv 6], V.tup [iv 6, iv 0]⟩
def tb530 : List Fact := fa529 :: tb529
/-- studwork/lattice.Compose -/
def fa530 : Fact := ⟨7, [iv 6, iv 0], V.tup [iv 6, iv 0]⟩
def tb531 : List Fact := fa530 :: tb530
/-- studwork/lattice.Compose -/
def fa531 : Fact := ⟨7, [iv 6, iv 1], V.tup [iv 18, iv 0]⟩
def tb532 : List Fact := fa531 :: tb531
/-- studwork/lattice.Compose -/
def fa532 : Fact := ⟨7, [iv 6, iv 2], V.tup [iv 12, iv 0]⟩
def tb533 : List Fact := fa532 :: tb532
/-- studwork/lattice.Compose -/
def fa533 : Fact := ⟨7, [iv 6, iv 3], V.tup [iv 22, iv 0]⟩
def tb534 : List Fact := fa533 :: tb533
/-- studwork/lattice.Compose -/
def fa534 : Fact := ⟨7, [iv 6, iv 4], V.tup [iv 10, iv 0]⟩
def tb535 : List Fact := fa534 :: tb534
/-- studwork/lattice.Compose -/
def fa535 : Fact := ⟨7, [iv 6, iv 5], V.tup [iv 19, iv 0]⟩
def tb536 : List Fact := fa535 :: tb535
/-- studwork/lattice.Compose -/
def fa536 : Fact := ⟨7, [iv 6, iv 6], V.tup [iv 0, iv 0]⟩
def tb537 : List Fact := fa536 :: tb536
/-- studwork/lattice.Compose -/
def fa537 : Fact := ⟨7, [iv 6, iv 7], V.tup [iv 21, iv 0]⟩
def tb538 : List Fact := fa537 :: tb537
/-- studwork/lattice.Compose -/
def fa538 : Fact := ⟨7, [iv 6, iv 8], V.tup [iv 14, iv 0]⟩
def tb539 : List Fact := fa538 :: tb538
/-- studwork/lattice.Compose -/
def fa539 : Fact := ⟨7, [iv 6, iv 9], V.tup [iv 16, iv 0]⟩
def tb540 : List Fact := fa539 :: tb539
/-- studwork/lattice.Compose -/
def fa540 : Fact := ⟨7, [iv 6, iv 10], V.tup [iv 4, iv 0]⟩
def tb541 : List Fact := fa540 :: tb540
/-- studwork/lattice.Compose -/
def fa541 : Fact := ⟨7, [iv 6, iv 11], V.tup [iv 20, iv 0]⟩
def tb542 : List Fact := fa541 :: tb541
/-- studwork/lattice.Compose -/
def fa542 : Fact := ⟨7, [iv 6, iv 12], V.tup [iv 2, iv 0]⟩
def tb543 : List Fact := fa542 :: tb542
/-- studwork/lattice.Compose -/
def fa543 : Fact := ⟨7, [iv 6, iv 13], V.tup [iv 17, iv 0]⟩
def tb544 : List Fact := fa543 :: tb543
/-- studwork/lattice.Compose -/
def fa544 : Fact := ⟨7, [iv 6, iv 14], V.tup [iv 8, iv 0]⟩
def tb545 : List Fact := fa544 :: tb544
/-- studwork/lattice.Compose -/
def fa545 : Fact := ⟨7, [iv 6, iv 15], V.tup [iv 23, iv 0]⟩
def tb546 : List Fact := fa545 :: tb545
/-- studwork/lattice.Compose -/
def fa546 : Fact := ⟨7, [iv 6, iv 16], V.tup [iv 9, iv 0]⟩
def tb547 : List Fact := fa546 :: tb546
/-- studwork/lattice.Compose -/
def fa547 : Fact := ⟨7, [iv 6, iv 17], V.tup [iv 13, iv 0]⟩
def tb548 : List Fact := fa547 :: tb547
/-- studwork/lattice.Compose -/
def fa548 : Fact := ⟨7, [iv 6, iv 18], V.tup [iv 1, iv 0]⟩
def tb549 : List Fact := fa548 :: tb548
/-- studwork/lattice.Compose -/
def fa549 : Fact := ⟨7, [iv 6, iv 19], V.tup [iv 5, iv 0]⟩
def tb550 : List Fact := fa549 :: tb549
/-- studwork/lattice.Compose -/
def fa550 : Fact := ⟨7, [iv 6, iv 20], V.tup [iv 11, iv 0]⟩
def tb551 : List Fact := fa550 :: tb550
/-- studwork/lattice.Compose -/
def fa551 : Fact := ⟨7, [iv 6, iv 21], V.tup [iv 7, iv 0]⟩
def tb552 : List Fact := fa551 :: tb551
/-- studwork/lattice.Compose -/
def fa552 : Fact := ⟨7, [iv 6, iv 22], V.tup [iv 3, iv 0]⟩
def tb553 : List Fact := fa552 :: tb552
/-- studwork/lattice.Compose -/
def fa553 : Fact := ⟨7, [iv 6, iv 23], V.tup [iv 15, iv 0]⟩
def tb554 : List Fact := fa553 :: tb553
/-- studwork/lattice.Turn -/
def fa554 : Fact := ⟨26, [V.agg [iv 1, iv 2, iv 3], iv 7], V.tup [V.agg [iv 2, iv (-3), iv (-1)], iv 0]⟩
def tb555 : List Fact := fa554 :: tb554
/-- studwork/lattice.turnBetween -/
def fa555 : Fact := ⟨35, [V.agg [iv 2, iv (-3), iv (-1)], V.agg [iv 1, iv 2, iv 3]], iv 22⟩
def tb556 : List Fact := fa555 :: tb555
/-- studwork/lattice.Invert -/
def fa556 : Fact := ⟨8, [iv 7], V.tup [iv 22, iv 0]⟩
def tb557 : List Fact := fa556 :: tb556
/-- studwork/lattice.Compose -/
def fa557 : Fact := ⟨7, [iv 7, iv 0], V.tup [iv 7, iv 0]⟩
def tb558 : List Fact := fa557 :: tb557
/-- studwork/lattice.Compose -/
def fa558 : Fact := ⟨7, [iv 7, iv 1], V.tup [iv 19, iv 0]⟩
def tb559 : List Fact := fa558 :: tb558
/-- studwork/lattice.Compose -/
def fa559 : Fact := ⟨7, [iv 7, iv 2], V.tup [iv 13, iv 0]⟩
def tb560 : List Fact := fa559 :: tb559
/-- studwork/lattice.Compose -/
def fa560 : Fact := ⟨7, [iv 7, iv 3], V.tup [iv 23, iv 0]⟩
def tb561 : List Fact := fa560 :: tb560
/-- studwork/lattice.Compose -/
def fa561 : Fact := ⟨7, [iv 7, iv 4], V.tup [iv 11, iv 0]⟩
def tb562 : List Fact := fa561 :: tb561
/-- studwork/lattice.Compose -/
def fa562 : Fact := ⟨7, [iv 7, iv 5], V.tup [iv 16, iv 0]⟩
def tb563 : List Fact := fa562 :: tb562
/-- studwork/lattice.Compose -/
def fa563 : Fact := ⟨7, [iv 7, iv 6], V.tup [iv 1, iv 0]⟩
def tb564 : List Fact := fa563 :: tb563
/-- studwork/lattice.Compose -/
def fa564 : Fact := ⟨7, [iv 7, iv 7], V.tup [iv 22, iv 0]⟩
def tb565 : List Fact := fa564 :: tb564
/-- studwork/lattice.Compose -/
def fa565 : Fact := ⟨7, [iv 7, iv 8], V.tup [iv 15, iv 0]⟩
def tb566 : List Fact := fa565 :: tb565
/-- studwork/lattice.Compose -/
def fa566 : Fact := ⟨7, [iv 7, iv 9], V.tup [iv 17, iv 0]⟩
def tb567 : List Fact := fa566 :: tb566
/-- studwork/lattice.Compose -/
def fa567 : Fact := ⟨7, [iv 7, iv 10], V.tup [iv 5, iv 0]⟩
def tb568 : List Fact := fa567 :: tb567
/-- studwork/lattice.Compose -/
def fa568 : Fact := ⟨7, [iv 7, iv 11], V.tup [iv 21, iv 0]⟩
def tb569 : List Fact := fa568 :: tb568
/-- studwork/lattice.Compose -/
def fa569 : Fact := ⟨7, [iv 7, iv 12], V.tup [iv 3, iv 0]⟩
def tb570 : List Fact := fa569 :: tb569
/-- studwork/lattice.Compose -/
def fa570 : Fact := ⟨7, [iv 7, iv 13], V.tup [iv 18, iv 0]⟩
def tb571 : List Fact := fa570 :: tb570
/-- studwork/lattice.Compose -/
def fa571 : Fact := ⟨7, [iv 7, iv 14], V.tup [iv 9, iv 0]⟩
def tb572 : List Fact := fa571 :: tb571
/-- studwork/lattice.Compose -/
def fa572 : Fact := ⟨7, [iv 7, iv 15], V.tup [iv 20, iv 0]⟩
def tb573 : List Fact := fa572 :: tb572
/-- studwork/lattice.Compose -/
def fa573 : Fact := ⟨7, [iv 7, iv 16], V.tup [iv 10, iv 0]⟩
def tb574 : List Fact := fa573 :: tb573
/-- studwork/lattice.Compose -/
def fa574 : Fact := ⟨7, [iv 7, iv 17], V.tup [iv 14, iv 0]⟩
def tb575 : List Fact := fa574 :: tb574
/-- studwork/lattice.Compose -/
def fa575 : Fact := ⟨7, [iv 7, iv 18], V.tup [iv 2, iv 0]⟩
def tb576 : List Fact := fa575 :: tb575
/-- studwork/lattice.Compose -/
def fa576 : Fact := ⟨7, [iv 7, iv 19], V.tup [iv 6, iv 0]⟩
def tb577 : List Fact := fa576 :: tb576
/-- studwork/lattice.Compose -/
def fa577 : Fact := ⟨7, [iv 7, iv 20], V.tup [iv 8, iv 0]⟩
def tb578 : List Fact := fa577 :: tb577
/-- studwork/lattice.Compose -/
def fa578 : Fact := ⟨7, [iv 7, iv 21], V.tup [iv 4, iv 0]⟩
def tb579 : List Fact := fa578 :: tb578
/-- studwork/lattice.Compose -/
def fa579 : Fact := ⟨7, [iv 7, iv 22], V.tup [iv 0, iv 0]⟩
def tb580 : List Fact := fa579 :: tb579
/-- studwork/lattice.Compose -/
def fa580 : Fact := ⟨7, [iv 7, iv 23], V.tup [iv 12, iv 0]⟩
def tb581 : List Fact := fa580 :: tb580
/-- studwork/lattice.Turn -/
def fa581 : Fact := ⟨26, [V.agg [iv 1, iv 2, iv 3], iv 8], V.tup [V.agg [iv 1, iv (-2), iv (-3)], iv 0]⟩
def tb582 : List Fact := fa581 :: tb581
/-- studwork/lattice.turnBetween -/
def fa582 : Fact := ⟨35, [V.agg [iv 1, iv (-2), iv (-3)], V.agg [iv 1, iv 2, iv 3]], iv 8⟩
def tb583 : List Fact := fa582 :: tb582
/-- studwork/lattice.Invert -/
def fa583 : Fact := ⟨8, [iv 8], V.tup [iv 8, iv 0]⟩
def tb584 : List Fact := fa583 :: tb583
/-- studwork/lattice.Compose -/
def fa584 : Fact := ⟨7, [iv 8, iv 0], V.tup [iv 8, iv 0]⟩
def tb585 : List Fact := fa584 :: tb584
/-- studwork/lattice.Compose -/
def fa585 : Fact := ⟨7, [iv 8, iv 1], V.tup [iv 11, iv 0]⟩
def tb586 : List Fact := fa585 :: tb585
/-- studwork/lattice.Compose -/
def fa586 : Fact := ⟨7, [iv 8, iv 2], V.tup [iv 10, iv 0]⟩
def tb587 : List Fact := fa586 :: tb586
/-- studwork/lattice.Compose -/
def fa587 : Fact := ⟨7, [iv 8, iv 3], V.tup [iv 9, iv 0]⟩
def tb588 : List Fact := fa587 :: tb587
/-- studwork/lattice.Compose -/
def fa588 : Fact := ⟨7, [iv 8, iv 4], V.tup [iv 12, iv 0]⟩
def tb589 : List Fact := fa588 :: tb588
/-- studwork/lattice.Compose -/
def fa589 : Fact := ⟨7, [iv 8, iv 5], V.tup [iv 15, iv 0]⟩
def tb590 : List Fact := fa589 :: tb589
/-- studwork/lattice.Compose -/
def fa590 : Fact := ⟨7, [iv 8, iv 6], V.tup [iv 14, iv 0]⟩
def tb591 : List Fact := fa590 :: tb590
/-- studwork/lattice.Compose -/
def fa591 : Fact := ⟨7, [iv 8, iv 7], V.tup [iv 13, iv 0]⟩
def tb592 : List Fact := fa591 :: tb591
/-- studwork/lattice.Compose -/
def fa592 : Fact := ⟨7, [iv 8, iv 8], V.tup [iv 0, iv 0]⟩
def tb593 : List Fact := fa592 :: tb592
/-- studwork/lattice.Compose -/
def fa593 : Fact := ⟨7, [iv 8, iv 9], V.tup [iv 3, iv 0]⟩
def tb594 : List Fact := fa593 :: tb593
/-- studwork/lattice.Compose -/
def fa594 : Fact := ⟨7, [iv 8, iv 10], V.tup [iv 2, iv 0]⟩
def tb595 : List Fact := fa594 :: tb594
/-- studwork/lattice.Compose -/
def fa595 : Fact := ⟨7, [iv 8, iv 11], V.tup [iv 1, iv 0]⟩
def tb596 : List Fact := fa595 :: tb595
/-- studwork/lattice.Compose -/
def fa596 : Fact := ⟨7, [iv 8, iv 12], V.tup [iv 4, iv 0]⟩
def tb597 : List Fact := fa596 :: tb596
/-- studwork/lattice.Compose -/
def fa597 : Fact := ⟨7, [iv 8, iv 13], V.tup [iv 7, iv 0]⟩
def tb598 : List Fact := fa597 :: tb597
/-- studwork/lattice.Compose -/
def fa598 : Fact := ⟨7, [iv 8, iv 14], V.tup [iv 6, iv 0]⟩
def tb599 : List Fact := fa598 :: tb598
/-- studwork/lattice.Compose -/
def fa599 : Fact := ⟨7, [iv 8, iv 15], V.tup [iv 5, iv 0]⟩
def tb600 : List Fact := fa599 :: tb599
/-- studwork/lattice.Compose -/
def fa600 : Fact := ⟨7, [iv 8, iv 16], V.tup [iv 22, iv 0]⟩
def tb601 : List Fact := fa600 :: tb600
/-- studwork/lattice.Compose -/
def fa601 : Fact := ⟨7, [iv 8, iv 17], V.tup [iv 21, iv 0]⟩
def tb602 : List Fact := fa601 :: tb601
/-- studwork/lattice.Compose -/
def fa602 : Fact := ⟨7, [iv 8, iv 18], V.tup [iv 20, iv 0]⟩
def tb603 : List Fact := fa602 :: tb602
/-- studwork/lattice.Compose -/
def fa603 : Fact := ⟨7, [iv 8, iv 19], V.tup [iv 23, iv 0]⟩
def tb604 : List Fact := fa603 :: tb603
/-- studwork/lattice.Compose -/
def fa604 : Fact := ⟨7, [iv 8, iv 20], V.tup [iv 18, iv 0]⟩
def tb605 : List Fact := fa604 :: tb604
/-- studwork/lattice.Compose -/
def fa605 : Fact := ⟨7, [iv 8, iv 21], V.tup [iv 17, iv 0]⟩
def tb606 : List Fact := fa605 :: tb605
/-- studwork/lattice.Compose -/
def fa606 : Fact := ⟨7, [iv 8, iv 22], V.tup [iv 16, iv 0]⟩
def tb607 : List Fact := fa606 :: tb606
/-- studwork/lattice.Compose -/
def fa607 : Fact := ⟨7, [iv 8, iv 23], V.tup [iv 19, iv 0]⟩
def tb608 : List Fact := fa607 :: tb607
/-- studwork/lattice.Turn -/
def fa608 : Fact := ⟨26, [V.agg [iv 1, iv 2, iv 3], iv 9], V.tup [V.agg [iv (-2), iv (-1), iv (-3)], iv 0]⟩
def tb609 : List Fact := fa608 :: tb608
/-- studwork/lattice.turnBetween -/
def fa609 : Fact := ⟨35, [V.agg [iv (-2), iv (-1), iv (-3)], V.agg [iv 1, iv 2, iv 3]], iv 9⟩
def tb610 : List Fact := fa609 :: tb609
/-- studwork/lattice.Invert -/
def fa610 : Fact := ⟨8, [iv 9], V.tup [iv 9, iv 0]⟩
def tb611 : List Fact := fa610 :: tb610
/-- studwork/lattice.Compose -/
def fa611 : Fact := ⟨7, [iv 9, iv 0], V.tup [iv 9, iv 0]⟩
def tb612 : List Fact := fa611 :: tb611
/-- studwork/lattice.Compose -/
def fa612 : Fact := ⟨7, [iv 9, iv 1], V.tup [iv 8, iv 0]⟩
def tb613 : List Fact := fa612 :: tb612
/-- studwork/lattice.Compose -/
def fa613 : Fact := ⟨7, [iv 9, iv 2], V.tup [iv 11, iv 0]⟩
def tb614 : List Fact := fa613 :: tb613
/-- studwork/lattice.Compose -/
def fa614 : Fact := ⟨7, [iv 9, iv 3], V.tup [iv 10, iv 0]⟩
def tb615 : List Fact := fa614 :: tb614
/-- studwork/lattice.Compose -/
def fa615 : Fact := ⟨7, [iv 9, iv 4], V.tup [iv 13, iv 0]⟩
def tb616 : List Fact := fa615 :: tb615
/-- studwork/lattice.Compose -/
def fa616 : Fact := ⟨7, [iv 9, iv 5], V.tup [iv 12, iv 0]⟩
def tb617 : List Fact := fa616 :: tb616
/-- studwork/lattice.Compose -/
def fa617 : Fact := ⟨7, [iv 9, iv 6], V.tup [iv 15, iv 0]⟩
def tb618 : List Fact := fa617 :: tb617
/-- studwork/lattice.Compose -/
def fa618 : Fact := ⟨7, [iv 9, iv 7], V.tup [iv 14, iv 0]⟩
def tb619 : List Fact := fa618 :: tb618
/-- studwork/lattice.Compose -/
def fa619 : Fact := ⟨7, [iv 9, iv 8], V.tup [iv 1, iv 0]⟩
def tb620 : List Fact := fa619 :: tb619
/-- studwork/lattice.Compose -/
def fa620 : Fact := ⟨7, [iv 9, iv 9], V.tup [iv 0, iv 0]⟩
def tb621 : List Fact := fa620 :: tb620
/-- studwork/lattice.Compose -/
def fa621 : Fact := ⟨7, [iv 9, iv 10], V.tup [iv 3, iv 0]⟩
def tb622 : List Fact := fa621 :: tb621
/-- studwork/lattice.Compose -/
def fa622 : Fact := ⟨7, [iv 9, iv 11], V.tup [iv 2, iv 0]⟩
def tb623 : List Fact := fa622 :: tb622
/-- studwork/lattice.Compose -/
def fa623 : Fact := ⟨7, [iv 9, iv 12], V.tup [iv 5, iv 0]⟩
def tb624 : List Fact := fa623 :: tb623
/-- studwork/lattice.Compose -/
def fa624 : Fact := ⟨7, [iv 9, iv 13], V.tup [iv 4, iv 0]⟩
def tb625 : List Fact := fa624 :: tb624
/-- studwork/lattice.Compose -/
def fa625 : Fact := ⟨7, [iv 9, iv 14], V.tup [iv 7, iv 0]⟩
def tb626 : List Fact := fa625 :: tb625
/-- studwork/lattice.Compose -/
def fa626 : Fact := ⟨7, [iv 9, iv 15], V.tup [iv 6, iv 0]⟩
def tb627 : List Fact := fa626 :: tb626
/-- studwork/lattice.Compose -/
def fa627 : Fact := ⟨7, [iv 9, iv 16], V.tup [iv 23, iv 0]⟩
def tb628 : List Fact := fa627 :: tb627
/-- studwork/lattice.Compose -/
def fa628 : Fact := ⟨7, [iv 9, iv 17], V.tup [iv 22, iv 0]⟩
def tb629 : List Fact := fa628 :: tb628
/-- studwork/lattice.Compose -/
def fa629 : Fact := ⟨7, [iv 9, iv 18], V.tup [iv 21, iv 0]⟩
def tb630 : List Fact := fa629 :: tb629
/-- studwork/lattice.Compose -/
def fa630 : Fact := ⟨7, [iv 9, iv 19], V.tup [iv 20, iv 0]⟩
def tb631 : List Fact := fa630 :: tb630
/-- studwork/lattice.Compose -/
def fa631 : Fact := ⟨7, [iv 9, iv 20], V.tup [iv 19, iv 0]⟩
def tb632 : List Fact := fa631 :: tb631
/-- studwork/lattice.Compose -/
def fa632 : Fact := ⟨7, [iv 9, iv 21], V.tup [iv 18, iv 0]⟩
def tb633 : List Fact := fa632 :: tb632
/-- studwork/lattice.Compose -/
def fa633 : Fact := ⟨7, [iv 9, iv 22], V.tup [iv 17, iv 0]⟩
def tb634 : List Fact := fa633 :: tb633
/-- studwork/lattice.Compose -/
def fa634 : Fact := ⟨7, [iv 9, iv 23], V.tup [iv 16, iv 0]⟩
def tb635 : List Fact := fa634 :: tb634
/-- studwork/lattice.Turn -/
def fa635 : Fact := ⟨26, [V.agg [iv 1, iv 2, iv 3], iv 10], V.tup [V.agg [iv (-1), iv 2, iv (-3)], iv 0]⟩
def tb636 : List Fact := fa635 :: tb635
/-- studwork/lattice.turnBetween -/
def fa636 : Fact := ⟨35, [V.agg [iv (-1), iv 2, iv (-3)], V.agg [iv 1, iv 2, iv 3]], iv 10⟩
def tb637 : List Fact := fa636 :: tb636
/-- studwork/lattice.Invert -/
def fa637 : Fact := ⟨8, [iv 10], V.tup [iv 10, iv 0]⟩
def tb638 : List Fact := fa637 :: tb637
/-- studwork/lattice.Compose -/
def fa638 : Fact := ⟨7, [iv 10, iv 0], V.tup [iv 10, iv 0]⟩
def tb639 : List Fact := fa638 :: tb638
/-- studwork/lattice.Compose -/
def fa639 : Fact := ⟨7, [iv 10, iv 1], V.tup [iv 9, iv 0]⟩
def tb640 : List Fact := fa639 :: tb639
/-- studwork/lattice.Compose -/
def fa640 : Fact := ⟨7, [iv 10, iv 2], V.tup [iv 8, iv 0]⟩
def tb641 : List Fact := fa640 :: tb640
/-- studwork/lattice.Compose -/
def fa641 : Fact := ⟨7, [iv 10, iv 3], V.tup [iv 11, iv 0]⟩
def tb642 : List Fact := fa641 :: tb641
/-- studwork/lattice.Compose -/
def fa642 : Fact := ⟨7, [iv 10, iv 4], V.tup [iv 14, iv 0]⟩
def tb643 : List Fact := fa642 :: tb642
/-- studwork/lattice.Compose -/
def fa643 : Fact := ⟨7, [iv 10, iv 5], V.tup [iv 13, iv 0]⟩
def tb644 : List Fact := fa643 :: tb643
/-- studwork/lattice.Compose -/
def fa644 : Fact := ⟨7, [iv 10, iv 6], V.tup [iv 12, iv 0]⟩
def tb645 : List Fact := fa644 :: tb644
/-- studwork/lattice.Compose -/
def fa645 : Fact := ⟨7, [iv 10, iv 7], V.tup [iv 15, iv 0]⟩
def tb646 : List Fact := fa645 :: tb645
/-- studwork/lattice.Compose -/
def fa646 : Fact := ⟨7, [iv 10, iv 8], V.tup [iv 2, iv 0]⟩
def tb647 : List Fact := fa646 :: tb646
/-- studwork/lattice.Compose -/
def fa647 : Fact := ⟨7, [iv 10, iv 9], V.tup [iv 1, iv 0]⟩
def tb648 : List Fact := fa647 :: tb647
/-- studwork/lattice.Compose -/
def fa648 : Fact := ⟨7, [iv 10, iv 10], V.tup [iv 0, iv 0]⟩
def tb649 : List Fact := fa648 :: tb648
/-- studwork/lattice.Compose -/
def fa649 : Fact := ⟨7, [iv 10, iv 11], V.tup [iv 3, iv 0]⟩
def tb650 : List Fact := fa649 :: tb649
/-- studwork/lattice.Compose -/
def fa650 : Fact := ⟨7, [iv 10, iv 12], V.tup [iv 6, iv 0]⟩
def tb651 : List Fact := fa650 :: tb650
/-- studwork/lattice.Compose -/
def fa651 : Fact := ⟨7, [iv 10, iv 13], V.tup [iv 5, iv 0]⟩
def tb652 : List Fact := fa651 :: tb651
/-- studwork/lattice.Compose -/
def fa652 : Fact := ⟨7, [iv 10, iv 14], V.tup [iv 4, iv 0]⟩
def tb653 : List Fact := fa652 :: tb652
/-- studwork/lattice.Compose -/
def fa653 : Fact := ⟨7, [iv 10, iv 15], V.tup [iv 7, iv 0]⟩
def tb654 : List Fact := fa653 :: tb653
/-- studwork/lattice.Compose -/
def fa654 : Fact := ⟨7, [iv 10, iv 16], V.tup [iv 20, iv 0]⟩
def tb655 : List Fact := fa654 :: tb654
/-- studwork/lattice.Compose -/
def fa655 : Fact := ⟨7, [iv 10, iv 17], V.tup [iv 23, iv 0]⟩
def tb656 : List Fact := fa655 :: tb655
/-- studwork/lattice.Compose -/
def fa656 : Fact := ⟨7, [iv 10, iv 18], V.tup [iv 22, iv 0]⟩
def tb657 : List Fact := fa656 :: tb656
/-- studwork/lattice.Compose -/
def fa657 : Fact := ⟨7, [iv 10, iv 19], V.tup [iv 21, iv 0]⟩
def tb658 : List Fact := fa657 :: tb657
/-- studwork/lattice.Compose -/
def fa658 : Fact := ⟨7, [iv 10, iv 20], V.tup [iv 16, iv 0]⟩
def tb659 : List Fact := fa658 :: tb658
/-- studwork/lattice.Compose -/
def fa659 : Fact := ⟨7, [iv 10, iv 21], V.tup [iv 19, iv 0]⟩
def tb660 : List Fact := fa659 :: tb659
/-- studwork/lattice.Compose -/
def fa660 : Fact := ⟨7, [iv 10, iv 22], V.tup [iv 18, iv 0]⟩
def tb661 : List Fact := fa660 :: tb660
/-- studwork/lattice.Compose -/
def fa661 : Fact := ⟨7, [iv 10, iv 23], V.tup [iv 17, iv 0]⟩
def tb662 : List Fact := fa661 :: tb661
/-- studwork/lattice.Turn -/
def fa662 : Fact := ⟨26, [V.agg [iv 1, iv 2, iv 3], iv 11], V.tup [V.agg [iv 2, iv 1, iv (-3)], iv 0]⟩
def tb663 : List Fact := fa662 :: tb662
/-- studwork/lattice.turnBetween -/
def fa663 : Fact := ⟨35, [V.agg [iv 2, iv 1, iv (-3)], V.agg [iv 1, iv 2, iv 3]], iv 11⟩
def tb664 : List Fact := fa663 :: tb663
/-- studwork/lattice.Invert -/
def fa664 : Fact := ⟨8, [iv 11], V.tup [iv 11, iv 0]⟩
def tb665 : List Fact := fa664 :: tb664
/-- studwork/lattice.Compose -/
def fa665 : Fact := ⟨7, [iv 11, iv 0], V.tup [iv 11, iv 0]⟩
def tb666 : List Fact := fa665 :: tb665
/-- studwork/lattice.Compose -/
def fa666 : Fact := ⟨7, [iv 11, iv 1], V.tup [iv 10, iv 0]⟩
def tb667 : List Fact := fa666 :: tb666
/-- studwork/lattice.Compose -/
def fa667 : Fact := ⟨7, [iv 11, iv 2], V.tup [iv 9, iv 0]⟩
def tb668 : List Fact := fa667 :: tb667
/-- studwork/lattice.Compose -/
def fa668 : Fact := ⟨7, [iv 11, iv 3], V.tup [iv 8, iv 0]⟩
def tb669 : List Fact := fa668 :: tb668
/-- studwork/lattice.Compose -/
def fa669 : Fact := ⟨7, [iv 11, iv 4], V.tup [iv 15, iv 0]⟩
def tb670 : List Fact := fa669 :: tb669
/-- studwork/lattice.Compose -/
def fa670 : Fact := ⟨7, [iv 11, iv 5], V.tup [iv 14, iv 0]⟩
def tb671 : List Fact := fa670 :: tb670
/-- studwork/lattice.Compose -/
def fa671 : Fact := ⟨7, [iv 11, iv 6], V.tup [iv 13, iv 0]⟩
def tb672 : List Fact := fa671 :: tb671
/-- studwork/lattice.Compose -/
def fa672 : Fact := ⟨7, [iv 11, iv 7], V.tup [iv 12, iv 0]⟩
def tb673 : List Fact := fa672 :: tb672
/-- studwork/lattice.Compose -/
def fa673 : Fact := ⟨7, [iv 11, iv 8], V.tup [iv 3, iv 0]⟩
def tb674 : List Fact := fa673 :: tb673
/-- studwork/lattice.Compose -/
def fa674 : Fact := ⟨7, [iv 11, iv 9], V.tup [iv 2, iv 0]⟩
def tb675 : List Fact := fa674 :: tb674
/-- studwork/lattice.Compose -/
def fa675 : Fact := ⟨7, [iv 11, iv 10], V.tup [iv 1, iv 0]⟩
def tb676 : List Fact := fa675 :: tb675
/-- studwork/lattice.Compose -/
def fa676 : Fact := ⟨7, [iv 11, iv 11], V.tup [iv 0, iv 0]⟩
def tb677 : List Fact := fa676 :: tb676
/-- studwork/lattice.Compose -/
def fa677 : Fact := ⟨7, [iv 11, iv 12], V.tup [iv 7, iv 0]⟩
def tb678 : List Fact := fa677 :: tb677
/-- studwork/lattice.Compose -/
def fa678 : Fact := ⟨7, [iv 11, iv 13], V.tup [iv 6, iv 0]⟩
def tb679 : List Fact := fa678 :: tb678
/-- studwork/lattice.Compose -/
def fa679 : Fact := ⟨7, [iv 11, iv 14], V.tup [iv 5, iv 0]⟩
def tb680 : List Fact := fa679 :: tb679
/-- studwork/lattice.Compose -/
def fa680 : Fact := ⟨7, [iv 11, iv 15], V.tup [iv 4, iv 0]⟩
def tb681 : List Fact := fa680 :: tb680
/-- studwork/lattice.Compose -/
def fa681 : Fact := ⟨7, [iv 11, iv 16], V.tup [iv 21, iv 0]⟩
def tb682 : List Fact := fa681 :: tb681
/-- studwork/lattice.Compose -/
def fa682 : Fact := ⟨7, [iv 11, iv 17], V.tup [iv 20, iv 0]⟩
def tb683 : List Fact := fa682 :: tb682
/-- studwork/lattice.Compose -/
def fa683 : Fact := ⟨7, [iv 11, iv 18], V.tup [iv 23, iv 0]⟩
def tb684 : List Fact := fa683 :: tb683
/-- studwork/lattice.Compose -/
def fa684 : Fact := ⟨7, [iv 11, iv 19], V.tup [iv 22, iv 0]⟩
def tb685 : List Fact := fa684 :: tb684
/-- studwork/lattice.Compose -/
def fa685 : Fact := ⟨7, [iv 11, iv 20], V.tup [iv 17, iv 0]⟩
def tb686 : List Fact := fa685 :: tb685
/-- studwork/lattice.Compose -/
def fa686 : Fact := ⟨7, [iv 11, iv 21], V.tup [iv 16, iv 0]⟩
def tb687 : List Fact := fa686 :: tb686
/-- studwork/lattice.Compose -/
def fa687 : Fact := ⟨7, [iv 11, iv 22], V.tup [iv 19, iv 0]⟩
def tb688 : List Fact := fa687 :: tb687
/-- studwork/lattice.Compose -/
def fa688 : Fact := ⟨7, [iv 11, iv 23], V.tup [iv 18, iv 0]⟩
def tb689 : List Fact := fa688 :: tb688
/-- studwork/lattice.Turn -/
def fa689 : Fact := ⟨26, [V.agg [iv 1, iv 2, iv 3], iv 12], V.tup [V.agg [iv 1, iv 3, iv (-2)], iv 0]⟩
def tb690 : List Fact := fa689 :: tb689
/-- studwork/lattice.turnBetween -/
def fa690 : Fact := ⟨35, [V.agg [iv 1, iv 3, iv (-2)], V.agg [iv 1, iv 2, iv 3]], iv 4⟩
def tb691 : List Fact := fa690 :: tb690
/-- studwork/lattice.Invert -/
def fa691 : Fact := ⟨8, [iv 12], V.tup [iv 4, iv 0]⟩
def tb692 : List Fact := fa691 :: tb691
/-- studwork/lattice.Compose -/
def fa692 : Fact := ⟨7, [iv 12, iv 0], V.tup [iv 12, iv 0]⟩
def tb693 : List Fact := fa692 :: tb692
/-- studwork/lattice.Compose -/
def fa693 : Fact := ⟨7, [iv 12, iv 1], V.tup [iv 22, iv 0]⟩
def tb694 : List Fact := fa693 :: tb693
/-- studwork/lattice.Compose -/
def fa694 : Fact := ⟨7, [iv 12, iv 2], V.tup [iv 6, iv 0]⟩
def tb695 : List Fact := fa694 :: tb694
/-- studwork/lattice.Compose -/
def fa695 : Fact := ⟨7, [iv 12, iv 3], V.tup [iv 18, iv 0]⟩
def tb696 : List Fact := fa695 :: tb695
/-- studwork/lattice.Compose -/
def fa696 : Fact := ⟨7, [iv 12, iv 4], V.tup [iv 0, iv 0]⟩
def tb697 : List Fact := fa696 :: tb696
/-- studwork/lattice.Compose -/
def fa697 : Fact := ⟨7, [iv 12, iv 5], V.tup [iv 21, iv 0]⟩
def tb698 : List Fact := fa697 :: tb697
/-- studwork/lattice.Compose -/
def fa698 : Fact := ⟨7, [iv 12, iv 6], V.tup [iv 10, iv 0]⟩
def tb699 : List Fact := fa698 :: tb698
/-- studwork/lattice.Compose -/
def fa699 : Fact := ⟨7, [iv 12, iv 7], V.tup [iv 19, iv 0]⟩
def tb700 : List Fact := fa699 :: tb699
/-- studwork/lattice.Compose -/
def fa700 : Fact := ⟨7, [iv 12, iv 8], V.tup [iv 4, iv 0]⟩
def tb701 : List Fact := fa700 :: tb700
/-- studwork/lattice.Compose -/
def fa701 : Fact := ⟨7, [iv 12, iv 9], V.tup [iv 20, iv 0]⟩
def tb702 : List Fact := fa701 :: tb701
/-- studwork/lattice.Compose -/
def fa702 : Fact := ⟨7, [iv 12, iv 10], V.tup [iv 14, iv 0]⟩
def tb703 : List Fact := fa702 :: tb702
/-- studwork/lattice.Compose -/
def fa703 : Fact := ⟨7, [iv 12, iv 11], V.tup [iv 16, iv 0]⟩
def tb704 : List Fact := fa703 :: tb703
/-- studwork/lattice.Compose -/
def fa704 : Fact := ⟨7, [iv 12, iv 12], V.tup [iv 8, iv 0]⟩
def tb705 : List Fact := fa704 :: tb704
/-- studwork/lattice.Compose -/
def fa705 : Fact := ⟨7, [iv 12, iv 13], V.tup [iv 23, iv 0]⟩
def tb706 : List Fact := fa705 :: tb705
/-- studwork/lattice.Compose -/
def fa706 : Fact := ⟨7, [iv 12, iv 14], V.tup [iv 2, iv 0]⟩
def tb707 : List Fact := fa706 :: tb706
/-- studwork/lattice.Compose -/
def fa707 : Fact := ⟨7, [iv 12, iv 15], V.tup [iv 17, iv 0]⟩
def tb708 : List Fact := fa707 :: tb707
/-- studwork/lattice.Compose -/
def fa708 : Fact := ⟨7, [iv 12, iv 16], V.tup [iv 1, iv 0]⟩
def tb709 : List Fact := fa708 :: tb708
/-- studwork/lattice.Compose -/
def fa709 : Fact := ⟨7, [iv 12, iv 17], V.tup [iv 5, iv 0]⟩
def tb710 : List Fact := fa709 :: tb709
/-- studwork/lattice.Compose -/
def fa710 : Fact := ⟨7, [iv 12, iv 18], V.tup [iv 9, iv 0]⟩
def tb711 : List Fact := fa710 :: tb710
/-- studwork/lattice.Compose -/
def fa711 : Fact := ⟨7, [iv 12, iv 19], V.tup [iv 13, iv 0]⟩
def tb712 : List Fact := fa711 :: tb711
/-- studwork/lattice.Compose -/
def fa712 : Fact := ⟨7, [iv 12, iv 20], V.tup [iv 3, iv 0]⟩
def tb713 : List Fact := fa712 :: tb712
/-- studwork/lattice.Compose -/
def fa713 : Fact := ⟨7, [iv 12, iv 21], V.tup [iv 15, iv 0]⟩
def tb714 : List Fact := fa713 :: tb713
/-- studwork/lattice.Compose -/
def fa714 : Fact := ⟨7, [iv 12, iv 22], V.tup [iv 11, iv 0]⟩
def tb715 : List Fact := fa714 :: tb714
/-- studwork/lattice.Compose -/
def fa715 : Fact := ⟨7, [iv 12, iv 23], V.tup [iv 7, iv 0]⟩
def tb716 : List Fact := fa715 :: tb715
/-- studwork/lattice.Turn -/
def fa716 : Fact := ⟨26, [V.agg [iv 1, iv 2, iv 3], iv 13], V.tup [V.agg [iv (-2), iv 3, iv (-1)], iv 0]⟩
def tb717 : List Fact := fa716 :: tb716
/-- studwork/lattice.turnBetween -/
def fa717 : Fact := ⟨35, [V.agg [iv (-2), iv 3, iv (-1)], V.agg [iv 1, iv 2, iv 3]], iv 20⟩
def tb718 : List Fact := fa717 :: tb717
/-- studwork/lattice.Invert -/
def fa718 : Fact := ⟨8, [iv 13], V.tup [iv 20, iv 0]⟩
def tb719 : List Fact := fa718 :: tb718
/-- studwork/lattice.Compose -/
def fa719 : Fact := ⟨7, [iv 13, iv 0], V.tup [iv 13, iv 0]⟩
def tb720 : List Fact := fa719 :: tb719
/-- studwork/lattice.Compose -/
def fa720 : Fact := ⟨7, [iv 13, iv 1], V.tup [iv 23, iv 0]⟩
def tb721 : List Fact := fa720 :: tb720
/-- studwork/lattice.Compose -/
def fa721 : Fact := ⟨7, [iv 13, iv 2], V.tup [iv 7, iv 0]⟩
def tb722 : List Fact := fa721 :: tb721
/-- studwork/lattice.Compose -/
def fa722 : Fact := ⟨7, [iv 13, iv 3], V.tup [iv 19, iv 0]⟩
def tb723 : List Fact := fa722 :: tb722
/-- studwork/lattice.Compose -/
def fa723 : Fact := ⟨7, [iv 13, iv 4], V.tup [iv 1, iv 0]⟩
def tb724 : List Fact := fa723 :: tb723
/-- studwork/lattice.Compose -/
def fa724 : Fact := ⟨7, [iv 13, iv 5], V.tup [iv 22, iv 0]⟩
def tb725 : List Fact := fa724 :: tb724
/-- studwork/lattice.Compose -/
def fa725 : Fact := ⟨7, [iv 13, iv 6], V.tup [iv 11, iv 0]⟩
def tb726 : List Fact := fa725 :: tb725
/-- studwork/lattice.Compose -/
def fa726 : Fact := ⟨7, [iv 13, iv 7], V.tup [iv 16, iv 0]⟩
def tb727 : List Fact := fa726 :: tb726
/-- studwork/lattice.Compose -/
def fa727 : Fact := ⟨7, [iv 13, iv 8], V.tup [iv 5, iv 0]⟩
def tb728 : List Fact := fa727 :: tb727
/-- studwork/lattice.Compose -/
def fa728 : Fact := ⟨7, [iv 13, iv 9], V.tup [iv 21, iv 0]⟩
def tb729 : List Fact := fa728 :: tb728
/-- studwork/lattice.Compose -/
def fa729 : Fact := ⟨7, [iv 13, iv 10], V.tup [iv 15, iv 0]⟩
def tb730 : List Fact := fa729 :: tb729
/-- studwork/lattice.Compose -/
def fa730 : Fact := ⟨7, [iv 13, iv 11], V.tup [iv 17, iv 0]⟩
def tb731 : List Fact := fa730 :: tb730
/-- studwork/lattice.Compose -/
def fa731 : Fact := ⟨7, [iv 13, iv 12], V.tup [iv 9, iv 0]⟩
def tb732 : List Fact := fa731 :: tb731
/-- studwork/lattice.Compose -/
def fa732 : Fact := ⟨7, [iv 13, iv 13], V.tup [iv 20, iv 0]⟩
def tb733 : List Fact := fa732 :: tb732
/-- studwork/lattice.Compose -/
def fa733 : Fact := ⟨7, [iv 13, iv 14], V.tup [iv 3, iv 0]⟩
def tb734 : List Fact := fa733 :: tb733
/-- studwork/lattice.Compose -/
def fa734 : Fact := ⟨7, [iv 13, iv 15], V.tup [iv 18, iv 0]⟩
def tb735 : List Fact := fa734 :: tb734
/-- studwork/lattice.Compose -/
def fa735 : Fact := ⟨7, [iv 13, iv 16], V.tup [iv 2, iv 0]⟩
def tb736 : List Fact := fa735 :: tb735
/-- studwork/lattice.Compose -/
def fa736 : Fact := ⟨7, [iv 13, iv 17], V.tup [iv 6, iv 0]⟩
def tb737 : List Fact := fa736 :: tb736
/-- studwork/lattice.Compose -/
def fa737 : Fact := ⟨7, [iv 13, iv 18], V.tup [iv 10, iv 0]⟩
def tb738 : List Fact := fa737 :: tb737
/-- studwork/lattice.Compose -/
def fa738 : Fact := ⟨7, [iv 13, iv 19], V.tup [iv 14, iv 0]⟩
def tb739 : List Fact := fa738 :: tb738
/-- studwork/lattice.Compose -/
def fa739 : Fact := ⟨7, [iv 13, iv 20], V.tup [iv 0, iv 0]⟩
def tb740 : List Fact := fa739 :: tb739
/-- studwork/lattice.Compose -/
def fa740 : Fact := ⟨7, [iv 13, iv 21], V.tup [iv 12, iv 0]⟩
def tb741 : List Fact := fa740 :: tb740
/-- studwork/lattice.Compose -/
def fa741 : Fact := ⟨7, [iv 13, iv 22], V.tup [iv 8, iv 0]⟩
def tb742 : List Fact := fa741 :: tb741
/-- studwork/lattice.Compose -/
def fa742 : Fact := ⟨7, [iv 13, iv 23], V.tup [iv 4, iv 0]⟩
def tb743 : List Fact := fa742 :: tb742
/-- studwork/lattice.Turn -/
def fa743 : Fact := ⟨26, [V.agg [iv 1, iv 2, iv 3], iv 14], V.tup [V.agg [iv (-1), iv 3, iv 2], iv 0]⟩
def tb744 : List Fact := fa743 :: tb743
/-- studwork/lattice.turnBetween -/
def fa744 : Fact := ⟨35, [V.agg [iv (-1), iv 3, iv 2], V.agg [iv 1, iv 2, iv 3]], iv 14⟩
def tb745 : List Fact := fa744 :: tb744
/-- studwork/lattice.Invert -/
def fa745 : Fact := ⟨8, [iv 14], V.tup [iv 14, iv 0]⟩
def tb746 : List Fact := fa745 :: tb745
/-- studwork/lattice.Compose -/
def fa746 : Fact := ⟨7, [iv 14, iv 0], V.tup [iv 14, iv 0]⟩
def tb747 : List Fact := fa746 :: tb746
/-- studwork/lattice.Compose -/
def fa747 : Fact := ⟨7, [iv 14, iv 1], V.tup [iv 20, iv 0]⟩
def tb748 : List Fact := fa747 :: tb747
/-- studwork/lattice.Compose -/
def fa748 : Fact := ⟨7, [iv 14, iv 2], V.tup [iv 4, iv 0]⟩
def tb749 : List Fact := fa748 :: tb748
/-- studwork/lattice.Compose -/
def fa749 : Fact := ⟨7, [iv 14, iv 3], V.tup [iv 16, iv 0]⟩
def tb750 : List Fact := fa749 :: tb749
/-- studwork/lattice.Compose -/
def fa750 : Fact := ⟨7, [iv 14, iv 4], V.tup [iv 2, iv 0]⟩
def tb751 : List Fact := fa750 :: tb750
/-- studwork/lattice.Compose -/
def fa751 : Fact := ⟨7, [iv 14, iv 5], V.tup [iv 23, iv 0]⟩
def tb752 : List Fact := fa751 :: tb751
/-- studwork/lattice.Compose -/
def fa752 : Fact := ⟨7, [iv 14, iv 6], V.tup [iv 8, iv 0]⟩
def tb753 : List Fact := fa752 :: tb752
/-- studwork/lattice.Compose -/
def fa753 : Fact := ⟨7, [iv 14, iv 7], V.tup [iv 17, iv 0]⟩
def tb754 : List Fact := fa753 :: tb753
/-- studwork/lattice.Compose -/
def fa754 : Fact := ⟨7, [iv 14, iv 8], V.tup [iv 6, iv 0]⟩
def tb755 : List Fact := fa754 :: tb754
/-- studwork/lattice.Compose -/
def fa755 : Fact := ⟨7, [iv 14, iv 9], V.tup [iv 22, iv 0]⟩
def tb756 : List Fact := fa755 :: tb755
/-- studwork/lattice.Compose -/
def fa756 : Fact := ⟨7, [iv 14, iv 10], V.tup [iv 12, iv 0]⟩
def tb757 : List Fact := fa756 :: tb756
/-- studwork/lattice.Compose -/
def fa757 : Fact := ⟨7, [iv 14, iv 11], V.tup [iv 18, iv 0]⟩
def tb758 : List Fact := fa757 :: tb757
/-- studwork/lattice.Compose -/
def fa758 : Fact := ⟨7, [iv 14, iv 12], V.tup [iv 10, iv 0]⟩
def tb759 : List Fact := fa758 :: tb758
/-- studwork/lattice.Compose -/
def fa759 : Fact := ⟨7, [iv 14, iv 13], V.tup [iv 21, iv 0]⟩
def tb760 : List Fact := fa759 :: tb759
/-- studwork/lattice.Compose -/
def fa760 : Fact := ⟨7, [iv 14, iv 14], V.tup [iv 0, iv 0]⟩
def tb761 : List Fact := fa760 :: tb760
/-- studwork/lattice.Compose -/
def fa761 : Fact := ⟨7, [iv 14, iv 15], V.tup [iv 19, iv 0]⟩
def tb762 : List Fact := fa761 :: tb761
/-- studwork/lattice.Compose -/
def fa762 : Fact := ⟨7, [iv 14, iv 16], V.tup [iv 3, iv 0]⟩
def tb763 : List Fact := fa762 :: tb762
/-- studwork/lattice.Compose -/
def fa763 : Fact := ⟨7, [iv 14, iv 17], V.tup [iv 7, iv 0]⟩
def tb764 : List Fact := fa763 :: tb763
/-- studwork/lattice.Compose -/
def fa764 : Fact := ⟨7, [iv 14, iv 18], V.tup [iv 11, iv 0]⟩
def tb765 : List Fact := fa764 :: tb764
/-- studwork/lattice.Compose -/
def fa765 : Fact := ⟨7, [iv 14, iv 19], V.tup [iv 15, iv 0]⟩
def tb766 : List Fact := fa765 :: tb765
/-- studwork/lattice.Compose -/
def fa766 : Fact := ⟨7, [iv 14, iv 20], V.tup [iv 1, iv 0]⟩
def tb767 : List Fact := fa766 :: tb766
/-- studwork/lattice.Compose -/
def fa767 : Fact := ⟨7, [iv 14, iv 21], V.tup [iv 13, iv 0]⟩
def tb768 : List Fact := fa767 :: tb767
/-- studwork/lattice.Compose -/
def fa768 : Fact := ⟨7, [iv 14, iv 22], V.tup [iv 9, iv 0]⟩
def tb769 : List Fact := fa768 :: tb768
/-- studwork/lattice.Compose -/
def fa769 : Fact := ⟨7, [iv 14, iv 23], V.tup [iv 5, iv 0]⟩
def tb770 : List Fact := fa769 :: tb769
/-- studwork/lattice.Turn -/
def fa770 : Fact := ⟨26, [V.agg [iv 1, iv 2, iv 3], iv 15], V.tup [V.agg [iv 2, iv 3, iv 1], iv 0]⟩
def tb771 : List Fact := fa770 :: tb770
/-- studwork/lattice.turnBetween -/
def fa771 : Fact := ⟨35, [V.agg [iv 2, iv 3, iv 1], V.agg [iv 1, iv 2, iv 3]], iv 16⟩
def tb772 : List Fact := fa771 :: tb771
/-- studwork/lattice.Invert -/
def fa772 : Fact := ⟨8, [iv 15], V.tup [iv 16, iv 0]⟩
def tb773 : List Fact := fa772 :: tb772
/-- studwork/lattice.Compose -/
def fa773 : Fact := ⟨7, [iv 15, iv 0], V.tup [iv 15, iv 0]⟩
def tb774 : List Fact := fa773 :: tb773
/-- studwork/lattice.Compose -/
def fa774 : Fact := ⟨7, [iv 15, iv 1], V.tup [iv 21, iv 0]⟩
def tb775 : List Fact := fa774 :: tb774
/-- studwork/lattice.Compose -/
def fa775 : Fact := ⟨7, [iv 15, iv 2], V.tup [iv 5, iv 0]⟩
def tb776 : List Fact := fa775 :: tb775
/-- studwork/lattice.Compose -/
def fa776 : Fact := ⟨7, [iv 15, iv 3], V.tup [iv 17, iv 0]⟩
def tb777 : List Fact := fa776 :: tb776
/-- studwork/lattice.Compose -/
def fa777 : Fact := ⟨7, [iv 15, iv 4], V.tup [iv 3, iv 0]⟩
def tb778 : List Fact := fa777 :: tb777
/-- studwork/lattice.Compose -/
def fa778 : Fact := ⟨7, [iv 15, iv 5], V.tup [iv 20, iv 0]⟩
def tb779 : List Fact := fa778 :: tb778
/-- studwork/lattice.Compose -/
def fa779 : Fact := ⟨7, [iv 15, iv 6], V.tup [iv 9, iv 0]⟩
def tb780 : List Fact := fa779 :: tb779
/-- studwork/lattice.Compose -/
def fa780 : Fact := ⟨7, [iv 15, iv 7], V.tup [iv 18, iv 0]⟩
def tb781 : List Fact := fa780 :: tb780
/-- studwork/lattice.Compose -/
def fa781 : Fact := ⟨7, [iv 15, iv 8], V.tup [iv 7, iv 0]⟩
def tb782 : List Fact := fa781 :: tb781
/-- studwork/lattice.Compose -/
def fa782 : Fact := ⟨7, [iv 15, iv 9], V.tup [iv 23, iv 0]⟩
def tb783 : List Fact := fa782 :: tb782
/-- studwork/lattice.Compose -/
def fa783 : Fact := ⟨7, [iv 15, iv 10], V.tup [iv 13, iv 0]⟩
def tb784 : List Fact := fa783 :: tb783
/-- studwork/lattice.Compose -/
def fa784 : Fact := ⟨7, [iv 15, iv 11], V.tup [iv 19, iv 0]⟩
def tb785 : List Fact := fa784 :: tb784
/-- studwork/lattice.Compose -/
def fa785 : Fact := ⟨7, [iv 15, iv 12], V.tup [iv 11, iv 0]⟩
def tb786 : List Fact := fa785 :: tb785
/-- studwork/lattice.Compose -/
def fa786 : Fact := ⟨7, [iv 15, iv 13], V.tup [iv 22, iv 0]⟩
def tb787 : List Fact := fa786 :: tb786
/-- studwork/lattice.Compose -/
def fa787 : Fact := ⟨7, [iv 15, iv 14], V.tup [iv 1, iv 0]⟩
def tb788 : List Fact := fa787 :: tb787
/-- studwork/lattice.Compose -/
def fa788 : Fact := ⟨7, [iv 15, iv 15], V.tup [iv 16, iv 0]⟩
def tb789 : List Fact := fa788 :: tb788
/-- studwork/lattice.Compose -/
def fa789 : Fact := ⟨7, [iv 15, iv 16], V.tup [iv 0, iv 0]⟩
def tb790 : List Fact := fa789 :: tb789
/-- studwork/lattice.Compose -/
def fa790 : Fact := ⟨7, [iv 15, iv 17], V.tup [iv 4, iv 0]⟩
def tb791 : List Fact := fa790 :: tb790
/-- studwork/lattice.Compose -/
def fa791 : Fact := ⟨7, [iv 15, iv 18], V.tup [iv 8, iv 0]⟩
def tb792 : List Fact := fa791 :: tb791
/-- studwork/lattice.Compose -/
def fa792 : Fact := ⟨7, [iv 15, iv 19], V.tup [iv 12, iv 0]⟩
def tb793 : List Fact := fa792 :: tb792
/-- studwork/lattice.Compose -/
def fa793 : Fact := ⟨7, [iv 15, iv 20], V.tup [iv 2, iv 0]⟩
def tb794 : List Fact := fa793 :: tb793
/-- studwork/lattice.Compose -/
def fa794 : Fact := ⟨7, [iv 15, iv 21], V.tup [iv 14, iv 0]⟩
def tb795 : List Fact := fa794 :: tb794
/-- studwork/lattice.Compose -/
def fa795 : Fact := ⟨7, [iv 15, iv 22], V.tup [iv 10, iv 0]⟩
def tb796 : List Fact := fa795 :: tb795
/-- studwork/lattice.Compose -/
def fa796 : Fact := ⟨7, [iv 15, iv 23], V.tup [iv 6, iv 0]⟩
def tb797 : List Fact := fa796 :: tb796
/-- studwork/lattice.Turn -/
def fa797 : Fact := ⟨26, [V.agg [iv 1, iv 2, iv 3], iv 16], V.tup [V.agg [iv 3, iv 1, iv 2], iv 0]⟩
def tb798 : List Fact := fa797 :: tb797
/-- studwork/lattice.turnBetween -/
def fa798 : Fact := ⟨35, [V.agg [iv 3, iv 1, iv 2], V.agg [iv 1, iv 2, iv 3]], iv 15⟩
def tb799 : List Fact := fa798 :: tb798
/-- studwork/lattice.Invert -/
def fa799 : Fact := ⟨8, [iv 16], V.tup [iv 15, iv 0]⟩
def tb800 : List Fact := fa799 :: tb799
/-- studwork/lattice.Compose -/
def fa800 : Fact := ⟨7, [iv 16, iv 0], V.tup [iv 16, iv 0]⟩
def tb801 : List Fact := fa800 :: tb800
/-- studwork/lattice.Compose -/
def fa801 : Fact := ⟨7, [iv 16, iv 1], V.tup [iv 14, iv 0]⟩
def tb802 : List Fact := fa801 :: tb801
/-- studwork/lattice.Compose -/
def fa802 : Fact := ⟨7, [iv 16, iv 2], V.tup [iv 20, iv 0]⟩
def tb803 : List Fact := fa802 :: tb802
/-- studwork/lattice.Compose -/
def fa803 : Fact := ⟨7, [iv 16, iv 3], V.tup [iv 4, iv 0]⟩
def tb804 : List Fact := fa803 :: tb803
/-- studwork/lattice.Compose -/
def fa804 : Fact := ⟨7, [iv 16, iv 4], V.tup [iv 17, iv 0]⟩
def tb805 : List Fact := fa804 :: tb804
/-- studwork/lattice.Compose -/
def fa805 : Fact := ⟨7, [iv 16, iv 5], V.tup [iv 2, iv 0]⟩
def tb806 : List Fact := fa805 :: tb805
/-- studwork/lattice.Compose -/
def fa806 : Fact := ⟨7, [iv 16, iv 6], V.tup [iv 23, iv 0]⟩
def tb807 : List Fact := fa806 :: tb806
/-- studwork/lattice.Compose -/
def fa807 : Fact := ⟨7, [iv 16, iv 7], V.tup [iv 8, iv 0]⟩
def tb808 : List Fact := fa807 :: tb807
/-- studwork/lattice.Compose -/
def fa808 : Fact := ⟨7, [iv 16, iv 8], V.tup [iv 18, iv 0]⟩
def tb809 : List Fact := fa808 :: tb808
/-- studwork/lattice.Compose -/
def fa809 : Fact := ⟨7, [iv 16, iv 9], V.tup [iv 6, iv 0]⟩
def tb810 : List Fact := fa809 :: tb809
/-- studwork/lattice.Compose -/
def fa810 : Fact := ⟨7, [iv 16, iv 10], V.tup [iv 22, iv 0]⟩
def tb811 : List Fact := fa810 :: tb810
/-- studwork/lattice.Compose -/
def fa811 : Fact := ⟨7, [iv 16, iv 11], V.tup [iv 12, iv 0]⟩
def tb812 : List Fact := fa811 :: tb811
/-- studwork/lattice.Compose -/
def fa812 : Fact := ⟨7, [iv 16, iv 12], V.tup [iv 19, iv 0]⟩
def tb813 : List Fact := fa812 :: tb812
/-- studwork/lattice.Compose -/
def fa813 : Fact := ⟨7, [iv 16, iv 13], V.tup [iv 10, iv 0]⟩
def tb814 : List Fact := fa813 :: tb813
/-- studwork/lattice.Compose -/
def fa814 : Fact := ⟨7, [iv 16, iv 14], V.tup [iv 21, iv 0]⟩
def tb815 : List Fact := fa814 :: tb814
/-- studwork/lattice.Compose -/
def fa815 : Fact := ⟨7, [iv 16, iv 15], V.tup [iv 0, iv 0]⟩
def tb816 : List Fact := fa815 :: tb815
/-- studwork/lattice.Compose -/
def fa816 : Fact := ⟨7, [iv 16, iv 16], V.tup [iv 15, iv 0]⟩
def tb817 : List Fact := fa816 :: tb816
/-- studwork/lattice.Compose -/
def fa817 : Fact := ⟨7, [iv 16, iv 17], V.tup [iv 3, iv 0]⟩
def tb818 : List Fact := fa817 :: tb817
/-- studwork/lattice.Compose -/
def fa818 : Fact := ⟨7, [iv 16, iv 18], V.tup [iv 7, iv 0]⟩
def tb819 : List Fact := fa818 :: tb818
/-- studwork/lattice.Compose -/
def fa819 : Fact := ⟨7, [iv 16, iv 19], V.tup [iv 11, iv 0]⟩
def tb820 : List Fact := fa819 :: tb819
/-- studwork/lattice.Compose -/
def fa820 : Fact := ⟨7, [iv 16, iv 20], V.tup [iv 5, iv 0]⟩
def tb821 : List Fact := fa820 :: tb820
/-- studwork/lattice.Compose -/
def fa821 : Fact := ⟨7, [iv 16, iv 21], V.tup [iv 1, iv 0]⟩
def tb822 : List Fact := fa821 :: tb821
/-- studwork/lattice.Compose -/
def fa822 : Fact := ⟨7, [iv 16, iv 22], V.tup [iv 13, iv 0]⟩
def tb823 : List Fact := fa822 :: tb822
/-- studwork/lattice.Compose -/
def fa823 : Fact := ⟨7, [iv 16, iv 23], V.tup [iv 9, iv 0]⟩
def tb824 : List Fact := fa823 :: tb823
/-- studwork/lattice.Turn -/
def fa824 : Fact := ⟨26, [V.agg [iv 1, iv 2, iv 3], iv 17], V.tup [V.agg [iv 3, iv (-2), iv 1], iv 0]⟩
def tb825 : List Fact := fa824 :: tb824
/-- studwork/lattice.turnBetween -/
def fa825 : Fact := ⟨35, [V.agg [iv 3, iv (-2), iv 1], V.agg [iv 1, iv 2, iv 3]], iv 17⟩
def tb826 : List Fact := fa825 :: tb825
/-- studwork/lattice.Invert -/
def fa826 : Fact := ⟨8, [iv 17], V.tup [iv 17, iv 0]⟩
def tb827 : List Fact := fa826 :: tb826
/-- studwork/lattice.Compose -/
def fa827 : Fact := ⟨7, [iv 17, iv 0], V.tup [iv 17, iv 0]⟩
def tb828 : List Fact := fa827 :: tb827
/-- studwork/lattice.Compose -/
def fa828 : Fact := ⟨7, [iv 17, iv 1], V.tup [iv 15, iv 0]⟩
def tb829 : List Fact := fa828 :: tb828
/-- studwork/lattice.Compose -/
def fa829 : Fact := ⟨7, [iv 17, iv 2], V.tup [iv 21, iv 0]⟩
def tb830 : List Fact := fa829 :: tb829
/-- studwork/lattice.Compose -/
def fa830 : Fact := ⟨7, [iv 17, iv 3], V.tup [iv 5, iv 0]⟩
def tb831 : List Fact := fa830 :: tb830
/-- studwork/lattice.Compose -/
def fa831 : Fact := ⟨7, [iv 17, iv 4], V.tup [iv 18, iv 0]⟩
def tb832 : List Fact := fa831 :: tb831
/-- studwork/lattice.Compose -/
def fa832 : Fact := ⟨7, [iv 17, iv 5], V.tup [iv 3, iv 0]⟩
def tb833 : List Fact := fa832 :: tb832
/-- studwork/lattice.Compose -/
def fa833 : Fact := ⟨7, [iv 17, iv 6], V.tup [iv 20, iv 0]⟩
def tb834 : List Fact := fa833 :: tb833
/-- studwork/lattice.Compose -/
def fa834 : Fact := ⟨7, [iv 17, iv 7], V.tup [iv 9, iv 0]⟩
def tb835 : List Fact := fa834 :: tb834
/-- studwork/lattice.Compose -/
def fa835 : Fact := ⟨7, [iv 17, iv 8], V.tup [iv 19, iv 0]⟩
def tb836 : List Fact := fa835 :: tb835
/-- studwork/lattice.Compose -/
def fa836 : Fact := ⟨7, [iv 17, iv 9], V.tup [iv 7, iv 0]⟩
def tb837 : List Fact := fa836 :: tb836
/-- studwork/lattice.Compose -/
def fa837 : Fact := ⟨7, [iv 17, iv 10], V.tup [iv 23, iv 0]⟩
def tb838 : List Fact := fa837 :: tb837
/-- studwork/lattice.Compose -/
def fa838 : Fact := ⟨7, [iv 17, iv 11], V.tup [iv 13, iv 0]⟩
def tb839 : List Fact := fa838 :: tb838
/-- studwork/lattice.Compose -/
def fa839 : Fact := ⟨7, [iv 17, iv 12], V.tup [iv 16, iv 0]⟩
def tb840 : List Fact := fa839 :: tb839
/-- studwork/lattice.Compose -/
def fa840 : Fact := ⟨7, [iv 17, iv 13], V.tup [iv 11, iv 0]⟩
def tb841 : List Fact := fa840 :: tb840
/-- studwork/lattice.Compose -/
def fa841 : Fact := ⟨7, [iv 17, iv 14], V.tup [iv 22, iv 0]⟩
def tb842 : List Fact := fa841 :: tb841
/-- studwork/lattice.Compose -/
def fa842 : Fact := ⟨7, [iv 17, iv 15], V.tup [iv 1, iv 0]⟩
def tb843 : List Fact := fa842 :: tb842
/-- studwork/lattice.Compose -/
def fa843 : Fact := ⟨7, [iv 17, iv 16], V.tup [iv 12, iv 0]⟩
def tb844 : List Fact := fa843 :: tb843
/-- studwork/lattice.Compose -/
def fa844 : Fact := ⟨7, [iv 17, iv 17], V.tup [iv 0, iv 0]⟩
def tb845 : List Fact := fa844 :: tb844
/-- studwork/lattice.Compose -/
def fa845 : Fact := ⟨7, [iv 17, iv 18], V.tup [iv 4, iv 0]⟩
def tb846 : List Fact := fa845 :: tb845
/-- studwork/lattice.Compose -/
def fa846 : Fact := ⟨7, [iv 17, iv 19], V.tup [iv 8, iv 0]⟩
def tb847 : List Fact := fa846 :: tb846
/-- studwork/lattice.Compose -/
def fa847 : Fact := ⟨7, [iv 17, iv 20], V.tup [iv 6, iv 0]⟩
def tb848 : List Fact := fa847 :: tb847
/-- studwork/lattice.Compose -/
def fa848 : Fact := ⟨7, [iv 17, iv 21], V.tup [iv 2, iv 0]⟩
def tb849 : List Fact := fa848 :: tb848
/-- studwork/lattice.Compose -/
def fa849 : Fact := ⟨7, [iv 17, iv 22], V.tup [iv 14, iv 0]⟩
def tb850 : List Fact := fa849 :: tb849
/-- studwork/lattice.Compose -/
def fa850 : Fact := ⟨7, [iv 17, iv 23], V.tup [iv 10, iv 0]⟩
def tb851 : List Fact := fa850 :: tb850
/-- studwork/lattice.Turn -/
def fa851 : Fact := ⟨26, [V.agg [iv 1, iv 2, iv 3], iv 18], V.tup [V.agg [iv 3, iv (-1), iv (-2)], iv 0]⟩
def tb852 : List Fact := fa851 :: tb851
/-- studwork/lattice.turnBetween -/
def fa852 : Fact := ⟨35, [V.agg [iv 3, iv (-1), iv (-2)], V.agg [iv 1, iv 2, iv 3]], iv 5⟩
def tb853 : List Fact := fa852 :: tb852
/-- studwork/lattice.Invert -/
def fa853 : Fact := ⟨8, [iv 18], V.tup [iv 5, iv 0]⟩
def tb854 : List Fact := fa853 :: tb853
/-- studwork/lattice.Compose -/
def fa854 : Fact := ⟨7, [iv 18, iv 0], V.tup [iv 18, iv 0]⟩
def tb855 : List Fact := fa854 :: tb854
/-- studwork/lattice.Compose -/
def fa855 : Fact := ⟨7, [iv 18, iv 1], V.tup [iv 12, iv 0]⟩
def tb856 : List Fact := fa855 :: tb855
/-- studwork/lattice.Compose -/
def fa856 : Fact := ⟨7, [iv 18, iv 2], V.tup [iv 22, iv 0]⟩
def tb857 : List Fact := fa856 :: tb856
/-- studwork/lattice.Compose -/
def fa857 : Fact := ⟨7, [iv 18, iv 3], V.tup [iv 6, iv 0]⟩
def tb858 : List Fact := fa857 :: tb857
/-- studwork/lattice.Compose -/
def fa858 : Fact := ⟨7, [iv 18, iv 4], V.tup [iv 19, iv 0]⟩
def tb859 : List Fact := fa858 :: tb858
/-- studwork/lattice.Compose -/
def fa859 : Fact := ⟨7, [iv 18, iv 5], V.tup [iv 0, iv 0]⟩
def tb860 : List Fact := fa859 :: tb859
/-- studwork/lattice.Compose -/
def fa860 : Fact := ⟨7, [iv 18, iv 6], V.tup [iv 21, iv 0]⟩
def tb861 : List Fact := fa860 :: tb860
/-- studwork/lattice.Compose -/
def fa861 : Fact := ⟨7, [iv 18, iv 7], V.tup [iv 10, iv 0]⟩
def tb862 : List Fact := fa861 :: tb861
/-- studwork/lattice.Compose -/
def fa862 : Fact := ⟨7, [iv 18, iv 8], V.tup [iv 16, iv 0]⟩
def tb863 : List Fact := fa862 :: tb862
/-- studwork/lattice.Compose -/
def fa863 : Fact := ⟨7, [iv 18, iv 9], V.tup [iv 4, iv 0]⟩
def tb864 : List Fact := fa863 :: tb863
/-- studwork/lattice.Compose -/
def fa864 : Fact := ⟨7, [iv 18, iv 10], V.tup [iv 20, iv 0]⟩
def tb865 : List Fact := fa864 :: tb864
/-- studwork/lattice.Compose -/
def fa865 : Fact := ⟨7, [iv 18, iv 11], V.tup [iv 14, iv 0]⟩
def tb866 : List Fact := fa865 :: tb865
/-- studwork/lattice.Compose -/
def fa866 : Fact := ⟨7, [iv 18, iv 12], V.tup [iv 17, iv 0]⟩
def tb867 : List Fact := fa866 :: tb866
/-- studwork/lattice.Compose -/
def fa867 : Fact := ⟨7, [iv 18, iv 13], V.tup [iv 8, iv 0]⟩
def tb868 : List Fact := fa867 :: tb867
/-- studwork/lattice.Compose -/
def fa868 : Fact := ⟨7, [iv 18, iv 14], V.tup [iv 23, iv 0]⟩
def tb869 : List Fact := fa868 :: tb868
/-- studwork/lattice.Compose -/
def fa869 : Fact := ⟨7, [iv 18, iv 15], V.tup [iv 2, iv 0]⟩
def tb870 : List Fact := fa869 :: tb869
/-- studwork/lattice.Compose -/
def fa870 : Fact := ⟨7, [iv 18, iv 16], V.tup [iv 13, iv 0]⟩
def tb871 : List Fact := fa870 :: tb870
/-- studwork/lattice.Compose -/
def fa871 : Fact := ⟨7, [iv 18, iv 17], V.tup [iv 1, iv 0]⟩
def tb872 : List Fact := fa871 :: tb871
/-- studwork/lattice.Compose -/
def fa872 : Fact := ⟨7, [iv 18, iv 18], V.tup [iv 5, iv 0]⟩
def tb873 : List Fact := fa872 :: tb872
/-- studwork/lattice.Compose -/
def fa873 : Fact := ⟨7, [iv 18, iv 19], V.tup [iv 9, iv 0]⟩
def tb874 : List Fact := fa873 :: tb873
/-- studwork/lattice.Compose -/
def fa874 : Fact := ⟨7, [iv 18, iv 20], V.tup [iv 7, iv 0]⟩
def tb875 : List Fact := fa874 :: tb874
/-- studwork/lattice.Compose -/
def fa875 : Fact := ⟨7, [iv 18, iv 21], V.tup [iv 3, iv 0]⟩
def tb876 : List Fact := fa875 :: tb875
/-- studwork/lattice.Compose -/
def fa876 : Fact := ⟨7, [iv 18, iv 22], V.tup [iv 15, iv 0]⟩
def tb877 : List Fact := fa876 :: tb876
/-- studwork/lattice.Compose -/
def fa877 : Fact := ⟨7, [iv 18, iv 23], V.tup [iv 11, iv 0]⟩
def tb878 : List Fact := fa877 :: tb877
/-- studwork/lattice.Turn -/
def fa878 : Fact := ⟨26, [V.agg [iv 1, iv 2, iv 3], iv 19], V.tup [V.agg [iv 3, iv 2, iv (-1)], iv 0]⟩
def tb879 : List Fact := fa878 :: tb878
/-- studwork/lattice.turnBetween -/
def fa879 : Fact := ⟨35, [V.agg [iv 3, iv 2, iv (-1)], V.agg [iv 1, iv 2, iv 3]], iv 21⟩
def tb880 : List Fact := fa879 :: tb879
/-- studwork/lattice.Invert -/
def fa880 : Fact := ⟨8, [iv 19], V.tup [iv 21, iv 0]⟩
def tb881 : List Fact := fa880 :: tb880
/-- studwork/lattice.Compose -/
def fa881 : Fact := ⟨7, [iv 19, iv 0], V.tup [iv 19, iv 0]⟩
def tb882 : List Fact := fa881 :: tb881
/-- studwork/lattice.Compose -/
def fa882 : Fact := ⟨7, [iv 19, iv 1], V.tup [iv 13, iv 0]⟩
def tb883 : List Fact := fa882 :: tb882
/-- studwork/lattice.Compose -/
def fa883 : Fact := ⟨7, [iv 19, iv 2], V.tup [iv 23, iv 0]⟩
def tb884 : List Fact := fa883 :: tb883
/-- studwork/lattice.Compose -/
def fa884 : Fact := ⟨7, [iv 19, iv 3], V.tup [iv 7, iv 0]⟩
def tb885 : List Fact := fa884 :: tb884
/-- studwork/lattice.Compose -/
def fa885 : Fact := ⟨7, [iv 19, iv 4], V.tup [iv 16, iv 0]⟩
def tb886 : List Fact := fa885 :: tb885
/-- studwork/lattice.Compose -/
def fa886 : Fact := ⟨7, [iv 19, iv 5], V.tup [iv 1, iv 0]⟩
def tb887 : List Fact := fa886 :: tb886
/-- studwork/lattice.Compose -/
def fa887 : Fact := ⟨7, [iv 19, iv 6], V.tup [iv 22, iv 0]⟩
def tb888 : List Fact := fa887 :: tb887
/-- studwork/lattice.Compose -/
def fa888 : Fact := ⟨7, [iv 19, iv 7], V.tup [iv 11, iv 0]⟩
def tb889 : List Fact := fa888 :: tb888
/-- studwork/lattice.Compose -/
def fa889 : Fact := ⟨7, [iv 19, iv 8], V.tup [iv 17, iv 0]⟩
def tb890 : List Fact := fa889 :: tb889
/-- studwork/lattice.Compose -/
def fa890 : Fact := ⟨7, [iv 19, iv 9], V.tup [iv 5, iv 0]⟩
def tb891 : List Fact := fa890 :: tb890
/-- studwork/lattice.Compose -/
def fa891 : Fact := ⟨7, [iv 19, iv 10], V.tup [iv 21, iv 0]⟩
def tb892 : List Fact := fa891 :: tb891
/-- studwork/lattice.Compose -/
def fa892 : Fact := ⟨7, [iv 19, iv 11], V.tup [iv 15, iv 0]⟩
def tb893 : List Fact := fa892 :: tb892
/-- studwork/lattice.Compose -/
def fa893 : Fact := ⟨7, [iv 19, iv 12], V.tup [iv 18, iv 0]⟩
def tb894 : List Fact := fa893 :: tb893
/-- studwork/lattice.Compose -/
def fa894 : Fact := ⟨7, [iv 19, iv 13], V.tup [iv 9, iv 0]⟩
def tb895 : List Fact := fa894 :: tb894
/-- studwork/lattice.Compose -/
def fa895 : Fact := ⟨7, [iv 19, iv 14], V.tup [iv 20, iv 0]⟩
def tb896 : List Fact := fa895 :: tb895
/-- studwork/lattice.Compose -/
def fa896 : Fact := ⟨7, [iv 19, iv 15], V.tup [iv 3, iv 0]⟩
def tb897 : List Fact := fa896 :: tb896
/-- studwork/lattice.Compose -/
def fa897 : Fact := ⟨7, [iv 19, iv 16], V.tup [iv 14, iv 0]⟩
def tb898 : List Fact := fa897 :: tb897
/-- studwork/lattice.Compose -/
def fa898 : Fact := ⟨7, [iv 19, iv 17], V.tup [iv 2, iv 0]⟩
def tb899 : List Fact := fa898 :: tb898
/-- studwork/lattice.Compose -/
def fa899 : Fact := ⟨7, [iv 19, iv 18], V.tup [iv 6, iv 0]⟩
def tb900 : List Fact := fa899 :: tb899
/-- studwork/lattice.Compose -/
def fa900 : Fact := ⟨7, [iv 19, iv 19], V.tup [iv 10, iv 0]⟩
def tb901 : List Fact := fa900 :: tb900
/-- studwork/lattice.Compose -/
def fa901 : Fact := ⟨7, [iv 19, iv 20], V.tup [iv 4, iv 0]⟩
def tb902 : List Fact := fa901 :: tb901
/-- studwork/lattice.Compose -/
def fa902 : Fact := ⟨7, [iv 19, iv 21], V.tup [iv 0, iv 0]⟩
def tb903 : List Fact := fa902 :: tb902
/-- studwork/lattice.Compose -/
def fa903 : Fact := ⟨7, [iv 19, iv 22], V.tup [iv 12, iv 0]⟩
def tb904 : List Fact := fa903 :: tb903
/-- studwork/lattice.Compose -/
def fa904 : Fact := ⟨7, [iv 19, iv 23], V.tup [iv 8, iv 0]⟩
def tb905 : List Fact := fa904 :: tb904
/-- studwork/lattice.Turn -/
def fa905 : Fact := ⟨26, [V.agg [iv 1, iv 2, iv 3], iv 20], V.tup [V.agg [iv (-3), iv (-1), iv 2], iv 0]⟩
def tb906 : List Fact := fa905 :: tb905
/-- studwork/lattice.turnBetween -/
def fa906 : Fact := ⟨35, [V.agg [iv (-3), iv (-1), iv 2], V.agg [iv 1, iv 2, iv 3]], iv 13⟩
def tb907 : List Fact := fa906 :: tb906
/-- studwork/lattice.Invert -/
def fa907 : Fact := ⟨8, [iv 20], V.tup [iv 13, iv 0]⟩
def tb908 : List Fact := fa907 :: tb907
/-- studwork/lattice.Compose -/
def fa908 : Fact := ⟨7, [iv 20, iv 0], V.tup [iv 20, iv 0]⟩
def tb909 : List Fact := fa908 :: tb908
/-- studwork/lattice.Compose -/
def fa909 : Fact := ⟨7, [iv 20, iv 1], V.tup [iv 4, iv 0]⟩
def tb910 : List Fact := fa909 :: tb909
/-- studwork/lattice.Compose -/
def fa910 : Fact := ⟨7, [iv 20, iv 2], V.tup [iv 16, iv 0]⟩
def tb911 : List Fact := fa910 :: tb910
/-- studwork/lattice.Compose -/
def fa911 : Fact := ⟨7, [iv 20, iv 3], V.tup [iv 14, iv 0]⟩
def tb912 : List Fact := fa911 :: tb911
/-- studwork/lattice.Compose -/
def fa912 : Fact := ⟨7, [iv 20, iv 4], V.tup [iv 23, iv 0]⟩
def tb913 : List Fact := fa912 :: tb912
/-- studwork/lattice.Compose -/
def fa913 : Fact := ⟨7, [iv 20, iv 5], V.tup [iv 8, iv 0]⟩
def tb914 : List Fact := fa913 :: tb913
/-- studwork/lattice.Compose -/
def fa914 : Fact := ⟨7, [iv 20, iv 6], V.tup [iv 17, iv 0]⟩
def tb915 : List Fact := fa914 :: tb914
/-- studwork/lattice.Compose -/
def fa915 : Fact := ⟨7, [iv 20, iv 7], V.tup [iv 2, iv 0]⟩
def tb916 : List Fact := fa915 :: tb915
/-- studwork/lattice.Compose -/
def fa916 : Fact := ⟨7, [iv 20, iv 8], V.tup [iv 22, iv 0]⟩
def tb917 : List Fact := fa916 :: tb916
/-- studwork/lattice.Compose -/
def fa917 : Fact := ⟨7, [iv 20, iv 9], V.tup [iv 12, iv 0]⟩
def tb918 : List Fact := fa917 :: tb917
/-- studwork/lattice.Compose -/
def fa918 : Fact := ⟨7, [iv 20, iv 10], V.tup [iv 18, iv 0]⟩
def tb919 : List Fact := fa918 :: tb918
/-- studwork/lattice.Compose -/
def fa919 : Fact := ⟨7, [iv 20, iv 11], V.tup [iv 6, iv 0]⟩
def tb920 : List Fact := fa919 :: tb919
/-- studwork/lattice.Compose -/
def fa920 : Fact := ⟨7, [iv 20, iv 12], V.tup [iv 21, iv 0]⟩
def tb921 : List Fact := fa920 :: tb920
/-- studwork/lattice.Compose -/
def fa921 : Fact := ⟨7, [iv 20, iv 13], V.tup [iv 0, iv 0]⟩
def tb922 : List Fact := fa921 :: tb921
/-- studwork/lattice.Compose -/
def fa922 : Fact := ⟨7, [iv 20, iv 14], V.tup [iv 19, iv 0]⟩
def tb923 : List Fact := fa922 :: tb922
/-- studwork/lattice.Compose -/
def fa923 : Fact := ⟨7, [iv 20, iv 15], V.tup [iv 10, iv 0]⟩
def tb924 : List Fact := fa923 :: tb923
/-- studwork/lattice.Compose -/
def fa924 : Fact := ⟨7, [iv 20, iv 16], V.tup [iv 7, iv 0]⟩
def tb925 : List Fact := fa924 :: tb924
/-- studwork/lattice.Compose -/
def fa925 : Fact := ⟨7, [iv 20, iv 17], V.tup [iv 11, iv 0]⟩
def tb926 : List Fact := fa925 :: tb925
/-- studwork/lattice.Compose -/
def fa926 : Fact := ⟨7, [iv 20, iv 18], V.tup [iv 15, iv 0]⟩
def tb927 : List Fact := fa926 :: tb926
/-- studwork/lattice.Compose -/
def fa927 : Fact := ⟨7, [iv 20, iv 19], V.tup [iv 3, iv 0]⟩
def tb928 : List Fact := fa927 :: tb927
/-- studwork/lattice.Compose -/
def fa928 : Fact := ⟨7, [iv 20, iv 20], V.tup [iv 13, iv 0]⟩
def tb929 : List Fact := fa928 :: tb928
/-- studwork/lattice.Compose -/
def fa929 : Fact := ⟨7, [iv 20, iv 21], V.tup [iv 9, iv 0]⟩
def tb930 : List Fact := fa929 :: tb929
/-- studwork/lattice.Compose -/
def fa930 : Fact := ⟨7, [iv 20, iv 22], V.tup [iv 5, iv 0]⟩
def tb931 : List Fact := fa930 :: tb930
/-- studwork/lattice.Compose -/
def fa931 : Fact := ⟨7, [iv 20, iv 23], V.tup [iv 1, iv 0]⟩
def tb932 : List Fact := fa931 :: tb931
/-- studwork/lattice.Turn -/
def fa932 : Fact := ⟨26, [V.agg [iv 1, iv 2, iv 3], iv 21], V.tup [V.agg [iv (-3), iv 2, iv 1], iv 0]⟩
def tb933 : List Fact := fa932 :: tb932
/-- studwork/lattice.turnBetween -/
def fa933 : Fact := ⟨35, [V.agg [iv (-3), iv 2, iv 1], V.agg [iv 1, iv 2, iv 3]], iv 19⟩
def tb934 : List Fact := fa933 :: tb933
/-- studwork/lattice.Invert -/
def fa934 : Fact := ⟨8, [iv 21], V.tup [iv 19, iv 0]⟩
def tb935 : List Fact := fa934 :: tb934
/-- studwork/lattice.Compose -/
def fa935 : Fact := ⟨7, [iv 21, iv 0], V.tup [iv 21, iv 0]⟩
def tb936 : List Fact := fa935 :: tb935
/-- studwork/lattice.Compose -/
def fa936 : Fact := ⟨7, [iv 21, iv 1], V.tup [iv 5, iv 0]⟩
def tb937 : List Fact := fa936 :: tb936
/-- studwork/lattice.Compose -/
def fa937 : Fact := ⟨7, [iv 21, iv 2], V.tup [iv 17, iv 0]⟩
def tb938 : List Fact := fa937 :: tb937
/-- studwork/lattice.Compose -/
def fa938 : Fact := ⟨7, [iv 21, iv 3], V.tup [iv 15, iv 0]⟩
def tb939 : List Fact := fa938 :: tb938
/-- studwork/lattice.Compose -/
def fa939 : Fact := ⟨7, [iv 21, iv 4], V.tup [iv 20, iv 0]⟩
def tb940 : List Fact := fa939 :: tb939
/-- studwork/lattice.Compose -/
def fa940 : Fact := ⟨7, [iv 21, iv 5], V.tup [iv 9, iv 0]⟩
def tb941 : List Fact := fa940 :: tb940
/-- studwork/lattice.Compose -/
def fa941 : Fact := ⟨7, [iv 21, iv 6], V.tup [iv 18, iv 0]⟩
def tb942 : List Fact := fa941 :: tb941
/-- studwork/lattice.Compose -/
def fa942 : Fact := ⟨7, [iv 21, iv 7], V.tup [iv 3, iv 0]⟩
def tb943 : List Fact := fa942 :: tb942
/-- studwork/lattice.Compose -/
def fa943 : Fact := ⟨7, [iv 21, iv 8], V.tup [iv 23, iv 0]⟩
def tb944 : List Fact := fa943 :: tb943
/-- studwork/lattice.Compose -/
def fa944 : Fact := ⟨7, [iv 21, iv 9], V.tup [iv 13, iv 0]⟩
def tb945 : List Fact := fa944 :: tb944
/-- studwork/lattice.Compose -/
def fa945 : Fact := ⟨7, [iv 21, iv 10], V.tup [iv 19, iv 0]⟩
def tb946 : List Fact := fa945 :: tb945
/-- studwork/lattice.Compose -/
def fa946 : Fact := ⟨7, [iv 21, iv 11], V.tup [iv 7, iv 0]⟩
def tb947 : List Fact := fa946 :: tb946
/-- studwork/lattice.Compose -/
def fa947 : Fact := ⟨7, [iv 21, iv 12], V.tup [iv 22, iv 0]⟩
def tb948 : List Fact := fa947 :: tb947
/-- studwork/lattice.Compose -/
def fa948 : Fact := ⟨7, [iv 21, iv 13], V.tup [iv 1, iv 0]⟩
def tb949 : List Fact := fa948 :: tb948
/-- studwork/lattice.Compose -/
def fa949 : Fact := ⟨7, [iv 21, iv 14], V.tup [iv 16, iv 0]⟩
def tb950 : List Fact := fa949 :: tb949
/-- studwork/lattice.Compose -/
def fa950 : Fact := ⟨7, [iv 21, iv 15], V.tup [iv 11, iv 0]⟩
def tb951 : List Fact := fa950 :: tb950
/-- studwork/lattice.Compose -/
def fa951 : Fact := ⟨7, [iv 21, iv 16], V.tup [iv 4, iv 0]⟩
def tb952 : List Fact := fa951 :: tb951
/-- studwork/lattice.Compose -/
def fa952 : Fact := ⟨7, [iv 21, iv 17], V.tup [iv 8, iv 0]⟩
def tb953 : List Fact := fa952 :: tb952
/-- studwork/lattice.Compose -/
def fa953 : Fact := ⟨7, [iv 21, iv 18], V.tup [iv 12, iv 0]⟩
def tb954 : List Fact := fa953 :: tb953
/-- studwork/lattice.Compose -/
def fa954 : Fact := ⟨7, [iv 21, iv 19], V.tup [iv 0, iv 0]⟩
def tb955 : List Fact := fa954 :: tb954
/-- studwork/lattice.Compose -/
def fa955 : Fact := ⟨7, [iv 21, iv 20], V.tup [iv 14, iv 0]⟩
def tb956 : List Fact := fa955 :: tb955
/-- studwork/lattice.Compose -/
def fa956 : Fact := ⟨7, [iv 21, iv 21], V.tup [iv 10, iv 0]⟩
def tb957 : List Fact := fa956 :: tb956
/-- studwork/lattice.Compose -/
def fa957 : Fact := ⟨7, [iv 21, iv 22], V.tup [iv 6, iv 0]⟩
def tb958 : List Fact := fa957 :: tb957
/-- studwork/lattice.Compose -/
def fa958 : Fact := ⟨7, [iv 21, iv 23], V.tup [iv 2, iv 0]⟩
def tb959 : List Fact := fa958 :: tb958
/-- studwork/lattice.Turn -/
def fa959 : Fact := ⟨26, [V.agg [iv 1, iv 2, iv 3], iv 22], V.tup [V.agg [iv (-3), iv 1, iv (-2)], iv 0]⟩
def tb960 : List Fact := fa959 :: tb959
/-- studwork/lattice.turnBetween -/
def fa960 : Fact := ⟨35, [V.agg [iv (-3), iv 1, iv (-2)], V.agg [iv 1, iv 2, iv 3]], iv 7⟩
def tb961 : List Fact := fa960 :: tb960
/-- studwork/lattice.Invert -/
def fa961 : Fact := ⟨8, [iv 22], V.tup [iv 7, iv 0]⟩
def tb962 : List Fact := fa961 :: tb961
/-- studwork/lattice.Compose -/
def fa962 : Fact := ⟨7, [iv 22, iv 0], V.tup [iv 22, iv 0]⟩
def tb963 : List Fact := fa962 :: tb962
/-- studwork/lattice.Compose -/
def fa963 : Fact := ⟨7, [iv 22, iv 1], V.tup [iv 6, iv 0]⟩
def tb964 : List Fact := fa963 :: tb963
/-- studwork/lattice.Compose -/
def fa964 : Fact := ⟨7, [iv 22, iv 2], V.tup [iv 18, iv 0]⟩
def tb965 : List Fact := fa964 :: tb964
/-- studwork/lattice.Compose -/
def fa965 : Fact := ⟨7, [iv 22, iv 3], V.tup [iv 12, iv 0]⟩
def tb966 : List Fact := fa965 :: tb965
/-- studwork/lattice.Compose -/
def fa966 : Fact := ⟨7, [iv 22, iv 4], V.tup [iv 21, iv 0]⟩
def tb967 : List Fact := fa966 :: tb966
/-- studwork/lattice.Compose -/
def fa967 : Fact := ⟨7, [iv 22, iv 5], V.tup [iv 10, iv 0]⟩
def tb968 : List Fact := fa967 :: tb967
/-- studwork/lattice.Compose -/
def fa968 : Fact := ⟨7, [iv 22, iv 6], V.tup [iv 19, iv 0]⟩
def tb969 : List Fact := fa968 :: tb968
/-- studwork/lattice.Compose -/
def fa969 : Fact := ⟨7, [iv 22, iv 7], V.tup [iv 0, iv 0]⟩
def tb970 : List Fact := fa969 :: tb969
/-- studwork/lattice.Compose -/
def fa970 : Fact := ⟨7, [iv 22, iv 8], V.tup [iv 20, iv 0]⟩
def tb971 : List Fact := fa970 :: tb970
/-- studwork/lattice.Compose -/
def fa971 : Fact := ⟨7, [iv 22, iv 9], V.tup [iv 14, iv 0]⟩
def tb972 : List Fact := fa971 :: tb971
/-- studwork/lattice.Compose -/
def fa972 : Fact := ⟨7, [iv 22, iv 10], V.tup [iv 16, iv 0]⟩
def tb973 : List Fact := fa972 :: tb972
/-- studwork/lattice.Compose -/
def fa973 : Fact := ⟨7, [iv 22, iv 11], V.tup [iv 4, iv 0]⟩
def tb974 : List Fact := fa973 :: tb973
/-- studwork/lattice.Compose -/
def fa974 : Fact := ⟨7, [iv 22, iv 12], V.tup [iv 23, iv 0]⟩
def tb975 : List Fact := fa974 :: tb974
/-- studwork/lattice.Compose -/
def fa975 : Fact := ⟨7, [iv 22, iv 13], V.tup [iv 2, iv 0]⟩
def tb976 : List Fact := fa975 :: tb975
/-- studwork/lattice.Compose -/
def fa976 : Fact := ⟨7, [iv 22, iv 14], V.tup [iv 17, iv 0]⟩
def tb977 : List Fact := fa976 :: tb976
/-- studwork/lattice.Compose -/
def fa977 : Fact := ⟨7, [iv 22, iv 15], V.tup [iv 8, iv 0]⟩
def tb978 : List Fact := fa977 :: tb977
/-- studwork/lattice.Compose -/
def fa978 : Fact := ⟨7, [iv 22, iv 16], V.tup [iv 5, iv 0]⟩
def tb979 : List Fact := fa978 :: tb978
/-- studwork/lattice.Compose -/
def fa979 : Fact := ⟨7, [iv 22, iv 17], V.tup [iv 9, iv 0]⟩
def tb980 : List Fact := fa979 :: tb979
/-- studwork/lattice.Compose -/
def fa980 : Fact := ⟨7, [iv 22, iv 18], V.tup [iv 13, iv 0]⟩
def tb981 : List Fact := fa980 :: tb980
/-- studwork/lattice.Compose -/
def fa981 : Fact := ⟨7, [iv 22, iv 19], V.tup [iv 1, iv 0]⟩
def tb982 : List Fact := fa981 :: tb981
/-- studwork/lattice.Compose -/
def fa982 : Fact := ⟨7, [iv 22, iv 20], V.tup [iv 15, iv 0]⟩
def tb983 : List Fact := fa982 :: tb982
/-- studwork/lattice.Compose -/
def fa983 : Fact := ⟨7, [iv 22, iv 21], V.tup [iv 11, iv 0]⟩
def tb984 : List Fact := fa983 :: tb983
/-- studwork/lattice.Compose -/
def fa984 : Fact := ⟨7, [iv 22, iv 22], V.tup [iv 7, iv 0]⟩
def tb985 : List Fact := fa984 :: tb984
/-- studwork/lattice.Compose -/
def fa985 : Fact := ⟨7, [iv 22, iv 23], V.tup [iv 3, iv 0]⟩
def tb986 : List Fact := fa985 :: tb985
/-- studwork/lattice.Turn -/
def fa986 : Fact := ⟨26, [V.agg [iv 1, iv 2, iv 3], iv 23], V.tup [V.agg [iv (-3), iv (-2), iv (-1)], iv 0]⟩
def tb987 : List Fact := fa986 :: tb986
/-- studwork/lattice.turnBetween -/
def fa987 : Fact := ⟨35, [V.agg [iv (-3), iv (-2), iv (-1)], V.agg [iv 1, iv 2, iv 3]], iv 23⟩
def tb988 : List Fact := fa987 :: tb987
/-- studwork/lattice.Invert -/
def fa988 : Fact := ⟨8, [iv 23], V.tup [iv 23, iv 0]⟩
def tb989 : List Fact := fa988 :: tb988
/-- studwork/lattice.Compose -/
def fa989 : Fact := ⟨7, [iv 23, iv 0], V.tup [iv 23, iv 0]⟩
def tb990 : List Fact := fa989 :: tb989
/-- studwork/lattice.Compose -/
def fa990 : Fact := ⟨7, [iv 23, iv 1], V.tup [iv 7, iv 0]⟩
def tb991 : List Fact := fa990 :: tb990
/-- studwork/lattice.Compose -/
def fa991 : Fact := ⟨7, [iv 23, iv 2], V.tup [iv 19, iv 0]⟩
def tb992 : List Fact := fa991 :: tb991
/-- studwork/lattice.Compose -/
def fa992 : Fact := ⟨7, [iv 23, iv 3], V.tup [iv 13, iv 0]⟩
def tb993 : List Fact := fa992 :: tb992
/-- studwork/lattice.Compose -/
def fa993 : Fact := ⟨7, [iv 23, iv 4], V.tup [iv 22, iv 0]⟩
def tb994 : List Fact := fa993 :: tb993
/-- studwork/lattice.Compose -/
def fa994 : Fact := ⟨7, [iv 23, iv 5], V.tup [iv 11, iv 0]⟩
def tb995 : List Fact := fa994 :: tb994
/-- studwork/lattice.Compose -/
def fa995 : Fact := ⟨7, [iv 23, iv 6], V.tup [iv 16, iv 0]⟩
def tb996 : List Fact := fa995 :: tb995
/-- studwork/lattice.Compose -/
def fa996 : Fact := ⟨7, [iv 23, iv 7], V.tup [iv 1, iv 0]⟩
def tb997 : List Fact := fa996 :: tb996
/-- studwork/lattice.Compose -/
def fa997 : Fact := ⟨7, [iv 23, iv 8], V.tup [iv 21, iv 0]⟩
def tb998 : List Fact := fa997 :: tb997
/-- studwork/lattice.Compose -/
def fa998 : Fact := ⟨7, [iv 23, iv 9], V.tup [iv 15, iv 0]⟩
def tb999 : List Fact := fa998 :: tb998
/-- studwork/lattice.Compose -/
def fa999 : Fact := ⟨7, [iv 23, iv 10], V.tup [iv 17, iv 0]⟩
def tb1000 : List Fact := fa999 :: tb999
/-- studwork/lattice.Compose -/
def fa1000 : Fact := ⟨7, [iv 23, iv 11], V.tup [iv 5, iv 0]⟩
def tb1001 : List Fact := fa1000 :: tb1000
/-- studwork/lattice.Compose -/
def fa1001 : Fact := ⟨7, [iv 23, iv 12], V.tup [iv 20, iv 0]⟩
def tb1002 : List Fact := fa1001 :: tb1001
/-- studwork/lattice.Compose -/
def fa1002 : Fact := ⟨7, [iv 23, iv 13], V.tup [iv 3, iv 0]⟩
def tb1003 : List Fact := fa1002 :: tb1002
/-- studwork/lattice.Compose -/
def fa1003 : Fact := ⟨7, [iv 23, iv 14], V.tup [iv 18, iv 0]⟩
def tb1004 : List Fact := fa1003 :: tb1003
/-- studwork/lattice.Compose -/
def fa1004 : Fact := ⟨7, [iv 23, iv 15], V.tup [iv 9, iv 0]⟩
def tb1005 : List Fact := fa1004 :: tb1004
/-- studwork/lattice.Compose -/
def fa1005 : Fact := ⟨7, [iv 23, iv 16], V.tup [iv 6, iv 0]⟩
def tb1006 : List Fact := fa1005 :: tb1005
/-- studwork/lattice.Compose -/
def fa1006 : Fact := ⟨7, [iv 23, iv 17], V.tup [iv 10, iv 0]⟩
def tb1007 : List Fact := fa1006 :: tb1006
/-- studwork/lattice.Compose -/
def fa1007 : Fact := ⟨7, [iv 23, iv 18], V.tup [iv 14, iv 0]⟩
def tb1008 : List Fact := fa1007 :: tb1007
/-- studwork/lattice.Compose -/
def fa1008 : Fact := ⟨7, [iv 23, iv 19], V.tup [iv 2, iv 0]⟩
def tb1009 : List Fact := fa1008 :: tb1008
/-- studwork/lattice.Compose -/
def fa1009 : Fact := ⟨7, [iv 23, iv 20], V.tup [iv 12, iv 0]⟩
def tb1010 : List Fact := fa1009 :: tb1009
/-- studwork/lattice.Compose -/
def fa1010 : Fact := ⟨7, [iv 23, iv 21], V.tup [iv 8, iv 0]⟩
def tb1011 : List Fact := fa1010 :: tb1010
/-- studwork/lattice.Compose -/
def fa1011 : Fact := ⟨7, [iv 23, iv 22], V.tup [iv 4, iv 0]⟩
def tb1012 : List Fact := fa1011 :: tb1011
/-- studwork/lattice.Compose -/
def fa1012 : Fact := ⟨7, [iv 23, iv 23], V.tup [iv 0, iv 0]⟩
def tb1013 : List Fact := fa1012 :: tb1012
end Go.Proofs.YtdecfbnmioagjaaGreatDoor
