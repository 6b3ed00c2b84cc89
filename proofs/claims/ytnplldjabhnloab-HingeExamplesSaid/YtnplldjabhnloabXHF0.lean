/- What calls of the examples return. -/
import Derived.Test.YtnplldjabhnloabXHR
namespace Go.Proofs.Ytnplldjabhnloab
open Go Go.Proofs.Ytnplldjabhnloab.Clean
set_option linter.unusedVariables false
set_option maxRecDepth 100000
def gsX : List Nat := [4, 5, 6, 8, 10, 11, 14, 15, 16, 21, 23, 30, 31]
def tb0 : List Fact := []
/-- studwork/hinge.angles -/
def fa0 : Fact := ⟨21, [], V.agg [iv (-1), iv 0, iv 1, iv 0, iv (-1), iv 1, iv 0, iv 1, iv 1, iv 1, iv 0, iv 1, iv (-4), iv (-3), iv 5, iv (-4), iv 3, iv 5, iv (-3), iv (-4), iv 5, iv (-3), iv 4, iv 5, iv 3, iv (-4), iv 5, iv 3, iv 4, iv 5, iv 4, iv (-3), iv 5, iv 4, iv 3, iv 5, iv (-12), iv (-5), iv 13, iv (-12), iv 5, iv 13, iv (-5), iv (-12), iv 13, iv (-5), iv 12, iv 13, iv 5, iv (-12), iv 13, iv 5, iv 12, iv 13, iv 12, iv (-5), iv 13, iv 12, iv 5, iv 13, iv (-15), iv (-8), iv 17, iv (-15), iv 8, iv 17, iv (-8), iv (-15), iv 17, iv (-8), iv 15, iv 17, iv 8, iv (-15), iv 17, iv 8, iv 15, iv 17, iv 15, iv (-8), iv 17, iv 15, iv 8, iv 17, iv (-24), iv (-7), iv 25, iv (-24), iv 7, iv 25, iv (-7), iv (-24), iv 25, iv (-7), iv 24, iv 25, iv 7, iv (-24), iv 25, iv 7, iv 24, iv 25, iv 24, iv (-7), iv 25, iv 24, iv 7, iv 25]⟩
def tb1 : List Fact := fa0 :: tb0
/-- studwork/hinge.Angle -/
def fa1 : Fact := ⟨5, [iv 9], V.tup [iv 3, iv 4, iv 5, iv 0]⟩
def tb2 : List Fact := fa1 :: tb1
/-- studwork/hinge.Poses -/
def fa2 : Fact := ⟨14, [V.agg [V.lst 1 [[V.lst 2 [[iv 0, iv 0], [iv 4, iv 0], [iv 4, iv 4], [iv 0, iv 4]]], [V.lst 2 [[iv 0, iv 0], [iv 4, iv 0], [iv 4, iv 4], [iv 0, iv 4]]]], V.lst 5 [[iv 4, iv 0, iv 0, iv 0, iv 9]]]], V.tup [V.lst 5 [[iv 1, iv 0, iv 0, iv 0, iv 1], [iv 3, iv 4, iv 20, iv 0, iv 5]], iv 0]⟩
def tb3 : List Fact := fa2 :: tb2
/-- studwork/hinge.Corners -/
def fa3 : Fact := ⟨15, [V.agg [V.lst 1 [[V.lst 2 [[iv 0, iv 0], [iv 4, iv 0], [iv 4, iv 4], [iv 0, iv 4]]], [V.lst 2 [[iv 0, iv 0], [iv 4, iv 0], [iv 4, iv 4], [iv 0, iv 4]]]], V.lst 5 [[iv 4, iv 0, iv 0, iv 0, iv 9]]], iv 1], V.tup [V.lst 2 [[iv 20, iv 0], [iv 32, iv 16], [iv 16, iv 28], [iv 4, iv 12]], iv 5, iv 0]⟩
def tb4 : List Fact := fa3 :: tb3
/-- studwork/hinge.pair -/
def fa4 : Fact := ⟨30, [V.agg [V.lst 1 [[V.lst 2 [[iv 0, iv 0], [iv 4, iv 0], [iv 4, iv 4], [iv 0, iv 4]]], [V.lst 2 [[iv 0, iv 0], [iv 4, iv 0], [iv 4, iv 4], [iv 0, iv 4]]]], V.lst 5 [[iv 4, iv 0, iv 0, iv 0, iv 9]]], iv 0, iv 1], V.tup [V.agg [V.lst 2 [[iv 0, iv 0], [iv 4, iv 0], [iv 4, iv 4], [iv 0, iv 4]], iv 1], V.agg [V.lst 2 [[iv 20, iv 0], [iv 32, iv 16], [iv 16, iv 28], [iv 4, iv 12]], iv 5], iv 0]⟩
def tb5 : List Fact := fa4 :: tb4
/-- studwork/hinge.apart -/
def fa5 : Fact := ⟨31, [V.agg [V.lst 2 [[iv 0, iv 0], [iv 4, iv 0], [iv 4, iv 4], [iv 0, iv 4]], iv 1], V.agg [V.lst 2 [[iv 20, iv 0], [iv 32, iv 16], [iv 16, iv 28], [iv 4, iv 12]], iv 5]], V.agg [bv false, iv 0, iv 0, iv 0, iv 0, V.lst 1 [[iv 1], [iv 2], [iv 0], [iv 0], [iv 0], [iv 0], [iv 0], [iv 2]]]⟩
def tb6 : List Fact := fa5 :: tb5
/-- studwork/hinge.Clash -/
def fa6 : Fact := ⟨10, [V.agg [V.lst 1 [[V.lst 2 [[iv 0, iv 0], [iv 4, iv 0], [iv 4, iv 4], [iv 0, iv 4]]], [V.lst 2 [[iv 0, iv 0], [iv 4, iv 0], [iv 4, iv 4], [iv 0, iv 4]]]], V.lst 5 [[iv 4, iv 0, iv 0, iv 0, iv 9]]], iv 0, iv 1], V.tup [V.agg [bv false, iv 0, iv 0, iv 0, iv 0, V.lst 1 [[iv 1], [iv 2], [iv 0], [iv 0], [iv 0], [iv 0], [iv 0], [iv 2]]], iv 51]⟩
def tb7 : List Fact := fa6 :: tb6
/-- studwork/hinge.pair -/
def fa7 : Fact := ⟨30, [V.agg [V.lst 1 [[V.lst 2 [[iv 0, iv 0], [iv 4, iv 0], [iv 4, iv 4], [iv 0, iv 4]]], [V.lst 2 [[iv 0, iv 0], [iv 4, iv 0], [iv 4, iv 4], [iv 0, iv 4]]]], V.lst 5 [[iv 4, iv 0, iv 0, iv 0, iv 3]]], iv 0, iv 1], V.tup [V.agg [V.lst 2 [[iv 0, iv 0], [iv 4, iv 0], [iv 4, iv 4], [iv 0, iv 4]], iv 1], V.agg [V.lst 2 [[iv 4, iv 0], [iv 8, iv 0], [iv 8, iv 4], [iv 4, iv 4]], iv 1], iv 0]⟩
def tb8 : List Fact := fa7 :: tb7
/-- studwork/hinge.apart -/
def fa8 : Fact := ⟨31, [V.agg [V.lst 2 [[iv 0, iv 0], [iv 4, iv 0], [iv 4, iv 4], [iv 0, iv 4]], iv 1], V.agg [V.lst 2 [[iv 4, iv 0], [iv 8, iv 0], [iv 8, iv 4], [iv 4, iv 4]], iv 1]], V.agg [bv true, iv 1, iv 0, iv 4, iv 1, nilS]⟩
def tb9 : List Fact := fa8 :: tb8
/-- studwork/hinge.Clash -/
def fa9 : Fact := ⟨10, [V.agg [V.lst 1 [[V.lst 2 [[iv 0, iv 0], [iv 4, iv 0], [iv 4, iv 4], [iv 0, iv 4]]], [V.lst 2 [[iv 0, iv 0], [iv 4, iv 0], [iv 4, iv 4], [iv 0, iv 4]]]], V.lst 5 [[iv 4, iv 0, iv 0, iv 0, iv 3]]], iv 0, iv 1], V.tup [V.agg [bv true, iv 1, iv 0, iv 4, iv 1, nilS], iv 0]⟩
def tb10 : List Fact := fa9 :: tb9
/-- studwork/hinge.Gap -/
def fa10 : Fact := ⟨16, [V.agg [V.lst 1 [[V.lst 2 [[iv 0, iv 0], [iv 4, iv 0], [iv 4, iv 4], [iv 0, iv 4]]], [V.lst 2 [[iv 0, iv 0], [iv 4, iv 0], [iv 4, iv 4], [iv 0, iv 4]]]], V.lst 5 [[iv 4, iv 0, iv 0, iv 0, iv 2]]], V.agg [iv 4, iv 0], V.agg [iv 4, iv 4]], V.tup [iv 0, iv 0, iv 1, iv 0]⟩
def tb11 : List Fact := fa10 :: tb10
/-- studwork/hinge.Close -/
def fa11 : Fact := ⟨8, [V.agg [V.lst 1 [[V.lst 2 [[iv 0, iv 0], [iv 4, iv 0], [iv 4, iv 4], [iv 0, iv 4]]], [V.lst 2 [[iv 0, iv 0], [iv 4, iv 0], [iv 4, iv 4], [iv 0, iv 4]]]], V.lst 5 [[iv 4, iv 0, iv 0, iv 0, iv 9]]], V.agg [iv 4, iv 0], V.agg [iv 4, iv 4]], V.tup [V.lst 1 [[iv 2]], iv 0]⟩
def tb12 : List Fact := fa11 :: tb11
/-- studwork/hinge.CheckApart -/
def fa12 : Fact := ⟨11, [V.agg [V.lst 1 [[V.lst 2 [[iv 0, iv 0], [iv 4, iv 0], [iv 4, iv 4], [iv 0, iv 4]]], [V.lst 2 [[iv 0, iv 0], [iv 4, iv 0], [iv 4, iv 4], [iv 0, iv 4]]]], V.lst 5 [[iv 4, iv 0, iv 0, iv 0, iv 9]]], iv 0, iv 1, V.agg [bv false, iv 0, iv 0, iv 0, iv 0, V.lst 1 [[iv 1], [iv 2], [iv 0], [iv 0], [iv 0], [iv 0], [iv 0], [iv 2]]]], iv 0⟩
def tb13 : List Fact := fa12 :: tb12
/-- studwork/hinge.CheckApart -/
def fa13 : Fact := ⟨11, [V.agg [V.lst 1 [[V.lst 2 [[iv 0, iv 0], [iv 4, iv 0], [iv 4, iv 4], [iv 0, iv 4]]], [V.lst 2 [[iv 0, iv 0], [iv 4, iv 0], [iv 4, iv 4], [iv 0, iv 4]]]], V.lst 5 [[iv 4, iv 0, iv 0, iv 0, iv 3]]], iv 0, iv 1, V.agg [bv true, iv 1, iv 0, iv 4, iv 1, nilS]], iv 0⟩
def tb14 : List Fact := fa13 :: tb13
/-- studwork/studworklaw05.alive -/
def fa14 : Fact := ⟨4, [], bv true⟩
def tb15 : List Fact := fa14 :: tb14
/-- studwork/hinge.Angle -/
def fa15 : Fact := ⟨5, [iv 0], V.tup [iv (-1), iv 0, iv 1, iv 0]⟩
def tb16 : List Fact := fa15 :: tb15
/-- studwork/hinge.Angle -/
def fa16 : Fact := ⟨5, [iv 3], V.tup [iv 1, iv 0, iv 1, iv 0]⟩
def tb17 : List Fact := fa16 :: tb16
/-- studwork/hinge.Angle -/
def fa17 : Fact := ⟨5, [iv 4], V.tup [iv (-4), iv (-3), iv 5, iv 0]⟩
def tb18 : List Fact := fa17 :: tb17
/-- studwork/hinge.Angle -/
def fa18 : Fact := ⟨5, [iv 35], V.tup [iv 24, iv 7, iv 25, iv 0]⟩
def tb19 : List Fact := fa18 :: tb18
/-- studwork/hinge.apart -/
def fa19 : Fact := ⟨31, [V.agg [V.lst 2 [[iv 0, iv 0], [iv 4, iv 0], [iv 4, iv 4], [iv 0, iv 4]], iv 1], V.agg [V.lst 2 [[iv 4, iv 0], [iv 0, iv 0], [iv 0, iv (-4)], [iv 4, iv (-4)]], iv 1]], V.agg [bv true, iv 0, iv (-1), iv 0, iv 1, nilS]⟩
def tb20 : List Fact := fa19 :: tb19
/-- studwork/hinge.clashes -/
def fa20 : Fact := ⟨23, [V.lst 2 [[V.lst 2 [[iv 0, iv 0], [iv 4, iv 0], [iv 4, iv 4], [iv 0, iv 4]], iv 1], [V.lst 2 [[iv 4, iv 0], [iv 0, iv 0], [iv 0, iv (-4)], [iv 4, iv (-4)]], iv 1]]], nilS⟩
def tb21 : List Fact := fa20 :: tb20
/-- studwork/hinge.apart -/
def fa21 : Fact := ⟨31, [V.agg [V.lst 2 [[iv 0, iv 0], [iv 4, iv 0], [iv 4, iv 4], [iv 0, iv 4]], iv 1], V.agg [V.lst 2 [[iv 4, iv 0], [iv 4, iv (-4)], [iv 8, iv (-4)], [iv 8, iv 0]], iv 1]], V.agg [bv true, iv 0, iv (-1), iv 0, iv 1, nilS]⟩
def tb22 : List Fact := fa21 :: tb21
/-- studwork/hinge.clashes -/
def fa22 : Fact := ⟨23, [V.lst 2 [[V.lst 2 [[iv 0, iv 0], [iv 4, iv 0], [iv 4, iv 4], [iv 0, iv 4]], iv 1], [V.lst 2 [[iv 4, iv 0], [iv 4, iv (-4)], [iv 8, iv (-4)], [iv 8, iv 0]], iv 1]]], nilS⟩
def tb23 : List Fact := fa22 :: tb22
/-- studwork/hinge.apart -/
def fa23 : Fact := ⟨31, [V.agg [V.lst 2 [[iv 0, iv 0], [iv 4, iv 0], [iv 4, iv 4], [iv 0, iv 4]], iv 1], V.agg [V.lst 2 [[iv 4, iv 0], [iv 4, iv 4], [iv 0, iv 4], [iv 0, iv 0]], iv 1]], V.agg [bv false, iv 0, iv 0, iv 0, iv 0, V.lst 1 [[iv 1], [iv 2], [iv 0], [iv 0], [iv 0], [iv 0], [iv 1], [iv 2]]]⟩
def tb24 : List Fact := fa23 :: tb23
/-- studwork/hinge.clashes -/
def fa24 : Fact := ⟨23, [V.lst 2 [[V.lst 2 [[iv 0, iv 0], [iv 4, iv 0], [iv 4, iv 4], [iv 0, iv 4]], iv 1], [V.lst 2 [[iv 4, iv 0], [iv 4, iv 4], [iv 0, iv 4], [iv 0, iv 0]], iv 1]]], V.lst 2 [[iv 0, iv 1]]⟩
def tb25 : List Fact := fa24 :: tb24
/-- studwork/hinge.clashes -/
def fa25 : Fact := ⟨23, [V.lst 2 [[V.lst 2 [[iv 0, iv 0], [iv 4, iv 0], [iv 4, iv 4], [iv 0, iv 4]], iv 1], [V.lst 2 [[iv 4, iv 0], [iv 8, iv 0], [iv 8, iv 4], [iv 4, iv 4]], iv 1]]], nilS⟩
def tb26 : List Fact := fa25 :: tb25
/-- studwork/hinge.apart -/
def fa26 : Fact := ⟨31, [V.agg [V.lst 2 [[iv 0, iv 0], [iv 4, iv 0], [iv 4, iv 4], [iv 0, iv 4]], iv 1], V.agg [V.lst 2 [[iv 20, iv 0], [iv 4, iv (-12)], [iv 16, iv (-28)], [iv 32, iv (-16)]], iv 5]], V.agg [bv true, iv 0, iv (-1), iv 0, iv 1, nilS]⟩
def tb27 : List Fact := fa26 :: tb26
/-- studwork/hinge.clashes -/
def fa27 : Fact := ⟨23, [V.lst 2 [[V.lst 2 [[iv 0, iv 0], [iv 4, iv 0], [iv 4, iv 4], [iv 0, iv 4]], iv 1], [V.lst 2 [[iv 20, iv 0], [iv 4, iv (-12)], [iv 16, iv (-28)], [iv 32, iv (-16)]], iv 5]]], nilS⟩
def tb28 : List Fact := fa27 :: tb27
/-- studwork/hinge.apart -/
def fa28 : Fact := ⟨31, [V.agg [V.lst 2 [[iv 0, iv 0], [iv 4, iv 0], [iv 4, iv 4], [iv 0, iv 4]], iv 1], V.agg [V.lst 2 [[iv 20, iv 0], [iv 4, iv 12], [iv (-8), iv (-4)], [iv 8, iv (-16)]], iv 5]], V.agg [bv false, iv 0, iv 0, iv 0, iv 0, V.lst 1 [[iv 1], [iv 1], [iv 0], [iv 0], [iv 0], [iv 0], [iv 0], [iv 0]]]⟩
def tb29 : List Fact := fa28 :: tb28
/-- studwork/hinge.clashes -/
def fa29 : Fact := ⟨23, [V.lst 2 [[V.lst 2 [[iv 0, iv 0], [iv 4, iv 0], [iv 4, iv 4], [iv 0, iv 4]], iv 1], [V.lst 2 [[iv 20, iv 0], [iv 4, iv 12], [iv (-8), iv (-4)], [iv 8, iv (-16)]], iv 5]]], V.lst 2 [[iv 0, iv 1]]⟩
def tb30 : List Fact := fa29 :: tb29
/-- studwork/hinge.apart -/
def fa30 : Fact := ⟨31, [V.agg [V.lst 2 [[iv 0, iv 0], [iv 4, iv 0], [iv 4, iv 4], [iv 0, iv 4]], iv 1], V.agg [V.lst 2 [[iv 20, iv 0], [iv 8, iv (-16)], [iv 24, iv (-28)], [iv 36, iv (-12)]], iv 5]], V.agg [bv true, iv 0, iv (-1), iv 0, iv 1, nilS]⟩
def tb31 : List Fact := fa30 :: tb30
/-- studwork/hinge.clashes -/
def fa31 : Fact := ⟨23, [V.lst 2 [[V.lst 2 [[iv 0, iv 0], [iv 4, iv 0], [iv 4, iv 4], [iv 0, iv 4]], iv 1], [V.lst 2 [[iv 20, iv 0], [iv 8, iv (-16)], [iv 24, iv (-28)], [iv 36, iv (-12)]], iv 5]]], nilS⟩
def tb32 : List Fact := fa31 :: tb31
/-- studwork/hinge.apart -/
def fa32 : Fact := ⟨31, [V.agg [V.lst 2 [[iv 0, iv 0], [iv 4, iv 0], [iv 4, iv 4], [iv 0, iv 4]], iv 1], V.agg [V.lst 2 [[iv 20, iv 0], [iv 8, iv 16], [iv (-8), iv 4], [iv 4, iv (-12)]], iv 5]], V.agg [bv false, iv 0, iv 0, iv 0, iv 0, V.lst 1 [[iv 1], [iv 1], [iv 0], [iv 0], [iv 0], [iv 0], [iv 0], [iv 0]]]⟩
def tb33 : List Fact := fa32 :: tb32
/-- studwork/hinge.clashes -/
def fa33 : Fact := ⟨23, [V.lst 2 [[V.lst 2 [[iv 0, iv 0], [iv 4, iv 0], [iv 4, iv 4], [iv 0, iv 4]], iv 1], [V.lst 2 [[iv 20, iv 0], [iv 8, iv 16], [iv (-8), iv 4], [iv 4, iv (-12)]], iv 5]]], V.lst 2 [[iv 0, iv 1]]⟩
def tb34 : List Fact := fa33 :: tb33
/-- studwork/hinge.apart -/
def fa34 : Fact := ⟨31, [V.agg [V.lst 2 [[iv 0, iv 0], [iv 4, iv 0], [iv 4, iv 4], [iv 0, iv 4]], iv 1], V.agg [V.lst 2 [[iv 20, iv 0], [iv 32, iv (-16)], [iv 48, iv (-4)], [iv 36, iv 12]], iv 5]], V.agg [bv true, iv 1, iv 0, iv 4, iv 1, nilS]⟩
def tb35 : List Fact := fa34 :: tb34
/-- studwork/hinge.clashes -/
def fa35 : Fact := ⟨23, [V.lst 2 [[V.lst 2 [[iv 0, iv 0], [iv 4, iv 0], [iv 4, iv 4], [iv 0, iv 4]], iv 1], [V.lst 2 [[iv 20, iv 0], [iv 32, iv (-16)], [iv 48, iv (-4)], [iv 36, iv 12]], iv 5]]], nilS⟩
def tb36 : List Fact := fa35 :: tb35
/-- studwork/hinge.clashes -/
def fa36 : Fact := ⟨23, [V.lst 2 [[V.lst 2 [[iv 0, iv 0], [iv 4, iv 0], [iv 4, iv 4], [iv 0, iv 4]], iv 1], [V.lst 2 [[iv 20, iv 0], [iv 32, iv 16], [iv 16, iv 28], [iv 4, iv 12]], iv 5]]], V.lst 2 [[iv 0, iv 1]]⟩
def tb37 : List Fact := fa36 :: tb36
/-- studwork/hinge.apart -/
def fa37 : Fact := ⟨31, [V.agg [V.lst 2 [[iv 0, iv 0], [iv 4, iv 0], [iv 4, iv 4], [iv 0, iv 4]], iv 1], V.agg [V.lst 2 [[iv 20, iv 0], [iv 36, iv (-12)], [iv 48, iv 4], [iv 32, iv 16]], iv 5]], V.agg [bv true, iv 1, iv 0, iv 4, iv 1, nilS]⟩
def tb38 : List Fact := fa37 :: tb37
/-- studwork/hinge.clashes -/
def fa38 : Fact := ⟨23, [V.lst 2 [[V.lst 2 [[iv 0, iv 0], [iv 4, iv 0], [iv 4, iv 4], [iv 0, iv 4]], iv 1], [V.lst 2 [[iv 20, iv 0], [iv 36, iv (-12)], [iv 48, iv 4], [iv 32, iv 16]], iv 5]]], nilS⟩
def tb39 : List Fact := fa38 :: tb38
/-- studwork/hinge.apart -/
def fa39 : Fact := ⟨31, [V.agg [V.lst 2 [[iv 0, iv 0], [iv 4, iv 0], [iv 4, iv 4], [iv 0, iv 4]], iv 1], V.agg [V.lst 2 [[iv 20, iv 0], [iv 36, iv 12], [iv 24, iv 28], [iv 8, iv 16]], iv 5]], V.agg [bv false, iv 0, iv 0, iv 0, iv 0, V.lst 1 [[iv 1], [iv 3], [iv 0], [iv 0], [iv 0], [iv 0], [iv 0], [iv 2]]]⟩
def tb40 : List Fact := fa39 :: tb39
/-- studwork/hinge.clashes -/
def fa40 : Fact := ⟨23, [V.lst 2 [[V.lst 2 [[iv 0, iv 0], [iv 4, iv 0], [iv 4, iv 4], [iv 0, iv 4]], iv 1], [V.lst 2 [[iv 20, iv 0], [iv 36, iv 12], [iv 24, iv 28], [iv 8, iv 16]], iv 5]]], V.lst 2 [[iv 0, iv 1]]⟩
def tb41 : List Fact := fa40 :: tb40
/-- studwork/hinge.apart -/
def fa41 : Fact := ⟨31, [V.agg [V.lst 2 [[iv 0, iv 0], [iv 4, iv 0], [iv 4, iv 4], [iv 0, iv 4]], iv 1], V.agg [V.lst 2 [[iv 52, iv 0], [iv 4, iv (-20)], [iv 24, iv (-68)], [iv 72, iv (-48)]], iv 13]], V.agg [bv true, iv 0, iv (-1), iv 0, iv 1, nilS]⟩
def tb42 : List Fact := fa41 :: tb41
/-- studwork/hinge.clashes -/
def fa42 : Fact := ⟨23, [V.lst 2 [[V.lst 2 [[iv 0, iv 0], [iv 4, iv 0], [iv 4, iv 4], [iv 0, iv 4]], iv 1], [V.lst 2 [[iv 52, iv 0], [iv 4, iv (-20)], [iv 24, iv (-68)], [iv 72, iv (-48)]], iv 13]]], nilS⟩
def tb43 : List Fact := fa42 :: tb42
/-- studwork/hinge.apart -/
def fa43 : Fact := ⟨31, [V.agg [V.lst 2 [[iv 0, iv 0], [iv 4, iv 0], [iv 4, iv 4], [iv 0, iv 4]], iv 1], V.agg [V.lst 2 [[iv 52, iv 0], [iv 4, iv 20], [iv (-16), iv (-28)], [iv 32, iv (-48)]], iv 13]], V.agg [bv false, iv 0, iv 0, iv 0, iv 0, V.lst 1 [[iv 1], [iv 1], [iv 0], [iv 0], [iv 0], [iv 0], [iv 0], [iv 0]]]⟩
def tb44 : List Fact := fa43 :: tb43
/-- studwork/hinge.clashes -/
def fa44 : Fact := ⟨23, [V.lst 2 [[V.lst 2 [[iv 0, iv 0], [iv 4, iv 0], [iv 4, iv 4], [iv 0, iv 4]], iv 1], [V.lst 2 [[iv 52, iv 0], [iv 4, iv 20], [iv (-16), iv (-28)], [iv 32, iv (-48)]], iv 13]]], V.lst 2 [[iv 0, iv 1]]⟩
def tb45 : List Fact := fa44 :: tb44
/-- studwork/hinge.apart -/
def fa45 : Fact := ⟨31, [V.agg [V.lst 2 [[iv 0, iv 0], [iv 4, iv 0], [iv 4, iv 4], [iv 0, iv 4]], iv 1], V.agg [V.lst 2 [[iv 52, iv 0], [iv 32, iv (-48)], [iv 80, iv (-68)], [iv 100, iv (-20)]], iv 13]], V.agg [bv true, iv 0, iv (-1), iv 0, iv 1, nilS]⟩
def tb46 : List Fact := fa45 :: tb45
/-- studwork/hinge.clashes -/
def fa46 : Fact := ⟨23, [V.lst 2 [[V.lst 2 [[iv 0, iv 0], [iv 4, iv 0], [iv 4, iv 4], [iv 0, iv 4]], iv 1], [V.lst 2 [[iv 52, iv 0], [iv 32, iv (-48)], [iv 80, iv (-68)], [iv 100, iv (-20)]], iv 13]]], nilS⟩
def tb47 : List Fact := fa46 :: tb46
/-- studwork/hinge.apart -/
def fa47 : Fact := ⟨31, [V.agg [V.lst 2 [[iv 0, iv 0], [iv 4, iv 0], [iv 4, iv 4], [iv 0, iv 4]], iv 1], V.agg [V.lst 2 [[iv 52, iv 0], [iv 32, iv 48], [iv (-16), iv 28], [iv 4, iv (-20)]], iv 13]], V.agg [bv false, iv 0, iv 0, iv 0, iv 0, V.lst 1 [[iv 1], [iv 1], [iv 0], [iv 0], [iv 0], [iv 0], [iv 0], [iv 0]]]⟩
def tb48 : List Fact := fa47 :: tb47
/-- studwork/hinge.clashes -/
def fa48 : Fact := ⟨23, [V.lst 2 [[V.lst 2 [[iv 0, iv 0], [iv 4, iv 0], [iv 4, iv 4], [iv 0, iv 4]], iv 1], [V.lst 2 [[iv 52, iv 0], [iv 32, iv 48], [iv (-16), iv 28], [iv 4, iv (-20)]], iv 13]]], V.lst 2 [[iv 0, iv 1]]⟩
def tb49 : List Fact := fa48 :: tb48
/-- studwork/hinge.apart -/
def fa49 : Fact := ⟨31, [V.agg [V.lst 2 [[iv 0, iv 0], [iv 4, iv 0], [iv 4, iv 4], [iv 0, iv 4]], iv 1], V.agg [V.lst 2 [[iv 52, iv 0], [iv 72, iv (-48)], [iv 120, iv (-28)], [iv 100, iv 20]], iv 13]], V.agg [bv true, iv 1, iv 0, iv 4, iv 1, nilS]⟩
def tb50 : List Fact := fa49 :: tb49
/-- studwork/hinge.clashes -/
def fa50 : Fact := ⟨23, [V.lst 2 [[V.lst 2 [[iv 0, iv 0], [iv 4, iv 0], [iv 4, iv 4], [iv 0, iv 4]], iv 1], [V.lst 2 [[iv 52, iv 0], [iv 72, iv (-48)], [iv 120, iv (-28)], [iv 100, iv 20]], iv 13]]], nilS⟩
def tb51 : List Fact := fa50 :: tb50
/-- studwork/hinge.apart -/
def fa51 : Fact := ⟨31, [V.agg [V.lst 2 [[iv 0, iv 0], [iv 4, iv 0], [iv 4, iv 4], [iv 0, iv 4]], iv 1], V.agg [V.lst 2 [[iv 52, iv 0], [iv 72, iv 48], [iv 24, iv 68], [iv 4, iv 20]], iv 13]], V.agg [bv false, iv 0, iv 0, iv 0, iv 0, V.lst 1 [[iv 1], [iv 2], [iv 0], [iv 0], [iv 0], [iv 0], [iv 0], [iv 2]]]⟩
def tb52 : List Fact := fa51 :: tb51
/-- studwork/hinge.clashes -/
def fa52 : Fact := ⟨23, [V.lst 2 [[V.lst 2 [[iv 0, iv 0], [iv 4, iv 0], [iv 4, iv 4], [iv 0, iv 4]], iv 1], [V.lst 2 [[iv 52, iv 0], [iv 72, iv 48], [iv 24, iv 68], [iv 4, iv 20]], iv 13]]], V.lst 2 [[iv 0, iv 1]]⟩
def tb53 : List Fact := fa52 :: tb52
/-- studwork/hinge.apart -/
def fa53 : Fact := ⟨31, [V.agg [V.lst 2 [[iv 0, iv 0], [iv 4, iv 0], [iv 4, iv 4], [iv 0, iv 4]], iv 1], V.agg [V.lst 2 [[iv 52, iv 0], [iv 100, iv (-20)], [iv 120, iv 28], [iv 72, iv 48]], iv 13]], V.agg [bv true, iv 1, iv 0, iv 4, iv 1, nilS]⟩
def tb54 : List Fact := fa53 :: tb53
/-- studwork/hinge.clashes -/
def fa54 : Fact := ⟨23, [V.lst 2 [[V.lst 2 [[iv 0, iv 0], [iv 4, iv 0], [iv 4, iv 4], [iv 0, iv 4]], iv 1], [V.lst 2 [[iv 52, iv 0], [iv 100, iv (-20)], [iv 120, iv 28], [iv 72, iv 48]], iv 13]]], nilS⟩
def tb55 : List Fact := fa54 :: tb54
/-- studwork/hinge.apart -/
def fa55 : Fact := ⟨31, [V.agg [V.lst 2 [[iv 0, iv 0], [iv 4, iv 0], [iv 4, iv 4], [iv 0, iv 4]], iv 1], V.agg [V.lst 2 [[iv 52, iv 0], [iv 100, iv 20], [iv 80, iv 68], [iv 32, iv 48]], iv 13]], V.agg [bv false, iv 0, iv 0, iv 0, iv 0, V.lst 1 [[iv 1], [iv 3], [iv 0], [iv 0], [iv 0], [iv 0], [iv 0], [iv 2]]]⟩
def tb56 : List Fact := fa55 :: tb55
/-- studwork/hinge.clashes -/
def fa56 : Fact := ⟨23, [V.lst 2 [[V.lst 2 [[iv 0, iv 0], [iv 4, iv 0], [iv 4, iv 4], [iv 0, iv 4]], iv 1], [V.lst 2 [[iv 52, iv 0], [iv 100, iv 20], [iv 80, iv 68], [iv 32, iv 48]], iv 13]]], V.lst 2 [[iv 0, iv 1]]⟩
def tb57 : List Fact := fa56 :: tb56
/-- studwork/hinge.apart -/
def fa57 : Fact := ⟨31, [V.agg [V.lst 2 [[iv 0, iv 0], [iv 4, iv 0], [iv 4, iv 4], [iv 0, iv 4]], iv 1], V.agg [V.lst 2 [[iv 68, iv 0], [iv 8, iv (-32)], [iv 40, iv (-92)], [iv 100, iv (-60)]], iv 17]], V.agg [bv true, iv 0, iv (-1), iv 0, iv 1, nilS]⟩
def tb58 : List Fact := fa57 :: tb57
/-- studwork/hinge.clashes -/
def fa58 : Fact := ⟨23, [V.lst 2 [[V.lst 2 [[iv 0, iv 0], [iv 4, iv 0], [iv 4, iv 4], [iv 0, iv 4]], iv 1], [V.lst 2 [[iv 68, iv 0], [iv 8, iv (-32)], [iv 40, iv (-92)], [iv 100, iv (-60)]], iv 17]]], nilS⟩
def tb59 : List Fact := fa58 :: tb58
/-- studwork/hinge.apart -/
def fa59 : Fact := ⟨31, [V.agg [V.lst 2 [[iv 0, iv 0], [iv 4, iv 0], [iv 4, iv 4], [iv 0, iv 4]], iv 1], V.agg [V.lst 2 [[iv 68, iv 0], [iv 8, iv 32], [iv (-24), iv (-28)], [iv 36, iv (-60)]], iv 17]], V.agg [bv false, iv 0, iv 0, iv 0, iv 0, V.lst 1 [[iv 1], [iv 1], [iv 0], [iv 0], [iv 0], [iv 0], [iv 0], [iv 0]]]⟩
def tb60 : List Fact := fa59 :: tb59
/-- studwork/hinge.clashes -/
def fa60 : Fact := ⟨23, [V.lst 2 [[V.lst 2 [[iv 0, iv 0], [iv 4, iv 0], [iv 4, iv 4], [iv 0, iv 4]], iv 1], [V.lst 2 [[iv 68, iv 0], [iv 8, iv 32], [iv (-24), iv (-28)], [iv 36, iv (-60)]], iv 17]]], V.lst 2 [[iv 0, iv 1]]⟩
def tb61 : List Fact := fa60 :: tb60
/-- studwork/hinge.apart -/
def fa61 : Fact := ⟨31, [V.agg [V.lst 2 [[iv 0, iv 0], [iv 4, iv 0], [iv 4, iv 4], [iv 0, iv 4]], iv 1], V.agg [V.lst 2 [[iv 68, iv 0], [iv 36, iv (-60)], [iv 96, iv (-92)], [iv 128, iv (-32)]], iv 17]], V.agg [bv true, iv 0, iv (-1), iv 0, iv 1, nilS]⟩
def tb62 : List Fact := fa61 :: tb61
/-- studwork/hinge.clashes -/
def fa62 : Fact := ⟨23, [V.lst 2 [[V.lst 2 [[iv 0, iv 0], [iv 4, iv 0], [iv 4, iv 4], [iv 0, iv 4]], iv 1], [V.lst 2 [[iv 68, iv 0], [iv 36, iv (-60)], [iv 96, iv (-92)], [iv 128, iv (-32)]], iv 17]]], nilS⟩
def tb63 : List Fact := fa62 :: tb62
/-- studwork/hinge.apart -/
def fa63 : Fact := ⟨31, [V.agg [V.lst 2 [[iv 0, iv 0], [iv 4, iv 0], [iv 4, iv 4], [iv 0, iv 4]], iv 1], V.agg [V.lst 2 [[iv 68, iv 0], [iv 36, iv 60], [iv (-24), iv 28], [iv 8, iv (-32)]], iv 17]], V.agg [bv false, iv 0, iv 0, iv 0, iv 0, V.lst 1 [[iv 1], [iv 1], [iv 0], [iv 0], [iv 0], [iv 0], [iv 0], [iv 0]]]⟩
def tb64 : List Fact := fa63 :: tb63
/-- studwork/hinge.clashes -/
def fa64 : Fact := ⟨23, [V.lst 2 [[V.lst 2 [[iv 0, iv 0], [iv 4, iv 0], [iv 4, iv 4], [iv 0, iv 4]], iv 1], [V.lst 2 [[iv 68, iv 0], [iv 36, iv 60], [iv (-24), iv 28], [iv 8, iv (-32)]], iv 17]]], V.lst 2 [[iv 0, iv 1]]⟩
def tb65 : List Fact := fa64 :: tb64
/-- studwork/hinge.apart -/
def fa65 : Fact := ⟨31, [V.agg [V.lst 2 [[iv 0, iv 0], [iv 4, iv 0], [iv 4, iv 4], [iv 0, iv 4]], iv 1], V.agg [V.lst 2 [[iv 68, iv 0], [iv 100, iv (-60)], [iv 160, iv (-28)], [iv 128, iv 32]], iv 17]], V.agg [bv true, iv 1, iv 0, iv 4, iv 1, nilS]⟩
def tb66 : List Fact := fa65 :: tb65
/-- studwork/hinge.clashes -/
def fa66 : Fact := ⟨23, [V.lst 2 [[V.lst 2 [[iv 0, iv 0], [iv 4, iv 0], [iv 4, iv 4], [iv 0, iv 4]], iv 1], [V.lst 2 [[iv 68, iv 0], [iv 100, iv (-60)], [iv 160, iv (-28)], [iv 128, iv 32]], iv 17]]], nilS⟩
def tb67 : List Fact := fa66 :: tb66
/-- studwork/hinge.apart -/
def fa67 : Fact := ⟨31, [V.agg [V.lst 2 [[iv 0, iv 0], [iv 4, iv 0], [iv 4, iv 4], [iv 0, iv 4]], iv 1], V.agg [V.lst 2 [[iv 68, iv 0], [iv 100, iv 60], [iv 40, iv 92], [iv 8, iv 32]], iv 17]], V.agg [bv false, iv 0, iv 0, iv 0, iv 0, V.lst 1 [[iv 1], [iv 2], [iv 0], [iv 0], [iv 0], [iv 0], [iv 0], [iv 2]]]⟩
def tb68 : List Fact := fa67 :: tb67
/-- studwork/hinge.clashes -/
def fa68 : Fact := ⟨23, [V.lst 2 [[V.lst 2 [[iv 0, iv 0], [iv 4, iv 0], [iv 4, iv 4], [iv 0, iv 4]], iv 1], [V.lst 2 [[iv 68, iv 0], [iv 100, iv 60], [iv 40, iv 92], [iv 8, iv 32]], iv 17]]], V.lst 2 [[iv 0, iv 1]]⟩
def tb69 : List Fact := fa68 :: tb68
/-- studwork/hinge.apart -/
def fa69 : Fact := ⟨31, [V.agg [V.lst 2 [[iv 0, iv 0], [iv 4, iv 0], [iv 4, iv 4], [iv 0, iv 4]], iv 1], V.agg [V.lst 2 [[iv 68, iv 0], [iv 128, iv (-32)], [iv 160, iv 28], [iv 100, iv 60]], iv 17]], V.agg [bv true, iv 1, iv 0, iv 4, iv 1, nilS]⟩
def tb70 : List Fact := fa69 :: tb69
/-- studwork/hinge.clashes -/
def fa70 : Fact := ⟨23, [V.lst 2 [[V.lst 2 [[iv 0, iv 0], [iv 4, iv 0], [iv 4, iv 4], [iv 0, iv 4]], iv 1], [V.lst 2 [[iv 68, iv 0], [iv 128, iv (-32)], [iv 160, iv 28], [iv 100, iv 60]], iv 17]]], nilS⟩
def tb71 : List Fact := fa70 :: tb70
/-- studwork/hinge.apart -/
def fa71 : Fact := ⟨31, [V.agg [V.lst 2 [[iv 0, iv 0], [iv 4, iv 0], [iv 4, iv 4], [iv 0, iv 4]], iv 1], V.agg [V.lst 2 [[iv 68, iv 0], [iv 128, iv 32], [iv 96, iv 92], [iv 36, iv 60]], iv 17]], V.agg [bv false, iv 0, iv 0, iv 0, iv 0, V.lst 1 [[iv 1], [iv 3], [iv 0], [iv 0], [iv 0], [iv 0], [iv 0], [iv 2]]]⟩
def tb72 : List Fact := fa71 :: tb71
/-- studwork/hinge.clashes -/
def fa72 : Fact := ⟨23, [V.lst 2 [[V.lst 2 [[iv 0, iv 0], [iv 4, iv 0], [iv 4, iv 4], [iv 0, iv 4]], iv 1], [V.lst 2 [[iv 68, iv 0], [iv 128, iv 32], [iv 96, iv 92], [iv 36, iv 60]], iv 17]]], V.lst 2 [[iv 0, iv 1]]⟩
def tb73 : List Fact := fa72 :: tb72
/-- studwork/hinge.apart -/
def fa73 : Fact := ⟨31, [V.agg [V.lst 2 [[iv 0, iv 0], [iv 4, iv 0], [iv 4, iv 4], [iv 0, iv 4]], iv 1], V.agg [V.lst 2 [[iv 100, iv 0], [iv 4, iv (-28)], [iv 32, iv (-124)], [iv 128, iv (-96)]], iv 25]], V.agg [bv true, iv 0, iv (-1), iv 0, iv 1, nilS]⟩
def tb74 : List Fact := fa73 :: tb73
/-- studwork/hinge.clashes -/
def fa74 : Fact := ⟨23, [V.lst 2 [[V.lst 2 [[iv 0, iv 0], [iv 4, iv 0], [iv 4, iv 4], [iv 0, iv 4]], iv 1], [V.lst 2 [[iv 100, iv 0], [iv 4, iv (-28)], [iv 32, iv (-124)], [iv 128, iv (-96)]], iv 25]]], nilS⟩
def tb75 : List Fact := fa74 :: tb74
/-- studwork/hinge.apart -/
def fa75 : Fact := ⟨31, [V.agg [V.lst 2 [[iv 0, iv 0], [iv 4, iv 0], [iv 4, iv 4], [iv 0, iv 4]], iv 1], V.agg [V.lst 2 [[iv 100, iv 0], [iv 4, iv 28], [iv (-24), iv (-68)], [iv 72, iv (-96)]], iv 25]], V.agg [bv false, iv 0, iv 0, iv 0, iv 0, V.lst 1 [[iv 1], [iv 1], [iv 0], [iv 0], [iv 0], [iv 0], [iv 0], [iv 0]]]⟩
def tb76 : List Fact := fa75 :: tb75
/-- studwork/hinge.clashes -/
def fa76 : Fact := ⟨23, [V.lst 2 [[V.lst 2 [[iv 0, iv 0], [iv 4, iv 0], [iv 4, iv 4], [iv 0, iv 4]], iv 1], [V.lst 2 [[iv 100, iv 0], [iv 4, iv 28], [iv (-24), iv (-68)], [iv 72, iv (-96)]], iv 25]]], V.lst 2 [[iv 0, iv 1]]⟩
def tb77 : List Fact := fa76 :: tb76
/-- studwork/hinge.apart -/
def fa77 : Fact := ⟨31, [V.agg [V.lst 2 [[iv 0, iv 0], [iv 4, iv 0], [iv 4, iv 4], [iv 0, iv 4]], iv 1], V.agg [V.lst 2 [[iv 100, iv 0], [iv 72, iv (-96)], [iv 168, iv (-124)], [iv 196, iv (-28)]], iv 25]], V.agg [bv true, iv 0, iv (-1), iv 0, iv 1, nilS]⟩
def tb78 : List Fact := fa77 :: tb77
/-- studwork/hinge.clashes -/
def fa78 : Fact := ⟨23, [V.lst 2 [[V.lst 2 [[iv 0, iv 0], [iv 4, iv 0], [iv 4, iv 4], [iv 0, iv 4]], iv 1], [V.lst 2 [[iv 100, iv 0], [iv 72, iv (-96)], [iv 168, iv (-124)], [iv 196, iv (-28)]], iv 25]]], nilS⟩
def tb79 : List Fact := fa78 :: tb78
/-- studwork/hinge.apart -/
def fa79 : Fact := ⟨31, [V.agg [V.lst 2 [[iv 0, iv 0], [iv 4, iv 0], [iv 4, iv 4], [iv 0, iv 4]], iv 1], V.agg [V.lst 2 [[iv 100, iv 0], [iv 72, iv 96], [iv (-24), iv 68], [iv 4, iv (-28)]], iv 25]], V.agg [bv false, iv 0, iv 0, iv 0, iv 0, V.lst 1 [[iv 1], [iv 1], [iv 0], [iv 0], [iv 0], [iv 0], [iv 0], [iv 0]]]⟩
def tb80 : List Fact := fa79 :: tb79
/-- studwork/hinge.clashes -/
def fa80 : Fact := ⟨23, [V.lst 2 [[V.lst 2 [[iv 0, iv 0], [iv 4, iv 0], [iv 4, iv 4], [iv 0, iv 4]], iv 1], [V.lst 2 [[iv 100, iv 0], [iv 72, iv 96], [iv (-24), iv 68], [iv 4, iv (-28)]], iv 25]]], V.lst 2 [[iv 0, iv 1]]⟩
def tb81 : List Fact := fa80 :: tb80
/-- studwork/hinge.apart -/
def fa81 : Fact := ⟨31, [V.agg [V.lst 2 [[iv 0, iv 0], [iv 4, iv 0], [iv 4, iv 4], [iv 0, iv 4]], iv 1], V.agg [V.lst 2 [[iv 100, iv 0], [iv 128, iv (-96)], [iv 224, iv (-68)], [iv 196, iv 28]], iv 25]], V.agg [bv true, iv 1, iv 0, iv 4, iv 1, nilS]⟩
def tb82 : List Fact := fa81 :: tb81
/-- studwork/hinge.clashes -/
def fa82 : Fact := ⟨23, [V.lst 2 [[V.lst 2 [[iv 0, iv 0], [iv 4, iv 0], [iv 4, iv 4], [iv 0, iv 4]], iv 1], [V.lst 2 [[iv 100, iv 0], [iv 128, iv (-96)], [iv 224, iv (-68)], [iv 196, iv 28]], iv 25]]], nilS⟩
def tb83 : List Fact := fa82 :: tb82
/-- studwork/hinge.apart -/
def fa83 : Fact := ⟨31, [V.agg [V.lst 2 [[iv 0, iv 0], [iv 4, iv 0], [iv 4, iv 4], [iv 0, iv 4]], iv 1], V.agg [V.lst 2 [[iv 100, iv 0], [iv 128, iv 96], [iv 32, iv 124], [iv 4, iv 28]], iv 25]], V.agg [bv false, iv 0, iv 0, iv 0, iv 0, V.lst 1 [[iv 1], [iv 2], [iv 0], [iv 0], [iv 0], [iv 0], [iv 0], [iv 2]]]⟩
def tb84 : List Fact := fa83 :: tb83
/-- studwork/hinge.clashes -/
def fa84 : Fact := ⟨23, [V.lst 2 [[V.lst 2 [[iv 0, iv 0], [iv 4, iv 0], [iv 4, iv 4], [iv 0, iv 4]], iv 1], [V.lst 2 [[iv 100, iv 0], [iv 128, iv 96], [iv 32, iv 124], [iv 4, iv 28]], iv 25]]], V.lst 2 [[iv 0, iv 1]]⟩
def tb85 : List Fact := fa84 :: tb84
/-- studwork/hinge.apart -/
def fa85 : Fact := ⟨31, [V.agg [V.lst 2 [[iv 0, iv 0], [iv 4, iv 0], [iv 4, iv 4], [iv 0, iv 4]], iv 1], V.agg [V.lst 2 [[iv 100, iv 0], [iv 196, iv (-28)], [iv 224, iv 68], [iv 128, iv 96]], iv 25]], V.agg [bv true, iv 1, iv 0, iv 4, iv 1, nilS]⟩
def tb86 : List Fact := fa85 :: tb85
/-- studwork/hinge.clashes -/
def fa86 : Fact := ⟨23, [V.lst 2 [[V.lst 2 [[iv 0, iv 0], [iv 4, iv 0], [iv 4, iv 4], [iv 0, iv 4]], iv 1], [V.lst 2 [[iv 100, iv 0], [iv 196, iv (-28)], [iv 224, iv 68], [iv 128, iv 96]], iv 25]]], nilS⟩
def tb87 : List Fact := fa86 :: tb86
/-- studwork/hinge.apart -/
def fa87 : Fact := ⟨31, [V.agg [V.lst 2 [[iv 0, iv 0], [iv 4, iv 0], [iv 4, iv 4], [iv 0, iv 4]], iv 1], V.agg [V.lst 2 [[iv 100, iv 0], [iv 196, iv 28], [iv 168, iv 124], [iv 72, iv 96]], iv 25]], V.agg [bv false, iv 0, iv 0, iv 0, iv 0, V.lst 1 [[iv 1], [iv 3], [iv 0], [iv 0], [iv 0], [iv 0], [iv 0], [iv 2]]]⟩
def tb88 : List Fact := fa87 :: tb87
/-- studwork/hinge.clashes -/
def fa88 : Fact := ⟨23, [V.lst 2 [[V.lst 2 [[iv 0, iv 0], [iv 4, iv 0], [iv 4, iv 4], [iv 0, iv 4]], iv 1], [V.lst 2 [[iv 100, iv 0], [iv 196, iv 28], [iv 168, iv 124], [iv 72, iv 96]], iv 25]]], V.lst 2 [[iv 0, iv 1]]⟩
def tb89 : List Fact := fa88 :: tb88
/-- studwork/hinge.Swings -/
def fa89 : Fact := ⟨6, [V.agg [V.lst 1 [[V.lst 2 [[iv 0, iv 0], [iv 4, iv 0], [iv 4, iv 4], [iv 0, iv 4]]], [V.lst 2 [[iv 0, iv 0], [iv 4, iv 0], [iv 4, iv 4], [iv 0, iv 4]]]], V.lst 5 [[iv 4, iv 0, iv 0, iv 0, iv 0]]], iv 0], V.tup [V.lst 1 [[iv 0], [iv 1], [iv 3], [iv 4], [iv 6], [iv 8], [iv 10], [iv 12], [iv 14], [iv 16], [iv 18], [iv 20], [iv 22], [iv 24], [iv 26], [iv 28], [iv 30], [iv 32], [iv 34]], iv 0]⟩
def tb90 : List Fact := fa89 :: tb89
/-- studwork/hinge.Close -/
def fa90 : Fact := ⟨8, [V.agg [V.lst 1 [[V.lst 2 [[iv 0, iv 0], [iv 4, iv 0], [iv 4, iv 4], [iv 0, iv 4]]]], nilS], V.agg [iv 0, iv 0], V.agg [iv 1, iv 0]], V.tup [nilS, iv 52]⟩
def tb91 : List Fact := fa90 :: tb90
/-- studwork/hinge.Close -/
def fa91 : Fact := ⟨8, [V.agg [V.lst 1 [[V.lst 2 [[iv 0, iv 0], [iv 4, iv 0], [iv 4, iv 4], [iv 0, iv 4]]]], nilS], V.agg [iv 1, iv 0], V.agg [iv 1, iv 0]], V.tup [nilS, iv 0]⟩
def tb92 : List Fact := fa91 :: tb91
/-- studwork/hinge.pair -/
def fa92 : Fact := ⟨30, [V.agg [V.lst 1 [[V.lst 2 [[iv 0, iv 0], [iv 4, iv 0], [iv 4, iv 4], [iv 0, iv 4]]], [V.lst 2 [[iv 0, iv 0], [iv 4, iv 0], [iv 4, iv 4], [iv 0, iv 4]]]], V.lst 5 [[iv 4, iv 0, iv 0, iv 0, iv 3]]], iv 1, iv 1], V.tup [V.agg [nilS, iv 0], V.agg [nilS, iv 0], iv 2]⟩
def tb93 : List Fact := fa92 :: tb92
/-- studwork/hinge.Clash -/
def fa93 : Fact := ⟨10, [V.agg [V.lst 1 [[V.lst 2 [[iv 0, iv 0], [iv 4, iv 0], [iv 4, iv 4], [iv 0, iv 4]]], [V.lst 2 [[iv 0, iv 0], [iv 4, iv 0], [iv 4, iv 4], [iv 0, iv 4]]]], V.lst 5 [[iv 4, iv 0, iv 0, iv 0, iv 3]]], iv 1, iv 1], V.tup [V.agg [bv false, iv 0, iv 0, iv 0, iv 0, nilS], iv 2]⟩
def tb94 : List Fact := fa93 :: tb93
/-- studwork/hinge.Angle -/
def fa94 : Fact := ⟨5, [iv 1], V.tup [iv 0, iv (-1), iv 1, iv 0]⟩
def tb95 : List Fact := fa94 :: tb94
/-- studwork/hinge.Angle -/
def fa95 : Fact := ⟨5, [iv 6], V.tup [iv (-3), iv (-4), iv 5, iv 0]⟩
def tb96 : List Fact := fa95 :: tb95
/-- studwork/hinge.Angle -/
def fa96 : Fact := ⟨5, [iv 8], V.tup [iv 3, iv (-4), iv 5, iv 0]⟩
def tb97 : List Fact := fa96 :: tb96
/-- studwork/hinge.Angle -/
def fa97 : Fact := ⟨5, [iv 10], V.tup [iv 4, iv (-3), iv 5, iv 0]⟩
def tb98 : List Fact := fa97 :: tb97
/-- studwork/hinge.Angle -/
def fa98 : Fact := ⟨5, [iv 12], V.tup [iv (-12), iv (-5), iv 13, iv 0]⟩
def tb99 : List Fact := fa98 :: tb98
/-- studwork/hinge.Angle -/
def fa99 : Fact := ⟨5, [iv 14], V.tup [iv (-5), iv (-12), iv 13, iv 0]⟩
def tb100 : List Fact := fa99 :: tb99
/-- studwork/hinge.Angle -/
def fa100 : Fact := ⟨5, [iv 16], V.tup [iv 5, iv (-12), iv 13, iv 0]⟩
def tb101 : List Fact := fa100 :: tb100
/-- studwork/hinge.Angle -/
def fa101 : Fact := ⟨5, [iv 18], V.tup [iv 12, iv (-5), iv 13, iv 0]⟩
def tb102 : List Fact := fa101 :: tb101
/-- studwork/hinge.Angle -/
def fa102 : Fact := ⟨5, [iv 20], V.tup [iv (-15), iv (-8), iv 17, iv 0]⟩
def tb103 : List Fact := fa102 :: tb102
/-- studwork/hinge.Angle -/
def fa103 : Fact := ⟨5, [iv 22], V.tup [iv (-8), iv (-15), iv 17, iv 0]⟩
def tb104 : List Fact := fa103 :: tb103
/-- studwork/hinge.Angle -/
def fa104 : Fact := ⟨5, [iv 24], V.tup [iv 8, iv (-15), iv 17, iv 0]⟩
def tb105 : List Fact := fa104 :: tb104
/-- studwork/hinge.Angle -/
def fa105 : Fact := ⟨5, [iv 26], V.tup [iv 15, iv (-8), iv 17, iv 0]⟩
def tb106 : List Fact := fa105 :: tb105
/-- studwork/hinge.Angle -/
def fa106 : Fact := ⟨5, [iv 28], V.tup [iv (-24), iv (-7), iv 25, iv 0]⟩
def tb107 : List Fact := fa106 :: tb106
/-- studwork/hinge.Angle -/
def fa107 : Fact := ⟨5, [iv 30], V.tup [iv (-7), iv (-24), iv 25, iv 0]⟩
def tb108 : List Fact := fa107 :: tb107
/-- studwork/hinge.Angle -/
def fa108 : Fact := ⟨5, [iv 32], V.tup [iv 7, iv (-24), iv 25, iv 0]⟩
def tb109 : List Fact := fa108 :: tb108
/-- studwork/hinge.Angle -/
def fa109 : Fact := ⟨5, [iv 34], V.tup [iv 24, iv (-7), iv 25, iv 0]⟩
def tb110 : List Fact := fa109 :: tb109
/-- studwork/hinge.CheckApart -/
def fa110 : Fact := ⟨11, [V.agg [V.lst 1 [[V.lst 2 [[iv 0, iv 0], [iv 4, iv 0], [iv 4, iv 4], [iv 0, iv 4]]], [V.lst 2 [[iv 0, iv 0], [iv 4, iv 0], [iv 4, iv 4], [iv 0, iv 4]]]], V.lst 5 [[iv 4, iv 0, iv 0, iv 0, iv 9]]], iv 0, iv 1, V.agg [bv true, iv 1, iv 0, iv 4, iv 1, nilS]], iv 31⟩
def tb111 : List Fact := fa110 :: tb110
end Go.Proofs.Ytnplldjabhnloab
