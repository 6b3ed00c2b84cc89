/- The table of angles: the outer loop, round by round. -/
import Derived.Test.YtnplldjabhnloabXHaR
namespace Go.Proofs.Ytnplldjabhnloab
open Go Go.Proofs.Ytnplldjabhnloab.Clean
set_option linter.unusedVariables false
set_option maxRecDepth 100000
def slA : List Tmp := [(0 : Tmp), (1 : Tmp), (2 : Tmp), (7 : Tmp), (8 : Tmp)]
noncomputable def BA : Post → St → Prop := WY Try.prog cfA 323 (Env.mk 0 0 none 54 21 0) (cdAt [1, 1, 1, 0, 1, 0, 0] (bodyOf Try.f21))
noncomputable def QA (R : V → Prop) : Post := Qblk 0 (Qthen (WY Try.prog cfA 326 (Env.mk 0 0 none 54 21 0) (cdAt [1, 1, 1, 1] (bodyOf Try.f21)) (QendX Try.prog Try.f21 fun v h => R (frzW h v))) (QendX Try.prog Try.f21 fun v h => R (frzW h v)))
def rowA : Nat → List V
  | 0 => [iv 0, iv 0, iv 0, iv 0, iv 0, iv 0, iv 0, iv 0, iv 0, iv 0, iv 0, iv 0, iv 0, iv 0, iv 0, iv 0, iv 0, iv 0, iv 0, iv 0, iv 0, iv 0, iv 0, iv 0, iv 0, iv 0, iv 0, iv 0, iv 0, iv 0, iv 0, iv 0, iv 0, iv 0, iv 0, iv 0, iv 0, iv 0, iv 0, iv 0, iv 0, iv 0, iv 0, iv 0, iv 0, iv 0, iv 0, iv 0, iv 0, iv 0, iv 0, iv 0, iv 0, iv 0, iv 0, iv 0, iv 0, iv 0, iv 0, iv 0, iv 0, iv 0, iv 0, iv 0, iv 0, iv 0, iv 0, iv 0, iv 0, iv 0, iv 0, iv 0, iv 0, iv 0, iv 0, iv 0, iv 0, iv 0, iv 0, iv 0, iv 0, iv 0, iv 0, iv 0, iv 0, iv 0, iv 0, iv 0, iv 0, iv 0, iv 0, iv 0, iv 0, iv 0, iv 0, iv 0, iv 0, iv 0, iv 0, iv 0, iv 0, iv 0, iv 0, iv 0, iv 0, iv 0, iv 0, iv 0]
  | 1 => [iv (-1), iv 0, iv 1, iv 0, iv (-1), iv 1, iv 0, iv 1, iv 1, iv 1, iv 0, iv 1, iv 0, iv 0, iv 0, iv 0, iv 0, iv 0, iv 0, iv 0, iv 0, iv 0, iv 0, iv 0, iv 0, iv 0, iv 0, iv 0, iv 0, iv 0, iv 0, iv 0, iv 0, iv 0, iv 0, iv 0, iv 0, iv 0, iv 0, iv 0, iv 0, iv 0, iv 0, iv 0, iv 0, iv 0, iv 0, iv 0, iv 0, iv 0, iv 0, iv 0, iv 0, iv 0, iv 0, iv 0, iv 0, iv 0, iv 0, iv 0, iv 0, iv 0, iv 0, iv 0, iv 0, iv 0, iv 0, iv 0, iv 0, iv 0, iv 0, iv 0, iv 0, iv 0, iv 0, iv 0, iv 0, iv 0, iv 0, iv 0, iv 0, iv 0, iv 0, iv 0, iv 0, iv 0, iv 0, iv 0, iv 0, iv 0, iv 0, iv 0, iv 0, iv 0, iv 0, iv 0, iv 0, iv 0, iv 0, iv 0, iv 0, iv 0, iv 0, iv 0, iv 0, iv 0, iv 0, iv 0]
  | 2 => [iv (-1), iv 0, iv 1, iv 0, iv (-1), iv 1, iv 0, iv 1, iv 1, iv 1, iv 0, iv 1, iv (-4), iv (-3), iv 5, iv (-4), iv 3, iv 5, iv (-3), iv (-4), iv 5, iv (-3), iv 4, iv 5, iv 3, iv (-4), iv 5, iv 3, iv 4, iv 5, iv 4, iv (-3), iv 5, iv 4, iv 3, iv 5, iv 0, iv 0, iv 0, iv 0, iv 0, iv 0, iv 0, iv 0, iv 0, iv 0, iv 0, iv 0, iv 0, iv 0, iv 0, iv 0, iv 0, iv 0, iv 0, iv 0, iv 0, iv 0, iv 0, iv 0, iv 0, iv 0, iv 0, iv 0, iv 0, iv 0, iv 0, iv 0, iv 0, iv 0, iv 0, iv 0, iv 0, iv 0, iv 0, iv 0, iv 0, iv 0, iv 0, iv 0, iv 0, iv 0, iv 0, iv 0, iv 0, iv 0, iv 0, iv 0, iv 0, iv 0, iv 0, iv 0, iv 0, iv 0, iv 0, iv 0, iv 0, iv 0, iv 0, iv 0, iv 0, iv 0, iv 0, iv 0, iv 0, iv 0, iv 0, iv 0]
  | 3 => [iv (-1), iv 0, iv 1, iv 0, iv (-1), iv 1, iv 0, iv 1, iv 1, iv 1, iv 0, iv 1, iv (-4), iv (-3), iv 5, iv (-4), iv 3, iv 5, iv (-3), iv (-4), iv 5, iv (-3), iv 4, iv 5, iv 3, iv (-4), iv 5, iv 3, iv 4, iv 5, iv 4, iv (-3), iv 5, iv 4, iv 3, iv 5, iv (-12), iv (-5), iv 13, iv (-12), iv 5, iv 13, iv (-5), iv (-12), iv 13, iv (-5), iv 12, iv 13, iv 5, iv (-12), iv 13, iv 5, iv 12, iv 13, iv 12, iv (-5), iv 13, iv 12, iv 5, iv 13, iv 0, iv 0, iv 0, iv 0, iv 0, iv 0, iv 0, iv 0, iv 0, iv 0, iv 0, iv 0, iv 0, iv 0, iv 0, iv 0, iv 0, iv 0, iv 0, iv 0, iv 0, iv 0, iv 0, iv 0, iv 0, iv 0, iv 0, iv 0, iv 0, iv 0, iv 0, iv 0, iv 0, iv 0, iv 0, iv 0, iv 0, iv 0, iv 0, iv 0, iv 0, iv 0, iv 0, iv 0, iv 0, iv 0, iv 0, iv 0]
  | 4 => [iv (-1), iv 0, iv 1, iv 0, iv (-1), iv 1, iv 0, iv 1, iv 1, iv 1, iv 0, iv 1, iv (-4), iv (-3), iv 5, iv (-4), iv 3, iv 5, iv (-3), iv (-4), iv 5, iv (-3), iv 4, iv 5, iv 3, iv (-4), iv 5, iv 3, iv 4, iv 5, iv 4, iv (-3), iv 5, iv 4, iv 3, iv 5, iv (-12), iv (-5), iv 13, iv (-12), iv 5, iv 13, iv (-5), iv (-12), iv 13, iv (-5), iv 12, iv 13, iv 5, iv (-12), iv 13, iv 5, iv 12, iv 13, iv 12, iv (-5), iv 13, iv 12, iv 5, iv 13, iv (-15), iv (-8), iv 17, iv (-15), iv 8, iv 17, iv (-8), iv (-15), iv 17, iv (-8), iv 15, iv 17, iv 8, iv (-15), iv 17, iv 8, iv 15, iv 17, iv 15, iv (-8), iv 17, iv 15, iv 8, iv 17, iv 0, iv 0, iv 0, iv 0, iv 0, iv 0, iv 0, iv 0, iv 0, iv 0, iv 0, iv 0, iv 0, iv 0, iv 0, iv 0, iv 0, iv 0, iv 0, iv 0, iv 0, iv 0, iv 0, iv 0]
  | 5 => [iv (-1), iv 0, iv 1, iv 0, iv (-1), iv 1, iv 0, iv 1, iv 1, iv 1, iv 0, iv 1, iv (-4), iv (-3), iv 5, iv (-4), iv 3, iv 5, iv (-3), iv (-4), iv 5, iv (-3), iv 4, iv 5, iv 3, iv (-4), iv 5, iv 3, iv 4, iv 5, iv 4, iv (-3), iv 5, iv 4, iv 3, iv 5, iv (-12), iv (-5), iv 13, iv (-12), iv 5, iv 13, iv (-5), iv (-12), iv 13, iv (-5), iv 12, iv 13, iv 5, iv (-12), iv 13, iv 5, iv 12, iv 13, iv 12, iv (-5), iv 13, iv 12, iv 5, iv 13, iv (-15), iv (-8), iv 17, iv (-15), iv 8, iv 17, iv (-8), iv (-15), iv 17, iv (-8), iv 15, iv 17, iv 8, iv (-15), iv 17, iv 8, iv 15, iv 17, iv 15, iv (-8), iv 17, iv 15, iv 8, iv 17, iv (-24), iv (-7), iv 25, iv (-24), iv 7, iv 25, iv (-7), iv (-24), iv 25, iv (-7), iv 24, iv 25, iv 7, iv (-24), iv 25, iv 7, iv 24, iv 25, iv 24, iv (-7), iv 25, iv 24, iv 7, iv 25]
  | _ => []
def nA : Nat → Int
  | 0 => 0
  | 1 => 4
  | 2 => 12
  | 3 => 20
  | 4 => 28
  | 5 => 36
  | _ => 0
noncomputable def sA (i : Nat) : St := ⟨mkT [(0, V.ptr (Id.p 0) 0 0), (1, V.ptr (Id.p 1) 0 0), (2, iv (nA i)), (7, V.agg [iv 1, iv 5, iv 13, iv 17, iv 25]), (8, iv (i : Int))], ⟨[(0, O.rows 108 false [rowA 0]), (1, O.rows 108 false [rowA i])], 2, []⟩⟩
def tabV : V := V.agg (rowA 5)
end Go.Proofs.Ytnplldjabhnloab
