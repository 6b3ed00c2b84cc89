/- Words for the texts of this claim. -/
import Derived.Test.YtdecfbnmioagjaaGreatDoorXCU
import Derived.Test.YtdecfbnmioagjaaGreatDoorProg
import Derived.Test.YtdecfbnmioagjaaGreatDoorXLR
namespace Go.Proofs.YtdecfbnmioagjaaGreatDoor
open Go Go.Proofs.YtdecfbnmioagjaaGreatDoor.Clean
set_option linter.unusedVariables false
set_option maxRecDepth 100000
noncomputable def cfT : Cfg := cfgQ Tryz.prog glX (inN [31, 53, 32, 36, 56, 57]) (fun _ _ => none) (fun _ _ => none) clX
noncomputable def cfN : Cfg := cfgQ Tryz.prog glX (inN [53]) (fun _ _ => none) (fun _ _ => none) clX
noncomputable def cfG : Cfg := cfgQ Tryz.prog glX (inN [24, 25, 27, 54]) (fun _ _ => none) (fun _ _ => none) clX
noncomputable def cfD : Cfg := cfgQ Tryz.prog glX (inN []) (fun _ _ => none) (fun _ _ => none) clX
noncomputable def cfE : Cfg := cfgQ Tryz.prog glX (inN [30, 31, 53]) (fun _ _ => none) (fun _ _ => none) clX
def ch0 : V := V.agg [V.fn (Fn.func 57) [] [], iv 0, V.raw Value.nilFunc, iv 0, V.raw Value.nilFunc, iv 0]
def ch1 : V := V.agg [V.fn (Fn.func 57) [] [], iv 1, V.raw Value.nilFunc, iv 0, V.raw Value.nilFunc, iv 0]
def ch2 : V := V.agg [V.fn (Fn.func 57) [] [], iv 2, V.raw Value.nilFunc, iv 0, V.raw Value.nilFunc, iv 0]
def ch3 : V := V.agg [V.fn (Fn.func 57) [] [], iv 3, V.raw Value.nilFunc, iv 0, V.raw Value.nilFunc, iv 0]
def ch4 : V := V.agg [V.fn (Fn.func 57) [] [], iv 0, V.fn (Fn.func 56) [] [], iv 1, V.raw Value.nilFunc, iv 0]
def ch5 : V := V.agg [V.fn (Fn.func 57) [] [], iv 1, V.fn (Fn.func 56) [] [], iv 1, V.raw Value.nilFunc, iv 0]
def ch6 : V := V.agg [V.fn (Fn.func 57) [] [], iv 2, V.fn (Fn.func 56) [] [], iv 1, V.raw Value.nilFunc, iv 0]
def ch7 : V := V.agg [V.fn (Fn.func 57) [] [], iv 3, V.fn (Fn.func 56) [] [], iv 1, V.raw Value.nilFunc, iv 0]
def ch8 : V := V.agg [V.fn (Fn.func 57) [] [], iv 0, V.fn (Fn.func 56) [] [], iv 2, V.raw Value.nilFunc, iv 0]
def ch9 : V := V.agg [V.fn (Fn.func 57) [] [], iv 1, V.fn (Fn.func 56) [] [], iv 2, V.raw Value.nilFunc, iv 0]
def ch10 : V := V.agg [V.fn (Fn.func 57) [] [], iv 2, V.fn (Fn.func 56) [] [], iv 2, V.raw Value.nilFunc, iv 0]
def ch11 : V := V.agg [V.fn (Fn.func 57) [] [], iv 3, V.fn (Fn.func 56) [] [], iv 2, V.raw Value.nilFunc, iv 0]
def ch12 : V := V.agg [V.fn (Fn.func 57) [] [], iv 0, V.fn (Fn.func 56) [] [], iv 3, V.raw Value.nilFunc, iv 0]
def ch13 : V := V.agg [V.fn (Fn.func 57) [] [], iv 1, V.fn (Fn.func 56) [] [], iv 3, V.raw Value.nilFunc, iv 0]
def ch14 : V := V.agg [V.fn (Fn.func 57) [] [], iv 2, V.fn (Fn.func 56) [] [], iv 3, V.raw Value.nilFunc, iv 0]
def ch15 : V := V.agg [V.fn (Fn.func 57) [] [], iv 3, V.fn (Fn.func 56) [] [], iv 3, V.raw Value.nilFunc, iv 0]
def ch16 : V := V.agg [V.fn (Fn.func 57) [] [], iv 0, V.fn (Fn.func 56) [] [], iv 1, V.fn (Fn.func 57) [] [], iv 1]
def ch17 : V := V.agg [V.fn (Fn.func 57) [] [], iv 1, V.fn (Fn.func 56) [] [], iv 1, V.fn (Fn.func 57) [] [], iv 1]
def ch18 : V := V.agg [V.fn (Fn.func 57) [] [], iv 2, V.fn (Fn.func 56) [] [], iv 1, V.fn (Fn.func 57) [] [], iv 1]
def ch19 : V := V.agg [V.fn (Fn.func 57) [] [], iv 3, V.fn (Fn.func 56) [] [], iv 1, V.fn (Fn.func 57) [] [], iv 1]
def ch20 : V := V.agg [V.fn (Fn.func 57) [] [], iv 0, V.fn (Fn.func 56) [] [], iv 1, V.fn (Fn.func 57) [] [], iv 3]
def ch21 : V := V.agg [V.fn (Fn.func 57) [] [], iv 1, V.fn (Fn.func 56) [] [], iv 1, V.fn (Fn.func 57) [] [], iv 3]
def ch22 : V := V.agg [V.fn (Fn.func 57) [] [], iv 2, V.fn (Fn.func 56) [] [], iv 1, V.fn (Fn.func 57) [] [], iv 3]
def ch23 : V := V.agg [V.fn (Fn.func 57) [] [], iv 3, V.fn (Fn.func 56) [] [], iv 1, V.fn (Fn.func 57) [] [], iv 3]
def tbC : List Fact := [⟨32, [iv 0], ch0⟩, ⟨32, [iv 1], ch1⟩, ⟨32, [iv 2], ch2⟩, ⟨32, [iv 3], ch3⟩, ⟨32, [iv 4], ch4⟩, ⟨32, [iv 5], ch5⟩, ⟨32, [iv 6], ch6⟩, ⟨32, [iv 7], ch7⟩, ⟨32, [iv 8], ch8⟩, ⟨32, [iv 9], ch9⟩, ⟨32, [iv 10], ch10⟩, ⟨32, [iv 11], ch11⟩, ⟨32, [iv 12], ch12⟩, ⟨32, [iv 13], ch13⟩, ⟨32, [iv 14], ch14⟩, ⟨32, [iv 15], ch15⟩, ⟨32, [iv 16], ch16⟩, ⟨32, [iv 17], ch17⟩, ⟨32, [iv 18], ch18⟩, ⟨32, [iv 19], ch19⟩, ⟨32, [iv 20], ch20⟩, ⟨32, [iv 21], ch21⟩, ⟨32, [iv 22], ch22⟩, ⟨32, [iv 23], ch23⟩]
noncomputable def cfU : Cfg := cfgQ Tryz.prog glX (inN [31, 53, 32]) (fun _ _ => none) (tableK tbC) clX
end Go.Proofs.YtdecfbnmioagjaaGreatDoor
