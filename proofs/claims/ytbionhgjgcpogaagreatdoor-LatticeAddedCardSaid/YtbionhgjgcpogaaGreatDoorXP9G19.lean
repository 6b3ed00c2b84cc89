/- A part of the proof. -/
import Derived.Test.YtbionhgjgcpogaaGreatDoorXP9G18
namespace Go.Proofs.YtbionhgjgcpogaaGreatDoor
open Go Go.Proofs.YtbionhgjgcpogaaGreatDoor.Clean
set_option linter.unusedVariables false
set_option maxRecDepth 100000
def gsX:List Nat:=[18,21,26,29,32,37,46,57,64,74,86,95,105,125]
def tb0:List Fact:=[]
def fa0:Fact:=⟨57,[V.lst 3 [[V.lst 3 [[iv 0,iv 0,iv 0],[iv 1,iv 0,iv 0]],V.lst 5 [[iv 0,iv 0,iv 0,V.raw (.int .u8 4),V.raw (.int .u8 1)],[iv 0,iv 0,iv 0,V.raw (.int .u8 5),V.raw (.int .u8 2)],[iv 1,iv 0,iv 0,V.raw (.int .u8 4),V.raw (.int .u8 1)],[iv 1,iv 0,iv 0,V.raw (.int .u8 5),V.raw (.int .u8 2)]],iv 2]],V.agg [iv 0,iv 5,iv 0,iv 0,V.raw (.int .u8 1),V.raw (.int .u8 0)]],V.tup [V.agg [V.lst 3 [[iv 5,iv 0,iv 0],[iv 5,iv 1,iv 0]],V.lst 5 [[iv 5,iv 0,iv 0,V.raw (.int .u8 4),V.raw (.int .u8 1)],[iv 5,iv 0,iv 0,V.raw (.int .u8 5),V.raw (.int .u8 2)],[iv 5,iv 1,iv 0,V.raw (.int .u8 4),V.raw (.int .u8 1)],[iv 5,iv 1,iv 0,V.raw (.int .u8 5),V.raw (.int .u8 2)]]],iv 0]⟩
def tb1:List Fact:=fa0::tb0
def fa1:Fact:=⟨21,[V.lst 3 [[V.lst 3 [[iv 0,iv 0,iv 0],[iv 1,iv 0,iv 0]],V.lst 5 [[iv 0,iv 0,iv 0,V.raw (.int .u8 4),V.raw (.int .u8 1)],[iv 0,iv 0,iv 0,V.raw (.int .u8 5),V.raw (.int .u8 2)],[iv 1,iv 0,iv 0,V.raw (.int .u8 4),V.raw (.int .u8 1)],[iv 1,iv 0,iv 0,V.raw (.int .u8 5),V.raw (.int .u8 2)]],iv 2]],V.agg [iv 0,iv 5,iv 0,iv 0,V.raw (.int .u8 1),V.raw (.int .u8 0)]],V.tup [V.lst 3 [[iv 5,iv 0,iv 0],[iv 5,iv 1,iv 0]],iv 0]⟩
def tb2:List Fact:=fa1::tb1
def fa2:Fact:=⟨105,[V.lst 3 [[V.lst 3 [[iv 0,iv 0,iv 0],[iv 1,iv 0,iv 0]],V.lst 5 [[iv 0,iv 0,iv 0,V.raw (.int .u8 4),V.raw (.int .u8 1)],[iv 0,iv 0,iv 0,V.raw (.int .u8 5),V.raw (.int .u8 2)],[iv 1,iv 0,iv 0,V.raw (.int .u8 4),V.raw (.int .u8 1)],[iv 1,iv 0,iv 0,V.raw (.int .u8 5),V.raw (.int .u8 2)]],iv 2]],V.agg [V.lst 6 [[iv 0,iv 0,iv 0,iv 0,V.raw (.int .u8 0),V.raw (.int .u8 0)],[iv 0,iv 0,iv 0,iv 1,V.raw (.int .u8 0),V.raw (.int .u8 0)]]]],V.tup [V.lst 2 [[V.lst 3 [[iv 0,iv 0,iv 0],[iv 1,iv 0,iv 0]],V.lst 5 [[iv 0,iv 0,iv 0,V.raw (.int .u8 4),V.raw (.int .u8 1)],[iv 0,iv 0,iv 0,V.raw (.int .u8 5),V.raw (.int .u8 2)],[iv 1,iv 0,iv 0,V.raw (.int .u8 4),V.raw (.int .u8 1)],[iv 1,iv 0,iv 0,V.raw (.int .u8 5),V.raw (.int .u8 2)]]],[V.lst 3 [[iv 0,iv 0,iv 1],[iv 1,iv 0,iv 1]],V.lst 5 [[iv 0,iv 0,iv 1,V.raw (.int .u8 4),V.raw (.int .u8 1)],[iv 0,iv 0,iv 1,V.raw (.int .u8 5),V.raw (.int .u8 2)],[iv 1,iv 0,iv 1,V.raw (.int .u8 4),V.raw (.int .u8 1)],[iv 1,iv 0,iv 1,V.raw (.int .u8 5),V.raw (.int .u8 2)]]]],iv 0]⟩
def tb3:List Fact:=fa2::tb2
def fa3:Fact:=⟨64,[V.lst 3 [[V.lst 3 [[iv 0,iv 0,iv 0],[iv 1,iv 0,iv 0]],V.lst 5 [[iv 0,iv 0,iv 0,V.raw (.int .u8 4),V.raw (.int .u8 1)],[iv 0,iv 0,iv 0,V.raw (.int .u8 5),V.raw (.int .u8 2)],[iv 1,iv 0,iv 0,V.raw (.int .u8 4),V.raw (.int .u8 1)],[iv 1,iv 0,iv 0,V.raw (.int .u8 5),V.raw (.int .u8 2)]],iv 2]],V.agg [V.lst 6 [[iv 0,iv 0,iv 0,iv 0,V.raw (.int .u8 0),V.raw (.int .u8 0)],[iv 0,iv 0,iv 0,iv 1,V.raw (.int .u8 0),V.raw (.int .u8 0)]]]],V.tup [V.lst 2 [[V.lst 3 [[iv 0,iv 0,iv 0],[iv 1,iv 0,iv 0]],V.lst 5 [[iv 0,iv 0,iv 0,V.raw (.int .u8 4),V.raw (.int .u8 1)],[iv 0,iv 0,iv 0,V.raw (.int .u8 5),V.raw (.int .u8 2)],[iv 1,iv 0,iv 0,V.raw (.int .u8 4),V.raw (.int .u8 1)],[iv 1,iv 0,iv 0,V.raw (.int .u8 5),V.raw (.int .u8 2)]]],[V.lst 3 [[iv 0,iv 0,iv 1],[iv 1,iv 0,iv 1]],V.lst 5 [[iv 0,iv 0,iv 1,V.raw (.int .u8 4),V.raw (.int .u8 1)],[iv 0,iv 0,iv 1,V.raw (.int .u8 5),V.raw (.int .u8 2)],[iv 1,iv 0,iv 1,V.raw (.int .u8 4),V.raw (.int .u8 1)],[iv 1,iv 0,iv 1,V.raw (.int .u8 5),V.raw (.int .u8 2)]]]],iv 0]⟩
def tb4:List Fact:=fa3::tb3
def fa4:Fact:=⟨32,[V.lst 3 [[V.lst 3 [[iv 0,iv 0,iv 0],[iv 1,iv 0,iv 0]],V.lst 5 [[iv 0,iv 0,iv 0,V.raw (.int .u8 4),V.raw (.int .u8 1)],[iv 0,iv 0,iv 0,V.raw (.int .u8 5),V.raw (.int .u8 2)],[iv 1,iv 0,iv 0,V.raw (.int .u8 4),V.raw (.int .u8 1)],[iv 1,iv 0,iv 0,V.raw (.int .u8 5),V.raw (.int .u8 2)]],iv 2]],V.agg [V.lst 6 [[iv 0,iv 0,iv 0,iv 0,V.raw (.int .u8 0),V.raw (.int .u8 0)],[iv 0,iv 0,iv 0,iv 1,V.raw (.int .u8 0),V.raw (.int .u8 0)]]]],V.tup [V.lst 5 [[iv 0,iv 1,iv 4,V.raw (.int .u8 0),bv false]],iv 0]⟩
def tb5:List Fact:=fa4::tb4
def fa5:Fact:=⟨125,[V.agg [iv 1,iv 2,iv 3],V.agg [iv 3,iv 1,iv 2]],iv 16⟩
def tb6:List Fact:=fa5::tb5
def fa6:Fact:=⟨86,[iv 4,iv 1],iv 16⟩
def tb7:List Fact:=fa6::tb6
def fa7:Fact:=⟨46,[iv 4,iv 1],V.tup [iv 16,iv 0]⟩
def tb8:List Fact:=fa7::tb7
def fa8:Fact:=⟨105,[V.lst 3 [[V.lst 3 [[iv 0,iv 0,iv 0],[iv 1,iv 0,iv 0]],V.lst 5 [[iv 0,iv 0,iv 0,V.raw (.int .u8 4),V.raw (.int .u8 1)],[iv 0,iv 0,iv 0,V.raw (.int .u8 5),V.raw (.int .u8 2)],[iv 1,iv 0,iv 0,V.raw (.int .u8 4),V.raw (.int .u8 1)],[iv 1,iv 0,iv 0,V.raw (.int .u8 5),V.raw (.int .u8 2)]],iv 2]],V.agg [V.lst 6 [[iv 0,iv 0,iv 0,iv 0,V.raw (.int .u8 0),V.raw (.int .u8 0)],[iv 0,iv 1,iv 0,iv 1,V.raw (.int .u8 0),V.raw (.int .u8 0)]]]],V.tup [V.lst 2 [[V.lst 3 [[iv 0,iv 0,iv 0],[iv 1,iv 0,iv 0]],V.lst 5 [[iv 0,iv 0,iv 0,V.raw (.int .u8 4),V.raw (.int .u8 1)],[iv 0,iv 0,iv 0,V.raw (.int .u8 5),V.raw (.int .u8 2)],[iv 1,iv 0,iv 0,V.raw (.int .u8 4),V.raw (.int .u8 1)],[iv 1,iv 0,iv 0,V.raw (.int .u8 5),V.raw (.int .u8 2)]]],[V.lst 3 [[iv 1,iv 0,iv 1],[iv 2,iv 0,iv 1]],V.lst 5 [[iv 1,iv 0,iv 1,V.raw (.int .u8 4),V.raw (.int .u8 1)],[iv 1,iv 0,iv 1,V.raw (.int .u8 5),V.raw (.int .u8 2)],[iv 2,iv 0,iv 1,V.raw (.int .u8 4),V.raw (.int .u8 1)],[iv 2,iv 0,iv 1,V.raw (.int .u8 5),V.raw (.int .u8 2)]]]],iv 0]⟩
def tb9:List Fact:=fa8::tb8
def fa9:Fact:=⟨64,[V.lst 3 [[V.lst 3 [[iv 0,iv 0,iv 0],[iv 1,iv 0,iv 0]],V.lst 5 [[iv 0,iv 0,iv 0,V.raw (.int .u8 4),V.raw (.int .u8 1)],[iv 0,iv 0,iv 0,V.raw (.int .u8 5),V.raw (.int .u8 2)],[iv 1,iv 0,iv 0,V.raw (.int .u8 4),V.raw (.int .u8 1)],[iv 1,iv 0,iv 0,V.raw (.int .u8 5),V.raw (.int .u8 2)]],iv 2]],V.agg [V.lst 6 [[iv 0,iv 0,iv 0,iv 0,V.raw (.int .u8 0),V.raw (.int .u8 0)],[iv 0,iv 1,iv 0,iv 1,V.raw (.int .u8 0),V.raw (.int .u8 0)]]]],V.tup [V.lst 2 [[V.lst 3 [[iv 0,iv 0,iv 0],[iv 1,iv 0,iv 0]],V.lst 5 [[iv 0,iv 0,iv 0,V.raw (.int .u8 4),V.raw (.int .u8 1)],[iv 0,iv 0,iv 0,V.raw (.int .u8 5),V.raw (.int .u8 2)],[iv 1,iv 0,iv 0,V.raw (.int .u8 4),V.raw (.int .u8 1)],[iv 1,iv 0,iv 0,V.raw (.int .u8 5),V.raw (.int .u8 2)]]],[V.lst 3 [[iv 1,iv 0,iv 1],[iv 2,iv 0,iv 1]],V.lst 5 [[iv 1,iv 0,iv 1,V.raw (.int .u8 4),V.raw (.int .u8 1)],[iv 1,iv 0,iv 1,V.raw (.int .u8 5),V.raw (.int .u8 2)],[iv 2,iv 0,iv 1,V.raw (.int .u8 4),V.raw (.int .u8 1)],[iv 2,iv 0,iv 1,V.raw (.int .u8 5),V.raw (.int .u8 2)]]]],iv 0]⟩
def tb10:List Fact:=fa9::tb9
def fa10:Fact:=⟨29,[V.lst 3 [[V.lst 3 [[iv 0,iv 0,iv 0],[iv 1,iv 0,iv 0]],V.lst 5 [[iv 0,iv 0,iv 0,V.raw (.int .u8 4),V.raw (.int .u8 1)],[iv 0,iv 0,iv 0,V.raw (.int .u8 5),V.raw (.int .u8 2)],[iv 1,iv 0,iv 0,V.raw (.int .u8 4),V.raw (.int .u8 1)],[iv 1,iv 0,iv 0,V.raw (.int .u8 5),V.raw (.int .u8 2)]],iv 2]],V.agg [V.lst 6 [[iv 0,iv 0,iv 0,iv 0,V.raw (.int .u8 0),V.raw (.int .u8 0)],[iv 0,iv 1,iv 0,iv 1,V.raw (.int .u8 0),V.raw (.int .u8 0)]]]],V.tup [V.lst 5 [[iv 0,iv 1,iv 2,iv 1,V.raw (.int .u8 1)]],iv 0]⟩
def tb11:List Fact:=fa10::tb10
def fa11:Fact:=⟨32,[V.lst 3 [[V.lst 3 [[iv 0,iv 0,iv 0],[iv 1,iv 0,iv 0]],V.lst 5 [[iv 0,iv 0,iv 0,V.raw (.int .u8 4),V.raw (.int .u8 1)],[iv 0,iv 0,iv 0,V.raw (.int .u8 5),V.raw (.int .u8 2)],[iv 1,iv 0,iv 0,V.raw (.int .u8 4),V.raw (.int .u8 1)],[iv 1,iv 0,iv 0,V.raw (.int .u8 5),V.raw (.int .u8 2)]],iv 2]],V.agg [V.lst 6 [[iv 0,iv 0,iv 0,iv 0,V.raw (.int .u8 0),V.raw (.int .u8 0)],[iv 0,iv 1,iv 0,iv 1,V.raw (.int .u8 0),V.raw (.int .u8 0)]]]],V.tup [V.lst 5 [[iv 0,iv 1,iv 2,V.raw (.int .u8 3),bv false]],iv 0]⟩
def tb12:List Fact:=fa11::tb11
def fa12:Fact:=⟨95,[V.agg [V.lst 3 [[iv 0,iv 0,iv 0],[iv 1,iv 0,iv 0]],V.lst 5 [[iv 0,iv 0,iv 0,V.raw (.int .u8 4),V.raw (.int .u8 1)],[iv 0,iv 0,iv 0,V.raw (.int .u8 5),V.raw (.int .u8 2)],[iv 1,iv 0,iv 0,V.raw (.int .u8 4),V.raw (.int .u8 1)],[iv 1,iv 0,iv 0,V.raw (.int .u8 5),V.raw (.int .u8 2)]],iv 2],iv 2,V.agg [iv 0,iv 0,iv 0]],V.agg [V.lst 3 [[iv (-1),iv 0,iv 0],[iv 0,iv 0,iv 0]],V.lst 5 [[iv 0,iv 0,iv 0,V.raw (.int .u8 4),V.raw (.int .u8 1)],[iv 0,iv 0,iv 0,V.raw (.int .u8 5),V.raw (.int .u8 2)],[iv (-1),iv 0,iv 0,V.raw (.int .u8 4),V.raw (.int .u8 1)],[iv (-1),iv 0,iv 0,V.raw (.int .u8 5),V.raw (.int .u8 2)]]]⟩
def tb13:List Fact:=fa12::tb12
def fa13:Fact:=⟨95,[V.agg [V.lst 3 [[iv 0,iv 0,iv 0],[iv 1,iv 0,iv 0]],V.lst 5 [[iv 0,iv 0,iv 0,V.raw (.int .u8 4),V.raw (.int .u8 1)],[iv 0,iv 0,iv 0,V.raw (.int .u8 5),V.raw (.int .u8 2)],[iv 1,iv 0,iv 0,V.raw (.int .u8 4),V.raw (.int .u8 1)],[iv 1,iv 0,iv 0,V.raw (.int .u8 5),V.raw (.int .u8 2)]],iv 2],iv 3,V.agg [iv 0,iv 0,iv 0]],V.agg [V.lst 3 [[iv 0,iv (-1),iv 0],[iv 0,iv 0,iv 0]],V.lst 5 [[iv 0,iv 0,iv 0,V.raw (.int .u8 4),V.raw (.int .u8 1)],[iv 0,iv 0,iv 0,V.raw (.int .u8 5),V.raw (.int .u8 2)],[iv 0,iv (-1),iv 0,V.raw (.int .u8 4),V.raw (.int .u8 1)],[iv 0,iv (-1),iv 0,V.raw (.int .u8 5),V.raw (.int .u8 2)]]]⟩
def tb14:List Fact:=fa13::tb13
def fa14:Fact:=⟨95,[V.agg [V.lst 3 [[iv 0,iv 0,iv 0],[iv 1,iv 0,iv 0]],V.lst 5 [[iv 0,iv 0,iv 0,V.raw (.int .u8 4),V.raw (.int .u8 1)],[iv 0,iv 0,iv 0,V.raw (.int .u8 5),V.raw (.int .u8 2)],[iv 1,iv 0,iv 0,V.raw (.int .u8 4),V.raw (.int .u8 1)],[iv 1,iv 0,iv 0,V.raw (.int .u8 5),V.raw (.int .u8 2)]],iv 2],iv 6,V.agg [iv 0,iv 0,iv 0]],V.agg [V.lst 3 [[iv (-1),iv 0,iv 0],[iv 0,iv 0,iv 0]],V.lst 5 [[iv 0,iv 0,iv 0,V.raw (.int .u8 3),V.raw (.int .u8 1)],[iv 0,iv 0,iv 0,V.raw (.int .u8 2),V.raw (.int .u8 2)],[iv (-1),iv 0,iv 0,V.raw (.int .u8 3),V.raw (.int .u8 1)],[iv (-1),iv 0,iv 0,V.raw (.int .u8 2),V.raw (.int .u8 2)]]]⟩
def tb15:List Fact:=fa14::tb14
def fa15:Fact:=⟨95,[V.agg [V.lst 3 [[iv 0,iv 0,iv 0],[iv 1,iv 0,iv 0]],V.lst 5 [[iv 0,iv 0,iv 0,V.raw (.int .u8 4),V.raw (.int .u8 1)],[iv 0,iv 0,iv 0,V.raw (.int .u8 5),V.raw (.int .u8 2)],[iv 1,iv 0,iv 0,V.raw (.int .u8 4),V.raw (.int .u8 1)],[iv 1,iv 0,iv 0,V.raw (.int .u8 5),V.raw (.int .u8 2)]],iv 2],iv 7,V.agg [iv 0,iv 0,iv 0]],V.agg [V.lst 3 [[iv 0,iv 0,iv (-1)],[iv 0,iv 0,iv 0]],V.lst 5 [[iv 0,iv 0,iv 0,V.raw (.int .u8 3),V.raw (.int .u8 1)],[iv 0,iv 0,iv 0,V.raw (.int .u8 2),V.raw (.int .u8 2)],[iv 0,iv 0,iv (-1),V.raw (.int .u8 3),V.raw (.int .u8 1)],[iv 0,iv 0,iv (-1),V.raw (.int .u8 2),V.raw (.int .u8 2)]]]⟩
def tb16:List Fact:=fa15::tb15
def fa16:Fact:=⟨95,[V.agg [V.lst 3 [[iv 0,iv 0,iv 0],[iv 1,iv 0,iv 0]],V.lst 5 [[iv 0,iv 0,iv 0,V.raw (.int .u8 4),V.raw (.int .u8 1)],[iv 0,iv 0,iv 0,V.raw (.int .u8 5),V.raw (.int .u8 2)],[iv 1,iv 0,iv 0,V.raw (.int .u8 4),V.raw (.int .u8 1)],[iv 1,iv 0,iv 0,V.raw (.int .u8 5),V.raw (.int .u8 2)]],iv 2],iv 8,V.agg [iv 0,iv 0,iv 0]],V.agg [V.lst 3 [[iv 0,iv 0,iv 0],[iv 1,iv 0,iv 0]],V.lst 5 [[iv 0,iv 0,iv 0,V.raw (.int .u8 5),V.raw (.int .u8 1)],[iv 0,iv 0,iv 0,V.raw (.int .u8 4),V.raw (.int .u8 2)],[iv 1,iv 0,iv 0,V.raw (.int .u8 5),V.raw (.int .u8 1)],[iv 1,iv 0,iv 0,V.raw (.int .u8 4),V.raw (.int .u8 2)]]]⟩
def tb17:List Fact:=fa16::tb16
def fa17:Fact:=⟨95,[V.agg [V.lst 3 [[iv 0,iv 0,iv 0],[iv 1,iv 0,iv 0]],V.lst 5 [[iv 0,iv 0,iv 0,V.raw (.int .u8 4),V.raw (.int .u8 1)],[iv 0,iv 0,iv 0,V.raw (.int .u8 5),V.raw (.int .u8 2)],[iv 1,iv 0,iv 0,V.raw (.int .u8 4),V.raw (.int .u8 1)],[iv 1,iv 0,iv 0,V.raw (.int .u8 5),V.raw (.int .u8 2)]],iv 2],iv 9,V.agg [iv 0,iv 0,iv 0]],V.agg [V.lst 3 [[iv 0,iv (-1),iv 0],[iv 0,iv 0,iv 0]],V.lst 5 [[iv 0,iv 0,iv 0,V.raw (.int .u8 5),V.raw (.int .u8 1)],[iv 0,iv 0,iv 0,V.raw (.int .u8 4),V.raw (.int .u8 2)],[iv 0,iv (-1),iv 0,V.raw (.int .u8 5),V.raw (.int .u8 1)],[iv 0,iv (-1),iv 0,V.raw (.int .u8 4),V.raw (.int .u8 2)]]]⟩
def tb18:List Fact:=fa17::tb17
def fa18:Fact:=⟨95,[V.agg [V.lst 3 [[iv 0,iv 0,iv 0],[iv 1,iv 0,iv 0]],V.lst 5 [[iv 0,iv 0,iv 0,V.raw (.int .u8 4),V.raw (.int .u8 1)],[iv 0,iv 0,iv 0,V.raw (.int .u8 5),V.raw (.int .u8 2)],[iv 1,iv 0,iv 0,V.raw (.int .u8 4),V.raw (.int .u8 1)],[iv 1,iv 0,iv 0,V.raw (.int .u8 5),V.raw (.int .u8 2)]],iv 2],iv 10,V.agg [iv 0,iv 0,iv 0]],V.agg [V.lst 3 [[iv (-1),iv 0,iv 0],[iv 0,iv 0,iv 0]],V.lst 5 [[iv 0,iv 0,iv 0,V.raw (.int .u8 5),V.raw (.int .u8 1)],[iv 0,iv 0,iv 0,V.raw (.int .u8 4),V.raw (.int .u8 2)],[iv (-1),iv 0,iv 0,V.raw (.int .u8 5),V.raw (.int .u8 1)],[iv (-1),iv 0,iv 0,V.raw (.int .u8 4),V.raw (.int .u8 2)]]]⟩
def tb19:List Fact:=fa18::tb18
def fa19:Fact:=⟨95,[V.agg [V.lst 3 [[iv 0,iv 0,iv 0],[iv 1,iv 0,iv 0]],V.lst 5 [[iv 0,iv 0,iv 0,V.raw (.int .u8 4),V.raw (.int .u8 1)],[iv 0,iv 0,iv 0,V.raw (.int .u8 5),V.raw (.int .u8 2)],[iv 1,iv 0,iv 0,V.raw (.int .u8 4),V.raw (.int .u8 1)],[iv 1,iv 0,iv 0,V.raw (.int .u8 5),V.raw (.int .u8 2)]],iv 2],iv 11,V.agg [iv 0,iv 0,iv 0]],V.agg [V.lst 3 [[iv 0,iv 0,iv 0],[iv 0,iv 1,iv 0]],V.lst 5 [[iv 0,iv 0,iv 0,V.raw (.int .u8 5),V.raw (.int .u8 1)],[iv 0,iv 0,iv 0,V.raw (.int .u8 4),V.raw (.int .u8 2)],[iv 0,iv 1,iv 0,V.raw (.int .u8 5),V.raw (.int .u8 1)],[iv 0,iv 1,iv 0,V.raw (.int .u8 4),V.raw (.int .u8 2)]]]⟩
def tb20:List Fact:=fa19::tb19
def fa20:Fact:=⟨95,[V.agg [V.lst 3 [[iv 0,iv 0,iv 0],[iv 1,iv 0,iv 0]],V.lst 5 [[iv 0,iv 0,iv 0,V.raw (.int .u8 4),V.raw (.int .u8 1)],[iv 0,iv 0,iv 0,V.raw (.int .u8 5),V.raw (.int .u8 2)],[iv 1,iv 0,iv 0,V.raw (.int .u8 4),V.raw (.int .u8 1)],[iv 1,iv 0,iv 0,V.raw (.int .u8 5),V.raw (.int .u8 2)]],iv 2],iv 12,V.agg [iv 0,iv 0,iv 0]],V.agg [V.lst 3 [[iv 0,iv 0,iv 0],[iv 1,iv 0,iv 0]],V.lst 5 [[iv 0,iv 0,iv 0,V.raw (.int .u8 2),V.raw (.int .u8 1)],[iv 0,iv 0,iv 0,V.raw (.int .u8 3),V.raw (.int .u8 2)],[iv 1,iv 0,iv 0,V.raw (.int .u8 2),V.raw (.int .u8 1)],[iv 1,iv 0,iv 0,V.raw (.int .u8 3),V.raw (.int .u8 2)]]]⟩
def tb21:List Fact:=fa20::tb20
def fa21:Fact:=⟨95,[V.agg [V.lst 3 [[iv 0,iv 0,iv 0],[iv 1,iv 0,iv 0]],V.lst 5 [[iv 0,iv 0,iv 0,V.raw (.int .u8 4),V.raw (.int .u8 1)],[iv 0,iv 0,iv 0,V.raw (.int .u8 5),V.raw (.int .u8 2)],[iv 1,iv 0,iv 0,V.raw (.int .u8 4),V.raw (.int .u8 1)],[iv 1,iv 0,iv 0,V.raw (.int .u8 5),V.raw (.int .u8 2)]],iv 2],iv 13,V.agg [iv 0,iv 0,iv 0]],V.agg [V.lst 3 [[iv 0,iv 0,iv (-1)],[iv 0,iv 0,iv 0]],V.lst 5 [[iv 0,iv 0,iv 0,V.raw (.int .u8 2),V.raw (.int .u8 1)],[iv 0,iv 0,iv 0,V.raw (.int .u8 3),V.raw (.int .u8 2)],[iv 0,iv 0,iv (-1),V.raw (.int .u8 2),V.raw (.int .u8 1)],[iv 0,iv 0,iv (-1),V.raw (.int .u8 3),V.raw (.int .u8 2)]]]⟩
def tb22:List Fact:=fa21::tb21
def fa22:Fact:=⟨95,[V.agg [V.lst 3 [[iv 0,iv 0,iv 0],[iv 1,iv 0,iv 0]],V.lst 5 [[iv 0,iv 0,iv 0,V.raw (.int .u8 4),V.raw (.int .u8 1)],[iv 0,iv 0,iv 0,V.raw (.int .u8 5),V.raw (.int .u8 2)],[iv 1,iv 0,iv 0,V.raw (.int .u8 4),V.raw (.int .u8 1)],[iv 1,iv 0,iv 0,V.raw (.int .u8 5),V.raw (.int .u8 2)]],iv 2],iv 14,V.agg [iv 0,iv 0,iv 0]],V.agg [V.lst 3 [[iv (-1),iv 0,iv 0],[iv 0,iv 0,iv 0]],V.lst 5 [[iv 0,iv 0,iv 0,V.raw (.int .u8 2),V.raw (.int .u8 1)],[iv 0,iv 0,iv 0,V.raw (.int .u8 3),V.raw (.int .u8 2)],[iv (-1),iv 0,iv 0,V.raw (.int .u8 2),V.raw (.int .u8 1)],[iv (-1),iv 0,iv 0,V.raw (.int .u8 3),V.raw (.int .u8 2)]]]⟩
def tb23:List Fact:=fa22::tb22
def fa23:Fact:=⟨95,[V.agg [V.lst 3 [[iv 0,iv 0,iv 0],[iv 1,iv 0,iv 0]],V.lst 5 [[iv 0,iv 0,iv 0,V.raw (.int .u8 4),V.raw (.int .u8 1)],[iv 0,iv 0,iv 0,V.raw (.int .u8 5),V.raw (.int .u8 2)],[iv 1,iv 0,iv 0,V.raw (.int .u8 4),V.raw (.int .u8 1)],[iv 1,iv 0,iv 0,V.raw (.int .u8 5),V.raw (.int .u8 2)]],iv 2],iv 15,V.agg [iv 0,iv 0,iv 0]],V.agg [V.lst 3 [[iv 0,iv 0,iv 0],[iv 0,iv 0,iv 1]],V.lst 5 [[iv 0,iv 0,iv 0,V.raw (.int .u8 2),V.raw (.int .u8 1)],[iv 0,iv 0,iv 0,V.raw (.int .u8 3),V.raw (.int .u8 2)],[iv 0,iv 0,iv 1,V.raw (.int .u8 2),V.raw (.int .u8 1)],[iv 0,iv 0,iv 1,V.raw (.int .u8 3),V.raw (.int .u8 2)]]]⟩
def tb24:List Fact:=fa23::tb23
def fa24:Fact:=⟨95,[V.agg [V.lst 3 [[iv 0,iv 0,iv 0],[iv 1,iv 0,iv 0]],V.lst 5 [[iv 0,iv 0,iv 0,V.raw (.int .u8 4),V.raw (.int .u8 1)],[iv 0,iv 0,iv 0,V.raw (.int .u8 5),V.raw (.int .u8 2)],[iv 1,iv 0,iv 0,V.raw (.int .u8 4),V.raw (.int .u8 1)],[iv 1,iv 0,iv 0,V.raw (.int .u8 5),V.raw (.int .u8 2)]],iv 2],iv 17,V.agg [iv 0,iv 0,iv 0]],V.agg [V.lst 3 [[iv 0,iv 0,iv 0],[iv 0,iv 0,iv 1]],V.lst 5 [[iv 0,iv 0,iv 0,V.raw (.int .u8 0),V.raw (.int .u8 1)],[iv 0,iv 0,iv 0,V.raw (.int .u8 1),V.raw (.int .u8 2)],[iv 0,iv 0,iv 1,V.raw (.int .u8 0),V.raw (.int .u8 1)],[iv 0,iv 0,iv 1,V.raw (.int .u8 1),V.raw (.int .u8 2)]]]⟩
def tb25:List Fact:=fa24::tb24
def fa25:Fact:=⟨95,[V.agg [V.lst 3 [[iv 0,iv 0,iv 0],[iv 1,iv 0,iv 0]],V.lst 5 [[iv 0,iv 0,iv 0,V.raw (.int .u8 4),V.raw (.int .u8 1)],[iv 0,iv 0,iv 0,V.raw (.int .u8 5),V.raw (.int .u8 2)],[iv 1,iv 0,iv 0,V.raw (.int .u8 4),V.raw (.int .u8 1)],[iv 1,iv 0,iv 0,V.raw (.int .u8 5),V.raw (.int .u8 2)]],iv 2],iv 18,V.agg [iv 0,iv 0,iv 0]],V.agg [V.lst 3 [[iv 0,iv (-1),iv 0],[iv 0,iv 0,iv 0]],V.lst 5 [[iv 0,iv 0,iv 0,V.raw (.int .u8 0),V.raw (.int .u8 1)],[iv 0,iv 0,iv 0,V.raw (.int .u8 1),V.raw (.int .u8 2)],[iv 0,iv (-1),iv 0,V.raw (.int .u8 0),V.raw (.int .u8 1)],[iv 0,iv (-1),iv 0,V.raw (.int .u8 1),V.raw (.int .u8 2)]]]⟩
def tb26:List Fact:=fa25::tb25
def fa26:Fact:=⟨95,[V.agg [V.lst 3 [[iv 0,iv 0,iv 0],[iv 1,iv 0,iv 0]],V.lst 5 [[iv 0,iv 0,iv 0,V.raw (.int .u8 4),V.raw (.int .u8 1)],[iv 0,iv 0,iv 0,V.raw (.int .u8 5),V.raw (.int .u8 2)],[iv 1,iv 0,iv 0,V.raw (.int .u8 4),V.raw (.int .u8 1)],[iv 1,iv 0,iv 0,V.raw (.int .u8 5),V.raw (.int .u8 2)]],iv 2],iv 19,V.agg [iv 0,iv 0,iv 0]],V.agg [V.lst 3 [[iv 0,iv 0,iv (-1)],[iv 0,iv 0,iv 0]],V.lst 5 [[iv 0,iv 0,iv 0,V.raw (.int .u8 0),V.raw (.int .u8 1)],[iv 0,iv 0,iv 0,V.raw (.int .u8 1),V.raw (.int .u8 2)],[iv 0,iv 0,iv (-1),V.raw (.int .u8 0),V.raw (.int .u8 1)],[iv 0,iv 0,iv (-1),V.raw (.int .u8 1),V.raw (.int .u8 2)]]]⟩
def tb27:List Fact:=fa26::tb26
def fa27:Fact:=⟨95,[V.agg [V.lst 3 [[iv 0,iv 0,iv 0],[iv 1,iv 0,iv 0]],V.lst 5 [[iv 0,iv 0,iv 0,V.raw (.int .u8 4),V.raw (.int .u8 1)],[iv 0,iv 0,iv 0,V.raw (.int .u8 5),V.raw (.int .u8 2)],[iv 1,iv 0,iv 0,V.raw (.int .u8 4),V.raw (.int .u8 1)],[iv 1,iv 0,iv 0,V.raw (.int .u8 5),V.raw (.int .u8 2)]],iv 2],iv 20,V.agg [iv 0,iv 0,iv 0]],V.agg [V.lst 3 [[iv 0,iv (-1),iv 0],[iv 0,iv 0,iv 0]],V.lst 5 [[iv 0,iv 0,iv 0,V.raw (.int .u8 1),V.raw (.int .u8 1)],[iv 0,iv 0,iv 0,V.raw (.int .u8 0),V.raw (.int .u8 2)],[iv 0,iv (-1),iv 0,V.raw (.int .u8 1),V.raw (.int .u8 1)],[iv 0,iv (-1),iv 0,V.raw (.int .u8 0),V.raw (.int .u8 2)]]]⟩
def tb28:List Fact:=fa27::tb27
def fa28:Fact:=⟨95,[V.agg [V.lst 3 [[iv 0,iv 0,iv 0],[iv 1,iv 0,iv 0]],V.lst 5 [[iv 0,iv 0,iv 0,V.raw (.int .u8 4),V.raw (.int .u8 1)],[iv 0,iv 0,iv 0,V.raw (.int .u8 5),V.raw (.int .u8 2)],[iv 1,iv 0,iv 0,V.raw (.int .u8 4),V.raw (.int .u8 1)],[iv 1,iv 0,iv 0,V.raw (.int .u8 5),V.raw (.int .u8 2)]],iv 2],iv 21,V.agg [iv 0,iv 0,iv 0]],V.agg [V.lst 3 [[iv 0,iv 0,iv 0],[iv 0,iv 0,iv 1]],V.lst 5 [[iv 0,iv 0,iv 0,V.raw (.int .u8 1),V.raw (.int .u8 1)],[iv 0,iv 0,iv 0,V.raw (.int .u8 0),V.raw (.int .u8 2)],[iv 0,iv 0,iv 1,V.raw (.int .u8 1),V.raw (.int .u8 1)],[iv 0,iv 0,iv 1,V.raw (.int .u8 0),V.raw (.int .u8 2)]]]⟩
def tb29:List Fact:=fa28::tb28
def fa29:Fact:=⟨95,[V.agg [V.lst 3 [[iv 0,iv 0,iv 0],[iv 1,iv 0,iv 0]],V.lst 5 [[iv 0,iv 0,iv 0,V.raw (.int .u8 4),V.raw (.int .u8 1)],[iv 0,iv 0,iv 0,V.raw (.int .u8 5),V.raw (.int .u8 2)],[iv 1,iv 0,iv 0,V.raw (.int .u8 4),V.raw (.int .u8 1)],[iv 1,iv 0,iv 0,V.raw (.int .u8 5),V.raw (.int .u8 2)]],iv 2],iv 22,V.agg [iv 0,iv 0,iv 0]],V.agg [V.lst 3 [[iv 0,iv 0,iv 0],[iv 0,iv 1,iv 0]],V.lst 5 [[iv 0,iv 0,iv 0,V.raw (.int .u8 1),V.raw (.int .u8 1)],[iv 0,iv 0,iv 0,V.raw (.int .u8 0),V.raw (.int .u8 2)],[iv 0,iv 1,iv 0,V.raw (.int .u8 1),V.raw (.int .u8 1)],[iv 0,iv 1,iv 0,V.raw (.int .u8 0),V.raw (.int .u8 2)]]]⟩
def tb30:List Fact:=fa29::tb29
def fa30:Fact:=⟨95,[V.agg [V.lst 3 [[iv 0,iv 0,iv 0],[iv 1,iv 0,iv 0]],V.lst 5 [[iv 0,iv 0,iv 0,V.raw (.int .u8 4),V.raw (.int .u8 1)],[iv 0,iv 0,iv 0,V.raw (.int .u8 5),V.raw (.int .u8 2)],[iv 1,iv 0,iv 0,V.raw (.int .u8 4),V.raw (.int .u8 1)],[iv 1,iv 0,iv 0,V.raw (.int .u8 5),V.raw (.int .u8 2)]],iv 2],iv 23,V.agg [iv 0,iv 0,iv 0]],V.agg [V.lst 3 [[iv 0,iv 0,iv (-1)],[iv 0,iv 0,iv 0]],V.lst 5 [[iv 0,iv 0,iv 0,V.raw (.int .u8 1),V.raw (.int .u8 1)],[iv 0,iv 0,iv 0,V.raw (.int .u8 0),V.raw (.int .u8 2)],[iv 0,iv 0,iv (-1),V.raw (.int .u8 1),V.raw (.int .u8 1)],[iv 0,iv 0,iv (-1),V.raw (.int .u8 0),V.raw (.int .u8 2)]]]⟩
def tb31:List Fact:=fa30::tb30
def fa31:Fact:=⟨18,[V.agg [V.lst 3 [[iv 0,iv 0,iv 0],[iv 1,iv 0,iv 0]],V.lst 5 [[iv 0,iv 0,iv 0,V.raw (.int .u8 4),V.raw (.int .u8 1)],[iv 0,iv 0,iv 0,V.raw (.int .u8 5),V.raw (.int .u8 2)],[iv 1,iv 0,iv 0,V.raw (.int .u8 4),V.raw (.int .u8 1)],[iv 1,iv 0,iv 0,V.raw (.int .u8 5),V.raw (.int .u8 2)]],iv 2]],V.tup [V.lst 1 [[iv 0],[iv 2]],iv 0]⟩
def tb32:List Fact:=fa31::tb31
def fa32:Fact:=⟨95,[V.agg [V.lst 3 [[iv 0,iv 0,iv 0],[iv 1,iv 0,iv 0]],V.lst 5 [[iv 0,iv 0,iv 0,V.raw (.int .u8 4),V.raw (.int .u8 1)],[iv 0,iv 0,iv 0,V.raw (.int .u8 5),V.raw (.int .u8 2)],[iv 1,iv 0,iv 0,V.raw (.int .u8 4),V.raw (.int .u8 1)],[iv 1,iv 0,iv 0,V.raw (.int .u8 5),V.raw (.int .u8 2)]],iv 2],iv 2,V.agg [iv 5,iv 0,iv 0]],V.agg [V.lst 3 [[iv 4,iv 0,iv 0],[iv 5,iv 0,iv 0]],V.lst 5 [[iv 5,iv 0,iv 0,V.raw (.int .u8 4),V.raw (.int .u8 1)],[iv 5,iv 0,iv 0,V.raw (.int .u8 5),V.raw (.int .u8 2)],[iv 4,iv 0,iv 0,V.raw (.int .u8 4),V.raw (.int .u8 1)],[iv 4,iv 0,iv 0,V.raw (.int .u8 5),V.raw (.int .u8 2)]]]⟩
def tb33:List Fact:=fa32::tb32
def fa33:Fact:=⟨57,[V.lst 3 [[V.lst 3 [[iv 0,iv 0,iv 0],[iv 1,iv 0,iv 0]],V.lst 5 [[iv 0,iv 0,iv 0,V.raw (.int .u8 4),V.raw (.int .u8 1)],[iv 0,iv 0,iv 0,V.raw (.int .u8 5),V.raw (.int .u8 2)],[iv 1,iv 0,iv 0,V.raw (.int .u8 4),V.raw (.int .u8 1)],[iv 1,iv 0,iv 0,V.raw (.int .u8 5),V.raw (.int .u8 2)]],iv 2]],V.agg [iv 0,iv 5,iv 0,iv 0,V.raw (.int .u8 2),V.raw (.int .u8 0)]],V.tup [V.agg [V.lst 3 [[iv 4,iv 0,iv 0],[iv 5,iv 0,iv 0]],V.lst 5 [[iv 5,iv 0,iv 0,V.raw (.int .u8 4),V.raw (.int .u8 1)],[iv 5,iv 0,iv 0,V.raw (.int .u8 5),V.raw (.int .u8 2)],[iv 4,iv 0,iv 0,V.raw (.int .u8 4),V.raw (.int .u8 1)],[iv 4,iv 0,iv 0,V.raw (.int .u8 5),V.raw (.int .u8 2)]]],iv 0]⟩
def tb34:List Fact:=fa33::tb33
def fa34:Fact:=⟨26,[V.lst 3 [[V.lst 3 [[iv 0,iv 0,iv 0],[iv 1,iv 0,iv 0]],V.lst 5 [[iv 0,iv 0,iv 0,V.raw (.int .u8 4),V.raw (.int .u8 1)],[iv 0,iv 0,iv 0,V.raw (.int .u8 5),V.raw (.int .u8 2)],[iv 1,iv 0,iv 0,V.raw (.int .u8 4),V.raw (.int .u8 1)],[iv 1,iv 0,iv 0,V.raw (.int .u8 5),V.raw (.int .u8 2)]],iv 2]],V.agg [iv 0,iv 5,iv 0,iv 0,V.raw (.int .u8 2),V.raw (.int .u8 0)]],V.tup [V.agg [iv 0,iv 4,iv 0,iv 0,V.raw (.int .u8 0),V.raw (.int .u8 0)],iv 0]⟩
def tb35:List Fact:=fa34::tb34
def fa35:Fact:=⟨105,[V.lst 3 [[V.lst 3 [[iv 0,iv 0,iv 0],[iv 1,iv 0,iv 0]],V.lst 5 [[iv 0,iv 0,iv 0,V.raw (.int .u8 4),V.raw (.int .u8 1)],[iv 0,iv 0,iv 0,V.raw (.int .u8 5),V.raw (.int .u8 2)],[iv 1,iv 0,iv 0,V.raw (.int .u8 4),V.raw (.int .u8 1)],[iv 1,iv 0,iv 0,V.raw (.int .u8 5),V.raw (.int .u8 2)]],iv 2]],V.agg [V.lst 6 [[iv 0,iv 0,iv 0,iv 0,V.raw (.int .u8 0),V.raw (.int .u8 0)],[iv 0,iv 1,iv 0,iv 0,V.raw (.int .u8 0),V.raw (.int .u8 0)]]]],V.tup [V.lst 2 [[V.lst 3 [[iv 0,iv 0,iv 0],[iv 1,iv 0,iv 0]],V.lst 5 [[iv 0,iv 0,iv 0,V.raw (.int .u8 4),V.raw (.int .u8 1)],[iv 0,iv 0,iv 0,V.raw (.int .u8 5),V.raw (.int .u8 2)],[iv 1,iv 0,iv 0,V.raw (.int .u8 4),V.raw (.int .u8 1)],[iv 1,iv 0,iv 0,V.raw (.int .u8 5),V.raw (.int .u8 2)]]],[V.lst 3 [[iv 1,iv 0,iv 0],[iv 2,iv 0,iv 0]],V.lst 5 [[iv 1,iv 0,iv 0,V.raw (.int .u8 4),V.raw (.int .u8 1)],[iv 1,iv 0,iv 0,V.raw (.int .u8 5),V.raw (.int .u8 2)],[iv 2,iv 0,iv 0,V.raw (.int .u8 4),V.raw (.int .u8 1)],[iv 2,iv 0,iv 0,V.raw (.int .u8 5),V.raw (.int .u8 2)]]]],iv 0]⟩
def tb36:List Fact:=fa35::tb35
def fa36:Fact:=⟨74,[V.lst 3 [[V.lst 3 [[iv 0,iv 0,iv 0],[iv 1,iv 0,iv 0]],V.lst 5 [[iv 0,iv 0,iv 0,V.raw (.int .u8 4),V.raw (.int .u8 1)],[iv 0,iv 0,iv 0,V.raw (.int .u8 5),V.raw (.int .u8 2)],[iv 1,iv 0,iv 0,V.raw (.int .u8 4),V.raw (.int .u8 1)],[iv 1,iv 0,iv 0,V.raw (.int .u8 5),V.raw (.int .u8 2)]],iv 2]],V.agg [V.lst 6 [[iv 0,iv 0,iv 0,iv 0,V.raw (.int .u8 0),V.raw (.int .u8 0)],[iv 0,iv 1,iv 0,iv 0,V.raw (.int .u8 0),V.raw (.int .u8 0)]]]],V.tup [V.lst 2 [[iv 0,iv 1]],iv 0]⟩
def tb37:List Fact:=fa36::tb36
def fa37:Fact:=⟨37,[],bv true⟩
def tb38:List Fact:=fa37::tb37
def fa38:Fact:=⟨105,[V.lst 3 [[V.lst 3 [[iv 0,iv 0,iv 0],[iv 1,iv 0,iv 0]],V.lst 5 [[iv 0,iv 0,iv 0,V.raw (.int .u8 4),V.raw (.int .u8 1)],[iv 0,iv 0,iv 0,V.raw (.int .u8 5),V.raw (.int .u8 2)],[iv 1,iv 0,iv 0,V.raw (.int .u8 4),V.raw (.int .u8 1)],[iv 1,iv 0,iv 0,V.raw (.int .u8 5),V.raw (.int .u8 2)]],iv 2]],V.agg [V.lst 6 [[iv 0,iv 0,iv 0,iv 0,V.raw (.int .u8 0),V.raw (.int .u8 0)],[iv 0,iv 3,iv 0,iv 0,V.raw (.int .u8 0),V.raw (.int .u8 0)]]]],V.tup [V.lst 2 [[V.lst 3 [[iv 0,iv 0,iv 0],[iv 1,iv 0,iv 0]],V.lst 5 [[iv 0,iv 0,iv 0,V.raw (.int .u8 4),V.raw (.int .u8 1)],[iv 0,iv 0,iv 0,V.raw (.int .u8 5),V.raw (.int .u8 2)],[iv 1,iv 0,iv 0,V.raw (.int .u8 4),V.raw (.int .u8 1)],[iv 1,iv 0,iv 0,V.raw (.int .u8 5),V.raw (.int .u8 2)]]],[V.lst 3 [[iv 3,iv 0,iv 0],[iv 4,iv 0,iv 0]],V.lst 5 [[iv 3,iv 0,iv 0,V.raw (.int .u8 4),V.raw (.int .u8 1)],[iv 3,iv 0,iv 0,V.raw (.int .u8 5),V.raw (.int .u8 2)],[iv 4,iv 0,iv 0,V.raw (.int .u8 4),V.raw (.int .u8 1)],[iv 4,iv 0,iv 0,V.raw (.int .u8 5),V.raw (.int .u8 2)]]]],iv 0]⟩
def tb39:List Fact:=fa38::tb38
def fa39:Fact:=⟨64,[V.lst 3 [[V.lst 3 [[iv 0,iv 0,iv 0],[iv 1,iv 0,iv 0]],V.lst 5 [[iv 0,iv 0,iv 0,V.raw (.int .u8 4),V.raw (.int .u8 1)],[iv 0,iv 0,iv 0,V.raw (.int .u8 5),V.raw (.int .u8 2)],[iv 1,iv 0,iv 0,V.raw (.int .u8 4),V.raw (.int .u8 1)],[iv 1,iv 0,iv 0,V.raw (.int .u8 5),V.raw (.int .u8 2)]],iv 2]],V.agg [V.lst 6 [[iv 0,iv 0,iv 0,iv 0,V.raw (.int .u8 0),V.raw (.int .u8 0)],[iv 0,iv 3,iv 0,iv 0,V.raw (.int .u8 0),V.raw (.int .u8 0)]]]],V.tup [V.lst 2 [[V.lst 3 [[iv 0,iv 0,iv 0],[iv 1,iv 0,iv 0]],V.lst 5 [[iv 0,iv 0,iv 0,V.raw (.int .u8 4),V.raw (.int .u8 1)],[iv 0,iv 0,iv 0,V.raw (.int .u8 5),V.raw (.int .u8 2)],[iv 1,iv 0,iv 0,V.raw (.int .u8 4),V.raw (.int .u8 1)],[iv 1,iv 0,iv 0,V.raw (.int .u8 5),V.raw (.int .u8 2)]]],[V.lst 3 [[iv 3,iv 0,iv 0],[iv 4,iv 0,iv 0]],V.lst 5 [[iv 3,iv 0,iv 0,V.raw (.int .u8 4),V.raw (.int .u8 1)],[iv 3,iv 0,iv 0,V.raw (.int .u8 5),V.raw (.int .u8 2)],[iv 4,iv 0,iv 0,V.raw (.int .u8 4),V.raw (.int .u8 1)],[iv 4,iv 0,iv 0,V.raw (.int .u8 5),V.raw (.int .u8 2)]]]],iv 0]⟩
end Go.Proofs.YtbionhgjgcpogaaGreatDoor
namespace Go.Proofs.YtbionhgjgcpogaaGreatDoor
open Go Go.Proofs.YtbionhgjgcpogaaGreatDoor.Clean
set_option linter.unusedVariables false
set_option maxRecDepth 100000
theorem k0 (h:Facts Tryz.prog glX tb0):KFX fa0:=K0_ranQ (cfg:=cfgAll Tryz.prog glX clX (knownI gsX tb0)) hmX (cfgAll_ok (knownI_ok h)) (fun _ _=>rfl) 3000 Tryz.func57 (by kernel_rfl)
theorem k1 (h:Facts Tryz.prog glX tb1):KFX fa1:=K0_ranQ (cfg:=cfgAll Tryz.prog glX clX (knownI gsX tb1)) hmX (cfgAll_ok (knownI_ok h)) (fun _ _=>rfl) 3000 Tryz.func21 (by kernel_rfl)
end Go.Proofs.YtbionhgjgcpogaaGreatDoor
namespace Go.Proofs.YtbionhgjgcpogaaGreatDoor
open Go Go.Proofs.YtbionhgjgcpogaaGreatDoor.Clean
set_option linter.unusedVariables false
set_option maxRecDepth 100000
theorem k2 (h:Facts Tryz.prog glX tb2):KFX fa2:=K0_ranQ (cfg:=cfgAll Tryz.prog glX clX (knownI gsX tb2)) hmX (cfgAll_ok (knownI_ok h)) (fun _ _=>rfl) 3000 Tryz.func105 (by kernel_rfl)
theorem k3 (h:Facts Tryz.prog glX tb3):KFX fa3:=K0_ranQ (cfg:=cfgAll Tryz.prog glX clX (knownI gsX tb3)) hmX (cfgAll_ok (knownI_ok h)) (fun _ _=>rfl) 3000 Tryz.func64 (by kernel_rfl)
end Go.Proofs.YtbionhgjgcpogaaGreatDoor
namespace Go.Proofs.YtbionhgjgcpogaaGreatDoor
open Go Go.Proofs.YtbionhgjgcpogaaGreatDoor.Clean
set_option linter.unusedVariables false
set_option maxRecDepth 100000
theorem k4 (h:Facts Tryz.prog glX tb4):KFX fa4:=K0_ranQ (cfg:=cfgAll Tryz.prog glX clX (knownI gsX tb4)) hmX (cfgAll_ok (knownI_ok h)) (fun _ _=>rfl) 3000 Tryz.func32 (by kernel_rfl)
theorem k5 (h:Facts Tryz.prog glX tb5):KFX fa5:=K0_ranQ (cfg:=cfgAll Tryz.prog glX clX (knownI gsX tb5)) hmX (cfgAll_ok (knownI_ok h)) (fun _ _=>rfl) 3000 Tryz.func125 (by kernel_rfl)
end Go.Proofs.YtbionhgjgcpogaaGreatDoor
namespace Go.Proofs.YtbionhgjgcpogaaGreatDoor
open Go Go.Proofs.YtbionhgjgcpogaaGreatDoor.Clean
set_option linter.unusedVariables false
set_option maxRecDepth 100000
theorem k6 (h:Facts Tryz.prog glX tb6):KFX fa6:=K0_ranQ (cfg:=cfgAll Tryz.prog glX clX (knownI gsX tb6)) hmX (cfgAll_ok (knownI_ok h)) (fun _ _=>rfl) 3000 Tryz.func86 (by kernel_rfl)
theorem k7 (h:Facts Tryz.prog glX tb7):KFX fa7:=K0_ranQ (cfg:=cfgAll Tryz.prog glX clX (knownI gsX tb7)) hmX (cfgAll_ok (knownI_ok h)) (fun _ _=>rfl) 3000 Tryz.func46 (by kernel_rfl)
theorem k8 (h:Facts Tryz.prog glX tb8):KFX fa8:=K0_ranQ (cfg:=cfgAll Tryz.prog glX clX (knownI gsX tb8)) hmX (cfgAll_ok (knownI_ok h)) (fun _ _=>rfl) 3000 Tryz.func105 (by kernel_rfl)
theorem k9 (h:Facts Tryz.prog glX tb9):KFX fa9:=K0_ranQ (cfg:=cfgAll Tryz.prog glX clX (knownI gsX tb9)) hmX (cfgAll_ok (knownI_ok h)) (fun _ _=>rfl) 3000 Tryz.func64 (by kernel_rfl)
end Go.Proofs.YtbionhgjgcpogaaGreatDoor
namespace Go.Proofs.YtbionhgjgcpogaaGreatDoor
open Go Go.Proofs.YtbionhgjgcpogaaGreatDoor.Clean
set_option linter.unusedVariables false
set_option maxRecDepth 100000
theorem k10 (h:Facts Tryz.prog glX tb10):KFX fa10:=K0_ranQ (cfg:=cfgAll Tryz.prog glX clX (knownI gsX tb10)) hmX (cfgAll_ok (knownI_ok h)) (fun _ _=>rfl) 3000 Tryz.func29 (by kernel_rfl)
theorem k11 (h:Facts Tryz.prog glX tb11):KFX fa11:=K0_ranQ (cfg:=cfgAll Tryz.prog glX clX (knownI gsX tb11)) hmX (cfgAll_ok (knownI_ok h)) (fun _ _=>rfl) 3000 Tryz.func32 (by kernel_rfl)
theorem k12 (h:Facts Tryz.prog glX tb12):KFX fa12:=K0_ranQ (cfg:=cfgAll Tryz.prog glX clX (knownI gsX tb12)) hmX (cfgAll_ok (knownI_ok h)) (fun _ _=>rfl) 3000 Tryz.func95 (by kernel_rfl)
end Go.Proofs.YtbionhgjgcpogaaGreatDoor
namespace Go.Proofs.YtbionhgjgcpogaaGreatDoor
open Go Go.Proofs.YtbionhgjgcpogaaGreatDoor.Clean
set_option linter.unusedVariables false
set_option maxRecDepth 100000
theorem k13 (h:Facts Tryz.prog glX tb13):KFX fa13:=K0_ranQ (cfg:=cfgAll Tryz.prog glX clX (knownI gsX tb13)) hmX (cfgAll_ok (knownI_ok h)) (fun _ _=>rfl) 3000 Tryz.func95 (by kernel_rfl)
theorem k14 (h:Facts Tryz.prog glX tb14):KFX fa14:=K0_ranQ (cfg:=cfgAll Tryz.prog glX clX (knownI gsX tb14)) hmX (cfgAll_ok (knownI_ok h)) (fun _ _=>rfl) 3000 Tryz.func95 (by kernel_rfl)
end Go.Proofs.YtbionhgjgcpogaaGreatDoor
namespace Go.Proofs.YtbionhgjgcpogaaGreatDoor
open Go Go.Proofs.YtbionhgjgcpogaaGreatDoor.Clean
set_option linter.unusedVariables false
set_option maxRecDepth 100000
theorem k15 (h:Facts Tryz.prog glX tb15):KFX fa15:=K0_ranQ (cfg:=cfgAll Tryz.prog glX clX (knownI gsX tb15)) hmX (cfgAll_ok (knownI_ok h)) (fun _ _=>rfl) 3000 Tryz.func95 (by kernel_rfl)
theorem k16 (h:Facts Tryz.prog glX tb16):KFX fa16:=K0_ranQ (cfg:=cfgAll Tryz.prog glX clX (knownI gsX tb16)) hmX (cfgAll_ok (knownI_ok h)) (fun _ _=>rfl) 3000 Tryz.func95 (by kernel_rfl)
end Go.Proofs.YtbionhgjgcpogaaGreatDoor
namespace Go.Proofs.YtbionhgjgcpogaaGreatDoor
open Go Go.Proofs.YtbionhgjgcpogaaGreatDoor.Clean
set_option linter.unusedVariables false
set_option maxRecDepth 100000
theorem k17 (h:Facts Tryz.prog glX tb17):KFX fa17:=K0_ranQ (cfg:=cfgAll Tryz.prog glX clX (knownI gsX tb17)) hmX (cfgAll_ok (knownI_ok h)) (fun _ _=>rfl) 3000 Tryz.func95 (by kernel_rfl)
theorem k18 (h:Facts Tryz.prog glX tb18):KFX fa18:=K0_ranQ (cfg:=cfgAll Tryz.prog glX clX (knownI gsX tb18)) hmX (cfgAll_ok (knownI_ok h)) (fun _ _=>rfl) 3000 Tryz.func95 (by kernel_rfl)
end Go.Proofs.YtbionhgjgcpogaaGreatDoor
namespace Go.Proofs.YtbionhgjgcpogaaGreatDoor
open Go Go.Proofs.YtbionhgjgcpogaaGreatDoor.Clean
set_option linter.unusedVariables false
set_option maxRecDepth 100000
theorem k19 (h:Facts Tryz.prog glX tb19):KFX fa19:=K0_ranQ (cfg:=cfgAll Tryz.prog glX clX (knownI gsX tb19)) hmX (cfgAll_ok (knownI_ok h)) (fun _ _=>rfl) 3000 Tryz.func95 (by kernel_rfl)
theorem k20 (h:Facts Tryz.prog glX tb20):KFX fa20:=K0_ranQ (cfg:=cfgAll Tryz.prog glX clX (knownI gsX tb20)) hmX (cfgAll_ok (knownI_ok h)) (fun _ _=>rfl) 3000 Tryz.func95 (by kernel_rfl)
end Go.Proofs.YtbionhgjgcpogaaGreatDoor
namespace Go.Proofs.YtbionhgjgcpogaaGreatDoor
open Go Go.Proofs.YtbionhgjgcpogaaGreatDoor.Clean
set_option linter.unusedVariables false
set_option maxRecDepth 100000
theorem k21 (h:Facts Tryz.prog glX tb21):KFX fa21:=K0_ranQ (cfg:=cfgAll Tryz.prog glX clX (knownI gsX tb21)) hmX (cfgAll_ok (knownI_ok h)) (fun _ _=>rfl) 3000 Tryz.func95 (by kernel_rfl)
theorem k22 (h:Facts Tryz.prog glX tb22):KFX fa22:=K0_ranQ (cfg:=cfgAll Tryz.prog glX clX (knownI gsX tb22)) hmX (cfgAll_ok (knownI_ok h)) (fun _ _=>rfl) 3000 Tryz.func95 (by kernel_rfl)
end Go.Proofs.YtbionhgjgcpogaaGreatDoor
namespace Go.Proofs.YtbionhgjgcpogaaGreatDoor
open Go Go.Proofs.YtbionhgjgcpogaaGreatDoor.Clean
set_option linter.unusedVariables false
set_option maxRecDepth 100000
theorem k23 (h:Facts Tryz.prog glX tb23):KFX fa23:=K0_ranQ (cfg:=cfgAll Tryz.prog glX clX (knownI gsX tb23)) hmX (cfgAll_ok (knownI_ok h)) (fun _ _=>rfl) 3000 Tryz.func95 (by kernel_rfl)
theorem k24 (h:Facts Tryz.prog glX tb24):KFX fa24:=K0_ranQ (cfg:=cfgAll Tryz.prog glX clX (knownI gsX tb24)) hmX (cfgAll_ok (knownI_ok h)) (fun _ _=>rfl) 3000 Tryz.func95 (by kernel_rfl)
end Go.Proofs.YtbionhgjgcpogaaGreatDoor
namespace Go.Proofs.YtbionhgjgcpogaaGreatDoor
open Go Go.Proofs.YtbionhgjgcpogaaGreatDoor.Clean
set_option linter.unusedVariables false
set_option maxRecDepth 100000
theorem k25 (h:Facts Tryz.prog glX tb25):KFX fa25:=K0_ranQ (cfg:=cfgAll Tryz.prog glX clX (knownI gsX tb25)) hmX (cfgAll_ok (knownI_ok h)) (fun _ _=>rfl) 3000 Tryz.func95 (by kernel_rfl)
theorem k26 (h:Facts Tryz.prog glX tb26):KFX fa26:=K0_ranQ (cfg:=cfgAll Tryz.prog glX clX (knownI gsX tb26)) hmX (cfgAll_ok (knownI_ok h)) (fun _ _=>rfl) 3000 Tryz.func95 (by kernel_rfl)
end Go.Proofs.YtbionhgjgcpogaaGreatDoor
namespace Go.Proofs.YtbionhgjgcpogaaGreatDoor
open Go Go.Proofs.YtbionhgjgcpogaaGreatDoor.Clean
set_option linter.unusedVariables false
set_option maxRecDepth 100000
theorem k27 (h:Facts Tryz.prog glX tb27):KFX fa27:=K0_ranQ (cfg:=cfgAll Tryz.prog glX clX (knownI gsX tb27)) hmX (cfgAll_ok (knownI_ok h)) (fun _ _=>rfl) 3000 Tryz.func95 (by kernel_rfl)
theorem k28 (h:Facts Tryz.prog glX tb28):KFX fa28:=K0_ranQ (cfg:=cfgAll Tryz.prog glX clX (knownI gsX tb28)) hmX (cfgAll_ok (knownI_ok h)) (fun _ _=>rfl) 3000 Tryz.func95 (by kernel_rfl)
end Go.Proofs.YtbionhgjgcpogaaGreatDoor
namespace Go.Proofs.YtbionhgjgcpogaaGreatDoor
open Go Go.Proofs.YtbionhgjgcpogaaGreatDoor.Clean
set_option linter.unusedVariables false
set_option maxRecDepth 100000
theorem k29 (h:Facts Tryz.prog glX tb29):KFX fa29:=K0_ranQ (cfg:=cfgAll Tryz.prog glX clX (knownI gsX tb29)) hmX (cfgAll_ok (knownI_ok h)) (fun _ _=>rfl) 3000 Tryz.func95 (by kernel_rfl)
end Go.Proofs.YtbionhgjgcpogaaGreatDoor
namespace Go.Proofs.YtbionhgjgcpogaaGreatDoor
open Go Go.Proofs.YtbionhgjgcpogaaGreatDoor.Clean
set_option linter.unusedVariables false
set_option maxRecDepth 100000
theorem k30 (h:Facts Tryz.prog glX tb30):KFX fa30:=K0_ranQ (cfg:=cfgAll Tryz.prog glX clX (knownI gsX tb30)) hmX (cfgAll_ok (knownI_ok h)) (fun _ _=>rfl) 3000 Tryz.func95 (by kernel_rfl)
end Go.Proofs.YtbionhgjgcpogaaGreatDoor
namespace Go.Proofs.YtbionhgjgcpogaaGreatDoor
open Go Go.Proofs.YtbionhgjgcpogaaGreatDoor.Clean
set_option linter.unusedVariables false
set_option maxRecDepth 100000
theorem k31 (h:Facts Tryz.prog glX tb31):KFX fa31:=K0_ranQ (cfg:=cfgAll Tryz.prog glX clX (knownI gsX tb31)) hmX (cfgAll_ok (knownI_ok h)) (fun _ _=>rfl) 3000 Tryz.func18 (by kernel_rfl)
end Go.Proofs.YtbionhgjgcpogaaGreatDoor
namespace Go.Proofs.YtbionhgjgcpogaaGreatDoor
open Go Go.Proofs.YtbionhgjgcpogaaGreatDoor.Clean
set_option linter.unusedVariables false
set_option maxRecDepth 100000
theorem k32 (h:Facts Tryz.prog glX tb32):KFX fa32:=K0_ranQ (cfg:=cfgAll Tryz.prog glX clX (knownI gsX tb32)) hmX (cfgAll_ok (knownI_ok h)) (fun _ _=>rfl) 3000 Tryz.func95 (by kernel_rfl)
theorem k33 (h:Facts Tryz.prog glX tb33):KFX fa33:=K0_ranQ (cfg:=cfgAll Tryz.prog glX clX (knownI gsX tb33)) hmX (cfgAll_ok (knownI_ok h)) (fun _ _=>rfl) 3000 Tryz.func57 (by kernel_rfl)
end Go.Proofs.YtbionhgjgcpogaaGreatDoor
namespace Go.Proofs.YtbionhgjgcpogaaGreatDoor
open Go Go.Proofs.YtbionhgjgcpogaaGreatDoor.Clean
set_option linter.unusedVariables false
set_option maxRecDepth 100000
theorem k34 (h:Facts Tryz.prog glX tb34):KFX fa34:=K0_ranQ (cfg:=cfgAll Tryz.prog glX clX (knownI gsX tb34)) hmX (cfgAll_ok (knownI_ok h)) (fun _ _=>rfl) 3000 Tryz.func26 (by kernel_rfl)
end Go.Proofs.YtbionhgjgcpogaaGreatDoor
namespace Go.Proofs.YtbionhgjgcpogaaGreatDoor
open Go Go.Proofs.YtbionhgjgcpogaaGreatDoor.Clean
set_option linter.unusedVariables false
set_option maxRecDepth 100000
theorem k35 (h:Facts Tryz.prog glX tb35):KFX fa35:=K0_ranQ (cfg:=cfgAll Tryz.prog glX clX (knownI gsX tb35)) hmX (cfgAll_ok (knownI_ok h)) (fun _ _=>rfl) 3000 Tryz.func105 (by kernel_rfl)
theorem k36 (h:Facts Tryz.prog glX tb36):KFX fa36:=K0_ranQ (cfg:=cfgAll Tryz.prog glX clX (knownI gsX tb36)) hmX (cfgAll_ok (knownI_ok h)) (fun _ _=>rfl) 3000 Tryz.func74 (by kernel_rfl)
end Go.Proofs.YtbionhgjgcpogaaGreatDoor
namespace Go.Proofs.YtbionhgjgcpogaaGreatDoor
open Go Go.Proofs.YtbionhgjgcpogaaGreatDoor.Clean
set_option linter.unusedVariables false
set_option maxRecDepth 100000
theorem k37 (h:Facts Tryz.prog glX tb37):KFX fa37:=K0_ranQ (cfg:=cfgAll Tryz.prog glX clX (knownI gsX tb37)) hmX (cfgAll_ok (knownI_ok h)) (fun _ _=>rfl) 3000 Tryz.func37 (by kernel_rfl)
end Go.Proofs.YtbionhgjgcpogaaGreatDoor
namespace Go.Proofs.YtbionhgjgcpogaaGreatDoor
open Go Go.Proofs.YtbionhgjgcpogaaGreatDoor.Clean
set_option linter.unusedVariables false
set_option maxRecDepth 100000
theorem k38 (h:Facts Tryz.prog glX tb38):KFX fa38:=K0_ranQ (cfg:=cfgAll Tryz.prog glX clX (knownI gsX tb38)) hmX (cfgAll_ok (knownI_ok h)) (fun _ _=>rfl) 3000 Tryz.func105 (by kernel_rfl)
theorem k39 (h:Facts Tryz.prog glX tb39):KFX fa39:=K0_ranQ (cfg:=cfgAll Tryz.prog glX clX (knownI gsX tb39)) hmX (cfgAll_ok (knownI_ok h)) (fun _ _=>rfl) 3000 Tryz.func64 (by kernel_rfl)
end Go.Proofs.YtbionhgjgcpogaaGreatDoor
