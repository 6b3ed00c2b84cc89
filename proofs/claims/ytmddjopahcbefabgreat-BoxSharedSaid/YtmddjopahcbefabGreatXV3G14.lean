/- A part of the proof. -/
import Derived.Test.YtmddjopahcbefabGreatXV3G10
namespace Go.Proofs.YtmddjopahcbefabGreat
open Go Go.Proofs.YtmddjopahcbefabGreat.Clean
set_option linter.unusedVariables false
set_option maxRecDepth 100000
def gsX:List Nat:=[6,11,23,32]
def tb0:List Fact:=[]
def fa0:Fact:=⟨32,[V.lst 3 [[iv 1,V.raw (.int .u8 1),iv 2]],V.lst 1 [[V.lst 3 [[iv 1,V.raw (.int .u8 1),iv 2]]],[V.lst 3 [[iv 1,V.raw (.int .u8 1),iv 1]]],[V.lst 3 [[iv 1,V.raw (.int .u8 1),iv 3]]]],V.lst 1 [[iv 5],[iv 4],[iv 9]]],V.lst 3 [[V.raw (.int .u8 0),iv 0,V.lst 3 [[iv 1,V.raw (.int .u8 1),iv 2]]],[V.raw (.int .u8 1),iv 5,nilS],[V.raw (.int .u8 2),iv 4,V.lst 3 [[iv 1,V.raw (.int .u8 1),iv 1]]]]⟩
def tb1:List Fact:=fa0::tb0
def fa1:Fact:=⟨32,[V.lst 3 [[iv 1,V.raw (.int .u8 1),iv 1]],V.lst 1 [[V.lst 3 [[iv 1,V.raw (.int .u8 1),iv 2]]],[V.lst 3 [[iv 1,V.raw (.int .u8 1),iv 1]]],[V.lst 3 [[iv 1,V.raw (.int .u8 1),iv 3]]]],V.lst 1 [[iv 5],[iv 4],[iv 9]]],V.lst 3 [[V.raw (.int .u8 0),iv 0,V.lst 3 [[iv 1,V.raw (.int .u8 1),iv 1]]],[V.raw (.int .u8 2),iv 4,nilS]]⟩
def tb2:List Fact:=fa1::tb1
def fa2:Fact:=⟨23,[V.lst 3 [[iv 1,V.raw (.int .u8 1),iv 4]],V.lst 3 [[iv 1,V.raw (.int .u8 1),iv 3],[iv 2,V.raw (.int .u8 1),iv 2]],V.lst 4 [[iv 2,V.raw (.int .u8 1),iv 1,V.raw (.int .u8 1)]],V.lst 3 [[iv 1,V.raw (.int .u8 1),iv 5],[iv 2,V.raw (.int .u8 1),iv 3]]],V.tup [V.agg [V.lst 1 [[iv 3],[iv 1]],V.lst 3 [[iv 2,V.raw (.int .u8 1),iv 1]],iv 3],iv 0]⟩
def tb3:List Fact:=fa2::tb2
def fa3:Fact:=⟨32,[V.lst 3 [[iv 1,V.raw (.int .u8 1),iv 3]],V.lst 1 [[V.lst 3 [[iv 1,V.raw (.int .u8 1),iv 2]]],[V.lst 3 [[iv 1,V.raw (.int .u8 1),iv 1]]],[V.lst 3 [[iv 1,V.raw (.int .u8 1),iv 3]]]],V.lst 1 [[iv 5],[iv 4],[iv 9]]],V.lst 3 [[V.raw (.int .u8 0),iv 0,V.lst 3 [[iv 1,V.raw (.int .u8 1),iv 3]]],[V.raw (.int .u8 1),iv 5,V.lst 3 [[iv 1,V.raw (.int .u8 1),iv 1]]],[V.raw (.int .u8 2),iv 4,V.lst 3 [[iv 1,V.raw (.int .u8 1),iv 2]]],[V.raw (.int .u8 3),iv 9,nilS],[V.raw (.int .u8 4),iv 9,nilS]]⟩
def tb4:List Fact:=fa3::tb3
def fa4:Fact:=⟨11,[V.lst 3 [[iv 1,V.raw (.int .u8 1),iv 3]],V.lst 1 [[V.lst 3 [[iv 1,V.raw (.int .u8 1),iv 2]]],[V.lst 3 [[iv 1,V.raw (.int .u8 1),iv 1]]],[V.lst 3 [[iv 1,V.raw (.int .u8 1),iv 3]]]],V.lst 1 [[iv 5],[iv 4],[iv 9]]],V.tup [V.agg [V.lst 1 [[iv 2]],iv 9,V.lst 0 []],iv 0]⟩
def tb5:List Fact:=fa4::tb4
def fa5:Fact:=⟨6,[],bv true⟩
theorem k0 (h:Facts Tryz.prog glX tb0):KFX fa0:=K0_ranQ (cfg:=cfgAll Tryz.prog glX clX (knownI gsX tb0)) hmX (cfgAll_ok (knownI_ok h)) (fun _ _=>rfl) 3000 Tryz.func32 (by kernel_rfl)
theorem k1 (h:Facts Tryz.prog glX tb1):KFX fa1:=K0_ranQ (cfg:=cfgAll Tryz.prog glX clX (knownI gsX tb1)) hmX (cfgAll_ok (knownI_ok h)) (fun _ _=>rfl) 3000 Tryz.func32 (by kernel_rfl)
theorem k2 (h:Facts Tryz.prog glX tb2):KFX fa2:=K0_ranQ (cfg:=cfgAll Tryz.prog glX clX (knownI gsX tb2)) hmX (cfgAll_ok (knownI_ok h)) (fun _ _=>rfl) 3000 Tryz.func23 (by kernel_rfl)
theorem k3 (h:Facts Tryz.prog glX tb3):KFX fa3:=K0_ranQ (cfg:=cfgAll Tryz.prog glX clX (knownI gsX tb3)) hmX (cfgAll_ok (knownI_ok h)) (fun _ _=>rfl) 3000 Tryz.func32 (by kernel_rfl)
theorem k4 (h:Facts Tryz.prog glX tb4):KFX fa4:=K0_ranQ (cfg:=cfgAll Tryz.prog glX clX (knownI gsX tb4)) hmX (cfgAll_ok (knownI_ok h)) (fun _ _=>rfl) 3000 Tryz.func11 (by kernel_rfl)
theorem k5 (h:Facts Tryz.prog glX tb5):KFX fa5:=K0_ranQ (cfg:=cfgAll Tryz.prog glX clX (knownI gsX tb5)) hmX (cfgAll_ok (knownI_ok h)) (fun _ _=>rfl) 3000 Tryz.func6 (by kernel_rfl)
end Go.Proofs.YtmddjopahcbefabGreat
