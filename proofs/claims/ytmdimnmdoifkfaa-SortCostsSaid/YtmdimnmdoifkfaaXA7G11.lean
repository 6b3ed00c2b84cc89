/- A part of the proof. -/
import Derived.Test.YtmdimnmdoifkfaaXA7G10
namespace Go.Proofs.Ytmdimnmdoifkfaa
open Go Go.Proofs.Ytmdimnmdoifkfaa.Clean
set_option linter.unusedVariables false
set_option maxRecDepth 100000
def gsX : List Nat := [22, 24, 33, 44, 73]
def tb0 : List Fact := []
def fa0 : Fact := ⟨22, [V.agg [iv 20, iv 2, iv 2, V.lst 2 [[iv 10, iv 0], [iv 15, iv 1]], V.lst 1 [[iv 0], [iv 1], [iv (-1)], [iv (-1)], [iv (-1)], [iv (-1)], [iv (-1)], [iv (-1)], [iv (-1)], [iv (-1)], [iv (-1)], [iv (-1)], [iv (-1)], [iv (-1)], [iv (-1)], [iv (-1)]]], V.lst 3 [[iv 0, iv 0, V.lst 1 [[iv 0]]], [iv 6, iv 1, V.lst 1 [[iv 1]]], [iv 12, iv 2, V.lst 1 [[iv 2]]]]], V.tup [V.lst 3 [[iv 0, iv 0, iv 10], [iv 1, iv 1, iv 21], [iv 2, iv (-1), iv 32]], iv 0]⟩
def tb1 : List Fact := fa0 :: tb0
def fa1 : Fact := ⟨22, [V.agg [iv 20, iv 2, iv 2, V.lst 2 [[iv 10, iv 0], [iv 15, iv 1]], V.lst 1 [[iv 0], [iv 1], [iv (-1)], [iv (-1)], [iv (-1)], [iv (-1)], [iv (-1)], [iv (-1)], [iv (-1)], [iv (-1)], [iv (-1)], [iv (-1)], [iv (-1)], [iv (-1)], [iv (-1)], [iv (-1)]]], V.lst 3 [[iv 0, iv 0, V.lst 1 [[iv 0]]], [iv 4, iv 1, V.lst 1 [[iv 1]]]]], V.tup [V.lst 3 [[iv 0, iv (-1), iv 20], [iv 1, iv (-1), iv 24]], iv 0]⟩
def tb2 : List Fact := fa1 :: tb1
def fa2 : Fact := ⟨24, [V.agg [iv 20, iv 2, iv 2, V.lst 2 [[iv 10, iv 0], [iv 15, iv 1]], V.lst 1 [[iv 0], [iv 1], [iv (-1)], [iv (-1)], [iv (-1)], [iv (-1)], [iv (-1)], [iv (-1)], [iv (-1)], [iv (-1)], [iv (-1)], [iv (-1)], [iv (-1)], [iv (-1)], [iv (-1)], [iv (-1)]]], V.lst 3 [[iv 0, iv 0, V.lst 1 [[iv 0]]], [iv 6, iv 1, V.lst 1 [[iv 1]]], [iv 12, iv 2, V.lst 1 [[iv 2]]]]], V.tup [V.lst 3 [[iv 8, iv 0, bv true], [iv 11, iv 0, bv false], [iv 19, iv 1, bv true], [iv 22, iv 1, bv false]], iv 0]⟩
def tb3 : List Fact := fa2 :: tb2
def fa3 : Fact := ⟨73, [V.lst 1 [[iv 900], [iv 50], [iv 50]], iv 2], V.lst 1 [[iv 900000], [iv 7500], [iv 92500]]⟩
def tb4 : List Fact := fa3 :: tb3
def fa4 : Fact := ⟨33, [V.lst 1 [[V.lst 1 [[iv 900], [iv 50], [iv 50]]], [V.lst 1 [[iv 100], [iv 800], [iv 100]]]], iv 0, iv 2], V.tup [V.lst 1 [[iv 900000], [iv 7500], [iv 92500]], iv 0]⟩
def tb5 : List Fact := fa4 :: tb4
def fa5 : Fact := ⟨44, [], bv true⟩
end Go.Proofs.Ytmdimnmdoifkfaa
namespace Go.Proofs.Ytmdimnmdoifkfaa
open Go Go.Proofs.Ytmdimnmdoifkfaa.Clean
set_option linter.unusedVariables false
set_option maxRecDepth 100000
theorem k0 (h : Facts Try.prog glX tb0) : KFX fa0 := K0_ranQ (cfg := cfgAll Try.prog glX clX (knownI gsX tb0)) hmX (cfgAll_ok (knownI_ok h)) (fun _ _ => rfl) 3000 Try.func22 (by kernel_rfl)
end Go.Proofs.Ytmdimnmdoifkfaa
namespace Go.Proofs.Ytmdimnmdoifkfaa
open Go Go.Proofs.Ytmdimnmdoifkfaa.Clean
set_option linter.unusedVariables false
set_option maxRecDepth 100000
theorem k1 (h : Facts Try.prog glX tb1) : KFX fa1 := K0_ranQ (cfg := cfgAll Try.prog glX clX (knownI gsX tb1)) hmX (cfgAll_ok (knownI_ok h)) (fun _ _ => rfl) 3000 Try.func22 (by kernel_rfl)
end Go.Proofs.Ytmdimnmdoifkfaa
namespace Go.Proofs.Ytmdimnmdoifkfaa
open Go Go.Proofs.Ytmdimnmdoifkfaa.Clean
set_option linter.unusedVariables false
set_option maxRecDepth 100000
theorem k2 (h : Facts Try.prog glX tb2) : KFX fa2 := K0_ranQ (cfg := cfgAll Try.prog glX clX (knownI gsX tb2)) hmX (cfgAll_ok (knownI_ok h)) (fun _ _ => rfl) 3000 Try.func24 (by kernel_rfl)
end Go.Proofs.Ytmdimnmdoifkfaa
namespace Go.Proofs.Ytmdimnmdoifkfaa
open Go Go.Proofs.Ytmdimnmdoifkfaa.Clean
set_option linter.unusedVariables false
set_option maxRecDepth 100000
theorem k3 (h : Facts Try.prog glX tb3) : KFX fa3 := K0_ranQ (cfg := cfgAll Try.prog glX clX (knownI gsX tb3)) hmX (cfgAll_ok (knownI_ok h)) (fun _ _ => rfl) 3000 Try.func73 (by kernel_rfl)
theorem k4 (h : Facts Try.prog glX tb4) : KFX fa4 := K0_ranQ (cfg := cfgAll Try.prog glX clX (knownI gsX tb4)) hmX (cfgAll_ok (knownI_ok h)) (fun _ _ => rfl) 3000 Try.func33 (by kernel_rfl)
end Go.Proofs.Ytmdimnmdoifkfaa
namespace Go.Proofs.Ytmdimnmdoifkfaa
open Go Go.Proofs.Ytmdimnmdoifkfaa.Clean
set_option linter.unusedVariables false
set_option maxRecDepth 100000
theorem k5 (h : Facts Try.prog glX tb5) : KFX fa5 := K0_ranR (p := ((fa5.r = fa5.r) ∧ (fa5.r = fa5.r)) ∧ ((fa5.r = fa5.r) ∧ (fa5.r = fa5.r))) (cfg := cfgAll Try.prog glX clX (knownI gsX tb5)) hmX (cfgAll_ok (knownI_ok h)) (fun _ _ => rfl) 3000 Try.func44 ⟨⟨rfl, rfl⟩, rfl, rfl⟩ (by kernel_rfl)
end Go.Proofs.Ytmdimnmdoifkfaa
