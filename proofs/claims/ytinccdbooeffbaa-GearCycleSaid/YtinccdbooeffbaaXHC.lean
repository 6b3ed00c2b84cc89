/- Proved here: the law GearCycle returns true for every list of pistons, and leaves its argument as it was. No conditions. -/
import Derived.Test.YtinccdbooeffbaaXH6
import Derived.Test.YtinccdbooeffbaaXCO
import Derived.Test.YtinccdbooeffbaaRows
namespace Go.Proofs.Ytinccdbooeffbaa
open Go Go.Proofs.Ytinccdbooeffbaa.Clean Go.ChangeShapes Go.WideShapes Go.ChangeAt Go.RowKit
set_option linter.unusedVariables false

theorem own : ownKnob Try.prog.godebug = none := by kernel_rfl
theorem laidOut : laidOutB Try.prog = true := by kernel_rfl

section
variable {H : Type} {enc : TypeId × Value → H} {w : World}
theorem opens_ints : Opens enc Try.prog w 32 (fun l : List Int => [V.lst 1 (l.map fun n => [V.raw (.int .i64 n)])]) (fun l => l.length ≤ maxLen ∧ ∀ n ∈ l, (Lit.int .i64 n).wf = true) :=
  opens_slice Try.underlying32 (by kernel_rfl) (by decide) (opens_int Try.underlying3)
def pcu (x : List Int × Int × Int × Unit) : List V := [V.lst 1 (x.1.map fun n => [V.raw (.int .i64 n)])] ++ ([V.raw (.int .i64 x.2.1)] ++ ([V.raw (.int .i64 x.2.2.1)] ++ []))
theorem opens_piston : Opens enc Try.prog w 38 pcu (fun x => (x.1.length ≤ maxLen ∧ ∀ n ∈ x.1, (Lit.int .i64 n).wf = true) ∧ (Lit.int .i64 x.2.1).wf = true ∧ (Lit.int .i64 x.2.2.1).wf = true ∧ True) :=
  by
  have h3 := opensF_cons (enc := enc) (P := Try.prog) (w := w) (total := 3) (off := 2) (k := 1) (fd := { name := "Stroke", type := 3, offset := 2, embedded := false, tag := "", pkgPath := "", byteOffset := 32 }) rfl (by kernel_rfl) (opens_int Try.underlying3) opensF_nil
  have h2 := opensF_cons (enc := enc) (P := Try.prog) (w := w) (total := 3) (off := 1) (k := 1) (fd := { name := "Open", type := 3, offset := 1, embedded := false, tag := "", pkgPath := "", byteOffset := 24 }) rfl (by kernel_rfl) (opens_int Try.underlying3) h3
  have h1 := opensF_cons (enc := enc) (P := Try.prog) (w := w) (total := 3) (off := 0) (k := 1) (fd := { name := "Lift", type := 32, offset := 0, embedded := false, tag := "", pkgPath := "", byteOffset := 0 }) rfl (by kernel_rfl) opens_ints h2
  exact opens_struct (total := 3) Try.underlying38 (by kernel_rfl) h1
theorem opens_pistons : Opens enc Try.prog w 39 (fun l : List (List Int × Int × Int × Unit) => [V.lst 3 (l.map pcu)]) (fun l => l.length ≤ maxLen ∧ ∀ x ∈ l, (x.1.length ≤ maxLen ∧ ∀ n ∈ x.1, (Lit.int .i64 n).wf = true) ∧ (Lit.int .i64 x.2.1).wf = true ∧ (Lit.int .i64 x.2.2.1).wf = true ∧ True) :=
  opens_slice Try.underlying39 (by kernel_rfl) (by decide) opens_piston
end

set_option maxRecDepth 100000 in
theorem contract (H : Type) (enc : TypeId × Value → H) (W : World) (base : Nat) (args : Array Value) (ds gs : List (DataW H)) (before : List MemPlace)
    (hval : ∀ (j : Nat) t v, Try.f12.params[j]? = some t → args[j]? = some v → Value.okWide Try.prog W .any base t v)
    (hW : DataW.Whole enc Try.prog Try.f12.params.toList Rows.gearCycleSpec.vars false W args.toList ds gs before) :
    Calls Try.prog 12 args W fun e W' => ∃ v, e = .returned v ∧ Rows.gearCycleSpec.post enc Try.prog Try.f12 false true false false W args v W' := by
  have hW' := hW
  obtain ⟨p, q, hA0, hV, rfl, hfz, hnd⟩ := hW
  have hA : DataW.TrodAll enc Try.prog W 0 (fun _ => true) true Try.f12.params.toList args.toList ds p := hA0
  rw [Try.params12] at hA hval
  obtain ⟨v0, d0, rfl, rfl, h0⟩ := trodAll_one hA
  obtain ⟨rfl, rfl⟩ := trodVars_none hV
  clear hA0
  obtain ⟨l, r0, ok0⟩ := arg_slice Try.underlying39 (hval 0 39 v0 rfl rfl) h0 opens_pistons
  have hmax : maxLen ≤ 9223372036854775807 := by decide
  have hmap : l.map pcu = List.map pc (l.map fun x => (x.1, x.2.1, x.2.2.1)) := by rw [List.map_map]; rfl
  rw [hmap] at r0
  have hlaw := law12 (ps := l.map fun x => (x.1, x.2.1, x.2.2.1)) (R := fun v => v = bv true) (by rw [List.length_map]; have := ok0.1; omega) (by
    intro q hq
    rw [List.mem_map] at hq
    obtain ⟨y, hy, rfl⟩ := hq
    have := (ok0.2 y hy).1.1
    simp only; omega) rfl
  have hrun := hlaw (FW W) W [v0] (fun r h => h) (by simp only [riL]; exact ⟨v0, [], rfl, r0, rfl⟩)
  refine hrun.mono fun e W' he => ?_
  obtain ⟨x, v, F', rfl, rfl, hx, hb, _⟩ := he
  have hx' : x = .bool true := by simpa [bv, ri] using hx
  subst hx'
  have hlt : ∀ y ∈ p, y.block < W.heap.size := fun y hy => by
    have := hW'.lt y (by simpa using hy)
    exact this
  simp only [List.append_nil] at hW'
  exact ⟨_, rfl, _, _, _, [], _, [], hW', trodAll_mk1 (shut_bool Try.underlying4 _),
    trodAll_mk1 (Below.trod laidOut (by kernel_rfl) (of_decide_eq_true (by kernel_rfl)) h0 hb (fun y hy => hlt y hy)), rfl, hb.frame _, fun h => by cases h⟩

set_option maxRecDepth 100000 in
theorem lifted (os : Os) (started : os.Started) (H : Type) (enc : TypeId × Value → H) :
    ReturnsInHanded {} Try.checked os 12 .any (Rows.gearCycleSpec.pre6 enc Try.prog Try.f12 Rows.gearCycleRow.domain false) (Rows.gearCycleSpec.post enc Try.prog Try.f12 false true false false) := by
  refine returnsInHanded_of_change (C := Try.checked) own started (by kernel_rfl) Try.func12
    (ChangeSpec.witness6 (enc := enc) (C := Try.checked) false ⟨#[], #[.slice none 0 0], []⟩ 8 (by kernel_rfl) (by kernel_rfl) (by kernel_rfl) (by kernel_rfl)) ?_
  intro W base args ds gs before hval hW _ _
  exact contract H enc W base args ds gs before hval hW

theorem said : Rows.GearCycleSaid :=
  OpenClaim.holds_of_wide 12 Try.f12 rfl rfl rfl rfl rfl rfl rfl ⟨rfl, rfl, rfl, rfl, rfl⟩ rfl rfl rfl rfl rfl (by kernel_rfl) Try.func12 (by kernel_rfl)
    (of_decide_eq_true (by kernel_rfl)) (by unfold Func.isWrapper; first | (rw [if_pos (by decide +kernel)]; kernel_rfl) | (rw [if_neg (by decide +kernel)]; exact ⟨rfl, rfl⟩))
    (fun os started H enc _ => lifted os started H enc)
end Go.Proofs.Ytinccdbooeffbaa
