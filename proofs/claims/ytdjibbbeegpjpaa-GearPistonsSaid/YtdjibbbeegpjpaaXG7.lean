/- Proved here: the law GearPistons returns true for every piston, every number of ticks and every list of pistons, and leaves its arguments as they were. No conditions. -/
import Derived.Test.YtdjibbbeegpjpaaXG6
import Derived.Test.YtdjibbbeegpjpaaXCO
import Derived.Test.YtdjibbbeegpjpaaRows
namespace Go.Proofs.Ytdjibbbeegpjpaa
open Go Go.Proofs.Ytdjibbbeegpjpaa.Clean Go.ChangeShapes Go.WideShapes Go.ChangeAt Go.RowKit
set_option linter.unusedVariables false

theorem own : ownKnob Try.prog.godebug = none := by kernel_rfl
theorem laidOut : laidOutB Try.prog = true := by kernel_rfl

section
variable {H : Type} {enc : TypeId × Value → H} {w : World}
theorem opens_ints : Opens enc Try.prog w 22 (fun l : List Int => [V.lst 1 (l.map fun n => [V.raw (.int .i64 n)])]) (fun l => l.length ≤ maxLen ∧ ∀ n ∈ l, (Lit.int .i64 n).wf = true) :=
  opens_slice Try.underlying22 (by kernel_rfl) (by decide) (opens_int Try.underlying3)
def pcu (x : List Int × Int × Int × Unit) : List V := [V.lst 1 (x.1.map fun n => [V.raw (.int .i64 n)])] ++ ([V.raw (.int .i64 x.2.1)] ++ ([V.raw (.int .i64 x.2.2.1)] ++ []))
theorem opens_piston : Opens enc Try.prog w 24 pcu (fun x => (x.1.length ≤ maxLen ∧ ∀ n ∈ x.1, (Lit.int .i64 n).wf = true) ∧ (Lit.int .i64 x.2.1).wf = true ∧ (Lit.int .i64 x.2.2.1).wf = true ∧ True) :=
  by
  have h3 := opensF_cons (enc := enc) (P := Try.prog) (w := w) (total := 3) (off := 2) (k := 1) (fd := { name := "Stroke", type := 3, offset := 2, embedded := false, tag := "", pkgPath := "", byteOffset := 32 }) rfl (by kernel_rfl) (opens_int Try.underlying3) opensF_nil
  have h2 := opensF_cons (enc := enc) (P := Try.prog) (w := w) (total := 3) (off := 1) (k := 1) (fd := { name := "Open", type := 3, offset := 1, embedded := false, tag := "", pkgPath := "", byteOffset := 24 }) rfl (by kernel_rfl) (opens_int Try.underlying3) h3
  have h1 := opensF_cons (enc := enc) (P := Try.prog) (w := w) (total := 3) (off := 0) (k := 1) (fd := { name := "Lift", type := 22, offset := 0, embedded := false, tag := "", pkgPath := "", byteOffset := 0 }) rfl (by kernel_rfl) opens_ints h2
  exact opens_struct (total := 3) Try.underlying24 (by kernel_rfl) h1
theorem opens_pistons : Opens enc Try.prog w 25 (fun l : List (List Int × Int × Int × Unit) => [V.lst 3 (l.map pcu)]) (fun l => l.length ≤ maxLen ∧ ∀ x ∈ l, (x.1.length ≤ maxLen ∧ ∀ n ∈ x.1, (Lit.int .i64 n).wf = true) ∧ (Lit.int .i64 x.2.1).wf = true ∧ (Lit.int .i64 x.2.2.1).wf = true ∧ True) :=
  opens_slice Try.underlying25 (by kernel_rfl) (by decide) opens_piston
end

set_option maxRecDepth 100000 in
theorem contract (H : Type) (enc : TypeId × Value → H) (W : World) (base : Nat) (args : Array Value) (ds gs : List (DataW H)) (before : List MemPlace)
    (hval : ∀ (j : Nat) t v, Try.f3.params[j]? = some t → args[j]? = some v → Value.okWide Try.prog W .any base t v)
    (hW : DataW.Whole enc Try.prog Try.f3.params.toList Rows.gearPistonsSpec.vars false W args.toList ds gs before) :
    Calls Try.prog 3 args W fun e W' => ∃ v, e = .returned v ∧ Rows.gearPistonsSpec.post enc Try.prog Try.f3 false true false false W args v W' := by
  have hW' := hW
  obtain ⟨p, q, hA0, hV, rfl, hfz, hnd⟩ := hW
  have hA : DataW.TrodAll enc Try.prog W 0 (fun _ => true) true Try.f3.params.toList args.toList ds p := hA0
  rw [Try.params3] at hA hval
  obtain ⟨v0, v1, v2, d0, d1, d2, p0, p1, p2, rfl, rfl, rfl, h0, h1, h2⟩ := trodAll_three hA
  obtain ⟨rfl, rfl⟩ := trodVars_none hV
  clear hA0
  obtain ⟨x0, r0, ok0⟩ := arg_struct Try.underlying24 (hval 0 24 v0 rfl rfl) h0 opens_piston
  obtain ⟨n, r1, ok1⟩ := arg_int Try.underlying3 (hval 1 3 v1 rfl rfl) h1
  obtain ⟨l, r2, ok2⟩ := arg_slice Try.underlying25 (hval 2 25 v2 rfl rfl) h2 opens_pistons
  have hmax : maxLen ≤ 9223372036854775807 := by decide
  have hmap : l.map pcu = List.map pc (l.map fun x => (x.1, x.2.1, x.2.2.1)) := by rw [List.map_map]; rfl
  rw [hmap] at r2
  have hlaw := law3 (p := (x0.1, x0.2.1, x0.2.2.1)) (ticks := n) (ps := l.map fun x => (x.1, x.2.1, x.2.2.1)) (R := fun v => v = bv true) (by have := ok0.1.1; simp only; omega) (by rw [List.length_map]; have := ok2.1; omega) (by
    intro q hq
    rw [List.mem_map] at hq
    obtain ⟨y, hy, rfl⟩ := hq
    have := (ok2.2 y hy).1.1
    simp only; omega) rfl
  have hrun := hlaw (FW W) W [v0, v1, v2] (fun r h => h) (by simp only [riL]; exact ⟨v0, [v1, v2], rfl, r0, v1, [v2], rfl, r1, v2, [], rfl, r2, rfl⟩)
  refine hrun.mono fun e W' he => ?_
  obtain ⟨x, v, F', rfl, rfl, hx, hb, _⟩ := he
  have hx' : x = .bool true := by simpa [bv, ri] using hx
  subst hx'
  have hlt : ∀ y ∈ p0 ++ p1 ++ p2, y.block < W.heap.size := fun y hy => by
    have := hW'.lt y (by simpa using hy)
    exact this
  simp only [List.append_nil] at hW'
  exact ⟨_, rfl, _, _, _, [], _, [], hW', trodAll_mk1 (shut_bool Try.underlying4 _),
    trodAll_mk3 (Below.trod laidOut (by kernel_rfl) (of_decide_eq_true (by kernel_rfl)) h0 hb (fun y hy => hlt y (by simp [hy]))) (Below.trod laidOut (by kernel_rfl) (of_decide_eq_true (by kernel_rfl)) h1 hb (fun y hy => hlt y (by simp [hy])))
      (Below.trod laidOut (by kernel_rfl) (of_decide_eq_true (by kernel_rfl)) h2 hb (fun y hy => hlt y (by simp [hy]))), rfl, hb.frame _, fun h => by cases h⟩

set_option maxRecDepth 100000 in
theorem lifted (os : Os) (started : os.Started) (H : Type) (enc : TypeId × Value → H) :
    ReturnsInHanded {} Try.checked os 3 .any (Rows.gearPistonsSpec.pre6 enc Try.prog Try.f3 Rows.gearPistonsRow.domain false) (Rows.gearPistonsSpec.post enc Try.prog Try.f3 false true false false) := by
  refine returnsInHanded_of_change (C := Try.checked) own started (by kernel_rfl) Try.func3
    (ChangeSpec.witness6 (enc := enc) (C := Try.checked) false ⟨#[], #[.agg #[.slice none 0 0, .int .i64 0, .int .i64 0], .int .i64 0, .slice none 0 0], []⟩ 8 (by kernel_rfl) (by kernel_rfl) (by kernel_rfl) (by kernel_rfl)) ?_
  intro W base args ds gs before hval hW _ _
  exact contract H enc W base args ds gs before hval hW

theorem said : Rows.GearPistonsSaid :=
  OpenClaim.holds_of_wide 3 Try.f3 rfl rfl rfl rfl rfl rfl rfl ⟨rfl, rfl, rfl, rfl, rfl⟩ rfl rfl rfl rfl rfl (by kernel_rfl) Try.func3 (by kernel_rfl)
    (of_decide_eq_true (by kernel_rfl)) (by unfold Func.isWrapper; first | (rw [if_pos (by decide +kernel)]; kernel_rfl) | (rw [if_neg (by decide +kernel)]; exact ⟨rfl, rfl⟩))
    (fun os started H enc _ => lifted os started H enc)
end Go.Proofs.Ytdjibbbeegpjpaa
