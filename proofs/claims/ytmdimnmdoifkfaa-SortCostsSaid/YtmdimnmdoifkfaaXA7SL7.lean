/- Proved here: the law SortCosts returns true for every argument, and leaves its arguments as they were. No conditions. -/
import Derived.Test.YtmdimnmdoifkfaaRows
import Derived.Test.YtmdimnmdoifkfaaXA7G14
namespace Go.Proofs.Ytmdimnmdoifkfaa
open Go Go.Proofs.Ytmdimnmdoifkfaa.Clean Go.ChangeShapes Go.WideShapes Go.ChangeAt Go.RowKit
set_option linter.unusedVariables false
set_option maxRecDepth 100000
section
variable {H : Type} {enc : TypeId × Value → H} {w : World}
theorem omap {P : Program} {t : TypeId} {α β : Type} {f : α → List V} {g : β → List V} {ok : α → Prop} {ok' : β → Prop} (h : Opens enc P w t f ok) (m : α → β) (hf : ∀ a, f a = g (m a)) (ho : ∀ a, ok a → ok' (m a)) : Opens enc P w t g ok' := by
  intro fuel cs x hx
  obtain ⟨a, h1, h2, h3⟩ := h fuel cs x hx
  exact ⟨m a, hf a ▸ h1, ho a h2, h3⟩
def of3 (a : Int) : List V := [.raw (.int .i64 a)]
def ok3 (a : Int) : Prop := (Lit.int .i64 a).wf = true
theorem op3 : Opens enc Try.prog w 3 of3 ok3 := opens_int Try.underlying3
def of23 (a : List (Int)) : List V := [.lst 1 (a.map of3)]
def ok23 (l : List (Int)) : Prop := l.length ≤ maxLen ∧ ∀ x ∈ l, ok3 x
theorem op23 : Opens enc Try.prog w 23 of23 ok23 := opens_slice (s := 1) Try.underlying23 (by kernel_rfl) (by decide) op3
end
theorem said7 {x0 : List (Int)} {x1 : List (Int)} {x2 : Int} (ok0_ : ok23 x0) (ok1_ : ok23 x1) (ok2_ : ok3 x2) : K0 Try.prog 7 [.lst 1 (x0.map of3), .lst 1 (x1.map of3), .raw (.int .i64 x2)] (fun v => v = bv true) :=
  law7 (c := x0) (p := x1) (b := x2) rfl
theorem own : ownKnob Try.prog.godebug = none := by kernel_rfl
theorem laidOut : laidOutB Try.prog = true := by kernel_rfl
set_option maxRecDepth 100000 in
theorem contract (H : Type) (enc : TypeId × Value → H) (W : World) (base : Nat) (args : Array Value) (ds gs : List (DataW H)) (before : List MemPlace)
    (hval : ∀ (j : Nat) t v, Try.f7.params[j]? = some t → args[j]? = some v → Value.okWide Try.prog W .any base t v)
    (hW : DataW.Whole enc Try.prog Try.f7.params.toList Rows.sortCostsSpec.vars false W args.toList ds gs before) :
    Calls Try.prog 7 args W fun e W' => ∃ v, e = .returned v ∧ Rows.sortCostsSpec.post enc Try.prog Try.f7 false true false false W args v W' := by
  have hW' := hW
  obtain ⟨p, q, hA0, hV, rfl, hfz, hnd⟩ := hW
  have hA : DataW.TrodAll enc Try.prog W 0 (fun _ => true) true Try.f7.params.toList args.toList ds p := hA0
  rw [Try.params7] at hA hval
  obtain ⟨v0, v1, v2, d0, d1, d2, p0, p1, p2, rfl, rfl, rfl, h0, h1, h2⟩ := trodAll_three hA
  obtain ⟨rfl, rfl⟩ := trodVars_none hV
  clear hA0
  obtain ⟨x0, r0, ok0_⟩ := arg_slice Try.underlying23 (hval 0 23 v0 rfl rfl) h0 op23
  obtain ⟨x1, r1, ok1_⟩ := arg_slice Try.underlying23 (hval 1 23 v1 rfl rfl) h1 op23
  obtain ⟨x2, r2, ok2_⟩ := arg_int Try.underlying3 (hval 2 3 v2 rfl rfl) h2
  have hlaw := said7 ok0_ ok1_ ok2_
  have hrun := hlaw (FW W) W [v0, v1, v2] (fun r h => h) (fun g cs h => by cases h) (by simp only [riL]; exact ⟨v0, [v1, v2], rfl, r0, ⟨v1, [v2], rfl, r1, ⟨v2, [], rfl, r2, rfl⟩⟩⟩)
  refine hrun.mono fun e W' he => ?_
  obtain ⟨x, v, F', rfl, rfl, hx, hb, _⟩ := he
  have hx' : x = .bool true := by simpa [bv, ri] using hx
  subst hx'
  have hlt : ∀ y ∈ p0 ++ p1 ++ p2, y.block < W.heap.size := fun y hy => by
    have := hW'.lt y (by simpa using hy)
    exact this
  simp only [List.append_nil] at hW'
  exact ⟨_, rfl, _, _, _, [], _, [], hW', trodAll_mk1 (shut_bool Try.underlying4 _),
    trodAll_mk3 (Below.trod laidOut (by kernel_rfl) (of_decide_eq_true (by kernel_rfl)) h0 hb.toBelow (fun y hy => hlt y (by simp [hy]))) (Below.trod laidOut (by kernel_rfl) (of_decide_eq_true (by kernel_rfl)) h1 hb.toBelow (fun y hy => hlt y (by simp [hy]))) (Below.trod laidOut (by kernel_rfl) (of_decide_eq_true (by kernel_rfl)) h2 hb.toBelow (fun y hy => hlt y (by simp [hy]))), rfl, hb.frame _, fun h => by cases h⟩
set_option maxRecDepth 100000 in
theorem lifted (os : Os) (started : os.Started) (H : Type) (enc : TypeId × Value → H) :
    ReturnsInHanded {} Try.checked os 7 .any (Rows.sortCostsSpec.pre6 enc Try.prog Try.f7 Rows.sortCostsRow.domain false) (Rows.sortCostsSpec.post enc Try.prog Try.f7 false true false false) := by
  refine returnsInHanded_of_change (C := Try.checked) own started (by kernel_rfl) Try.func7
    (ChangeSpec.witness6 (enc := enc) (C := Try.checked) false ⟨#[], #[.slice none 0 0, .slice none 0 0, .int .i64 0], []⟩ 8 (by kernel_rfl) (by kernel_rfl) (by kernel_rfl) (by kernel_rfl)) ?_
  intro W base args ds gs before hval hW _ _
  exact contract H enc W base args ds gs before hval hW
theorem said : Rows.SortCostsSaid :=
  OpenClaim.holds_of_wide 7 Try.f7 rfl rfl rfl rfl rfl rfl rfl ⟨rfl, rfl, rfl, rfl, rfl⟩ rfl rfl rfl rfl rfl (by kernel_rfl) Try.func7 (by kernel_rfl)
    (of_decide_eq_true (by kernel_rfl)) (by unfold Func.isWrapper; first | (rw [if_pos (by decide +kernel)]; kernel_rfl) | (rw [if_neg (by decide +kernel)]; exact ⟨rfl, rfl⟩))
    (fun os started H enc _ => lifted os started H enc)
end Go.Proofs.Ytmdimnmdoifkfaa
