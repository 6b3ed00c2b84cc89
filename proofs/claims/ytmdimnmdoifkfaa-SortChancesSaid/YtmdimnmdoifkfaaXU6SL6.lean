/- Proved here: the law SortChances returns true for every argument, and leaves its arguments as they were. No conditions. -/
import Derived.Test.YtmdimnmdoifkfaaRows
import Derived.Test.YtmdimnmdoifkfaaXU6G14
namespace Go.Proofs.Ytmdimnmdoifkfaa
open Go Go.Proofs.Ytmdimnmdoifkfaa.Clean Go.ChangeShapes Go.WideShapes Go.ChangeAt Go.RowKit
set_option linter.unusedVariables false
set_option maxRecDepth 100000
section
variable {H : Type} {enc : TypeId × Value → H} {w : World}
theorem omap {P : Program} {t : TypeId} {α β : Type} {f : α → List V} {g : β → List V} {ok : α → Prop} {ok' : β → Prop} (h : Opens enc P w t f ok) (m : α → β) (hf : ∀ a, f a = g (m a)) (ho : ∀ a, ok a → ok' (m a)) : Opens enc P w t g ok' := by
  intro fuel cs x hx
  obtain ⟨a, h1, h2, h3⟩ := h fuel cs x hx
  exact ⟨m a, hf a ▸ h1, ho a h2, h3⟩
def of3 (a : Int) : List V := [.raw (.int .i64 a)]
def ok3 (a : Int) : Prop := (Lit.int .i64 a).wf = true
theorem op3 : Opens enc Try.prog w 3 of3 ok3 := opens_int Try.underlying3
def of23 (a : List (Int)) : List V := [.lst 1 (a.map of3)]
def ok23 (l : List (Int)) : Prop := l.length ≤ maxLen ∧ ∀ x ∈ l, ok3 x
theorem op23 : Opens enc Try.prog w 23 of23 ok23 := opens_slice (s := 1) Try.underlying23 (by kernel_rfl) (by decide) op3
def of56 (a : List (List (Int))) : List V := [.lst 1 (a.map of23)]
def ok56 (l : List (List (Int))) : Prop := l.length ≤ maxLen ∧ ∀ x ∈ l, ok23 x
theorem op56 : Opens enc Try.prog w 56 of56 ok56 := opens_slice (s := 1) Try.underlying56 (by kernel_rfl) (by decide) op23
theorem trodAll_five {P : Program} {base : Nat} {spare : Nat → Bool} {held : Bool} {t t1 t2 t3 t4 : TypeId} {args : Array Value} {ds : List (DataW H)} {ps : List MemPlace} (h : DataW.TrodAll enc P w base spare held [t, t1, t2, t3, t4] args.toList ds ps) :
    ∃ v v1 v2 v3 v4 d d1 d2 d3 d4 p p1 p2 p3 p4, args = #[v, v1, v2, v3, v4] ∧ ds = [d, d1, d2, d3, d4] ∧ ps = p ++ p1 ++ p2 ++ p3 ++ p4 ∧ DataW.Trod enc P w base spare held t v d p ∧ DataW.Trod enc P w base spare held t1 v1 d1 p1 ∧ DataW.Trod enc P w base spare held t2 v2 d2 p2 ∧ DataW.Trod enc P w base spare held t3 v3 d3 p3 ∧ DataW.Trod enc P w base spare held t4 v4 d4 p4 := by
  obtain ⟨v, vs, d, ds', p, q, hargs, rfl, rfl, hd, hrest⟩ := trodAll_cons h
  obtain ⟨v1, v2, v3, v4, d1, d2, d3, d4, p1, p2, p3, p4, e1, rfl, rfl, g1, g2, g3, g4⟩ := trodAll_four (args := vs.toArray) (by simpa using hrest)
  have e2 : vs = [v1, v2, v3, v4] := by simpa using congrArg Array.toList e1
  subst e2
  exact ⟨v, v1, v2, v3, v4, d, d1, d2, d3, d4, p, p1, p2, p3, p4, by cases args; simp_all, rfl, by simp, hd, g1, g2, g3, g4⟩
theorem trodAll_mk5 {P : Program} {base : Nat} {spare : Nat → Bool} {held : Bool} {t t1 t2 t3 t4 : TypeId} {v v1 v2 v3 v4 : Value} {d d1 d2 d3 d4 : DataW H} {p p1 p2 p3 p4 : List MemPlace} (h : DataW.Trod enc P w base spare held t v d p) (h1 : DataW.Trod enc P w base spare held t1 v1 d1 p1) (h2 : DataW.Trod enc P w base spare held t2 v2 d2 p2) (h3 : DataW.Trod enc P w base spare held t3 v3 d3 p3) (h4 : DataW.Trod enc P w base spare held t4 v4 d4 p4) : DataW.TrodAll enc P w base spare held [t, t1, t2, t3, t4] [v, v1, v2, v3, v4] [d, d1, d2, d3, d4] (p ++ (p1 ++ (p2 ++ (p3 ++ p4)))) := ⟨p, p1 ++ (p2 ++ (p3 ++ p4)), h, trodAll_mk4 h1 h2 h3 h4, rfl⟩
end
theorem said6 {x0 : List (List (Int))} {x1 : Int} {x2 : Int} {x3 : List (Int)} {x4 : List (Int)} (ok0_ : ok56 x0) (ok1_ : ok3 x1) (ok2_ : ok3 x2) (ok3_ : ok23 x3) (ok4_ : ok23 x4) : K0 Try.prog 6 [.lst 1 (x0.map of23), .raw (.int .i64 x1), .raw (.int .i64 x2), .lst 1 (x3.map of3), .lst 1 (x4.map of3)] (fun v => v = bv true) :=
  law6 (l := x0) (kind := x1) (n := x2) (counts := x3) (bins := x4) ok0_.1 rfl
theorem own : ownKnob Try.prog.godebug = none := by kernel_rfl
theorem laidOut : laidOutB Try.prog = true := by kernel_rfl
set_option maxRecDepth 100000 in
theorem contract (H : Type) (enc : TypeId × Value → H) (W : World) (base : Nat) (args : Array Value) (ds gs : List (DataW H)) (before : List MemPlace)
    (hval : ∀ (j : Nat) t v, Try.f6.params[j]? = some t → args[j]? = some v → Value.okWide Try.prog W .any base t v)
    (hW : DataW.Whole enc Try.prog Try.f6.params.toList Rows.sortChancesSpec.vars false W args.toList ds gs before) :
    Calls Try.prog 6 args W fun e W' => ∃ v, e = .returned v ∧ Rows.sortChancesSpec.post enc Try.prog Try.f6 false true false false W args v W' := by
  have hW' := hW
  obtain ⟨p, q, hA0, hV, rfl, hfz, hnd⟩ := hW
  have hA : DataW.TrodAll enc Try.prog W 0 (fun _ => true) true Try.f6.params.toList args.toList ds p := hA0
  rw [Try.params6] at hA hval
  obtain ⟨v0, v1, v2, v3, v4, d0, d1, d2, d3, d4, p0, p1, p2, p3, p4, rfl, rfl, rfl, h0, h1, h2, h3, h4⟩ := trodAll_five hA
  obtain ⟨rfl, rfl⟩ := trodVars_none hV
  clear hA0
  obtain ⟨x0, r0, ok0_⟩ := arg_slice Try.underlying56 (hval 0 56 v0 rfl rfl) h0 op56
  obtain ⟨x1, r1, ok1_⟩ := arg_int Try.underlying3 (hval 1 3 v1 rfl rfl) h1
  obtain ⟨x2, r2, ok2_⟩ := arg_int Try.underlying3 (hval 2 3 v2 rfl rfl) h2
  obtain ⟨x3, r3, ok3_⟩ := arg_slice Try.underlying23 (hval 3 23 v3 rfl rfl) h3 op23
  obtain ⟨x4, r4, ok4_⟩ := arg_slice Try.underlying23 (hval 4 23 v4 rfl rfl) h4 op23
  have hlaw := said6 ok0_ ok1_ ok2_ ok3_ ok4_
  have hrun := hlaw (FW W) W [v0, v1, v2, v3, v4] (fun r h => h) (fun g cs h => by cases h) (by simp only [riL]; exact ⟨v0, [v1, v2, v3, v4], rfl, r0, ⟨v1, [v2, v3, v4], rfl, r1, ⟨v2, [v3, v4], rfl, r2, ⟨v3, [v4], rfl, r3, ⟨v4, [], rfl, r4, rfl⟩⟩⟩⟩⟩)
  refine hrun.mono fun e W' he => ?_
  obtain ⟨x, v, F', rfl, rfl, hx, hb, _⟩ := he
  have hx' : x = .bool true := by simpa [bv, ri] using hx
  subst hx'
  have hlt : ∀ y ∈ p0 ++ p1 ++ p2 ++ p3 ++ p4, y.block < W.heap.size := fun y hy => by
    have := hW'.lt y (by simpa using hy)
    exact this
  simp only [List.append_nil] at hW'
  exact ⟨_, rfl, _, _, _, [], _, [], hW', trodAll_mk1 (shut_bool Try.underlying4 _),
    trodAll_mk5 (Below.trod laidOut (by kernel_rfl) (of_decide_eq_true (by kernel_rfl)) h0 hb.toBelow (fun y hy => hlt y (by simp [hy]))) (Below.trod laidOut (by kernel_rfl) (of_decide_eq_true (by kernel_rfl)) h1 hb.toBelow (fun y hy => hlt y (by simp [hy]))) (Below.trod laidOut (by kernel_rfl) (of_decide_eq_true (by kernel_rfl)) h2 hb.toBelow (fun y hy => hlt y (by simp [hy]))) (Below.trod laidOut (by kernel_rfl) (of_decide_eq_true (by kernel_rfl)) h3 hb.toBelow (fun y hy => hlt y (by simp [hy]))) (Below.trod laidOut (by kernel_rfl) (of_decide_eq_true (by kernel_rfl)) h4 hb.toBelow (fun y hy => hlt y (by simp [hy]))), rfl, hb.frame _, fun h => by cases h⟩
set_option maxRecDepth 100000 in
theorem lifted (os : Os) (started : os.Started) (H : Type) (enc : TypeId × Value → H) :
    ReturnsInHanded {} Try.checked os 6 .any (Rows.sortChancesSpec.pre6 enc Try.prog Try.f6 Rows.sortChancesRow.domain false) (Rows.sortChancesSpec.post enc Try.prog Try.f6 false true false false) := by
  refine returnsInHanded_of_change (C := Try.checked) own started (by kernel_rfl) Try.func6
    (ChangeSpec.witness6 (enc := enc) (C := Try.checked) false ⟨#[], #[.slice none 0 0, .int .i64 0, .int .i64 0, .slice none 0 0, .slice none 0 0], []⟩ 8 (by kernel_rfl) (by kernel_rfl) (by kernel_rfl) (by kernel_rfl)) ?_
  intro W base args ds gs before hval hW _ _
  exact contract H enc W base args ds gs before hval hW
theorem said : Rows.SortChancesSaid :=
  OpenClaim.holds_of_wide 6 Try.f6 rfl rfl rfl rfl rfl rfl rfl ⟨rfl, rfl, rfl, rfl, rfl⟩ rfl rfl rfl rfl rfl (by kernel_rfl) Try.func6 (by kernel_rfl)
    (of_decide_eq_true (by kernel_rfl)) (by unfold Func.isWrapper; first | (rw [if_pos (by decide +kernel)]; kernel_rfl) | (rw [if_neg (by decide +kernel)]; exact ⟨rfl, rfl⟩))
    (fun os started H enc _ => lifted os started H enc)
end Go.Proofs.Ytmdimnmdoifkfaa
