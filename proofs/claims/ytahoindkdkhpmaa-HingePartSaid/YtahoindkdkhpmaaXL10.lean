/- Proved here: the law HingePart returns true for every argument, and leaves its arguments as they were. No conditions. -/
import Derived.Test.YtahoindkdkhpmaaXD2
import Derived.Test.YtahoindkdkhpmaaXAO
import Derived.Test.YtahoindkdkhpmaaRows
namespace Go.Proofs.Ytahoindkdkhpmaa
open Go Go.Proofs.Ytahoindkdkhpmaa.Clean Go.ChangeShapes Go.WideShapes Go.ChangeAt Go.RowKit
set_option linter.unusedVariables false
set_option maxRecDepth 100000

theorem own : ownKnob Try.prog.godebug = none := by kernel_rfl
theorem laidOut : laidOutB Try.prog = true := by kernel_rfl
theorem arg_i {H : Type} {enc : TypeId × Value → H} {w : World} {v : Value} {d : DataW H} {p : List MemPlace} {r : Reach} {b0 : Nat} (hval : Value.okWide Try.prog w r b0 3 v) (h : DataW.Trod enc Try.prog w 0 (fun _ => true) true 3 v d p) :
    ∃ n, ri (FW w) w (iv n) v ∧ okI n := by
  obtain ⟨n, h1, h2⟩ := arg_int Try.underlying3 hval h
  exact ⟨n, h1, wf_i64 h2⟩

theorem said10 {x0 : Li} {x1 : Int} {x2 : Int} {x3 : Int} (_ : okL x0) (_ : okI x1) (_ : okI x2) (_ : okI x3) : K0 Try.prog 10 [.agg (lk x0), iv x1, iv x2, iv x3] (fun v => v = bv true) := law10 rfl

set_option maxRecDepth 100000 in
theorem contract (H : Type) (enc : TypeId × Value → H) (W : World) (base : Nat) (args : Array Value) (ds gs : List (DataW H)) (before : List MemPlace)
    (hval : ∀ (j : Nat) t v, Try.f10.params[j]? = some t → args[j]? = some v → Value.okWide Try.prog W .any base t v)
    (hW : DataW.Whole enc Try.prog Try.f10.params.toList Rows.hingePartSpec.vars false W args.toList ds gs before) :
    Calls Try.prog 10 args W fun e W' => ∃ v, e = .returned v ∧ Rows.hingePartSpec.post enc Try.prog Try.f10 false true false false W args v W' := by
  have hW' := hW
  obtain ⟨p, q, hA0, hV, rfl, hfz, hnd⟩ := hW
  have hA : DataW.TrodAll enc Try.prog W 0 (fun _ => true) true Try.f10.params.toList args.toList ds p := hA0
  rw [Try.params10] at hA hval
  obtain ⟨v0, v1, v2, v3, d0, d1, d2, d3, p0, p1, p2, p3, rfl, rfl, rfl, h0, h1, h2, h3⟩ := trodAll_four hA
  obtain ⟨rfl, rfl⟩ := trodVars_none hV
  clear hA0
  obtain ⟨x0, r0, ok0⟩ := arg_struct Try.underlying27 (hval 0 27 v0 rfl rfl) h0 opens_link
  obtain ⟨x1, r1, ok1⟩ := arg_i (hval 1 3 v1 rfl rfl) h1
  obtain ⟨x2, r2, ok2⟩ := arg_i (hval 2 3 v2 rfl rfl) h2
  obtain ⟨x3, r3, ok3⟩ := arg_i (hval 3 3 v3 rfl rfl) h3
  have hlaw := said10 ok0 ok1 ok2 ok3
  have hrun := hlaw (FW W) W [v0, v1, v2, v3] (fun r h => h) (fun g cs h => by cases h) (by simp only [riL]; exact ⟨v0, [v1, v2, v3], rfl, r0, ⟨v1, [v2, v3], rfl, r1, ⟨v2, [v3], rfl, r2, ⟨v3, [], rfl, r3, rfl⟩⟩⟩⟩)
  refine hrun.mono fun e W' he => ?_
  obtain ⟨x, v, F', rfl, rfl, hx, hb, _⟩ := he
  have hx' : x = .bool true := by simpa [bv, ri] using hx
  subst hx'
  have hlt : ∀ y ∈ p0 ++ p1 ++ p2 ++ p3, y.block < W.heap.size := fun y hy => by
    have := hW'.lt y (by simpa using hy)
    exact this
  simp only [List.append_nil] at hW'
  exact ⟨_, rfl, _, _, _, [], _, [], hW', trodAll_mk1 (shut_bool Try.underlying4 _),
    trodAll_mk4 (Below.trod laidOut (by kernel_rfl) (of_decide_eq_true (by kernel_rfl)) h0 hb (fun y hy => hlt y (by simp [hy]))) (Below.trod laidOut (by kernel_rfl) (of_decide_eq_true (by kernel_rfl)) h1 hb (fun y hy => hlt y (by simp [hy]))) (Below.trod laidOut (by kernel_rfl) (of_decide_eq_true (by kernel_rfl)) h2 hb (fun y hy => hlt y (by simp [hy]))) (Below.trod laidOut (by kernel_rfl) (of_decide_eq_true (by kernel_rfl)) h3 hb (fun y hy => hlt y (by simp [hy]))), rfl, hb.frame _, fun h => by cases h⟩

set_option maxRecDepth 100000 in
theorem lifted (os : Os) (started : os.Started) (H : Type) (enc : TypeId × Value → H) :
    ReturnsInHanded {} Try.checked os 10 .any (Rows.hingePartSpec.pre6 enc Try.prog Try.f10 Rows.hingePartRow.domain false) (Rows.hingePartSpec.post enc Try.prog Try.f10 false true false false) := by
  refine returnsInHanded_of_change (C := Try.checked) own started (by kernel_rfl) Try.func10
    (ChangeSpec.witness6 (enc := enc) (C := Try.checked) false ⟨#[], #[.agg #[.slice none 0 0, .slice none 0 0], .int .i64 0, .int .i64 0, .int .i64 0], []⟩ 8 (by kernel_rfl) (by kernel_rfl) (by kernel_rfl) (by kernel_rfl)) ?_
  intro W base args ds gs before hval hW _ _
  exact contract H enc W base args ds gs before hval hW

theorem said : Rows.HingePartSaid :=
  OpenClaim.holds_of_wide 10 Try.f10 rfl rfl rfl rfl rfl rfl rfl ⟨rfl, rfl, rfl, rfl, rfl⟩ rfl rfl rfl rfl rfl (by kernel_rfl) Try.func10 (by kernel_rfl)
    (of_decide_eq_true (by kernel_rfl)) (by unfold Func.isWrapper; first | (rw [if_pos (by decide +kernel)]; kernel_rfl) | (rw [if_neg (by decide +kernel)]; exact ⟨rfl, rfl⟩))
    (fun os started H enc _ => lifted os started H enc)
end Go.Proofs.Ytahoindkdkhpmaa
