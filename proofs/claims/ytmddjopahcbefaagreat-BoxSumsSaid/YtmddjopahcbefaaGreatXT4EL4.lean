/- Proved here: the law BoxSums returns true for every argument, and leaves its arguments as they were. No conditions. -/
import Derived.Test.YtmddjopahcbefaaGreatRows
import Derived.Test.YtmddjopahcbefaaGreatXT4G15
namespace Go.Proofs.YtmddjopahcbefaaGreat
open Go Go.Proofs.YtmddjopahcbefaaGreat.Clean Go.ChangeShapes Go.WideShapes Go.ChangeAt Go.RowKit
set_option linter.unusedVariables false
set_option maxRecDepth 100000
section
variable {H : Type} {enc : TypeId × Value → H} {w : World}
theorem omap {P : Program} {t : TypeId} {α β : Type} {f : α → List V} {g : β → List V} {ok : α → Prop} {ok' : β → Prop} (h : Opens enc P w t f ok) (m : α → β) (hf : ∀ a, f a = g (m a)) (ho : ∀ a, ok a → ok' (m a)) : Opens enc P w t g ok' := by
  intro fuel cs x hx
  obtain ⟨a, h1, h2, h3⟩ := h fuel cs x hx
  exact ⟨m a, hf a ▸ h1, ho a h2, h3⟩
def of3 (a : Int) : List V := [.raw (.int .i64 a)]
def ok3 (a : Int) : Prop := (Lit.int .i64 a).wf = true
theorem op3 : Opens enc Tryz.prog w 3 of3 ok3 := opens_int Tryz.underlying3
def of5 (a : Int) : List V := [.raw (.int .u8 a)]
def ok5 (a : Int) : Prop := (Lit.int .u8 a).wf = true
theorem op5 : Opens enc Tryz.prog w 5 of5 ok5 := opens_int Tryz.underlying5
def of27 (a : Int × Int × Int) : List V := [.raw (.int .i64 a.1), .raw (.int .u8 a.2.1), .raw (.int .i64 a.2.2)]
def ok27 (a : Int × Int × Int) : Prop := ok3 a.1 ∧ ok5 a.2.1 ∧ ok3 a.2.2
theorem op27 : Opens enc Tryz.prog w 27 of27 ok27 := by
  have h2 := opensF_cons (enc := enc) (P := Tryz.prog) (w := w) (total := 3) (off := 2) (k := 1) (fd := { name := "N", type := 3, offset := 2, embedded := false, tag := "", pkgPath := "", byteOffset := 16 }) rfl (by kernel_rfl) op3 opensF_nil
  have h1 := opensF_cons (enc := enc) (P := Tryz.prog) (w := w) (total := 3) (off := 1) (k := 1) (fd := { name := "Color", type := 5, offset := 1, embedded := false, tag := "", pkgPath := "", byteOffset := 8 }) rfl (by kernel_rfl) op5 h2
  have h0 := opensF_cons (enc := enc) (P := Tryz.prog) (w := w) (total := 3) (off := 0) (k := 1) (fd := { name := "Kind", type := 3, offset := 0, embedded := false, tag := "", pkgPath := "", byteOffset := 0 }) rfl (by kernel_rfl) op3 h1
  exact omap (opens_struct (total := 3) Tryz.underlying27 (by kernel_rfl) h0) (fun a => (a.1, a.2.1, a.2.2.1)) (fun a => rfl) (fun a h => ⟨h.1, h.2.1, h.2.2.1⟩)
def of22 (a : List (Int × Int × Int)) : List V := [.lst 3 (a.map of27)]
def ok22 (l : List (Int × Int × Int)) : Prop := l.length ≤ maxLen ∧ ∀ x ∈ l, ok27 x
theorem op22 : Opens enc Tryz.prog w 22 of22 ok22 := opens_slice (s := 3) Tryz.underlying22 (by kernel_rfl) (by decide) op27
end
theorem said4 {x0 : List (Int × Int × Int)} {x1 : List (Int × Int × Int)} (ok0_ : ok22 x0) (ok1_ : ok22 x1) : K0 Tryz.prog 4 [.lst 3 (x0.map of27), .lst 3 (x1.map of27)] (fun v => v = bv true) :=
  law4 (a := x0) (b := x1) rfl
theorem own : ownKnob Tryz.prog.godebug = none := by kernel_rfl
theorem laidOut : laidOutB Tryz.prog = true := by kernel_rfl
set_option maxRecDepth 100000 in
theorem contract (H : Type) (enc : TypeId × Value → H) (W : World) (base : Nat) (args : Array Value) (ds gs : List (DataW H)) (before : List MemPlace)
    (hval : ∀ (j : Nat) t v, Tryz.f4.params[j]? = some t → args[j]? = some v → Value.okWide Tryz.prog W .any base t v)
    (hW : DataW.Whole enc Tryz.prog Tryz.f4.params.toList Rows.boxSumsSpec.vars false W args.toList ds gs before) :
    Calls Tryz.prog 4 args W fun e W' => ∃ v, e = .returned v ∧ Rows.boxSumsSpec.post enc Tryz.prog Tryz.f4 false true false false W args v W' := by
  have hW' := hW
  obtain ⟨p, q, hA0, hV, rfl, hfz, hnd⟩ := hW
  have hA : DataW.TrodAll enc Tryz.prog W 0 (fun _ => true) true Tryz.f4.params.toList args.toList ds p := hA0
  rw [Tryz.params4] at hA hval
  obtain ⟨v0, v1, d0, d1, p0, p1, rfl, rfl, rfl, h0, h1⟩ := trodAll_two hA
  obtain ⟨rfl, rfl⟩ := trodVars_none hV
  clear hA0
  obtain ⟨x0, r0, ok0_⟩ := arg_slice Tryz.underlying22 (hval 0 22 v0 rfl rfl) h0 op22
  obtain ⟨x1, r1, ok1_⟩ := arg_slice Tryz.underlying22 (hval 1 22 v1 rfl rfl) h1 op22
  have hlaw := said4 ok0_ ok1_
  have hrun := hlaw (FW W) W [v0, v1] (fun r h => h) (fun g cs h => by cases h) (by simp only [riL]; exact ⟨v0, [v1], rfl, r0, ⟨v1, [], rfl, r1, rfl⟩⟩)
  refine hrun.mono fun e W' he => ?_
  obtain ⟨x, v, F', rfl, rfl, hx, hb, _⟩ := he
  have hx' : x = .bool true := by simpa [bv, ri] using hx
  subst hx'
  have hlt : ∀ y ∈ p0 ++ p1, y.block < W.heap.size := fun y hy => by
    have := hW'.lt y (by simpa using hy)
    exact this
  simp only [List.append_nil] at hW'
  exact ⟨_, rfl, _, _, _, [], _, [], hW', trodAll_mk1 (shut_bool Tryz.underlying4 _),
    trodAll_mk2 (Below.trod laidOut (by kernel_rfl) (of_decide_eq_true (by kernel_rfl)) h0 hb.toBelow (fun y hy => hlt y (by simp [hy]))) (Below.trod laidOut (by kernel_rfl) (of_decide_eq_true (by kernel_rfl)) h1 hb.toBelow (fun y hy => hlt y (by simp [hy]))), rfl, hb.frame _, fun h => by cases h⟩
set_option maxRecDepth 100000 in
theorem lifted (os : Os) (started : os.Started) (H : Type) (enc : TypeId × Value → H) :
    ReturnsInHanded {} Tryz.checked os 4 .any (Rows.boxSumsSpec.pre6 enc Tryz.prog Tryz.f4 Rows.boxSumsRow.domain false) (Rows.boxSumsSpec.post enc Tryz.prog Tryz.f4 false true false false) := by
  refine returnsInHanded_of_change (C := Tryz.checked) own started (by kernel_rfl) Tryz.func4
    (ChangeSpec.witness6 (enc := enc) (C := Tryz.checked) false ⟨#[], #[.slice none 0 0, .slice none 0 0], []⟩ 8 (by kernel_rfl) (by kernel_rfl) (by kernel_rfl) (by kernel_rfl)) ?_
  intro W base args ds gs before hval hW _ _
  exact contract H enc W base args ds gs before hval hW
theorem said : Rows.BoxSumsSaid :=
  OpenClaim.holds_of_wide 4 Tryz.f4 rfl rfl rfl rfl rfl rfl rfl ⟨rfl, rfl, rfl, rfl, rfl⟩ rfl rfl rfl rfl rfl (by kernel_rfl) Tryz.func4 (by kernel_rfl)
    (of_decide_eq_true (by kernel_rfl)) (by unfold Func.isWrapper; first | (rw [if_pos (by decide +kernel)]; kernel_rfl) | (rw [if_neg (by decide +kernel)]; exact ⟨rfl, rfl⟩))
    (fun os started H enc _ => lifted os started H enc)
end Go.Proofs.YtmddjopahcbefaaGreat
