/- Proved here: the law SortRuns returns true for every argument, and leaves its arguments as they were. No conditions. -/
import Derived.Test.YtmdimnmdoifkfaaRows
import Derived.Test.YtmdimnmdoifkfaaXR5G15
namespace Go.Proofs.Ytmdimnmdoifkfaa
open Go Go.Proofs.Ytmdimnmdoifkfaa.Clean Go.ChangeShapes Go.WideShapes Go.ChangeAt Go.RowKit
set_option linter.unusedVariables false
set_option maxRecDepth 100000
section
variable {H : Type} {enc : TypeId × Value → H} {w : World}
theorem omap {P : Program} {t : TypeId} {α β : Type} {f : α → List V} {g : β → List V} {ok : α → Prop} {ok' : β → Prop} (h : Opens enc P w t f ok) (m : α → β) (hf : ∀ a, f a = g (m a)) (ho : ∀ a, ok a → ok' (m a)) : Opens enc P w t g ok' := by
  intro fuel cs x hx
  obtain ⟨a, h1, h2, h3⟩ := h fuel cs x hx
  exact ⟨m a, hf a ▸ h1, ho a h2, h3⟩
def of3 (a : Int) : List V := [.raw (.int .i64 a)]
def ok3 (a : Int) : Prop := (Lit.int .i64 a).wf = true
theorem op3 : Opens enc Try.prog w 3 of3 ok3 := opens_int Try.underlying3
def of86 (a : Int × Int) : List V := [.raw (.int .i64 a.1), .raw (.int .i64 a.2)]
def ok86 (a : Int × Int) : Prop := ok3 a.1 ∧ ok3 a.2
theorem op86 : Opens enc Try.prog w 86 of86 ok86 := by
  have h1 := opensF_cons (enc := enc) (P := Try.prog) (w := w) (total := 2) (off := 1) (k := 1) (fd := { name := "Bin", type := 3, offset := 1, embedded := false, tag := "", pkgPath := "", byteOffset := 8 }) rfl (by kernel_rfl) op3 opensF_nil
  have h0 := opensF_cons (enc := enc) (P := Try.prog) (w := w) (total := 2) (off := 0) (k := 1) (fd := { name := "At", type := 3, offset := 0, embedded := false, tag := "", pkgPath := "", byteOffset := 0 }) rfl (by kernel_rfl) op3 h1
  exact omap (opens_struct (total := 2) Try.underlying86 (by kernel_rfl) h0) (fun a => (a.1, a.2.1)) (fun a => rfl) (fun a h => ⟨h.1, h.2.1⟩)
def of22 (a : List (Int × Int)) : List V := [.lst 2 (a.map of86)]
def ok22 (l : List (Int × Int)) : Prop := l.length ≤ maxLen ∧ ∀ x ∈ l, ok86 x
theorem op22 : Opens enc Try.prog w 22 of22 ok22 := opens_slice (s := 2) Try.underlying22 (by kernel_rfl) (by decide) op86
def of23 (a : List (Int)) : List V := [.lst 1 (a.map of3)]
def ok23 (l : List (Int)) : Prop := l.length ≤ maxLen ∧ ∀ x ∈ l, ok3 x
theorem op23 : Opens enc Try.prog w 23 of23 ok23 := opens_slice (s := 1) Try.underlying23 (by kernel_rfl) (by decide) op3
def of25 (a : Int × Int × Int × List (Int × Int) × List (Int)) : List V := [.raw (.int .i64 a.1), .raw (.int .i64 a.2.1), .raw (.int .i64 a.2.2.1), .lst 2 (a.2.2.2.1.map of86), .lst 1 (a.2.2.2.2.map of3)]
def ok25 (a : Int × Int × Int × List (Int × Int) × List (Int)) : Prop := ok3 a.1 ∧ ok3 a.2.1 ∧ ok3 a.2.2.1 ∧ ok22 a.2.2.2.1 ∧ ok23 a.2.2.2.2
theorem op25 : Opens enc Try.prog w 25 of25 ok25 := by
  have h4 := opensF_cons (enc := enc) (P := Try.prog) (w := w) (total := 5) (off := 4) (k := 1) (fd := { name := "Bins", type := 23, offset := 4, embedded := false, tag := "", pkgPath := "", byteOffset := 48 }) rfl (by kernel_rfl) op23 opensF_nil
  have h3 := opensF_cons (enc := enc) (P := Try.prog) (w := w) (total := 5) (off := 3) (k := 1) (fd := { name := "Gates", type := 22, offset := 3, embedded := false, tag := "", pkgPath := "", byteOffset := 24 }) rfl (by kernel_rfl) op22 h4
  have h2 := opensF_cons (enc := enc) (P := Try.prog) (w := w) (total := 5) (off := 2) (k := 1) (fd := { name := "Slow", type := 3, offset := 2, embedded := false, tag := "", pkgPath := "", byteOffset := 16 }) rfl (by kernel_rfl) op3 h3
  have h1 := opensF_cons (enc := enc) (P := Try.prog) (w := w) (total := 5) (off := 1) (k := 1) (fd := { name := "Camera", type := 3, offset := 1, embedded := false, tag := "", pkgPath := "", byteOffset := 8 }) rfl (by kernel_rfl) op3 h2
  have h0 := opensF_cons (enc := enc) (P := Try.prog) (w := w) (total := 5) (off := 0) (k := 1) (fd := { name := "Length", type := 3, offset := 0, embedded := false, tag := "", pkgPath := "", byteOffset := 0 }) rfl (by kernel_rfl) op3 h1
  exact omap (opens_struct (total := 5) Try.underlying25 (by kernel_rfl) h0) (fun a => (a.1, a.2.1, a.2.2.1, a.2.2.2.1, a.2.2.2.2.1)) (fun a => rfl) (fun a h => ⟨h.1, h.2.1, h.2.2.1, h.2.2.2.1, h.2.2.2.2.1⟩)
def of49 (a : Int × Int × List (Int)) : List V := [.raw (.int .i64 a.1), .raw (.int .i64 a.2.1), .lst 1 (a.2.2.map of3)]
def ok49 (a : Int × Int × List (Int)) : Prop := ok3 a.1 ∧ ok3 a.2.1 ∧ ok23 a.2.2
theorem op49 : Opens enc Try.prog w 49 of49 ok49 := by
  have h2 := opensF_cons (enc := enc) (P := Try.prog) (w := w) (total := 3) (off := 2) (k := 1) (fd := { name := "Readings", type := 23, offset := 2, embedded := false, tag := "", pkgPath := "", byteOffset := 16 }) rfl (by kernel_rfl) op23 opensF_nil
  have h1 := opensF_cons (enc := enc) (P := Try.prog) (w := w) (total := 3) (off := 1) (k := 1) (fd := { name := "Kind", type := 3, offset := 1, embedded := false, tag := "", pkgPath := "", byteOffset := 8 }) rfl (by kernel_rfl) op3 h2
  have h0 := opensF_cons (enc := enc) (P := Try.prog) (w := w) (total := 3) (off := 0) (k := 1) (fd := { name := "Tick", type := 3, offset := 0, embedded := false, tag := "", pkgPath := "", byteOffset := 0 }) rfl (by kernel_rfl) op3 h1
  exact omap (opens_struct (total := 3) Try.underlying49 (by kernel_rfl) h0) (fun a => (a.1, a.2.1, a.2.2.1)) (fun a => rfl) (fun a h => ⟨h.1, h.2.1, h.2.2.1⟩)
def of26 (a : List (Int × Int × List (Int))) : List V := [.lst 3 (a.map of49)]
def ok26 (l : List (Int × Int × List (Int))) : Prop := l.length ≤ maxLen ∧ ∀ x ∈ l, ok49 x
theorem op26 : Opens enc Try.prog w 26 of26 ok26 := opens_slice (s := 3) Try.underlying26 (by kernel_rfl) (by decide) op49
def of4 (a : Bool) : List V := [.raw (.bool a)]
def ok4 (a : Bool) : Prop := True
theorem op4 : Opens enc Try.prog w 4 of4 ok4 := opens_bool Try.underlying4
def of106 (a : Int × Int × Bool) : List V := [.raw (.int .i64 a.1), .raw (.int .i64 a.2.1), .raw (.bool a.2.2)]
def ok106 (a : Int × Int × Bool) : Prop := ok3 a.1 ∧ ok3 a.2.1 ∧ ok4 a.2.2
theorem op106 : Opens enc Try.prog w 106 of106 ok106 := by
  have h2 := opensF_cons (enc := enc) (P := Try.prog) (w := w) (total := 3) (off := 2) (k := 1) (fd := { name := "Out", type := 4, offset := 2, embedded := false, tag := "", pkgPath := "", byteOffset := 16 }) rfl (by kernel_rfl) op4 opensF_nil
  have h1 := opensF_cons (enc := enc) (P := Try.prog) (w := w) (total := 3) (off := 1) (k := 1) (fd := { name := "Gate", type := 3, offset := 1, embedded := false, tag := "", pkgPath := "", byteOffset := 8 }) rfl (by kernel_rfl) op3 h2
  have h0 := opensF_cons (enc := enc) (P := Try.prog) (w := w) (total := 3) (off := 0) (k := 1) (fd := { name := "Tick", type := 3, offset := 0, embedded := false, tag := "", pkgPath := "", byteOffset := 0 }) rfl (by kernel_rfl) op3 h1
  exact omap (opens_struct (total := 3) Try.underlying106 (by kernel_rfl) h0) (fun a => (a.1, a.2.1, a.2.2.1)) (fun a => rfl) (fun a h => ⟨h.1, h.2.1, h.2.2.1⟩)
def of43 (a : List (Int × Int × Bool)) : List V := [.lst 3 (a.map of106)]
def ok43 (l : List (Int × Int × Bool)) : Prop := l.length ≤ maxLen ∧ ∀ x ∈ l, ok106 x
theorem op43 : Opens enc Try.prog w 43 of43 ok43 := opens_slice (s := 3) Try.underlying43 (by kernel_rfl) (by decide) op106
end
theorem said5 {x0 : Int × Int × Int × List (Int × Int) × List (Int)} {x1 : List (Int × Int × List (Int))} {x2 : List (Int × Int × Bool)} (ok0_ : ok25 x0) (ok1_ : ok26 x1) (ok2_ : ok43 x2) : K0 Try.prog 5 [.agg (of25 x0), .lst 3 (x1.map of49), .lst 3 (x2.map of106)] (fun v => v = bv true) :=
  runs5 (b := ⟨x0.1, x0.2.1, x0.2.2.1, x0.2.2.2.1, x0.2.2.2.2⟩) (l := x1) (u := x2) (fun x hx => wf_i64 (ok2_.2 x hx).1) rfl
theorem own : ownKnob Try.prog.godebug = none := by kernel_rfl
theorem laidOut : laidOutB Try.prog = true := by kernel_rfl
set_option maxRecDepth 100000 in
theorem contract (H : Type) (enc : TypeId × Value → H) (W : World) (base : Nat) (args : Array Value) (ds gs : List (DataW H)) (before : List MemPlace)
    (hval : ∀ (j : Nat) t v, Try.f5.params[j]? = some t → args[j]? = some v → Value.okWide Try.prog W .any base t v)
    (hW : DataW.Whole enc Try.prog Try.f5.params.toList Rows.sortRunsSpec.vars false W args.toList ds gs before) :
    Calls Try.prog 5 args W fun e W' => ∃ v, e = .returned v ∧ Rows.sortRunsSpec.post enc Try.prog Try.f5 false true false false W args v W' := by
  have hW' := hW
  obtain ⟨p, q, hA0, hV, rfl, hfz, hnd⟩ := hW
  have hA : DataW.TrodAll enc Try.prog W 0 (fun _ => true) true Try.f5.params.toList args.toList ds p := hA0
  rw [Try.params5] at hA hval
  obtain ⟨v0, v1, v2, d0, d1, d2, p0, p1, p2, rfl, rfl, rfl, h0, h1, h2⟩ := trodAll_three hA
  obtain ⟨rfl, rfl⟩ := trodVars_none hV
  clear hA0
  obtain ⟨x0, r0, ok0_⟩ := arg_struct Try.underlying25 (hval 0 25 v0 rfl rfl) h0 op25
  obtain ⟨x1, r1, ok1_⟩ := arg_slice Try.underlying26 (hval 1 26 v1 rfl rfl) h1 op26
  obtain ⟨x2, r2, ok2_⟩ := arg_slice Try.underlying43 (hval 2 43 v2 rfl rfl) h2 op43
  have hlaw := said5 ok0_ ok1_ ok2_
  have hrun := hlaw (FW W) W [v0, v1, v2] (fun r h => h) (fun g cs h => by cases h) (by simp only [riL]; exact ⟨v0, [v1, v2], rfl, r0, ⟨v1, [v2], rfl, r1, ⟨v2, [], rfl, r2, rfl⟩⟩⟩)
  refine hrun.mono fun e W' he => ?_
  obtain ⟨x, v, F', rfl, rfl, hx, hb, _⟩ := he
  have hx' : x = .bool true := by simpa [bv, ri] using hx
  subst hx'
  have hlt : ∀ y ∈ p0 ++ p1 ++ p2, y.block < W.heap.size := fun y hy => by
    have := hW'.lt y (by simpa using hy)
    exact this
  simp only [List.append_nil] at hW'
  exact ⟨_, rfl, _, _, _, [], _, [], hW', trodAll_mk1 (shut_bool Try.underlying4 _),
    trodAll_mk3 (Below.trod laidOut (by kernel_rfl) (of_decide_eq_true (by kernel_rfl)) h0 hb (fun y hy => hlt y (by simp [hy]))) (Below.trod laidOut (by kernel_rfl) (of_decide_eq_true (by kernel_rfl)) h1 hb (fun y hy => hlt y (by simp [hy]))) (Below.trod laidOut (by kernel_rfl) (of_decide_eq_true (by kernel_rfl)) h2 hb (fun y hy => hlt y (by simp [hy]))), rfl, hb.frame _, fun h => by cases h⟩
set_option maxRecDepth 100000 in
theorem lifted (os : Os) (started : os.Started) (H : Type) (enc : TypeId × Value → H) :
    ReturnsInHanded {} Try.checked os 5 .any (Rows.sortRunsSpec.pre6 enc Try.prog Try.f5 Rows.sortRunsRow.domain false) (Rows.sortRunsSpec.post enc Try.prog Try.f5 false true false false) := by
  refine returnsInHanded_of_change (C := Try.checked) own started (by kernel_rfl) Try.func5
    (ChangeSpec.witness6 (enc := enc) (C := Try.checked) false ⟨#[], #[.agg #[.int .i64 0, .int .i64 0, .int .i64 0, .slice none 0 0, .slice none 0 0], .slice none 0 0, .slice none 0 0], []⟩ 8 (by kernel_rfl) (by kernel_rfl) (by kernel_rfl) (by kernel_rfl)) ?_
  intro W base args ds gs before hval hW _ _
  exact contract H enc W base args ds gs before hval hW
theorem said : Rows.SortRunsSaid :=
  OpenClaim.holds_of_wide 5 Try.f5 rfl rfl rfl rfl rfl rfl rfl ⟨rfl, rfl, rfl, rfl, rfl⟩ rfl rfl rfl rfl rfl (by kernel_rfl) Try.func5 (by kernel_rfl)
    (of_decide_eq_true (by kernel_rfl)) (by unfold Func.isWrapper; first | (rw [if_pos (by decide +kernel)]; kernel_rfl) | (rw [if_neg (by decide +kernel)]; exact ⟨rfl, rfl⟩))
    (fun os started H enc _ => lifted os started H enc)
end Go.Proofs.Ytmdimnmdoifkfaa
