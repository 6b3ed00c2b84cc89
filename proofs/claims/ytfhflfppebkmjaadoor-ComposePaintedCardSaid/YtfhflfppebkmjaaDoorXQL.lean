/- Proved here: the law ComposePainted returns true for every argument, and leaves its arguments as they were. Conditions: the listed package-level variables hold their literals when the call begins (the card ties this to the program's text). -/
import Derived.Test.YtfhflfppebkmjaaDoorXQC
import Derived.Test.YtfhflfppebkmjaaDoorXCP
import Derived.Test.YtfhflfppebkmjaaDoorCards
import Derived.Test.YtfhflfppebkmjaaDoorTie
import Derived.ProofKit
import Derived.LaidHandle
import Derived.Deep.DeepHandedRow
import Derived.Carry
namespace Go.Proofs.YtfhflfppebkmjaaDoor
open Go Go.Proofs.YtfhflfppebkmjaaDoor.Clean Go.ChangeShapes Go.WideShapes Go.ChangeAt Go.RowKit
set_option linter.unusedVariables false
set_option maxRecDepth 100000

section
variable {H : Type} {enc : TypeId × Value → H} {w : World}
theorem omap {P : Program} {t : TypeId} {α β : Type} {f : α → List V} {g : β → List V} {ok : α → Prop} {ok' : β → Prop} (h : Opens enc P w t f ok) (m : α → β) (hf : ∀ a, f a = g (m a)) (ho : ∀ a, ok a → ok' (m a)) : Opens enc P w t g ok' := by
  intro fuel cs x hx
  obtain ⟨a, h1, h2, h3⟩ := h fuel cs x hx
  exact ⟨m a, hf a ▸ h1, ho a h2, h3⟩
def of5 (a : Int) : List V := [.raw (.int .u8 a)]
def ok5 (a : Int) : Prop := (Lit.int .u8 a).wf = true
theorem op5 : Opens enc Tryd.prog w 5 of5 ok5 := opens_int Tryd.underlying5
def of43 (a : Int × Int × Int) : List V := [.raw (.int .u8 a.1), .raw (.int .u8 a.2.1), .raw (.int .u8 a.2.2)]
def ok43 (a : Int × Int × Int) : Prop := ok5 a.1 ∧ ok5 a.2.1 ∧ ok5 a.2.2
theorem op43 : Opens enc Tryd.prog w 43 of43 ok43 := by
  have h2 := opensF_cons (enc := enc) (P := Tryd.prog) (w := w) (total := 3) (off := 2) (k := 1) (fd := { name := "B", type := 5, offset := 2, embedded := false, tag := "", pkgPath := "", byteOffset := 2 }) rfl (by kernel_rfl) op5 opensF_nil
  have h1 := opensF_cons (enc := enc) (P := Tryd.prog) (w := w) (total := 3) (off := 1) (k := 1) (fd := { name := "G", type := 5, offset := 1, embedded := false, tag := "", pkgPath := "", byteOffset := 1 }) rfl (by kernel_rfl) op5 h2
  have h0 := opensF_cons (enc := enc) (P := Tryd.prog) (w := w) (total := 3) (off := 0) (k := 1) (fd := { name := "R", type := 5, offset := 0, embedded := false, tag := "", pkgPath := "", byteOffset := 0 }) rfl (by kernel_rfl) op5 h1
  exact omap (opens_struct (total := 3) Tryd.underlying43 (by kernel_rfl) h0) (fun a => (a.1, a.2.1, a.2.2.1)) (fun a => rfl) (fun a h => ⟨h.1, h.2.1, h.2.2.1⟩)
def of44 (a : List (Int × Int × Int)) : List V := [.lst 3 (a.map of43)]
def ok44 (l : List (Int × Int × Int)) : Prop := l.length ≤ maxLen ∧ ∀ x ∈ l, ok43 x
theorem op44 : Opens enc Tryd.prog w 44 of44 ok44 := opens_slice (s := 3) Tryd.underlying44 (by kernel_rfl) (by decide) op43
def of3 (a : Int) : List V := [.raw (.int .i64 a)]
def ok3 (a : Int) : Prop := (Lit.int .i64 a).wf = true
theorem op3 : Opens enc Tryd.prog w 3 of3 ok3 := opens_int Tryd.underlying3
end

theorem said12 {x0 : List (Int × Int × Int)} {x1 : List (Int × Int × Int)} {x2 : Int} (ok0_ : ok44 x0) (ok1_ : ok44 x1) (ok2_ : ok3 x2) : K0G Tryd.prog glX 12 [.lst 3 (x0.map of43), .lst 3 (x1.map of43), .raw (.int .i64 x2)] (fun v => v = bv true) :=
  law12 (q := x0) (p := x1) (w := x2) (R := fun v => v = bv true) rfl

theorem own : ownKnob Tryd.prog.godebug = none := by kernel_rfl
theorem laidOut : laidOutB Tryd.prog = true := by kernel_rfl

set_option maxRecDepth 100000 in
theorem contract (H : Type) (enc : TypeId × Value → H) (W : World) (base : Nat) (args : Array Value) (ds gs : List (DataW H)) (before : List MemPlace)
    (hval : ∀ (j : Nat) t v, Tryd.f12.params[j]? = some t → args[j]? = some v → Value.okWide Tryd.prog W .any base t v)
    (hW : DataW.Whole enc Tryd.prog Tryd.f12.params.toList Rows.composePaintedSpec.vars false W args.toList ds gs before) (hL : laidMetH Tryd.prog Rows.composePaintedRow.laid W) :
    Calls Tryd.prog 12 args W fun e W' => ∃ v, e = .returned v ∧ Rows.composePaintedSpec.post enc Tryd.prog Tryd.f12 false true false false W args v W' := by
  have hW' := hW
  obtain ⟨p, q, hA0, hV, rfl, hfz, hnd⟩ := hW
  have hA : DataW.TrodAll enc Tryd.prog W 0 (fun _ => true) true Tryd.f12.params.toList args.toList ds p := hA0
  rw [Tryd.params12] at hA hval
  obtain ⟨v0, v1, v2, d0, d1, d2, p0, p1, p2, rfl, rfl, rfl, h0, h1, h2⟩ := trodAll_three hA
  obtain ⟨rfl, rfl⟩ := trodVars_none hV
  clear hA0
  obtain ⟨x0, r0, ok0_⟩ := arg_slice Tryd.underlying44 (hval 0 44 v0 rfl rfl) h0 op44
  obtain ⟨x1, r1, ok1_⟩ := arg_slice Tryd.underlying44 (hval 1 44 v1 rfl rfl) h1 op44
  obtain ⟨x2, r2, ok2_⟩ := arg_int Tryd.underlying3 (hval 2 3 v2 rfl rfl) h2
  have hlaw := said12 ok0_ ok1_ ok2_
  have hrun := hlaw (FW W) W [v0, v1, v2] (fun r h => h) (fun g cs h => by
    unfold glX at h
    split at h
    · cases h; exact laid_adr (by kernel_rfl) hL (n := "math/bits.deBruijn32tab") (d := Rows.laid_math_bits_deBruijn32tab) (by simp [Rows.composePaintedRow]) ⟨by kernel_rfl, by kernel_rfl⟩ (by simp [tabC])
    · cases h) (by simp only [riL]; exact ⟨v0, [v1, v2], rfl, r0, ⟨v1, [v2], rfl, r1, ⟨v2, [], rfl, r2, rfl⟩⟩⟩)
  refine hrun.mono fun e W' he => ?_
  obtain ⟨x, v, F', rfl, rfl, hx, hb, _⟩ := he
  have hx' : x = .bool true := by simpa [bv, ri] using hx
  subst hx'
  have hlt : ∀ y ∈ p0 ++ p1 ++ p2, y.block < W.heap.size := fun y hy => by
    have := hW'.lt y (by simpa using hy)
    exact this
  simp only [List.append_nil] at hW'
  exact ⟨_, rfl, _, _, _, [], _, [], hW', trodAll_mk1 (shut_bool Tryd.underlying4 _),
    trodAll_mk3 (Below.trod laidOut (by kernel_rfl) (of_decide_eq_true (by kernel_rfl)) h0 hb (fun y hy => hlt y (by simp [hy]))) (Below.trod laidOut (by kernel_rfl) (of_decide_eq_true (by kernel_rfl)) h1 hb (fun y hy => hlt y (by simp [hy]))) (Below.trod laidOut (by kernel_rfl) (of_decide_eq_true (by kernel_rfl)) h2 hb (fun y hy => hlt y (by simp [hy]))), rfl, hb.frame _, fun h => by cases h⟩

/-- A world for the witnesses: the settled one, the variables holding what their initialisers lay. -/
noncomputable def laidWorld (os : Os) : World :=
  { World.holding Tryd.prog os ⟨#[], #[], []⟩ with heap := (World.holding Tryd.prog os ⟨#[], #[], []⟩).heap.modify 0 (fun
      | .cells _ t frozen => .cells #[.int .u8 0, .int .u8 1, .int .u8 28, .int .u8 2, .int .u8 29, .int .u8 14, .int .u8 24, .int .u8 3, .int .u8 30, .int .u8 22, .int .u8 20, .int .u8 15, .int .u8 25, .int .u8 17, .int .u8 4, .int .u8 8, .int .u8 31, .int .u8 27, .int .u8 13, .int .u8 23, .int .u8 21, .int .u8 19, .int .u8 16, .int .u8 7, .int .u8 26, .int .u8 12, .int .u8 18, .int .u8 6, .int .u8 11, .int .u8 5, .int .u8 10, .int .u8 9] t frozen
      | o => o) }
theorem laid_met (os : Os) : laidMet Tryd.prog Rows.composePaintedRow.laid ((laidWorld os).forCall (fun _ _ => 0) ⟨#[], #[.slice none 0 0, .slice none 0 0, .int .i64 0], []⟩).memory :=
  laidMet_of_run' 8 (by kernel_rfl) (by kernel_rfl)
theorem reads (os : Os) {H : Type} (enc : TypeId × Value → H) : ∃ dd places, DataW.whole enc Tryd.prog ((laidWorld os).forCall (fun _ _ => 0) ⟨#[], #[.slice none 0 0, .slice none 0 0, .int .i64 0], []⟩).memory Tryd.f12.params.toList Rows.composePaintedSpec.vars false (#[.slice none 0 0, .slice none 0 0, .int .i64 0] : Array Value).toList 8 = some (dd, [], places) :=
  ⟨[.nil, .nil, .lit (.int .i64 0)], [], by kernel_rfl⟩

set_option maxRecDepth 100000 in
theorem lifted (os : Os) (started : os.Started) (H : Type) (enc : TypeId × Value → H) (F : Stop.Interp) :
    ReturnsInHanded {} Tryd.checked os 12 .any ((OpenSpec.ofChange Rows.composePaintedSpec).preRow enc Tryd.prog Tryd.f12 Rows.composePaintedRow.domain false Rows.composePaintedRow.laid) (((OpenSpec.ofChange Rows.composePaintedSpec).at F).post enc Tryd.prog Tryd.f12 false true false false) := by
  obtain ⟨dd, places, hx⟩ := reads os enc
  refine returnsInHanded_of_row (C := Tryd.checked) (s := OpenSpec.ofChange Rows.composePaintedSpec) own started (by kernel_rfl) Tryd.func12
    (witness_row_at (enc := enc) (C := Tryd.checked) false (laidWorld os) #[.slice none 0 0, .slice none 0 0, .int .i64 0] rfl (by kernel_rfl) (by kernel_rfl) (by kernel_rfl)
      (OpenSpec.preRow_of_cond 8 hx (by kernel_rfl) (fun k hk => by cases hk) (by kernel_rfl) (laid_met os))) ?_
  intro W base args ds gs before hval hW _ _ _ hL _ _
  exact contract H enc W base args ds gs before hval hW hL

theorem bare : Rows.ComposePaintedSaid :=
  OpenClaim.holds_of_cond 12 Tryd.f12 rfl rfl rfl rfl rfl rfl rfl ⟨rfl, rfl, rfl, rfl, rfl⟩ rfl rfl rfl rfl rfl (by kernel_rfl) Tryd.func12 (by kernel_rfl)
    (of_decide_eq_true (by kernel_rfl)) (by unfold Func.isWrapper; first | (rw [if_pos (by decide +kernel)]; kernel_rfl) | (rw [if_neg (by decide +kernel)]; exact ⟨rfl, rfl⟩))
    (fun os started H enc _ F => by rw [OpenClaim.pre_eq_preRow]; exact lifted os started H enc F)

/-- No parameter wants a stand-in; the program's own looks are off. -/
theorem plain (f : FuncId) (fn : Func) (hf : Tryd.pinned.checked.prog.funcNamed Rows.composePaintedRow.func = some f) (hfn : Tryd.pinned.checked.prog.funcs[f]? = some fn) :
    false = Tryd.pinned.checked.prog.looks [] ∧ ∀ (j : Nat) t, fn.params[j]? = some t → Tryd.pinned.checked.prog.wantsStandIn t = false := by
  obtain rfl : f = 12 := Option.some.inj ((show Tryd.prog.funcNamed Rows.composePaintedRow.func = some 12 by kernel_rfl).symm.trans hf) |>.symm
  obtain rfl : fn = Tryd.f12 := (Option.some.inj (Tryd.func12.symm.trans hfn)).symm
  refine ⟨by kernel_rfl, fun j t ht => ?_⟩
  rw [Tryd.params12] at ht
  have hm : t ∈ [44, 3] := by
    have := Array.mem_of_getElem? ht
    simp at this ⊢
    exact this
  have hall : ([44, 3].all fun u => !Tryd.prog.wantsStandIn u) = true := by kernel_rfl
  exact (show Tryd.prog.wantsStandIn t = false by simpa using List.all_eq_true.1 hall t hm)

/-- The card: the aim. -/
theorem said : Rows.ComposePaintedCardSaid :=
  Claim7.holds_tied_plain_at .later [] _ _ _ _ bare (fun _ h => by cases h) (by kernel_rfl) (fun _ h => by cases h) composePainted_row_tie rfl ⟨rfl, rfl⟩ (by kernel_rfl) rfl plain (by kernel_rfl)
end Go.Proofs.YtfhflfppebkmjaaDoor
