/- A function that is lent the caller's own blocks, proved by its body: what it calls is entered, or known by contracts. Nothing here speaks of the program. -/
import Derived.Test.YtmdimnmdoifkfaaXDCZ
import Derived.Test.YtmdimnmdoifkfaaXDCM
namespace Go.Proofs.Ytmdimnmdoifkfaa.Clean
set_option linter.unusedVariables false

/-- The body of a function that is lent blocks of its caller's, and what it returns, and what the memory is then. -/
noncomputable def WYK (P : Program) (cfg : Cfg) (fuel : Nat) (f : FuncId) (fn : Func) (args : List V) (h : Hp) (R : V → Hp → Prop) : Prop :=
  match fn.body with
  | some c => guardB (Nat.ble args.length fn.ntmps && Nat.ble args.length 1000) (WY P cfg fuel ⟨⟨0, []⟩, h.nxt, none, fn.ntmps, f, 0⟩ c (QendX P fn R) ⟨start args, h⟩)
  | none => False
theorem K_of_WYK {P : Program} (hm : P.follows .mixedOrders = true) {cfg : Cfg} (hcf : cfg.ok P) (fuel : Nat) {f : FuncId} {fn : Func} (hf : P.funcs[f]? = some fn) {args : List V} {h : Hp} {R : V → Hp → Prop} (hw : WYK P cfg fuel f fn args h R) : K P cfg.glob f args h (fun _ => true) R := by
  let cfg' : Cfg := { cfg with enter := fun _ => true, known := fun _ _ => none, clean := fun _ => false, spare := fun _ => [] }
  have hc : (callY P cfg' (WY P cfg fuel) ⟨0, []⟩ 0).c f args h R := by
    show cY P cfg' (WY P cfg fuel) ⟨0, []⟩ f args h R
    unfold WYK at hw
    split at hw
    · rename_i c hb
      simp only [cY, cfg', cond_true, cond_false, onSome_iff]
      exact ⟨fn, hf, c, hb, hw⟩
    · exact hw.elim
  have := (callY_ok (cfg := cfg') ⟨hcf.c0, knowsY_none⟩ (WY_sound hm hcf fuel) ⟨0, []⟩ 0).c f args h R hc
  intro ν F w xs g1 g2 g3
  refine (this ν F w xs g1 g2 g3).mono fun e w' ⟨x, v, ν', F', h', z1, z2, z3, z4, z5, z6⟩ => ?_
  exact ⟨x, v, ν', F', h', z1, z2, z3, z4, z5, fun b y hb ht => by cases ht⟩
/-- Memory that a function only reads stays as it was. -/
def sameP (_ : FuncId) (h : Hp) (_ : Us) : Hp := h
/-- As cfgQ; functions of mode 3 are lent blocks of the caller's, and leave them as they are; T: the types of their results. -/
noncomputable def cfgM (P : Program) (glob : Nat → Option (List V)) (mode : FuncId → Nat) (T : FuncId → Option TypeId) (enter : FuncId → Bool) (kps : FuncId → Nat → Option (List Tmp)) : Cfg where
  C0 := callsF P glob (fun _ => none) mode (fun _ => false) 0 sameP fun f _ v k => typedR P (T f) v k
  enter := enter
  clean := fun _ => true
  kps := kps
theorem cfgM_ok {P : Program} {glob : Nat → Option (List V)} {mode : FuncId → Nat} {T : FuncId → Option TypeId} {enter : FuncId → Bool} {kps : FuncId → Nat → Option (List Tmp)} : (cfgM P glob mode T enter kps).ok P :=
  ⟨callsF_ok (fun _ _ h => by cases h) (fun f us v k h => typedR_rep h), knowsY_none⟩
theorem KM_of_WYK {P : Program} (hm : P.follows .mixedOrders = true) {cfg : Cfg} (hcf : cfg.ok P) (fuel : Nat) {f : FuncId} {fn : Func} (hf : P.funcs[f]? = some fn) {args : List V} {h : Hp} {Q : V → Us → Prop} (hw : ∀ R : V → Hp → Prop, (∀ v, Q v [] → R v h) → WYK P cfg fuel f fn args h R) : KM P cfg.glob f args h (sameP f) Q := by
  unfold KM
  refine K_of_WYK hm hcf fuel hf (hw _ fun v hv => ⟨[], rfl, hv⟩)
/-- A function that writes to what it is lent. -/
theorem KM_of_WYKp {P : Program} (hm : P.follows .mixedOrders = true) {cfg : Cfg} (hcf : cfg.ok P) (fuel : Nat) {f : FuncId} {fn : Func} (hf : P.funcs[f]? = some fn) {args : List V} {h : Hp} {post : Hp → Us → Hp} {Q : V → Us → Prop} (hw : ∀ R : V → Hp → Prop, (∀ v us, Q v us → R v (post h us)) → WYK P cfg fuel f fn args h R) : KM P cfg.glob f args h post Q := by
  unfold KM
  refine K_of_WYK hm hcf fuel hf (hw _ fun v us hv => ⟨us, rfl, hv⟩)
/-- The tree is behind an equation: nobody but the kernel looks at it. -/
theorem K0_by {P : Program} (hm : P.follows .mixedOrders = true) {cfg : Cfg} (hcf : cfg.ok P) (fuel : Nat) {f : FuncId} {fn : Func} (hf : P.funcs[f]? = some fn) {args : List V} {R : V → Prop} {p : Prop} (h : p = WY0 P cfg fuel f fn args R) (hp : p) : K0G P cfg.glob f args R := K0_of_WY0 hm hcf fuel hf (h ▸ hp)
/-- The assignment and the body of a loop over a function. -/
def rfA : Code → Code | .rangeFunc _ _ a _ => a | c => c
def rfB : Code → Code | .rangeFunc _ _ _ b => b | c => c
end Go.Proofs.Ytmdimnmdoifkfaa.Clean
