/- A function proved by its body: what it calls is entered, or known by contracts; loops by families of states. Nothing here speaks of the program. -/
import Derived.Test.YtmdimnmdoifkfaaXDCY
namespace Go.Proofs.Ytmdimnmdoifkfaa.Clean

/-- The body of a function that is called with nothing of the state's own, and what it returns. -/
noncomputable def WY0 (P : Program) (cfg : Cfg) (fuel : Nat) (f : FuncId) (fn : Func) (args : List V) (R : V → Prop) : Prop :=
  match fn.body with
  | some c => guardB (Nat.ble args.length fn.ntmps && Nat.ble args.length 1000) (WY P cfg fuel ⟨⟨0, []⟩, 0, none, fn.ntmps, f, 0⟩ c (QendX P fn fun v h => R (frzW h v)) ⟨start args, ⟨[], 0, []⟩⟩)
  | none => False
theorem K0_of_WY0 {P : Program} (hm : P.follows .mixedOrders = true) {cfg : Cfg} (hcf : cfg.ok P) (fuel : Nat) {f : FuncId} {fn : Func} (hf : P.funcs[f]? = some fn) {args : List V} {R : V → Prop} (h : WY0 P cfg fuel f fn args R) : K0G P cfg.glob f args R := by
  unfold WY0 at h
  split at h
  · rename_i c hc
    rw [guardB_iff] at h
    exact K0_of_WY hm hcf fuel hf hc h.1 h.2
  · exact h.elim
/-- A loop: a family of states, an invariant, a measure. -/
theorem La.of {nb : Nat} {slots : List Tmp} {B : Post → St → Prop} {Q : Post} {st : St} {σ : Type} (sh : σ → St) (I : σ → Prop) (μ : σ → Nat) (s0 : σ) (h0 : st = sh s0) (hI : I s0)
    (round : ∀ s, I s → ∀ J : St → Prop, (∀ s', I s' → μ s' < μ s → J (sh s')) → B (Qla nb slots J Q) (sh s)) : La nb slots B Q st := by
  refine ⟨fun J hJ => ?_⟩
  subst h0
  have key : ∀ n s, μ s < n → I s → J (sh s) := by
    intro n
    induction n with
    | zero => intro s h; omega
    | succ n ih =>
      intro s hs hI
      exact hJ _ (round s hI J fun s' hI' hlt => ih s' (by omega) hI')
  exact key _ s0 (Nat.lt_succ_self _) hI
/-- Functions of 'enter' are entered, the others are known by contracts; loops with slots are not unrolled. -/
noncomputable def cfgQ (P : Program) (glob : Nat → Option (List V)) (enter : FuncId → Bool) (kps : FuncId → Nat → Option (List Tmp)) (known : FuncId → List V → Option V) (clean : FuncId → Bool) : Cfg where
  C0 := callsM P glob (fun _ => none) (fun _ => 0) (fun _ => false) 0
  enter := enter
  clean := clean
  known := known
  kps := kps
theorem cfgQ_ok {P : Program} {glob : Nat → Option (List V)} {enter : FuncId → Bool} {kps : FuncId → Nat → Option (List Tmp)} {known : FuncId → List V → Option V} {clean : FuncId → Bool} (hkn : KnowsY P glob known) : (cfgQ P glob enter kps known clean).ok P := ⟨callsM_ok (fun _ _ h => (by cases h)), hkn⟩
/-- A list of numbers: is this one among them? -/
def inN : List Nat → Nat → Bool
  | [], _ => false
  | a :: r, x => Nat.beq a x || inN r x
def slotsOf : List (Nat × Nat × List Tmp) → FuncId → Nat → Option (List Tmp)
  | [], _, _ => none
  | (f, c, l) :: r, g, d => bif Nat.beq f g && Nat.beq c d then some l else slotsOf r g d
end Go.Proofs.Ytmdimnmdoifkfaa.Clean
