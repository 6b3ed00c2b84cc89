/- The table of angles. -/
import Derived.Test.YtnplldjabhnloabXAN1a
import Derived.Test.YtnplldjabhnloabXAN1b
import Derived.Test.YtnplldjabhnloabXAN2
import Derived.Test.YtnplldjabhnloabXAN3
import Derived.Test.YtnplldjabhnloabXAN4
import Derived.Test.YtnplldjabhnloabXAN5
namespace Go.Proofs.Ytnplldjabhnloab
open Go Go.Proofs.Ytnplldjabhnloab.Clean
set_option linter.unusedVariables false
set_option maxRecDepth 100000
theorem all5 {P : Nat → Prop} (h0 : P 0) (h1 : P 1) (h2 : P 2) (h3 : P 3) (h4 : P 4) : ∀ n, n < 5 → P n := by
  intro n hn
  match n, hn with
  | 0, _ => exact h0
  | 1, _ => exact h1
  | 2, _ => exact h2
  | 3, _ => exact h3
  | 4, _ => exact h4
  | n + 5, h => exact absurd h (by omega)
theorem La_chain {nb : Nat} {slots : List Tmp} {B : Post → St → Prop} {Q : Post} (s : Nat → St) (n : Nat) (h : ∀ i, i < n → ∀ J : St → Prop, J (s (i + 1)) = B (Qla nb slots J Q) (s i)) {X : Prop} (he : ∀ J : St → Prop, X = B (Qla nb slots J Q) (s n)) (hx : X) : La nb slots B Q (s 0) :=
  La.of (σ := Nat) s (fun i => i ≤ n) (fun i => n - i) 0 rfl (Nat.zero_le _) fun i hi J hJ => by
    by_cases hlt : i < n
    · rw [← h i hlt J]
      exact hJ (i + 1) hlt (by omega)
    · have : i = n := by omega
      subst this
      rw [← he J]
      exact hx
theorem K0_by {P : Program} (hm : P.follows .mixedOrders = true) {cfg : Cfg} (hcf : cfg.ok P) (fuel : Nat) {f : FuncId} {fn : Func} (hf : P.funcs[f]? = some fn) {args : List V} {R : V → Prop} {p : Prop} (h : p = WY0 P cfg fuel f fn args R) (hp : p) : K0G P cfg.glob f args R := K0_of_WY0 hm hcf fuel hf (h ▸ hp)
theorem hcA : cfA.ok Try.prog := cfgQ_ok knowsY_none
theorem eqA (R : V → Prop) : La 0 slA BA (QA R) (sA 0) = WY0 Try.prog cfA 330 21 Try.f21 [] R := eqA1 R
theorem angles {R : V → Prop} (hR : R tabV) : K0G Try.prog cfA.glob 21 [] R :=
  K0_by hmX hcA 330 Try.func21 (eqA R) (La_chain (B := BA) (Q := QA R) sA 5 (all5 (P := fun i => ∀ J : St → Prop, J (sA (i + 1)) = BA (Qla 0 slA J (QA R)) (sA i)) (rd0 R) (rd1 R) (rd2 R) (rd3 R) (rd4 R)) (rd5 R) hR)
end Go.Proofs.Ytnplldjabhnloab
