/- Turns are a group, and keep distances. -/
import Derived.Test.YtdecfbnmioagjaaGreatDoorXGC1
namespace Go.Proofs.YtdecfbnmioagjaaGreatDoor
open Go Go.Proofs.YtdecfbnmioagjaaGreatDoor.Clean
set_option linter.unusedVariables false
set_option linter.unusedSimpArgs false
set_option maxRecDepth 100000
theorem turnC (n : Nat) (hn : n < 24) (c : C3) (hc : nearC 2000 c) {R : V → Prop} (hR : R (V.tup [V.agg [iv (rot n c).1, iv (rot n c).2.1, iv (rot n c).2.2], iv 0])) : K0G Tryz.prog glX 26 [V.agg [iv c.1, iv c.2.1, iv c.2.2], iv (n : Int)] R :=
  all24 (P := fun n => R (V.tup [V.agg [iv (rot n c).1, iv (rot n c).2.1, iv (rot n c).2.2], iv 0]) → K0G Tryz.prog glX 26 [V.agg [iv c.1, iv c.2.1, iv c.2.2], iv (n : Int)] R) (fun h => turn_0 hc h) (fun h => turn_1 hc h) (fun h => turn_2 hc h) (fun h => turn_3 hc h) (fun h => turn_4 hc h) (fun h => turn_5 hc h) (fun h => turn_6 hc h) (fun h => turn_7 hc h) (fun h => turn_8 hc h) (fun h => turn_9 hc h) (fun h => turn_10 hc h) (fun h => turn_11 hc h) (fun h => turn_12 hc h) (fun h => turn_13 hc h) (fun h => turn_14 hc h) (fun h => turn_15 hc h) (fun h => turn_16 hc h) (fun h => turn_17 hc h) (fun h => turn_18 hc h) (fun h => turn_19 hc h) (fun h => turn_20 hc h) (fun h => turn_21 hc h) (fun h => turn_22 hc h) (fun h => turn_23 hc h) n hn hR
theorem rot_near {b : Int} : ∀ n, n < 24 → ∀ c, nearC b c → nearC b (rot n c) :=
  all24 (fun c h => by simp only [nearC, rot] at h ⊢; omega) (fun c h => by simp only [nearC, rot] at h ⊢; omega) (fun c h => by simp only [nearC, rot] at h ⊢; omega) (fun c h => by simp only [nearC, rot] at h ⊢; omega) (fun c h => by simp only [nearC, rot] at h ⊢; omega) (fun c h => by simp only [nearC, rot] at h ⊢; omega) (fun c h => by simp only [nearC, rot] at h ⊢; omega) (fun c h => by simp only [nearC, rot] at h ⊢; omega) (fun c h => by simp only [nearC, rot] at h ⊢; omega) (fun c h => by simp only [nearC, rot] at h ⊢; omega) (fun c h => by simp only [nearC, rot] at h ⊢; omega) (fun c h => by simp only [nearC, rot] at h ⊢; omega) (fun c h => by simp only [nearC, rot] at h ⊢; omega) (fun c h => by simp only [nearC, rot] at h ⊢; omega) (fun c h => by simp only [nearC, rot] at h ⊢; omega) (fun c h => by simp only [nearC, rot] at h ⊢; omega) (fun c h => by simp only [nearC, rot] at h ⊢; omega) (fun c h => by simp only [nearC, rot] at h ⊢; omega) (fun c h => by simp only [nearC, rot] at h ⊢; omega) (fun c h => by simp only [nearC, rot] at h ⊢; omega) (fun c h => by simp only [nearC, rot] at h ⊢; omega) (fun c h => by simp only [nearC, rot] at h ⊢; omega) (fun c h => by simp only [nearC, rot] at h ⊢; omega) (fun c h => by simp only [nearC, rot] at h ⊢; omega)
theorem rc0 : ∀ b, b < 24 → ∀ c, rot b (rot 0 c) = rot (comp 0 b) c := by
  refine all24 ?_ ?_ ?_ ?_ ?_ ?_ ?_ ?_ ?_ ?_ ?_ ?_ ?_ ?_ ?_ ?_ ?_ ?_ ?_ ?_ ?_ ?_ ?_ ?_ <;> intro c <;> simp [rot, comp, compL]
theorem rc1 : ∀ b, b < 24 → ∀ c, rot b (rot 1 c) = rot (comp 1 b) c := by
  refine all24 ?_ ?_ ?_ ?_ ?_ ?_ ?_ ?_ ?_ ?_ ?_ ?_ ?_ ?_ ?_ ?_ ?_ ?_ ?_ ?_ ?_ ?_ ?_ ?_ <;> intro c <;> simp [rot, comp, compL]
theorem rc2 : ∀ b, b < 24 → ∀ c, rot b (rot 2 c) = rot (comp 2 b) c := by
  refine all24 ?_ ?_ ?_ ?_ ?_ ?_ ?_ ?_ ?_ ?_ ?_ ?_ ?_ ?_ ?_ ?_ ?_ ?_ ?_ ?_ ?_ ?_ ?_ ?_ <;> intro c <;> simp [rot, comp, compL]
theorem rc3 : ∀ b, b < 24 → ∀ c, rot b (rot 3 c) = rot (comp 3 b) c := by
  refine all24 ?_ ?_ ?_ ?_ ?_ ?_ ?_ ?_ ?_ ?_ ?_ ?_ ?_ ?_ ?_ ?_ ?_ ?_ ?_ ?_ ?_ ?_ ?_ ?_ <;> intro c <;> simp [rot, comp, compL]
theorem rc4 : ∀ b, b < 24 → ∀ c, rot b (rot 4 c) = rot (comp 4 b) c := by
  refine all24 ?_ ?_ ?_ ?_ ?_ ?_ ?_ ?_ ?_ ?_ ?_ ?_ ?_ ?_ ?_ ?_ ?_ ?_ ?_ ?_ ?_ ?_ ?_ ?_ <;> intro c <;> simp [rot, comp, compL]
theorem rc5 : ∀ b, b < 24 → ∀ c, rot b (rot 5 c) = rot (comp 5 b) c := by
  refine all24 ?_ ?_ ?_ ?_ ?_ ?_ ?_ ?_ ?_ ?_ ?_ ?_ ?_ ?_ ?_ ?_ ?_ ?_ ?_ ?_ ?_ ?_ ?_ ?_ <;> intro c <;> simp [rot, comp, compL]
theorem rc6 : ∀ b, b < 24 → ∀ c, rot b (rot 6 c) = rot (comp 6 b) c := by
  refine all24 ?_ ?_ ?_ ?_ ?_ ?_ ?_ ?_ ?_ ?_ ?_ ?_ ?_ ?_ ?_ ?_ ?_ ?_ ?_ ?_ ?_ ?_ ?_ ?_ <;> intro c <;> simp [rot, comp, compL]
theorem rc7 : ∀ b, b < 24 → ∀ c, rot b (rot 7 c) = rot (comp 7 b) c := by
  refine all24 ?_ ?_ ?_ ?_ ?_ ?_ ?_ ?_ ?_ ?_ ?_ ?_ ?_ ?_ ?_ ?_ ?_ ?_ ?_ ?_ ?_ ?_ ?_ ?_ <;> intro c <;> simp [rot, comp, compL]
theorem rc8 : ∀ b, b < 24 → ∀ c, rot b (rot 8 c) = rot (comp 8 b) c := by
  refine all24 ?_ ?_ ?_ ?_ ?_ ?_ ?_ ?_ ?_ ?_ ?_ ?_ ?_ ?_ ?_ ?_ ?_ ?_ ?_ ?_ ?_ ?_ ?_ ?_ <;> intro c <;> simp [rot, comp, compL]
theorem rc9 : ∀ b, b < 24 → ∀ c, rot b (rot 9 c) = rot (comp 9 b) c := by
  refine all24 ?_ ?_ ?_ ?_ ?_ ?_ ?_ ?_ ?_ ?_ ?_ ?_ ?_ ?_ ?_ ?_ ?_ ?_ ?_ ?_ ?_ ?_ ?_ ?_ <;> intro c <;> simp [rot, comp, compL]
theorem rc10 : ∀ b, b < 24 → ∀ c, rot b (rot 10 c) = rot (comp 10 b) c := by
  refine all24 ?_ ?_ ?_ ?_ ?_ ?_ ?_ ?_ ?_ ?_ ?_ ?_ ?_ ?_ ?_ ?_ ?_ ?_ ?_ ?_ ?_ ?_ ?_ ?_ <;> intro c <;> simp [rot, comp, compL]
theorem rc11 : ∀ b, b < 24 → ∀ c, rot b (rot 11 c) = rot (comp 11 b) c := by
  refine all24 ?_ ?_ ?_ ?_ ?_ ?_ ?_ ?_ ?_ ?_ ?_ ?_ ?_ ?_ ?_ ?_ ?_ ?_ ?_ ?_ ?_ ?_ ?_ ?_ <;> intro c <;> simp [rot, comp, compL]
theorem rc12 : ∀ b, b < 24 → ∀ c, rot b (rot 12 c) = rot (comp 12 b) c := by
  refine all24 ?_ ?_ ?_ ?_ ?_ ?_ ?_ ?_ ?_ ?_ ?_ ?_ ?_ ?_ ?_ ?_ ?_ ?_ ?_ ?_ ?_ ?_ ?_ ?_ <;> intro c <;> simp [rot, comp, compL]
theorem rc13 : ∀ b, b < 24 → ∀ c, rot b (rot 13 c) = rot (comp 13 b) c := by
  refine all24 ?_ ?_ ?_ ?_ ?_ ?_ ?_ ?_ ?_ ?_ ?_ ?_ ?_ ?_ ?_ ?_ ?_ ?_ ?_ ?_ ?_ ?_ ?_ ?_ <;> intro c <;> simp [rot, comp, compL]
theorem rc14 : ∀ b, b < 24 → ∀ c, rot b (rot 14 c) = rot (comp 14 b) c := by
  refine all24 ?_ ?_ ?_ ?_ ?_ ?_ ?_ ?_ ?_ ?_ ?_ ?_ ?_ ?_ ?_ ?_ ?_ ?_ ?_ ?_ ?_ ?_ ?_ ?_ <;> intro c <;> simp [rot, comp, compL]
theorem rc15 : ∀ b, b < 24 → ∀ c, rot b (rot 15 c) = rot (comp 15 b) c := by
  refine all24 ?_ ?_ ?_ ?_ ?_ ?_ ?_ ?_ ?_ ?_ ?_ ?_ ?_ ?_ ?_ ?_ ?_ ?_ ?_ ?_ ?_ ?_ ?_ ?_ <;> intro c <;> simp [rot, comp, compL]
theorem rc16 : ∀ b, b < 24 → ∀ c, rot b (rot 16 c) = rot (comp 16 b) c := by
  refine all24 ?_ ?_ ?_ ?_ ?_ ?_ ?_ ?_ ?_ ?_ ?_ ?_ ?_ ?_ ?_ ?_ ?_ ?_ ?_ ?_ ?_ ?_ ?_ ?_ <;> intro c <;> simp [rot, comp, compL]
theorem rc17 : ∀ b, b < 24 → ∀ c, rot b (rot 17 c) = rot (comp 17 b) c := by
  refine all24 ?_ ?_ ?_ ?_ ?_ ?_ ?_ ?_ ?_ ?_ ?_ ?_ ?_ ?_ ?_ ?_ ?_ ?_ ?_ ?_ ?_ ?_ ?_ ?_ <;> intro c <;> simp [rot, comp, compL]
theorem rc18 : ∀ b, b < 24 → ∀ c, rot b (rot 18 c) = rot (comp 18 b) c := by
  refine all24 ?_ ?_ ?_ ?_ ?_ ?_ ?_ ?_ ?_ ?_ ?_ ?_ ?_ ?_ ?_ ?_ ?_ ?_ ?_ ?_ ?_ ?_ ?_ ?_ <;> intro c <;> simp [rot, comp, compL]
theorem rc19 : ∀ b, b < 24 → ∀ c, rot b (rot 19 c) = rot (comp 19 b) c := by
  refine all24 ?_ ?_ ?_ ?_ ?_ ?_ ?_ ?_ ?_ ?_ ?_ ?_ ?_ ?_ ?_ ?_ ?_ ?_ ?_ ?_ ?_ ?_ ?_ ?_ <;> intro c <;> simp [rot, comp, compL]
theorem rc20 : ∀ b, b < 24 → ∀ c, rot b (rot 20 c) = rot (comp 20 b) c := by
  refine all24 ?_ ?_ ?_ ?_ ?_ ?_ ?_ ?_ ?_ ?_ ?_ ?_ ?_ ?_ ?_ ?_ ?_ ?_ ?_ ?_ ?_ ?_ ?_ ?_ <;> intro c <;> simp [rot, comp, compL]
theorem rc21 : ∀ b, b < 24 → ∀ c, rot b (rot 21 c) = rot (comp 21 b) c := by
  refine all24 ?_ ?_ ?_ ?_ ?_ ?_ ?_ ?_ ?_ ?_ ?_ ?_ ?_ ?_ ?_ ?_ ?_ ?_ ?_ ?_ ?_ ?_ ?_ ?_ <;> intro c <;> simp [rot, comp, compL]
theorem rc22 : ∀ b, b < 24 → ∀ c, rot b (rot 22 c) = rot (comp 22 b) c := by
  refine all24 ?_ ?_ ?_ ?_ ?_ ?_ ?_ ?_ ?_ ?_ ?_ ?_ ?_ ?_ ?_ ?_ ?_ ?_ ?_ ?_ ?_ ?_ ?_ ?_ <;> intro c <;> simp [rot, comp, compL]
theorem rc23 : ∀ b, b < 24 → ∀ c, rot b (rot 23 c) = rot (comp 23 b) c := by
  refine all24 ?_ ?_ ?_ ?_ ?_ ?_ ?_ ?_ ?_ ?_ ?_ ?_ ?_ ?_ ?_ ?_ ?_ ?_ ?_ ?_ ?_ ?_ ?_ ?_ <;> intro c <;> simp [rot, comp, compL]
theorem rot_comp : ∀ a, a < 24 → ∀ b, b < 24 → ∀ c, rot b (rot a c) = rot (comp a b) c := all24 (P := fun a => ∀ b, b < 24 → ∀ c, rot b (rot a c) = rot (comp a b) c) rc0 rc1 rc2 rc3 rc4 rc5 rc6 rc7 rc8 rc9 rc10 rc11 rc12 rc13 rc14 rc15 rc16 rc17 rc18 rc19 rc20 rc21 rc22 rc23
theorem rot_inv : ∀ a, a < 24 → ∀ c, rot (inv a) (rot a c) = c := by
  refine all24 ?_ ?_ ?_ ?_ ?_ ?_ ?_ ?_ ?_ ?_ ?_ ?_ ?_ ?_ ?_ ?_ ?_ ?_ ?_ ?_ ?_ ?_ ?_ ?_ <;> intro c <;> simp [rot, inv, invL]
def addC (c d : C3) : C3 := (c.1 + d.1, c.2.1 + d.2.1, c.2.2 + d.2.2)
def sq (c d : C3) : Int := (c.1 - d.1) * (c.1 - d.1) + (c.2.1 - d.2.1) * (c.2.1 - d.2.1) + (c.2.2 - d.2.2) * (c.2.2 - d.2.2)
theorem rot_add : ∀ a, a < 24 → ∀ c d, rot a (addC c d) = addC (rot a c) (rot a d) := by
  refine all24 ?_ ?_ ?_ ?_ ?_ ?_ ?_ ?_ ?_ ?_ ?_ ?_ ?_ ?_ ?_ ?_ ?_ ?_ ?_ ?_ ?_ ?_ ?_ ?_ <;> intro c d <;> simp [rot, addC] <;> omega
theorem rot_sq : ∀ a, a < 24 → ∀ c d, sq (rot a c) (rot a d) = sq c d := by
  refine all24 ?_ ?_ ?_ ?_ ?_ ?_ ?_ ?_ ?_ ?_ ?_ ?_ ?_ ?_ ?_ ?_ ?_ ?_ ?_ ?_ ?_ ?_ ?_ ?_ <;> intro c d <;> simp only [rot, sq] <;> grind
theorem comp_lt : ∀ a, a < 24 → ∀ b, b < 24 → comp a b < 24 := by decide +kernel
theorem inv_lt : ∀ a, a < 24 → inv a < 24 := by decide +kernel
theorem rot_inj : ∀ a, a < 24 → ∀ b, b < 24 → (((rot a (1, 2, 3)).1 == (rot b (1, 2, 3)).1 && ((rot a (1, 2, 3)).2.1 == (rot b (1, 2, 3)).2.1 && ((rot a (1, 2, 3)).2.2 == (rot b (1, 2, 3)).2.2 && true))) == (((a : Nat) : Int) == ((b : Nat) : Int))) = true := by decide +kernel
theorem sqb {u : Int} (h : -1800 ≤ u ∧ u ≤ 1800) : 0 ≤ u * u ∧ u * u ≤ 3240000 := by
  have h1 : 0 ≤ (1800 - u) * (1800 + u) := Int.mul_nonneg (by omega) (by omega)
  have h2 : (1800 - u) * (1800 + u) = 3240000 - u * u := by grind
  have h3 : 0 ≤ u * u := by
    rcases Int.le_total 0 u with h | h
    · exact Int.mul_nonneg h h
    · have := Int.mul_nonneg (a := -u) (b := -u) (by omega) (by omega)
      rwa [Int.neg_mul_neg] at this
  omega
theorem far28 {c d : C3} {R : V → Prop} (hc : nearC 900 c) (hd : nearC 900 d) (hR : R (iv (sq c d))) : K0G Tryz.prog glX 28 [V.agg [iv c.1, iv c.2.1, iv c.2.2], V.agg [iv d.1, iv d.2.1, iv d.2.2]] R := by
  refine K0_by hmX hcD 100 Tryz.func28 (p := R (iv (IntKind.i64.wrap (IntKind.i64.wrap (IntKind.i64.wrap (IntKind.i64.wrap (c.1 - d.1) * IntKind.i64.wrap (c.1 - d.1)) + IntKind.i64.wrap (IntKind.i64.wrap (c.2.1 - d.2.1) * IntKind.i64.wrap (c.2.1 - d.2.1))) + IntKind.i64.wrap (IntKind.i64.wrap (c.2.2 - d.2.2) * IntKind.i64.wrap (c.2.2 - d.2.2)))))) (by kernel_rfl) ?_
  obtain ⟨a1, a2, a3, a4, a5, a6⟩ := hc
  obtain ⟨b1, b2, b3, b4, b5, b6⟩ := hd
  have e1 := sqb (u := c.1 - d.1) (by omega)
  have e2 := sqb (u := c.2.1 - d.2.1) (by omega)
  have e3 := sqb (u := c.2.2 - d.2.2) (by omega)
  rw [wr (n := c.1 - d.1) (by omega) (by omega), wr (n := c.2.1 - d.2.1) (by omega) (by omega), wr (n := c.2.2 - d.2.2) (by omega) (by omega)]
  rw [wr (n := (c.1 - d.1) * (c.1 - d.1)) (by omega) (by omega), wr (n := (c.2.1 - d.2.1) * (c.2.1 - d.2.1)) (by omega) (by omega), wr (n := (c.2.2 - d.2.2) * (c.2.2 - d.2.2)) (by omega) (by omega)]
  rw [wr (n := (c.1 - d.1) * (c.1 - d.1) + (c.2.1 - d.2.1) * (c.2.1 - d.2.1)) (by omega) (by omega), wr (by omega) (by omega)]
  exact hR
theorem law4 {c d : C3} {a b : Int} {R : V → Prop} (hR : R (bv true)) : K0G Tryz.prog glX 4 [V.agg [iv c.1, iv c.2.1, iv c.2.2], V.agg [iv d.1, iv d.2.1, iv d.2.2], iv a, iv b] R := by
  refine K0_by hmX hcG 100 Tryz.func4 (p := K0G Tryz.prog glX 13 [] fun v => onBool v fun b_1 => ifB (decide (c.1 ≥ (-900 : Int))) (ifB (decide (c.1 ≤ (900 : Int))) (ifB (decide (c.2.1 ≥ (-900 : Int))) (ifB (decide (c.2.1 ≤ (900 : Int))) (ifB (decide (c.2.2 ≥ (-900 : Int))) (ifB (!decide (c.2.2 ≤ (900 : Int))) (R (bv b_1)) (ifB (decide (d.1 ≥ (-900 : Int))) (ifB (decide (d.1 ≤ (900 : Int))) (ifB (decide (d.2.1 ≥ (-900 : Int))) (ifB (decide (d.2.1 ≤ (900 : Int))) (ifB (decide (d.2.2 ≥ (-900 : Int))) (ifB (!decide (d.2.2 ≤ (900 : Int))) (R (bv b_1)) (ifB (decide (a ≥ (0 : Int))) (ifB (!decide (a ≤ (23 : Int))) (R (bv b_1)) (ifB (decide (b ≥ (0 : Int))) (ifB (!decide (b ≤ (23 : Int))) (R (bv b_1)) (K0G Tryz.prog glX 26 [V.agg [iv c.1, iv c.2.1, iv c.2.2], iv a] fun v => onTup v fun vs => onCons vs fun u r => onAgg u fun cs => onCons cs fun u r_1 => onIntK IntKind.i64 u fun n => onCons r_1 fun u r_2 => onIntK IntKind.i64 u fun n_1 => onCons r_2 fun u r_3 => onIntK IntKind.i64 u fun n_2 => onNil r_3 (onCons r fun u r => onIntK IntKind.i64 u fun n_3 => onNil r (K0G Tryz.prog glX 26 [V.agg [iv n, iv n_1, iv n_2], iv b] fun v => onTup v fun vs => onCons vs fun u r => onAgg u fun cs => onCons cs fun u r_4 => onIntK IntKind.i64 u fun n_4 => onCons r_4 fun u r_5 => onIntK IntKind.i64 u fun n_5 => onCons r_5 fun u r_6 => onIntK IntKind.i64 u fun n_6 => onNil r_6 (onCons r fun u r => onIntK IntKind.i64 u fun n_7 => onNil r (K0G Tryz.prog glX 7 [iv a, iv b] fun v => onTup v fun vs => onCons vs fun u r => onIntK IntKind.i64 u fun n_8 => onCons r fun u r => onIntK IntKind.i64 u fun n_9 => onNil r (K0G Tryz.prog glX 26 [V.agg [iv c.1, iv c.2.1, iv c.2.2], iv n_8] fun v => onTup v fun vs => onCons vs fun u r => onAgg u fun cs => onCons cs fun u r_7 => onIntK IntKind.i64 u fun n_10 => onCons r_7 fun u r_8 => onIntK IntKind.i64 u fun n_11 => onCons r_8 fun u r_9 => onIntK IntKind.i64 u fun n_12 => onNil r_9 (onCons r fun u r => onIntK IntKind.i64 u fun n_13 => onNil r (K0G Tryz.prog glX 8 [iv a] fun v => onTup v fun vs => onCons vs fun u r => onIntK IntKind.i64 u fun n_14 => onCons r fun u r => onIntK IntKind.i64 u fun n_15 => onNil r (K0G Tryz.prog glX 26 [V.agg [iv n, iv n_1, iv n_2], iv n_14] fun v => onTup v fun vs => onCons vs fun u r => onAgg u fun cs => onCons cs fun u r_10 => onIntK IntKind.i64 u fun n_16 => onCons r_10 fun u r_11 => onIntK IntKind.i64 u fun n_17 => onCons r_11 fun u r_12 => onIntK IntKind.i64 u fun n_18 => onNil r_12 (onCons r fun u r => onIntK IntKind.i64 u fun n_19 => onNil r (ifB (n_3 != (0 : Int)) (R (bv false)) (ifB (n_7 != (0 : Int)) (R (bv false)) (ifB (n_9 != (0 : Int)) (R (bv false)) (ifB (n_13 != (0 : Int)) (R (bv false)) (ifB (n_15 != (0 : Int)) (R (bv false)) (ifB (n_19 != (0 : Int)) (R (bv false)) (ifB (!(fun b => n_4 == n_10 && b) ((fun b => n_5 == n_11 && b) ((fun b => n_6 == n_12 && b) true))) (R (bv false)) (ifB (!(fun b => n_16 == c.1 && b) ((fun b => n_17 == c.2.1 && b) ((fun b => n_18 == c.2.2 && b) true))) (R (bv false)) (K0G Tryz.prog glX 26 [V.agg [iv d.1, iv d.2.1, iv d.2.2], iv a] fun v => onTup v fun vs => onCons vs fun u r => onAgg u fun cs => onCons cs fun u r_13 => onIntK IntKind.i64 u fun n_20 => onCons r_13 fun u r_14 => onIntK IntKind.i64 u fun n_21 => onCons r_14 fun u r_15 => onIntK IntKind.i64 u fun n_22 => onNil r_15 (onCons r fun u r => onIntK IntKind.i64 u fun n_23 => onNil r (K0G Tryz.prog glX 26 [V.agg [iv (IntKind.i64.wrap (c.1 + d.1)), iv (IntKind.i64.wrap (c.2.1 + d.2.1)), iv (IntKind.i64.wrap (c.2.2 + d.2.2))], iv a] fun v => onTup v fun vs => onCons vs fun u r => onAgg u fun cs => onCons cs fun u r_16 => onIntK IntKind.i64 u fun n_24 => onCons r_16 fun u r_17 => onIntK IntKind.i64 u fun n_25 => onCons r_17 fun u r_18 => onIntK IntKind.i64 u fun n_26 => onNil r_18 (onCons r fun u r => onIntK IntKind.i64 u fun n_27 => onNil r (K0G Tryz.prog glX 26 [V.agg [iv (1 : Int), iv (2 : Int), iv (3 : Int)], iv a] fun v => onTup v fun vs => onCons vs fun u r => onAgg u fun cs => onCons cs fun u r_19 => onIntK IntKind.i64 u fun n_28 => onCons r_19 fun u r_20 => onIntK IntKind.i64 u fun n_29 => onCons r_20 fun u r_21 => onIntK IntKind.i64 u fun n_30 => onNil r_21 (onCons r fun u r => onIntK IntKind.i64 u fun n_31 => onNil r (K0G Tryz.prog glX 26 [V.agg [iv (1 : Int), iv (2 : Int), iv (3 : Int)], iv b] fun v => onTup v fun vs => onCons vs fun u r => onAgg u fun cs => onCons cs fun u r_22 => onIntK IntKind.i64 u fun n_32 => onCons r_22 fun u r_23 => onIntK IntKind.i64 u fun n_33 => onCons r_23 fun u r_24 => onIntK IntKind.i64 u fun n_34 => onNil r_24 (onCons r fun u r => onIntK IntKind.i64 u fun n_35 => onNil r (ifB b_1 (ifB (n_23 == (0 : Int)) (ifB (n_27 == (0 : Int)) (ifB (n_31 == (0 : Int)) (ifB (n_35 == (0 : Int)) (ifB (n_24 == IntKind.i64.wrap (n + n_20) && (fun b => n_25 == IntKind.i64.wrap (n_1 + n_21) && b) ((fun b => n_26 == IntKind.i64.wrap (n_2 + n_22) && b) true)) (K0G Tryz.prog glX 28 [V.agg [iv n, iv n_1, iv n_2], V.agg [iv n_20, iv n_21, iv n_22]] fun v => onIntK IntKind.i64 v fun n => K0G Tryz.prog glX 28 [V.agg [iv c.1, iv c.2.1, iv c.2.2], V.agg [iv d.1, iv d.2.1, iv d.2.2]] fun v => onIntK IntKind.i64 v fun n_36 => ifB (n == n_36) (R (bv ((fun b => n_28 == n_32 && b) ((fun b => n_29 == n_33 && b) ((fun b => n_30 == n_34 && b) true)) == (a == b)))) (R (bv false))) (R (bv false))) (R (bv false))) (R (bv false))) (R (bv false))) (R (bv false))) (R (bv false)))))))))))))))))))))))))))))) (R (bv b_1)))) (R (bv b_1)))) (R (bv b_1))) (R (bv b_1))) (R (bv b_1))) (R (bv b_1))) (R (bv b_1)))) (R (bv b_1))) (R (bv b_1))) (R (bv b_1))) (R (bv b_1))) (R (bv b_1))) (by kernel_rfl) ?_
  refine use alive (onBool_bv ?_)
  refine ifB_mk (fun c1 => ?_) (fun _ => hR)
  refine ifB_mk (fun c2 => ?_) (fun _ => hR)
  refine ifB_mk (fun c3 => ?_) (fun _ => hR)
  refine ifB_mk (fun c4 => ?_) (fun _ => hR)
  refine ifB_mk (fun c5 => ?_) (fun _ => hR)
  refine ifB_mk (fun _ => hR) (fun c6 => ?_)
  refine ifB_mk (fun d1 => ?_) (fun _ => hR)
  refine ifB_mk (fun d2 => ?_) (fun _ => hR)
  refine ifB_mk (fun d3 => ?_) (fun _ => hR)
  refine ifB_mk (fun d4 => ?_) (fun _ => hR)
  refine ifB_mk (fun d5 => ?_) (fun _ => hR)
  refine ifB_mk (fun _ => hR) (fun d6 => ?_)
  refine ifB_mk (fun a1 => ?_) (fun _ => hR)
  refine ifB_mk (fun _ => hR) (fun a2 => ?_)
  refine ifB_mk (fun b1 => ?_) (fun _ => hR)
  refine ifB_mk (fun _ => hR) (fun b2 => ?_)
  simp only [decide_eq_true_eq, Bool.not_eq_eq_eq_not, Bool.not_false] at c1 c2 c3 c4 c5 c6 d1 d2 d3 d4 d5 d6 a1 a2 b1 b2
  have hc : nearC 900 c := ⟨c1, c2, c3, c4, c5, c6⟩
  have hd : nearC 900 d := ⟨d1, d2, d3, d4, d5, d6⟩
  have up : ∀ {b b' : Int} {c : C3}, b ≤ b' → nearC b c → nearC b' c := fun h ⟨h1, h2, h3, h4, h5, h6⟩ => ⟨by omega, by omega, by omega, by omega, by omega, by omega⟩
  obtain ⟨a, rfl⟩ := Int.eq_ofNat_of_zero_le a1
  obtain ⟨b, rfl⟩ := Int.eq_ofNat_of_zero_le b1
  have ha : a < 24 := by omega
  have hb : b < 24 := by omega
  have hra := rot_near a ha c hc
  have hrd := rot_near a ha d hd
  refine turnC a ha c (up (by decide) hc) (onTup_tup (onCons_cons (onAgg_agg (onCons_cons (onIntK_iv (onCons_cons (onIntK_iv (onCons_cons (onIntK_iv (onNil_nil (onCons_cons (onIntK_iv (onNil_nil (?_))))))))))))))
  refine turnC b hb (rot a c) (up (by decide) hra) (onTup_tup (onCons_cons (onAgg_agg (onCons_cons (onIntK_iv (onCons_cons (onIntK_iv (onCons_cons (onIntK_iv (onNil_nil (onCons_cons (onIntK_iv (onNil_nil (?_))))))))))))))
  refine use (compK a ha b hb) (onTup_tup (onCons_cons (onIntK_iv (onCons_cons (onIntK_iv (onNil_nil (?_)))))))
  refine turnC _ (comp_lt a ha b hb) c (up (by decide) hc) (onTup_tup (onCons_cons (onAgg_agg (onCons_cons (onIntK_iv (onCons_cons (onIntK_iv (onCons_cons (onIntK_iv (onNil_nil (onCons_cons (onIntK_iv (onNil_nil (?_))))))))))))))
  refine use (invK a ha) (onTup_tup (onCons_cons (onIntK_iv (onCons_cons (onIntK_iv (onNil_nil (?_)))))))
  refine turnC _ (inv_lt a ha) (rot a c) (up (by decide) hra) (onTup_tup (onCons_cons (onAgg_agg (onCons_cons (onIntK_iv (onCons_cons (onIntK_iv (onCons_cons (onIntK_iv (onNil_nil (onCons_cons (onIntK_iv (onNil_nil (?_))))))))))))))
  refine ifB_f rfl (ifB_f rfl (ifB_f rfl (ifB_f rfl (ifB_f rfl (ifB_f rfl ?_)))))
  refine ifB_f (by rw [rot_comp a ha b hb]; simp) (ifB_f (by rw [rot_inv a ha]; simp) ?_)
  refine turnC a ha d (up (by decide) hd) (onTup_tup (onCons_cons (onAgg_agg (onCons_cons (onIntK_iv (onCons_cons (onIntK_iv (onCons_cons (onIntK_iv (onNil_nil (onCons_cons (onIntK_iv (onNil_nil (?_))))))))))))))
  rw [wr (n := c.1 + d.1) (by omega) (by omega), wr (n := c.2.1 + d.2.1) (by omega) (by omega), wr (n := c.2.2 + d.2.2) (by omega) (by omega)]
  refine turnC a ha (addC c d) ⟨by simp only [addC]; omega, by simp only [addC]; omega, by simp only [addC]; omega, by simp only [addC]; omega, by simp only [addC]; omega, by simp only [addC]; omega⟩ (onTup_tup (onCons_cons (onAgg_agg (onCons_cons (onIntK_iv (onCons_cons (onIntK_iv (onCons_cons (onIntK_iv (onNil_nil (onCons_cons (onIntK_iv (onNil_nil (?_))))))))))))))
  refine turnC a ha (1, 2, 3) ⟨by decide, by decide, by decide, by decide, by decide, by decide⟩ (onTup_tup (onCons_cons (onAgg_agg (onCons_cons (onIntK_iv (onCons_cons (onIntK_iv (onCons_cons (onIntK_iv (onNil_nil (onCons_cons (onIntK_iv (onNil_nil (?_))))))))))))))
  refine turnC b hb (1, 2, 3) ⟨by decide, by decide, by decide, by decide, by decide, by decide⟩ (onTup_tup (onCons_cons (onAgg_agg (onCons_cons (onIntK_iv (onCons_cons (onIntK_iv (onCons_cons (onIntK_iv (onNil_nil (onCons_cons (onIntK_iv (onNil_nil (?_))))))))))))))
  refine ifB_t rfl (ifB_t rfl (ifB_t rfl (ifB_t rfl (ifB_t rfl ?_))))
  refine ifB_t ?_ ?_
  · obtain ⟨r1, r2, r3, r4, r5, r6⟩ := hra
    obtain ⟨q1, q2, q3, q4, q5, q6⟩ := hrd
    rw [wr (n := (rot a c).1 + (rot a d).1) (by omega) (by omega), wr (n := (rot a c).2.1 + (rot a d).2.1) (by omega) (by omega), wr (n := (rot a c).2.2 + (rot a d).2.2) (by omega) (by omega)]
    rw [rot_add a ha]
    simp [addC]
  refine far28 hra hrd (onIntK_iv ?_)
  refine far28 hc hd (onIntK_iv ?_)
  refine ifB_t (by rw [rot_sq a ha]; simp) ?_
  rw [rot_inj a ha b hb]
  exact hR
end Go.Proofs.YtdecfbnmioagjaaGreatDoor
