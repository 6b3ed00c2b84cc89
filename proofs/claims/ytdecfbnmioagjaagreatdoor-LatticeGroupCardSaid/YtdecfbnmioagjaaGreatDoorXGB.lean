/- Directions are turned like steps. -/
import Derived.Test.YtdecfbnmioagjaaGreatDoorXGA
namespace Go.Proofs.YtdecfbnmioagjaaGreatDoor
open Go Go.Proofs.YtdecfbnmioagjaaGreatDoor.Clean
set_option linter.unusedVariables false
set_option linter.unusedSimpArgs false
set_option maxRecDepth 100000
theorem ifB_t {b : Bool} {p q : Prop} (hb : b = true) (h : p) : ifB b p q := by subst hb; exact h
theorem ifB_f {b : Bool} {p q : Prop} (hb : b = false) (h : q) : ifB b p q := by subst hb; exact h
theorem dirE1 {d : Int} {k : Nat} {R : V → Prop} (hR : R (V.tup [iv 0, iv 2])) : K0G Tryz.prog glX 6 [iv d, iv (Int.negSucc k)] R := by
  refine K0_by hmX hcE 100 Tryz.func6 (p := ifB (decide ((0 : Int) ≤ d)) (ifB (!decide (d ≤ (5 : Int))) (R (V.tup [iv (0 : Int), iv (2 : Int)])) (R (V.tup [iv (0 : Int), iv (2 : Int)]))) (R (V.tup [iv (0 : Int), iv (2 : Int)]))) (by kernel_rfl) ?_
  repeat' first | exact hR | refine ifB_mk (fun _ => ?_) (fun _ => ?_)
theorem dirE2 {d : Int} {k : Nat} {R : V → Prop} (hR : R (V.tup [iv 0, iv 2])) : K0G Tryz.prog glX 6 [iv d, iv (Int.ofNat (k + 24))] R := by
  refine K0_by hmX hcE 100 Tryz.func6 (p := ifB (decide ((0 : Int) ≤ d)) (ifB (!decide (d ≤ (5 : Int))) (R (V.tup [iv (0 : Int), iv (2 : Int)])) (R (V.tup [iv (0 : Int), iv (2 : Int)]))) (R (V.tup [iv (0 : Int), iv (2 : Int)]))) (by kernel_rfl) ?_
  repeat' first | exact hR | refine ifB_mk (fun _ => ?_) (fun _ => ?_)
theorem dirE3 {n : Int} {k : Nat} {R : V → Prop} (hR : R (V.tup [iv 0, iv 2])) : K0G Tryz.prog glX 6 [iv (Int.negSucc k), iv n] R := by
  refine K0_by hmX hcE 100 Tryz.func6 (p := R (V.tup [iv (0 : Int), iv (2 : Int)])) (by kernel_rfl) ?_
  repeat' first | exact hR | refine ifB_mk (fun _ => ?_) (fun _ => ?_)
theorem dirE4 {n : Int} {k : Nat} {R : V → Prop} (hR : R (V.tup [iv 0, iv 2])) : K0G Tryz.prog glX 6 [iv (Int.ofNat (k + 6)), iv n] R := by
  refine K0_by hmX hcE 100 Tryz.func6 (p := R (V.tup [iv (0 : Int), iv (2 : Int)])) (by kernel_rfl) ?_
  repeat' first | exact hR | refine ifB_mk (fun _ => ?_) (fun _ => ?_)
theorem dirE {d n : Int} {R : V → Prop} (h : ¬ (0 ≤ d ∧ d ≤ 5 ∧ 0 ≤ n ∧ n ≤ 23)) (hR : R (V.tup [iv 0, iv 2])) : K0G Tryz.prog glX 6 [iv d, iv n] R := by
  match n, d, h with
  | Int.negSucc k, d, _ => exact dirE1 hR
  | n, Int.negSucc k, _ => exact dirE3 hR
  | Int.ofNat a, Int.ofNat b, h =>
    by_cases ha : 24 ≤ a
    · obtain ⟨k, rfl⟩ : ∃ k, a = k + 24 := ⟨a - 24, by omega⟩
      exact dirE2 hR
    · by_cases hb : 6 ≤ b
      · obtain ⟨k, rfl⟩ : ∃ k, b = k + 6 := ⟨b - 6, by omega⟩
        exact dirE4 hR
      · exact absurd (by simp only [Int.ofNat_eq_natCast]; omega) h
theorem xorT : ∀ d : Nat, d < 6 → ∀ o : Nat, o < 6 → ∀ n : Nat, n < 24 → (((dirT d n : Nat) : Int) == IntKind.i64.wrap (↑(BitVec.ofInt 64 ((dirT o n : Nat) : Int) ^^^ BitVec.ofInt 64 (1 : Int)).toNat : Int)) = (((d : Nat) : Int) == IntKind.i64.wrap (↑(BitVec.ofInt 64 ((o : Nat) : Int) ^^^ BitVec.ofInt 64 (1 : Int)).toNat : Int)) := by decide +kernel
theorem eqT : ∀ d : Nat, d < 6 → ∀ o : Nat, o < 6 → ∀ n : Nat, n < 24 → (((dirT d n : Nat) : Int) == ((dirT o n : Nat) : Int)) = (((d : Nat) : Int) == ((o : Nat) : Int)) := by decide +kernel
theorem dir_lt : ∀ d, d < 6 → ∀ n, n < 24 → dirT d n < 6 := by decide +kernel
theorem law5 {d o n : Int} {R : V → Prop} (hR : R (bv true)) : K0G Tryz.prog glX 5 [iv d, iv o, iv n] R := by
  refine K0_by hmX hcD 100 Tryz.func5 (p := K0G Tryz.prog glX 13 [] fun v => onBool v fun b => K0G Tryz.prog glX 6 [iv d, iv n] fun v => onTup v fun vs => onCons vs fun u r => onIntK IntKind.i64 u fun n_1 => onCons r fun u r => onIntK IntKind.i64 u fun n_2 => onNil r (K0G Tryz.prog glX 6 [iv o, iv n] fun v => onTup v fun vs => onCons vs fun u r => onIntK IntKind.i64 u fun n_3 => onCons r fun u r => onIntK IntKind.i64 u fun n_4 => onNil r (ifB (n_2 != (0 : Int)) (ifB b (ifB (n_2 == (2 : Int)) (R (bv true)) (R (bv (n_4 == (2 : Int))))) (R (bv false))) (ifB (n_4 != (0 : Int)) (ifB b (ifB (n_2 == (2 : Int)) (R (bv true)) (R (bv (n_4 == (2 : Int))))) (R (bv false))) (K0G Tryz.prog glX 29 [iv d] fun v => onAgg v fun cs => onCons cs fun u r => onIntK IntKind.i64 u fun n_5 => onCons r fun u r => onIntK IntKind.i64 u fun n_6 => onCons r fun u r => onIntK IntKind.i64 u fun n_7 => onNil r (K0G Tryz.prog glX 26 [V.agg [iv n_5, iv n_6, iv n_7], iv n] fun v => onTup v fun vs => onCons vs fun u r => onAgg u fun cs => onCons cs fun u r_1 => onIntK IntKind.i64 u fun n => onCons r_1 fun u r_2 => onIntK IntKind.i64 u fun n_8 => onCons r_2 fun u r_3 => onIntK IntKind.i64 u fun n_9 => onNil r_3 (onCons r fun u r => onIntK IntKind.i64 u fun n_10 => onNil r (ifB b (ifB (n_10 == (0 : Int)) (ifB (decide (n_1 ≥ (0 : Int))) (ifB (decide (n_1 ≤ (5 : Int))) (K0G Tryz.prog glX 29 [iv n_1] fun v => onAgg v fun cs => onCons cs fun u r => onIntK IntKind.i64 u fun n_11 => onCons r fun u r => onIntK IntKind.i64 u fun n_12 => onCons r fun u r => onIntK IntKind.i64 u fun n_13 => onNil r (ifB (n == n_11 && (fun b => n_8 == n_12 && b) ((fun b => n_9 == n_13 && b) true)) (ifB ((n_1 == n_3) == (d == o)) (R (bv ((n_1 == IntKind.i64.wrap (↑(BitVec.ofInt 64 n_3 ^^^ BitVec.ofInt 64 (1 : Int)).toNat : Int)) == (d == IntKind.i64.wrap (↑(BitVec.ofInt 64 o ^^^ BitVec.ofInt 64 (1 : Int)).toNat : Int))))) (R (bv false))) (R (bv false)))) (R (bv false))) (R (bv false))) (R (bv false))) (R (bv false)))))))))) (by kernel_rfl) ?_
  refine use alive (onBool_bv ?_)
  by_cases hd : 0 ≤ d ∧ d ≤ 5 ∧ 0 ≤ n ∧ n ≤ 23
  · obtain ⟨d, rfl⟩ := Int.eq_ofNat_of_zero_le hd.1
    obtain ⟨n, rfl⟩ := Int.eq_ofNat_of_zero_le hd.2.2.1
    have hd6 : d < 6 := by omega
    have hn : n < 24 := by omega
    refine use (dirK d hd6 n hn) (onTup_tup (onCons_cons (onIntK_iv (onCons_cons (onIntK_iv (onNil_nil (?_)))))))
    by_cases ho : 0 ≤ o ∧ o ≤ 5 ∧ 0 ≤ (n : Int) ∧ (n : Int) ≤ 23
    · obtain ⟨o, rfl⟩ := Int.eq_ofNat_of_zero_le ho.1
      have ho6 : o < 6 := by omega
      refine use (dirK o ho6 n hn) (onTup_tup (onCons_cons (onIntK_iv (onCons_cons (onIntK_iv (onNil_nil (?_)))))))
      refine ifB_f rfl (ifB_f rfl ?_)
      refine use (stepK d hd6) (onAgg_agg (onCons_cons (onIntK_iv (onCons_cons (onIntK_iv (onCons_cons (onIntK_iv (onNil_nil (?_)))))))))
      refine use (turnStep d hd6 n hn) (onTup_tup (onCons_cons (onAgg_agg (onCons_cons (onIntK_iv (onCons_cons (onIntK_iv (onCons_cons (onIntK_iv (onNil_nil (onCons_cons (onIntK_iv (onNil_nil (?_))))))))))))))
      have hl := dir_lt d hd6 n hn
      refine ifB_t rfl (ifB_t rfl (ifB_t (by simp) (ifB_t (by simp; omega) ?_)))
      refine use (stepK _ hl) (onAgg_agg (onCons_cons (onIntK_iv (onCons_cons (onIntK_iv (onCons_cons (onIntK_iv (onNil_nil (?_)))))))))
      refine ifB_t (by simp) (ifB_t (by rw [eqT d hd6 o ho6 n hn]; simp) ?_)
      rw [xorT d hd6 o ho6 n hn, beq_self_eq_true]
      exact hR
    · refine dirE ho (onTup_tup (onCons_cons (onIntK_iv (onCons_cons (onIntK_iv (onNil_nil (?_)))))))
      exact ifB_f rfl (ifB_t rfl (ifB_t rfl (ifB_f rfl hR)))
  · refine dirE hd (onTup_tup (onCons_cons (onIntK_iv (onCons_cons (onIntK_iv (onNil_nil (?_)))))))
    refine (?_ : K0G Tryz.prog glX 6 [iv o, iv n] _)
    by_cases ho : 0 ≤ o ∧ o ≤ 5 ∧ 0 ≤ (n : Int) ∧ (n : Int) ≤ 23
    · obtain ⟨o, rfl⟩ := Int.eq_ofNat_of_zero_le ho.1
      obtain ⟨n, rfl⟩ := Int.eq_ofNat_of_zero_le ho.2.2.1
      refine use (dirK o (by omega) n (by omega)) (onTup_tup (onCons_cons (onIntK_iv (onCons_cons (onIntK_iv (onNil_nil (?_)))))))
      exact ifB_t rfl (ifB_t rfl (ifB_t rfl hR))
    · refine dirE ho (onTup_tup (onCons_cons (onIntK_iv (onCons_cons (onIntK_iv (onNil_nil (?_)))))))
      exact ifB_t rfl (ifB_t rfl (ifB_t rfl hR))
end Go.Proofs.YtdecfbnmioagjaaGreatDoor
