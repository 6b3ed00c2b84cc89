/- Turns are a group, and keep distances. -/
import Derived.Test.YtdecfbnmioagjaaGreatDoorXGB
namespace Go.Proofs.YtdecfbnmioagjaaGreatDoor
open Go Go.Proofs.YtdecfbnmioagjaaGreatDoor.Clean
set_option linter.unusedVariables false
set_option linter.unusedSimpArgs false
set_option maxRecDepth 100000
abbrev C3 := Int × Int × Int
/-- a cell, turned -/
def rot (n : Nat) (c : C3) : C3 := match n with
  | 0 => (c.1, c.2.1, c.2.2)
  | 1 => (-c.2.1, c.1, c.2.2)
  | 2 => (-c.1, -c.2.1, c.2.2)
  | 3 => (c.2.1, -c.1, c.2.2)
  | 4 => (c.1, -c.2.2, c.2.1)
  | 5 => (-c.2.1, -c.2.2, c.1)
  | 6 => (-c.1, -c.2.2, -c.2.1)
  | 7 => (c.2.1, -c.2.2, -c.1)
  | 8 => (c.1, -c.2.1, -c.2.2)
  | 9 => (-c.2.1, -c.1, -c.2.2)
  | 10 => (-c.1, c.2.1, -c.2.2)
  | 11 => (c.2.1, c.1, -c.2.2)
  | 12 => (c.1, c.2.2, -c.2.1)
  | 13 => (-c.2.1, c.2.2, -c.1)
  | 14 => (-c.1, c.2.2, c.2.1)
  | 15 => (c.2.1, c.2.2, c.1)
  | 16 => (c.2.2, c.1, c.2.1)
  | 17 => (c.2.2, -c.2.1, c.1)
  | 18 => (c.2.2, -c.1, -c.2.1)
  | 19 => (c.2.2, c.2.1, -c.1)
  | 20 => (-c.2.2, -c.1, c.2.1)
  | 21 => (-c.2.2, c.2.1, c.1)
  | 22 => (-c.2.2, c.1, -c.2.1)
  | 23 => (-c.2.2, -c.2.1, -c.1)
  | _ => c
theorem chk0 : K0G Tryz.prog glX 32 [iv 0] fun v => v = ch0 := K0_ranQ (cfg := cfgAll Tryz.prog glX clX (knownI [] tb0)) hmX (cfgAll_ok (knownI_ok tok0)) (fun _ _ => rfl) 3000 Tryz.func32 (by kernel_rfl)
theorem chk1 : K0G Tryz.prog glX 32 [iv 1] fun v => v = ch1 := K0_ranQ (cfg := cfgAll Tryz.prog glX clX (knownI [] tb0)) hmX (cfgAll_ok (knownI_ok tok0)) (fun _ _ => rfl) 3000 Tryz.func32 (by kernel_rfl)
theorem chk2 : K0G Tryz.prog glX 32 [iv 2] fun v => v = ch2 := K0_ranQ (cfg := cfgAll Tryz.prog glX clX (knownI [] tb0)) hmX (cfgAll_ok (knownI_ok tok0)) (fun _ _ => rfl) 3000 Tryz.func32 (by kernel_rfl)
theorem chk3 : K0G Tryz.prog glX 32 [iv 3] fun v => v = ch3 := K0_ranQ (cfg := cfgAll Tryz.prog glX clX (knownI [] tb0)) hmX (cfgAll_ok (knownI_ok tok0)) (fun _ _ => rfl) 3000 Tryz.func32 (by kernel_rfl)
theorem chk4 : K0G Tryz.prog glX 32 [iv 4] fun v => v = ch4 := K0_ranQ (cfg := cfgAll Tryz.prog glX clX (knownI [] tb0)) hmX (cfgAll_ok (knownI_ok tok0)) (fun _ _ => rfl) 3000 Tryz.func32 (by kernel_rfl)
theorem chk5 : K0G Tryz.prog glX 32 [iv 5] fun v => v = ch5 := K0_ranQ (cfg := cfgAll Tryz.prog glX clX (knownI [] tb0)) hmX (cfgAll_ok (knownI_ok tok0)) (fun _ _ => rfl) 3000 Tryz.func32 (by kernel_rfl)
theorem chk6 : K0G Tryz.prog glX 32 [iv 6] fun v => v = ch6 := K0_ranQ (cfg := cfgAll Tryz.prog glX clX (knownI [] tb0)) hmX (cfgAll_ok (knownI_ok tok0)) (fun _ _ => rfl) 3000 Tryz.func32 (by kernel_rfl)
theorem chk7 : K0G Tryz.prog glX 32 [iv 7] fun v => v = ch7 := K0_ranQ (cfg := cfgAll Tryz.prog glX clX (knownI [] tb0)) hmX (cfgAll_ok (knownI_ok tok0)) (fun _ _ => rfl) 3000 Tryz.func32 (by kernel_rfl)
theorem chk8 : K0G Tryz.prog glX 32 [iv 8] fun v => v = ch8 := K0_ranQ (cfg := cfgAll Tryz.prog glX clX (knownI [] tb0)) hmX (cfgAll_ok (knownI_ok tok0)) (fun _ _ => rfl) 3000 Tryz.func32 (by kernel_rfl)
theorem chk9 : K0G Tryz.prog glX 32 [iv 9] fun v => v = ch9 := K0_ranQ (cfg := cfgAll Tryz.prog glX clX (knownI [] tb0)) hmX (cfgAll_ok (knownI_ok tok0)) (fun _ _ => rfl) 3000 Tryz.func32 (by kernel_rfl)
theorem chk10 : K0G Tryz.prog glX 32 [iv 10] fun v => v = ch10 := K0_ranQ (cfg := cfgAll Tryz.prog glX clX (knownI [] tb0)) hmX (cfgAll_ok (knownI_ok tok0)) (fun _ _ => rfl) 3000 Tryz.func32 (by kernel_rfl)
theorem chk11 : K0G Tryz.prog glX 32 [iv 11] fun v => v = ch11 := K0_ranQ (cfg := cfgAll Tryz.prog glX clX (knownI [] tb0)) hmX (cfgAll_ok (knownI_ok tok0)) (fun _ _ => rfl) 3000 Tryz.func32 (by kernel_rfl)
theorem chk12 : K0G Tryz.prog glX 32 [iv 12] fun v => v = ch12 := K0_ranQ (cfg := cfgAll Tryz.prog glX clX (knownI [] tb0)) hmX (cfgAll_ok (knownI_ok tok0)) (fun _ _ => rfl) 3000 Tryz.func32 (by kernel_rfl)
theorem chk13 : K0G Tryz.prog glX 32 [iv 13] fun v => v = ch13 := K0_ranQ (cfg := cfgAll Tryz.prog glX clX (knownI [] tb0)) hmX (cfgAll_ok (knownI_ok tok0)) (fun _ _ => rfl) 3000 Tryz.func32 (by kernel_rfl)
theorem chk14 : K0G Tryz.prog glX 32 [iv 14] fun v => v = ch14 := K0_ranQ (cfg := cfgAll Tryz.prog glX clX (knownI [] tb0)) hmX (cfgAll_ok (knownI_ok tok0)) (fun _ _ => rfl) 3000 Tryz.func32 (by kernel_rfl)
theorem chk15 : K0G Tryz.prog glX 32 [iv 15] fun v => v = ch15 := K0_ranQ (cfg := cfgAll Tryz.prog glX clX (knownI [] tb0)) hmX (cfgAll_ok (knownI_ok tok0)) (fun _ _ => rfl) 3000 Tryz.func32 (by kernel_rfl)
theorem chk16 : K0G Tryz.prog glX 32 [iv 16] fun v => v = ch16 := K0_ranQ (cfg := cfgAll Tryz.prog glX clX (knownI [] tb0)) hmX (cfgAll_ok (knownI_ok tok0)) (fun _ _ => rfl) 3000 Tryz.func32 (by kernel_rfl)
theorem chk17 : K0G Tryz.prog glX 32 [iv 17] fun v => v = ch17 := K0_ranQ (cfg := cfgAll Tryz.prog glX clX (knownI [] tb0)) hmX (cfgAll_ok (knownI_ok tok0)) (fun _ _ => rfl) 3000 Tryz.func32 (by kernel_rfl)
theorem chk18 : K0G Tryz.prog glX 32 [iv 18] fun v => v = ch18 := K0_ranQ (cfg := cfgAll Tryz.prog glX clX (knownI [] tb0)) hmX (cfgAll_ok (knownI_ok tok0)) (fun _ _ => rfl) 3000 Tryz.func32 (by kernel_rfl)
theorem chk19 : K0G Tryz.prog glX 32 [iv 19] fun v => v = ch19 := K0_ranQ (cfg := cfgAll Tryz.prog glX clX (knownI [] tb0)) hmX (cfgAll_ok (knownI_ok tok0)) (fun _ _ => rfl) 3000 Tryz.func32 (by kernel_rfl)
theorem chk20 : K0G Tryz.prog glX 32 [iv 20] fun v => v = ch20 := K0_ranQ (cfg := cfgAll Tryz.prog glX clX (knownI [] tb0)) hmX (cfgAll_ok (knownI_ok tok0)) (fun _ _ => rfl) 3000 Tryz.func32 (by kernel_rfl)
theorem chk21 : K0G Tryz.prog glX 32 [iv 21] fun v => v = ch21 := K0_ranQ (cfg := cfgAll Tryz.prog glX clX (knownI [] tb0)) hmX (cfgAll_ok (knownI_ok tok0)) (fun _ _ => rfl) 3000 Tryz.func32 (by kernel_rfl)
theorem chk22 : K0G Tryz.prog glX 32 [iv 22] fun v => v = ch22 := K0_ranQ (cfg := cfgAll Tryz.prog glX clX (knownI [] tb0)) hmX (cfgAll_ok (knownI_ok tok0)) (fun _ _ => rfl) 3000 Tryz.func32 (by kernel_rfl)
theorem chk23 : K0G Tryz.prog glX 32 [iv 23] fun v => v = ch23 := K0_ranQ (cfg := cfgAll Tryz.prog glX clX (knownI [] tb0)) hmX (cfgAll_ok (knownI_ok tok0)) (fun _ _ => rfl) 3000 Tryz.func32 (by kernel_rfl)
theorem factsC : Facts Tryz.prog glX tbC := ⟨chk0, chk1, chk2, chk3, chk4, chk5, chk6, chk7, chk8, chk9, chk10, chk11, chk12, chk13, chk14, chk15, chk16, chk17, chk18, chk19, chk20, chk21, chk22, chk23, trivial⟩
theorem hcU : cfU.ok Tryz.prog := cfgQ_ok (tableK_ok factsC)
def cv (c : C3) : V := V.agg [iv c.1, iv c.2.1, iv c.2.2]
def nearC (b : Int) (c : C3) : Prop := -b ≤ c.1 ∧ c.1 ≤ b ∧ -b ≤ c.2.1 ∧ c.2.1 ≤ b ∧ -b ≤ c.2.2 ∧ c.2.2 ≤ b
theorem in55 {x y z : Int} {R : V → Prop} (h : -2000 ≤ x ∧ x ≤ 2000 ∧ -2000 ≤ y ∧ y ≤ 2000 ∧ -2000 ≤ z ∧ z ≤ 2000) (hR : R (bv true)) : K0G Tryz.prog glX 55 [V.agg [iv x, iv y, iv z], iv (-2000), iv 2000] R := by
  refine K0_by hmX hcN 100 Tryz.func55 (p := ifB (decide ((-2000 : Int) ≤ x)) (ifB (decide (x ≤ (2000 : Int))) (ifB (decide ((-2000 : Int) ≤ y)) (ifB (decide (y ≤ (2000 : Int))) (ifB (decide ((-2000 : Int) ≤ z)) (R (bv (decide (z ≤ (2000 : Int))))) (R (bv false))) (R (bv false))) (R (bv false))) (R (bv false))) (R (bv false))) (by kernel_rfl) ?_
  obtain ⟨h1, h2, h3, h4, h5, h6⟩ := h
  refine ifB_t (decide_eq_true h1) (ifB_t (decide_eq_true h2) (ifB_t (decide_eq_true h3) (ifB_t (decide_eq_true h4) (ifB_t (decide_eq_true h5) ?_))))
  rw [decide_eq_true h6]
  exact hR
theorem wn {v : Int} (h : -2000 ≤ v ∧ v ≤ 2000) : IntKind.i64.wrap (0 - v) = -v := by rw [wr (by omega) (by omega)]; omega
theorem wp {v : Int} (h : -2000 ≤ v ∧ v ≤ 2000) : IntKind.i64.wrap (0 - -v) = v := by rw [wr (by omega) (by omega)]; omega
theorem cell_0 {x y z : Int} (h : -2000 ≤ x ∧ x ≤ 2000 ∧ -2000 ≤ y ∧ y ≤ 2000 ∧ -2000 ≤ z ∧ z ≤ 2000) {R : V → Prop} (hR : R (V.agg [iv (x), iv (y), iv (z)])) : K0G Tryz.prog glX 36 [ch0, V.agg [iv x, iv y, iv z]] R := by
  refine K0_by hmX hcT 100 Tryz.func36 (p := R (V.agg [iv x, iv y, iv z])) (by kernel_rfl) ?_
  exact hR
theorem eq_0 (x y z : Int) (R : V → Prop) : (K0G Tryz.prog glX 55 [V.agg [iv x, iv y, iv z], iv (-2000 : Int), iv (2000 : Int)] fun v => onBool v fun b => ifB (!b) (R (V.tup [V.agg [iv (0 : Int), iv (0 : Int), iv (0 : Int)], iv (2 : Int)])) (K0G Tryz.prog glX 36 [V.agg [V.fn (Fn.func (57 : FuncId)) [] [], iv (0 : Int), V.raw Value.nilFunc, iv (0 : Int), V.raw Value.nilFunc, iv (0 : Int)], V.agg [iv x, iv y, iv z]] fun v => onAgg v fun cs => onCons cs fun u r => onIntK IntKind.i64 u fun n => onCons r fun u r => onIntK IntKind.i64 u fun n_1 => onCons r fun u r => onIntK IntKind.i64 u fun n_2 => onNil r (R (V.tup [V.agg [iv n, iv n_1, iv n_2], iv (0 : Int)])))) = WY0 Tryz.prog cfU 100 26 Tryz.f26 [V.agg [iv x, iv y, iv z], iv 0] R := by kernel_rfl
theorem turn_0 {x y z : Int} (h : -2000 ≤ x ∧ x ≤ 2000 ∧ -2000 ≤ y ∧ y ≤ 2000 ∧ -2000 ≤ z ∧ z ≤ 2000) {R : V → Prop} (hR : R (V.tup [V.agg [iv (x), iv (y), iv (z)], iv 0])) : K0G Tryz.prog glX 26 [V.agg [iv x, iv y, iv z], iv 0] R := by
  refine K0_by hmX hcU 100 Tryz.func26 (eq_0 x y z R) ?_
  exact in55 h (onBool_bv (ifB_f rfl (cell_0 h (onAgg_agg (onCons_cons (onIntK_iv (onCons_cons (onIntK_iv (onCons_cons (onIntK_iv (onNil_nil (hR))))))))))))
theorem cell_1 {x y z : Int} (h : -2000 ≤ x ∧ x ≤ 2000 ∧ -2000 ≤ y ∧ y ≤ 2000 ∧ -2000 ≤ z ∧ z ≤ 2000) {R : V → Prop} (hR : R (V.agg [iv (-y), iv (x), iv (z)])) : K0G Tryz.prog glX 36 [ch1, V.agg [iv x, iv y, iv z]] R := by
  refine K0_by hmX hcT 100 Tryz.func36 (p := R (V.agg [iv (IntKind.i64.wrap ((0 : Int) - y)), iv x, iv z])) (by kernel_rfl) ?_
  simp only [wn (v := x) (by omega), wn (v := y) (by omega), wn (v := z) (by omega), wp (v := x) (by omega), wp (v := y) (by omega), wp (v := z) (by omega)]
  exact hR
theorem eq_1 (x y z : Int) (R : V → Prop) : (K0G Tryz.prog glX 55 [V.agg [iv x, iv y, iv z], iv (-2000 : Int), iv (2000 : Int)] fun v => onBool v fun b => ifB (!b) (R (V.tup [V.agg [iv (0 : Int), iv (0 : Int), iv (0 : Int)], iv (2 : Int)])) (K0G Tryz.prog glX 36 [V.agg [V.fn (Fn.func (57 : FuncId)) [] [], iv (1 : Int), V.raw Value.nilFunc, iv (0 : Int), V.raw Value.nilFunc, iv (0 : Int)], V.agg [iv x, iv y, iv z]] fun v => onAgg v fun cs => onCons cs fun u r => onIntK IntKind.i64 u fun n => onCons r fun u r => onIntK IntKind.i64 u fun n_1 => onCons r fun u r => onIntK IntKind.i64 u fun n_2 => onNil r (R (V.tup [V.agg [iv n, iv n_1, iv n_2], iv (0 : Int)])))) = WY0 Tryz.prog cfU 100 26 Tryz.f26 [V.agg [iv x, iv y, iv z], iv 1] R := by kernel_rfl
theorem turn_1 {x y z : Int} (h : -2000 ≤ x ∧ x ≤ 2000 ∧ -2000 ≤ y ∧ y ≤ 2000 ∧ -2000 ≤ z ∧ z ≤ 2000) {R : V → Prop} (hR : R (V.tup [V.agg [iv (-y), iv (x), iv (z)], iv 0])) : K0G Tryz.prog glX 26 [V.agg [iv x, iv y, iv z], iv 1] R := by
  refine K0_by hmX hcU 100 Tryz.func26 (eq_1 x y z R) ?_
  exact in55 h (onBool_bv (ifB_f rfl (cell_1 h (onAgg_agg (onCons_cons (onIntK_iv (onCons_cons (onIntK_iv (onCons_cons (onIntK_iv (onNil_nil (hR))))))))))))
theorem cell_2 {x y z : Int} (h : -2000 ≤ x ∧ x ≤ 2000 ∧ -2000 ≤ y ∧ y ≤ 2000 ∧ -2000 ≤ z ∧ z ≤ 2000) {R : V → Prop} (hR : R (V.agg [iv (-x), iv (-y), iv (z)])) : K0G Tryz.prog glX 36 [ch2, V.agg [iv x, iv y, iv z]] R := by
  refine K0_by hmX hcT 100 Tryz.func36 (p := R (V.agg [iv (IntKind.i64.wrap ((0 : Int) - x)), iv (IntKind.i64.wrap ((0 : Int) - y)), iv z])) (by kernel_rfl) ?_
  simp only [wn (v := x) (by omega), wn (v := y) (by omega), wn (v := z) (by omega), wp (v := x) (by omega), wp (v := y) (by omega), wp (v := z) (by omega)]
  exact hR
theorem eq_2 (x y z : Int) (R : V → Prop) : (K0G Tryz.prog glX 55 [V.agg [iv x, iv y, iv z], iv (-2000 : Int), iv (2000 : Int)] fun v => onBool v fun b => ifB (!b) (R (V.tup [V.agg [iv (0 : Int), iv (0 : Int), iv (0 : Int)], iv (2 : Int)])) (K0G Tryz.prog glX 36 [V.agg [V.fn (Fn.func (57 : FuncId)) [] [], iv (2 : Int), V.raw Value.nilFunc, iv (0 : Int), V.raw Value.nilFunc, iv (0 : Int)], V.agg [iv x, iv y, iv z]] fun v => onAgg v fun cs => onCons cs fun u r => onIntK IntKind.i64 u fun n => onCons r fun u r => onIntK IntKind.i64 u fun n_1 => onCons r fun u r => onIntK IntKind.i64 u fun n_2 => onNil r (R (V.tup [V.agg [iv n, iv n_1, iv n_2], iv (0 : Int)])))) = WY0 Tryz.prog cfU 100 26 Tryz.f26 [V.agg [iv x, iv y, iv z], iv 2] R := by kernel_rfl
theorem turn_2 {x y z : Int} (h : -2000 ≤ x ∧ x ≤ 2000 ∧ -2000 ≤ y ∧ y ≤ 2000 ∧ -2000 ≤ z ∧ z ≤ 2000) {R : V → Prop} (hR : R (V.tup [V.agg [iv (-x), iv (-y), iv (z)], iv 0])) : K0G Tryz.prog glX 26 [V.agg [iv x, iv y, iv z], iv 2] R := by
  refine K0_by hmX hcU 100 Tryz.func26 (eq_2 x y z R) ?_
  exact in55 h (onBool_bv (ifB_f rfl (cell_2 h (onAgg_agg (onCons_cons (onIntK_iv (onCons_cons (onIntK_iv (onCons_cons (onIntK_iv (onNil_nil (hR))))))))))))
theorem cell_3 {x y z : Int} (h : -2000 ≤ x ∧ x ≤ 2000 ∧ -2000 ≤ y ∧ y ≤ 2000 ∧ -2000 ≤ z ∧ z ≤ 2000) {R : V → Prop} (hR : R (V.agg [iv (y), iv (-x), iv (z)])) : K0G Tryz.prog glX 36 [ch3, V.agg [iv x, iv y, iv z]] R := by
  refine K0_by hmX hcT 100 Tryz.func36 (p := R (V.agg [iv (IntKind.i64.wrap ((0 : Int) - IntKind.i64.wrap ((0 : Int) - y))), iv (IntKind.i64.wrap ((0 : Int) - x)), iv z])) (by kernel_rfl) ?_
  simp only [wn (v := x) (by omega), wn (v := y) (by omega), wn (v := z) (by omega), wp (v := x) (by omega), wp (v := y) (by omega), wp (v := z) (by omega)]
  exact hR
theorem eq_3 (x y z : Int) (R : V → Prop) : (K0G Tryz.prog glX 55 [V.agg [iv x, iv y, iv z], iv (-2000 : Int), iv (2000 : Int)] fun v => onBool v fun b => ifB (!b) (R (V.tup [V.agg [iv (0 : Int), iv (0 : Int), iv (0 : Int)], iv (2 : Int)])) (K0G Tryz.prog glX 36 [V.agg [V.fn (Fn.func (57 : FuncId)) [] [], iv (3 : Int), V.raw Value.nilFunc, iv (0 : Int), V.raw Value.nilFunc, iv (0 : Int)], V.agg [iv x, iv y, iv z]] fun v => onAgg v fun cs => onCons cs fun u r => onIntK IntKind.i64 u fun n => onCons r fun u r => onIntK IntKind.i64 u fun n_1 => onCons r fun u r => onIntK IntKind.i64 u fun n_2 => onNil r (R (V.tup [V.agg [iv n, iv n_1, iv n_2], iv (0 : Int)])))) = WY0 Tryz.prog cfU 100 26 Tryz.f26 [V.agg [iv x, iv y, iv z], iv 3] R := by kernel_rfl
theorem turn_3 {x y z : Int} (h : -2000 ≤ x ∧ x ≤ 2000 ∧ -2000 ≤ y ∧ y ≤ 2000 ∧ -2000 ≤ z ∧ z ≤ 2000) {R : V → Prop} (hR : R (V.tup [V.agg [iv (y), iv (-x), iv (z)], iv 0])) : K0G Tryz.prog glX 26 [V.agg [iv x, iv y, iv z], iv 3] R := by
  refine K0_by hmX hcU 100 Tryz.func26 (eq_3 x y z R) ?_
  exact in55 h (onBool_bv (ifB_f rfl (cell_3 h (onAgg_agg (onCons_cons (onIntK_iv (onCons_cons (onIntK_iv (onCons_cons (onIntK_iv (onNil_nil (hR))))))))))))
theorem cell_4 {x y z : Int} (h : -2000 ≤ x ∧ x ≤ 2000 ∧ -2000 ≤ y ∧ y ≤ 2000 ∧ -2000 ≤ z ∧ z ≤ 2000) {R : V → Prop} (hR : R (V.agg [iv (x), iv (-z), iv (y)])) : K0G Tryz.prog glX 36 [ch4, V.agg [iv x, iv y, iv z]] R := by
  refine K0_by hmX hcT 100 Tryz.func36 (p := R (V.agg [iv x, iv (IntKind.i64.wrap ((0 : Int) - z)), iv y])) (by kernel_rfl) ?_
  simp only [wn (v := x) (by omega), wn (v := y) (by omega), wn (v := z) (by omega), wp (v := x) (by omega), wp (v := y) (by omega), wp (v := z) (by omega)]
  exact hR
theorem eq_4 (x y z : Int) (R : V → Prop) : (K0G Tryz.prog glX 55 [V.agg [iv x, iv y, iv z], iv (-2000 : Int), iv (2000 : Int)] fun v => onBool v fun b => ifB (!b) (R (V.tup [V.agg [iv (0 : Int), iv (0 : Int), iv (0 : Int)], iv (2 : Int)])) (K0G Tryz.prog glX 36 [V.agg [V.fn (Fn.func (57 : FuncId)) [] [], iv (0 : Int), V.fn (Fn.func (56 : FuncId)) [] [], iv (1 : Int), V.raw Value.nilFunc, iv (0 : Int)], V.agg [iv x, iv y, iv z]] fun v => onAgg v fun cs => onCons cs fun u r => onIntK IntKind.i64 u fun n => onCons r fun u r => onIntK IntKind.i64 u fun n_1 => onCons r fun u r => onIntK IntKind.i64 u fun n_2 => onNil r (R (V.tup [V.agg [iv n, iv n_1, iv n_2], iv (0 : Int)])))) = WY0 Tryz.prog cfU 100 26 Tryz.f26 [V.agg [iv x, iv y, iv z], iv 4] R := by kernel_rfl
theorem turn_4 {x y z : Int} (h : -2000 ≤ x ∧ x ≤ 2000 ∧ -2000 ≤ y ∧ y ≤ 2000 ∧ -2000 ≤ z ∧ z ≤ 2000) {R : V → Prop} (hR : R (V.tup [V.agg [iv (x), iv (-z), iv (y)], iv 0])) : K0G Tryz.prog glX 26 [V.agg [iv x, iv y, iv z], iv 4] R := by
  refine K0_by hmX hcU 100 Tryz.func26 (eq_4 x y z R) ?_
  exact in55 h (onBool_bv (ifB_f rfl (cell_4 h (onAgg_agg (onCons_cons (onIntK_iv (onCons_cons (onIntK_iv (onCons_cons (onIntK_iv (onNil_nil (hR))))))))))))
theorem cell_5 {x y z : Int} (h : -2000 ≤ x ∧ x ≤ 2000 ∧ -2000 ≤ y ∧ y ≤ 2000 ∧ -2000 ≤ z ∧ z ≤ 2000) {R : V → Prop} (hR : R (V.agg [iv (-y), iv (-z), iv (x)])) : K0G Tryz.prog glX 36 [ch5, V.agg [iv x, iv y, iv z]] R := by
  refine K0_by hmX hcT 100 Tryz.func36 (p := R (V.agg [iv (IntKind.i64.wrap ((0 : Int) - y)), iv (IntKind.i64.wrap ((0 : Int) - z)), iv x])) (by kernel_rfl) ?_
  simp only [wn (v := x) (by omega), wn (v := y) (by omega), wn (v := z) (by omega), wp (v := x) (by omega), wp (v := y) (by omega), wp (v := z) (by omega)]
  exact hR
theorem eq_5 (x y z : Int) (R : V → Prop) : (K0G Tryz.prog glX 55 [V.agg [iv x, iv y, iv z], iv (-2000 : Int), iv (2000 : Int)] fun v => onBool v fun b => ifB (!b) (R (V.tup [V.agg [iv (0 : Int), iv (0 : Int), iv (0 : Int)], iv (2 : Int)])) (K0G Tryz.prog glX 36 [V.agg [V.fn (Fn.func (57 : FuncId)) [] [], iv (1 : Int), V.fn (Fn.func (56 : FuncId)) [] [], iv (1 : Int), V.raw Value.nilFunc, iv (0 : Int)], V.agg [iv x, iv y, iv z]] fun v => onAgg v fun cs => onCons cs fun u r => onIntK IntKind.i64 u fun n => onCons r fun u r => onIntK IntKind.i64 u fun n_1 => onCons r fun u r => onIntK IntKind.i64 u fun n_2 => onNil r (R (V.tup [V.agg [iv n, iv n_1, iv n_2], iv (0 : Int)])))) = WY0 Tryz.prog cfU 100 26 Tryz.f26 [V.agg [iv x, iv y, iv z], iv 5] R := by kernel_rfl
theorem turn_5 {x y z : Int} (h : -2000 ≤ x ∧ x ≤ 2000 ∧ -2000 ≤ y ∧ y ≤ 2000 ∧ -2000 ≤ z ∧ z ≤ 2000) {R : V → Prop} (hR : R (V.tup [V.agg [iv (-y), iv (-z), iv (x)], iv 0])) : K0G Tryz.prog glX 26 [V.agg [iv x, iv y, iv z], iv 5] R := by
  refine K0_by hmX hcU 100 Tryz.func26 (eq_5 x y z R) ?_
  exact in55 h (onBool_bv (ifB_f rfl (cell_5 h (onAgg_agg (onCons_cons (onIntK_iv (onCons_cons (onIntK_iv (onCons_cons (onIntK_iv (onNil_nil (hR))))))))))))
theorem cell_6 {x y z : Int} (h : -2000 ≤ x ∧ x ≤ 2000 ∧ -2000 ≤ y ∧ y ≤ 2000 ∧ -2000 ≤ z ∧ z ≤ 2000) {R : V → Prop} (hR : R (V.agg [iv (-x), iv (-z), iv (-y)])) : K0G Tryz.prog glX 36 [ch6, V.agg [iv x, iv y, iv z]] R := by
  refine K0_by hmX hcT 100 Tryz.func36 (p := R (V.agg [iv (IntKind.i64.wrap ((0 : Int) - x)), iv (IntKind.i64.wrap ((0 : Int) - z)), iv (IntKind.i64.wrap ((0 : Int) - y))])) (by kernel_rfl) ?_
  simp only [wn (v := x) (by omega), wn (v := y) (by omega), wn (v := z) (by omega), wp (v := x) (by omega), wp (v := y) (by omega), wp (v := z) (by omega)]
  exact hR
theorem eq_6 (x y z : Int) (R : V → Prop) : (K0G Tryz.prog glX 55 [V.agg [iv x, iv y, iv z], iv (-2000 : Int), iv (2000 : Int)] fun v => onBool v fun b => ifB (!b) (R (V.tup [V.agg [iv (0 : Int), iv (0 : Int), iv (0 : Int)], iv (2 : Int)])) (K0G Tryz.prog glX 36 [V.agg [V.fn (Fn.func (57 : FuncId)) [] [], iv (2 : Int), V.fn (Fn.func (56 : FuncId)) [] [], iv (1 : Int), V.raw Value.nilFunc, iv (0 : Int)], V.agg [iv x, iv y, iv z]] fun v => onAgg v fun cs => onCons cs fun u r => onIntK IntKind.i64 u fun n => onCons r fun u r => onIntK IntKind.i64 u fun n_1 => onCons r fun u r => onIntK IntKind.i64 u fun n_2 => onNil r (R (V.tup [V.agg [iv n, iv n_1, iv n_2], iv (0 : Int)])))) = WY0 Tryz.prog cfU 100 26 Tryz.f26 [V.agg [iv x, iv y, iv z], iv 6] R := by kernel_rfl
theorem turn_6 {x y z : Int} (h : -2000 ≤ x ∧ x ≤ 2000 ∧ -2000 ≤ y ∧ y ≤ 2000 ∧ -2000 ≤ z ∧ z ≤ 2000) {R : V → Prop} (hR : R (V.tup [V.agg [iv (-x), iv (-z), iv (-y)], iv 0])) : K0G Tryz.prog glX 26 [V.agg [iv x, iv y, iv z], iv 6] R := by
  refine K0_by hmX hcU 100 Tryz.func26 (eq_6 x y z R) ?_
  exact in55 h (onBool_bv (ifB_f rfl (cell_6 h (onAgg_agg (onCons_cons (onIntK_iv (onCons_cons (onIntK_iv (onCons_cons (onIntK_iv (onNil_nil (hR))))))))))))
theorem cell_7 {x y z : Int} (h : -2000 ≤ x ∧ x ≤ 2000 ∧ -2000 ≤ y ∧ y ≤ 2000 ∧ -2000 ≤ z ∧ z ≤ 2000) {R : V → Prop} (hR : R (V.agg [iv (y), iv (-z), iv (-x)])) : K0G Tryz.prog glX 36 [ch7, V.agg [iv x, iv y, iv z]] R := by
  refine K0_by hmX hcT 100 Tryz.func36 (p := R (V.agg [iv (IntKind.i64.wrap ((0 : Int) - IntKind.i64.wrap ((0 : Int) - y))), iv (IntKind.i64.wrap ((0 : Int) - z)), iv (IntKind.i64.wrap ((0 : Int) - x))])) (by kernel_rfl) ?_
  simp only [wn (v := x) (by omega), wn (v := y) (by omega), wn (v := z) (by omega), wp (v := x) (by omega), wp (v := y) (by omega), wp (v := z) (by omega)]
  exact hR
theorem eq_7 (x y z : Int) (R : V → Prop) : (K0G Tryz.prog glX 55 [V.agg [iv x, iv y, iv z], iv (-2000 : Int), iv (2000 : Int)] fun v => onBool v fun b => ifB (!b) (R (V.tup [V.agg [iv (0 : Int), iv (0 : Int), iv (0 : Int)], iv (2 : Int)])) (K0G Tryz.prog glX 36 [V.agg [V.fn (Fn.func (57 : FuncId)) [] [], iv (3 : Int), V.fn (Fn.func (56 : FuncId)) [] [], iv (1 : Int), V.raw Value.nilFunc, iv (0 : Int)], V.agg [iv x, iv y, iv z]] fun v => onAgg v fun cs => onCons cs fun u r => onIntK IntKind.i64 u fun n => onCons r fun u r => onIntK IntKind.i64 u fun n_1 => onCons r fun u r => onIntK IntKind.i64 u fun n_2 => onNil r (R (V.tup [V.agg [iv n, iv n_1, iv n_2], iv (0 : Int)])))) = WY0 Tryz.prog cfU 100 26 Tryz.f26 [V.agg [iv x, iv y, iv z], iv 7] R := by kernel_rfl
theorem turn_7 {x y z : Int} (h : -2000 ≤ x ∧ x ≤ 2000 ∧ -2000 ≤ y ∧ y ≤ 2000 ∧ -2000 ≤ z ∧ z ≤ 2000) {R : V → Prop} (hR : R (V.tup [V.agg [iv (y), iv (-z), iv (-x)], iv 0])) : K0G Tryz.prog glX 26 [V.agg [iv x, iv y, iv z], iv 7] R := by
  refine K0_by hmX hcU 100 Tryz.func26 (eq_7 x y z R) ?_
  exact in55 h (onBool_bv (ifB_f rfl (cell_7 h (onAgg_agg (onCons_cons (onIntK_iv (onCons_cons (onIntK_iv (onCons_cons (onIntK_iv (onNil_nil (hR))))))))))))
theorem cell_8 {x y z : Int} (h : -2000 ≤ x ∧ x ≤ 2000 ∧ -2000 ≤ y ∧ y ≤ 2000 ∧ -2000 ≤ z ∧ z ≤ 2000) {R : V → Prop} (hR : R (V.agg [iv (x), iv (-y), iv (-z)])) : K0G Tryz.prog glX 36 [ch8, V.agg [iv x, iv y, iv z]] R := by
  refine K0_by hmX hcT 100 Tryz.func36 (p := R (V.agg [iv x, iv (IntKind.i64.wrap ((0 : Int) - y)), iv (IntKind.i64.wrap ((0 : Int) - z))])) (by kernel_rfl) ?_
  simp only [wn (v := x) (by omega), wn (v := y) (by omega), wn (v := z) (by omega), wp (v := x) (by omega), wp (v := y) (by omega), wp (v := z) (by omega)]
  exact hR
theorem eq_8 (x y z : Int) (R : V → Prop) : (K0G Tryz.prog glX 55 [V.agg [iv x, iv y, iv z], iv (-2000 : Int), iv (2000 : Int)] fun v => onBool v fun b => ifB (!b) (R (V.tup [V.agg [iv (0 : Int), iv (0 : Int), iv (0 : Int)], iv (2 : Int)])) (K0G Tryz.prog glX 36 [V.agg [V.fn (Fn.func (57 : FuncId)) [] [], iv (0 : Int), V.fn (Fn.func (56 : FuncId)) [] [], iv (2 : Int), V.raw Value.nilFunc, iv (0 : Int)], V.agg [iv x, iv y, iv z]] fun v => onAgg v fun cs => onCons cs fun u r => onIntK IntKind.i64 u fun n => onCons r fun u r => onIntK IntKind.i64 u fun n_1 => onCons r fun u r => onIntK IntKind.i64 u fun n_2 => onNil r (R (V.tup [V.agg [iv n, iv n_1, iv n_2], iv (0 : Int)])))) = WY0 Tryz.prog cfU 100 26 Tryz.f26 [V.agg [iv x, iv y, iv z], iv 8] R := by kernel_rfl
theorem turn_8 {x y z : Int} (h : -2000 ≤ x ∧ x ≤ 2000 ∧ -2000 ≤ y ∧ y ≤ 2000 ∧ -2000 ≤ z ∧ z ≤ 2000) {R : V → Prop} (hR : R (V.tup [V.agg [iv (x), iv (-y), iv (-z)], iv 0])) : K0G Tryz.prog glX 26 [V.agg [iv x, iv y, iv z], iv 8] R := by
  refine K0_by hmX hcU 100 Tryz.func26 (eq_8 x y z R) ?_
  exact in55 h (onBool_bv (ifB_f rfl (cell_8 h (onAgg_agg (onCons_cons (onIntK_iv (onCons_cons (onIntK_iv (onCons_cons (onIntK_iv (onNil_nil (hR))))))))))))
theorem cell_9 {x y z : Int} (h : -2000 ≤ x ∧ x ≤ 2000 ∧ -2000 ≤ y ∧ y ≤ 2000 ∧ -2000 ≤ z ∧ z ≤ 2000) {R : V → Prop} (hR : R (V.agg [iv (-y), iv (-x), iv (-z)])) : K0G Tryz.prog glX 36 [ch9, V.agg [iv x, iv y, iv z]] R := by
  refine K0_by hmX hcT 100 Tryz.func36 (p := R (V.agg [iv (IntKind.i64.wrap ((0 : Int) - y)), iv (IntKind.i64.wrap ((0 : Int) - x)), iv (IntKind.i64.wrap ((0 : Int) - z))])) (by kernel_rfl) ?_
  simp only [wn (v := x) (by omega), wn (v := y) (by omega), wn (v := z) (by omega), wp (v := x) (by omega), wp (v := y) (by omega), wp (v := z) (by omega)]
  exact hR
theorem eq_9 (x y z : Int) (R : V → Prop) : (K0G Tryz.prog glX 55 [V.agg [iv x, iv y, iv z], iv (-2000 : Int), iv (2000 : Int)] fun v => onBool v fun b => ifB (!b) (R (V.tup [V.agg [iv (0 : Int), iv (0 : Int), iv (0 : Int)], iv (2 : Int)])) (K0G Tryz.prog glX 36 [V.agg [V.fn (Fn.func (57 : FuncId)) [] [], iv (1 : Int), V.fn (Fn.func (56 : FuncId)) [] [], iv (2 : Int), V.raw Value.nilFunc, iv (0 : Int)], V.agg [iv x, iv y, iv z]] fun v => onAgg v fun cs => onCons cs fun u r => onIntK IntKind.i64 u fun n => onCons r fun u r => onIntK IntKind.i64 u fun n_1 => onCons r fun u r => onIntK IntKind.i64 u fun n_2 => onNil r (R (V.tup [V.agg [iv n, iv n_1, iv n_2], iv (0 : Int)])))) = WY0 Tryz.prog cfU 100 26 Tryz.f26 [V.agg [iv x, iv y, iv z], iv 9] R := by kernel_rfl
theorem turn_9 {x y z : Int} (h : -2000 ≤ x ∧ x ≤ 2000 ∧ -2000 ≤ y ∧ y ≤ 2000 ∧ -2000 ≤ z ∧ z ≤ 2000) {R : V → Prop} (hR : R (V.tup [V.agg [iv (-y), iv (-x), iv (-z)], iv 0])) : K0G Tryz.prog glX 26 [V.agg [iv x, iv y, iv z], iv 9] R := by
  refine K0_by hmX hcU 100 Tryz.func26 (eq_9 x y z R) ?_
  exact in55 h (onBool_bv (ifB_f rfl (cell_9 h (onAgg_agg (onCons_cons (onIntK_iv (onCons_cons (onIntK_iv (onCons_cons (onIntK_iv (onNil_nil (hR))))))))))))
theorem cell_10 {x y z : Int} (h : -2000 ≤ x ∧ x ≤ 2000 ∧ -2000 ≤ y ∧ y ≤ 2000 ∧ -2000 ≤ z ∧ z ≤ 2000) {R : V → Prop} (hR : R (V.agg [iv (-x), iv (y), iv (-z)])) : K0G Tryz.prog glX 36 [ch10, V.agg [iv x, iv y, iv z]] R := by
  refine K0_by hmX hcT 100 Tryz.func36 (p := R (V.agg [iv (IntKind.i64.wrap ((0 : Int) - x)), iv (IntKind.i64.wrap ((0 : Int) - IntKind.i64.wrap ((0 : Int) - y))), iv (IntKind.i64.wrap ((0 : Int) - z))])) (by kernel_rfl) ?_
  simp only [wn (v := x) (by omega), wn (v := y) (by omega), wn (v := z) (by omega), wp (v := x) (by omega), wp (v := y) (by omega), wp (v := z) (by omega)]
  exact hR
theorem eq_10 (x y z : Int) (R : V → Prop) : (K0G Tryz.prog glX 55 [V.agg [iv x, iv y, iv z], iv (-2000 : Int), iv (2000 : Int)] fun v => onBool v fun b => ifB (!b) (R (V.tup [V.agg [iv (0 : Int), iv (0 : Int), iv (0 : Int)], iv (2 : Int)])) (K0G Tryz.prog glX 36 [V.agg [V.fn (Fn.func (57 : FuncId)) [] [], iv (2 : Int), V.fn (Fn.func (56 : FuncId)) [] [], iv (2 : Int), V.raw Value.nilFunc, iv (0 : Int)], V.agg [iv x, iv y, iv z]] fun v => onAgg v fun cs => onCons cs fun u r => onIntK IntKind.i64 u fun n => onCons r fun u r => onIntK IntKind.i64 u fun n_1 => onCons r fun u r => onIntK IntKind.i64 u fun n_2 => onNil r (R (V.tup [V.agg [iv n, iv n_1, iv n_2], iv (0 : Int)])))) = WY0 Tryz.prog cfU 100 26 Tryz.f26 [V.agg [iv x, iv y, iv z], iv 10] R := by kernel_rfl
theorem turn_10 {x y z : Int} (h : -2000 ≤ x ∧ x ≤ 2000 ∧ -2000 ≤ y ∧ y ≤ 2000 ∧ -2000 ≤ z ∧ z ≤ 2000) {R : V → Prop} (hR : R (V.tup [V.agg [iv (-x), iv (y), iv (-z)], iv 0])) : K0G Tryz.prog glX 26 [V.agg [iv x, iv y, iv z], iv 10] R := by
  refine K0_by hmX hcU 100 Tryz.func26 (eq_10 x y z R) ?_
  exact in55 h (onBool_bv (ifB_f rfl (cell_10 h (onAgg_agg (onCons_cons (onIntK_iv (onCons_cons (onIntK_iv (onCons_cons (onIntK_iv (onNil_nil (hR))))))))))))
theorem cell_11 {x y z : Int} (h : -2000 ≤ x ∧ x ≤ 2000 ∧ -2000 ≤ y ∧ y ≤ 2000 ∧ -2000 ≤ z ∧ z ≤ 2000) {R : V → Prop} (hR : R (V.agg [iv (y), iv (x), iv (-z)])) : K0G Tryz.prog glX 36 [ch11, V.agg [iv x, iv y, iv z]] R := by
  refine K0_by hmX hcT 100 Tryz.func36 (p := R (V.agg [iv (IntKind.i64.wrap ((0 : Int) - IntKind.i64.wrap ((0 : Int) - y))), iv (IntKind.i64.wrap ((0 : Int) - IntKind.i64.wrap ((0 : Int) - x))), iv (IntKind.i64.wrap ((0 : Int) - z))])) (by kernel_rfl) ?_
  simp only [wn (v := x) (by omega), wn (v := y) (by omega), wn (v := z) (by omega), wp (v := x) (by omega), wp (v := y) (by omega), wp (v := z) (by omega)]
  exact hR
theorem eq_11 (x y z : Int) (R : V → Prop) : (K0G Tryz.prog glX 55 [V.agg [iv x, iv y, iv z], iv (-2000 : Int), iv (2000 : Int)] fun v => onBool v fun b => ifB (!b) (R (V.tup [V.agg [iv (0 : Int), iv (0 : Int), iv (0 : Int)], iv (2 : Int)])) (K0G Tryz.prog glX 36 [V.agg [V.fn (Fn.func (57 : FuncId)) [] [], iv (3 : Int), V.fn (Fn.func (56 : FuncId)) [] [], iv (2 : Int), V.raw Value.nilFunc, iv (0 : Int)], V.agg [iv x, iv y, iv z]] fun v => onAgg v fun cs => onCons cs fun u r => onIntK IntKind.i64 u fun n => onCons r fun u r => onIntK IntKind.i64 u fun n_1 => onCons r fun u r => onIntK IntKind.i64 u fun n_2 => onNil r (R (V.tup [V.agg [iv n, iv n_1, iv n_2], iv (0 : Int)])))) = WY0 Tryz.prog cfU 100 26 Tryz.f26 [V.agg [iv x, iv y, iv z], iv 11] R := by kernel_rfl
theorem turn_11 {x y z : Int} (h : -2000 ≤ x ∧ x ≤ 2000 ∧ -2000 ≤ y ∧ y ≤ 2000 ∧ -2000 ≤ z ∧ z ≤ 2000) {R : V → Prop} (hR : R (V.tup [V.agg [iv (y), iv (x), iv (-z)], iv 0])) : K0G Tryz.prog glX 26 [V.agg [iv x, iv y, iv z], iv 11] R := by
  refine K0_by hmX hcU 100 Tryz.func26 (eq_11 x y z R) ?_
  exact in55 h (onBool_bv (ifB_f rfl (cell_11 h (onAgg_agg (onCons_cons (onIntK_iv (onCons_cons (onIntK_iv (onCons_cons (onIntK_iv (onNil_nil (hR))))))))))))
theorem cell_12 {x y z : Int} (h : -2000 ≤ x ∧ x ≤ 2000 ∧ -2000 ≤ y ∧ y ≤ 2000 ∧ -2000 ≤ z ∧ z ≤ 2000) {R : V → Prop} (hR : R (V.agg [iv (x), iv (z), iv (-y)])) : K0G Tryz.prog glX 36 [ch12, V.agg [iv x, iv y, iv z]] R := by
  refine K0_by hmX hcT 100 Tryz.func36 (p := R (V.agg [iv x, iv (IntKind.i64.wrap ((0 : Int) - IntKind.i64.wrap ((0 : Int) - z))), iv (IntKind.i64.wrap ((0 : Int) - y))])) (by kernel_rfl) ?_
  simp only [wn (v := x) (by omega), wn (v := y) (by omega), wn (v := z) (by omega), wp (v := x) (by omega), wp (v := y) (by omega), wp (v := z) (by omega)]
  exact hR
theorem eq_12 (x y z : Int) (R : V → Prop) : (K0G Tryz.prog glX 55 [V.agg [iv x, iv y, iv z], iv (-2000 : Int), iv (2000 : Int)] fun v => onBool v fun b => ifB (!b) (R (V.tup [V.agg [iv (0 : Int), iv (0 : Int), iv (0 : Int)], iv (2 : Int)])) (K0G Tryz.prog glX 36 [V.agg [V.fn (Fn.func (57 : FuncId)) [] [], iv (0 : Int), V.fn (Fn.func (56 : FuncId)) [] [], iv (3 : Int), V.raw Value.nilFunc, iv (0 : Int)], V.agg [iv x, iv y, iv z]] fun v => onAgg v fun cs => onCons cs fun u r => onIntK IntKind.i64 u fun n => onCons r fun u r => onIntK IntKind.i64 u fun n_1 => onCons r fun u r => onIntK IntKind.i64 u fun n_2 => onNil r (R (V.tup [V.agg [iv n, iv n_1, iv n_2], iv (0 : Int)])))) = WY0 Tryz.prog cfU 100 26 Tryz.f26 [V.agg [iv x, iv y, iv z], iv 12] R := by kernel_rfl
theorem turn_12 {x y z : Int} (h : -2000 ≤ x ∧ x ≤ 2000 ∧ -2000 ≤ y ∧ y ≤ 2000 ∧ -2000 ≤ z ∧ z ≤ 2000) {R : V → Prop} (hR : R (V.tup [V.agg [iv (x), iv (z), iv (-y)], iv 0])) : K0G Tryz.prog glX 26 [V.agg [iv x, iv y, iv z], iv 12] R := by
  refine K0_by hmX hcU 100 Tryz.func26 (eq_12 x y z R) ?_
  exact in55 h (onBool_bv (ifB_f rfl (cell_12 h (onAgg_agg (onCons_cons (onIntK_iv (onCons_cons (onIntK_iv (onCons_cons (onIntK_iv (onNil_nil (hR))))))))))))
theorem cell_13 {x y z : Int} (h : -2000 ≤ x ∧ x ≤ 2000 ∧ -2000 ≤ y ∧ y ≤ 2000 ∧ -2000 ≤ z ∧ z ≤ 2000) {R : V → Prop} (hR : R (V.agg [iv (-y), iv (z), iv (-x)])) : K0G Tryz.prog glX 36 [ch13, V.agg [iv x, iv y, iv z]] R := by
  refine K0_by hmX hcT 100 Tryz.func36 (p := R (V.agg [iv (IntKind.i64.wrap ((0 : Int) - y)), iv (IntKind.i64.wrap ((0 : Int) - IntKind.i64.wrap ((0 : Int) - z))), iv (IntKind.i64.wrap ((0 : Int) - x))])) (by kernel_rfl) ?_
  simp only [wn (v := x) (by omega), wn (v := y) (by omega), wn (v := z) (by omega), wp (v := x) (by omega), wp (v := y) (by omega), wp (v := z) (by omega)]
  exact hR
theorem eq_13 (x y z : Int) (R : V → Prop) : (K0G Tryz.prog glX 55 [V.agg [iv x, iv y, iv z], iv (-2000 : Int), iv (2000 : Int)] fun v => onBool v fun b => ifB (!b) (R (V.tup [V.agg [iv (0 : Int), iv (0 : Int), iv (0 : Int)], iv (2 : Int)])) (K0G Tryz.prog glX 36 [V.agg [V.fn (Fn.func (57 : FuncId)) [] [], iv (1 : Int), V.fn (Fn.func (56 : FuncId)) [] [], iv (3 : Int), V.raw Value.nilFunc, iv (0 : Int)], V.agg [iv x, iv y, iv z]] fun v => onAgg v fun cs => onCons cs fun u r => onIntK IntKind.i64 u fun n => onCons r fun u r => onIntK IntKind.i64 u fun n_1 => onCons r fun u r => onIntK IntKind.i64 u fun n_2 => onNil r (R (V.tup [V.agg [iv n, iv n_1, iv n_2], iv (0 : Int)])))) = WY0 Tryz.prog cfU 100 26 Tryz.f26 [V.agg [iv x, iv y, iv z], iv 13] R := by kernel_rfl
theorem turn_13 {x y z : Int} (h : -2000 ≤ x ∧ x ≤ 2000 ∧ -2000 ≤ y ∧ y ≤ 2000 ∧ -2000 ≤ z ∧ z ≤ 2000) {R : V → Prop} (hR : R (V.tup [V.agg [iv (-y), iv (z), iv (-x)], iv 0])) : K0G Tryz.prog glX 26 [V.agg [iv x, iv y, iv z], iv 13] R := by
  refine K0_by hmX hcU 100 Tryz.func26 (eq_13 x y z R) ?_
  exact in55 h (onBool_bv (ifB_f rfl (cell_13 h (onAgg_agg (onCons_cons (onIntK_iv (onCons_cons (onIntK_iv (onCons_cons (onIntK_iv (onNil_nil (hR))))))))))))
theorem cell_14 {x y z : Int} (h : -2000 ≤ x ∧ x ≤ 2000 ∧ -2000 ≤ y ∧ y ≤ 2000 ∧ -2000 ≤ z ∧ z ≤ 2000) {R : V → Prop} (hR : R (V.agg [iv (-x), iv (z), iv (y)])) : K0G Tryz.prog glX 36 [ch14, V.agg [iv x, iv y, iv z]] R := by
  refine K0_by hmX hcT 100 Tryz.func36 (p := R (V.agg [iv (IntKind.i64.wrap ((0 : Int) - x)), iv (IntKind.i64.wrap ((0 : Int) - IntKind.i64.wrap ((0 : Int) - z))), iv (IntKind.i64.wrap ((0 : Int) - IntKind.i64.wrap ((0 : Int) - y)))])) (by kernel_rfl) ?_
  simp only [wn (v := x) (by omega), wn (v := y) (by omega), wn (v := z) (by omega), wp (v := x) (by omega), wp (v := y) (by omega), wp (v := z) (by omega)]
  exact hR
theorem eq_14 (x y z : Int) (R : V → Prop) : (K0G Tryz.prog glX 55 [V.agg [iv x, iv y, iv z], iv (-2000 : Int), iv (2000 : Int)] fun v => onBool v fun b => ifB (!b) (R (V.tup [V.agg [iv (0 : Int), iv (0 : Int), iv (0 : Int)], iv (2 : Int)])) (K0G Tryz.prog glX 36 [V.agg [V.fn (Fn.func (57 : FuncId)) [] [], iv (2 : Int), V.fn (Fn.func (56 : FuncId)) [] [], iv (3 : Int), V.raw Value.nilFunc, iv (0 : Int)], V.agg [iv x, iv y, iv z]] fun v => onAgg v fun cs => onCons cs fun u r => onIntK IntKind.i64 u fun n => onCons r fun u r => onIntK IntKind.i64 u fun n_1 => onCons r fun u r => onIntK IntKind.i64 u fun n_2 => onNil r (R (V.tup [V.agg [iv n, iv n_1, iv n_2], iv (0 : Int)])))) = WY0 Tryz.prog cfU 100 26 Tryz.f26 [V.agg [iv x, iv y, iv z], iv 14] R := by kernel_rfl
theorem turn_14 {x y z : Int} (h : -2000 ≤ x ∧ x ≤ 2000 ∧ -2000 ≤ y ∧ y ≤ 2000 ∧ -2000 ≤ z ∧ z ≤ 2000) {R : V → Prop} (hR : R (V.tup [V.agg [iv (-x), iv (z), iv (y)], iv 0])) : K0G Tryz.prog glX 26 [V.agg [iv x, iv y, iv z], iv 14] R := by
  refine K0_by hmX hcU 100 Tryz.func26 (eq_14 x y z R) ?_
  exact in55 h (onBool_bv (ifB_f rfl (cell_14 h (onAgg_agg (onCons_cons (onIntK_iv (onCons_cons (onIntK_iv (onCons_cons (onIntK_iv (onNil_nil (hR))))))))))))
theorem cell_15 {x y z : Int} (h : -2000 ≤ x ∧ x ≤ 2000 ∧ -2000 ≤ y ∧ y ≤ 2000 ∧ -2000 ≤ z ∧ z ≤ 2000) {R : V → Prop} (hR : R (V.agg [iv (y), iv (z), iv (x)])) : K0G Tryz.prog glX 36 [ch15, V.agg [iv x, iv y, iv z]] R := by
  refine K0_by hmX hcT 100 Tryz.func36 (p := R (V.agg [iv (IntKind.i64.wrap ((0 : Int) - IntKind.i64.wrap ((0 : Int) - y))), iv (IntKind.i64.wrap ((0 : Int) - IntKind.i64.wrap ((0 : Int) - z))), iv (IntKind.i64.wrap ((0 : Int) - IntKind.i64.wrap ((0 : Int) - x)))])) (by kernel_rfl) ?_
  simp only [wn (v := x) (by omega), wn (v := y) (by omega), wn (v := z) (by omega), wp (v := x) (by omega), wp (v := y) (by omega), wp (v := z) (by omega)]
  exact hR
theorem eq_15 (x y z : Int) (R : V → Prop) : (K0G Tryz.prog glX 55 [V.agg [iv x, iv y, iv z], iv (-2000 : Int), iv (2000 : Int)] fun v => onBool v fun b => ifB (!b) (R (V.tup [V.agg [iv (0 : Int), iv (0 : Int), iv (0 : Int)], iv (2 : Int)])) (K0G Tryz.prog glX 36 [V.agg [V.fn (Fn.func (57 : FuncId)) [] [], iv (3 : Int), V.fn (Fn.func (56 : FuncId)) [] [], iv (3 : Int), V.raw Value.nilFunc, iv (0 : Int)], V.agg [iv x, iv y, iv z]] fun v => onAgg v fun cs => onCons cs fun u r => onIntK IntKind.i64 u fun n => onCons r fun u r => onIntK IntKind.i64 u fun n_1 => onCons r fun u r => onIntK IntKind.i64 u fun n_2 => onNil r (R (V.tup [V.agg [iv n, iv n_1, iv n_2], iv (0 : Int)])))) = WY0 Tryz.prog cfU 100 26 Tryz.f26 [V.agg [iv x, iv y, iv z], iv 15] R := by kernel_rfl
theorem turn_15 {x y z : Int} (h : -2000 ≤ x ∧ x ≤ 2000 ∧ -2000 ≤ y ∧ y ≤ 2000 ∧ -2000 ≤ z ∧ z ≤ 2000) {R : V → Prop} (hR : R (V.tup [V.agg [iv (y), iv (z), iv (x)], iv 0])) : K0G Tryz.prog glX 26 [V.agg [iv x, iv y, iv z], iv 15] R := by
  refine K0_by hmX hcU 100 Tryz.func26 (eq_15 x y z R) ?_
  exact in55 h (onBool_bv (ifB_f rfl (cell_15 h (onAgg_agg (onCons_cons (onIntK_iv (onCons_cons (onIntK_iv (onCons_cons (onIntK_iv (onNil_nil (hR))))))))))))
theorem cell_16 {x y z : Int} (h : -2000 ≤ x ∧ x ≤ 2000 ∧ -2000 ≤ y ∧ y ≤ 2000 ∧ -2000 ≤ z ∧ z ≤ 2000) {R : V → Prop} (hR : R (V.agg [iv (z), iv (x), iv (y)])) : K0G Tryz.prog glX 36 [ch16, V.agg [iv x, iv y, iv z]] R := by
  refine K0_by hmX hcT 100 Tryz.func36 (p := R (V.agg [iv (IntKind.i64.wrap ((0 : Int) - IntKind.i64.wrap ((0 : Int) - z))), iv x, iv y])) (by kernel_rfl) ?_
  simp only [wn (v := x) (by omega), wn (v := y) (by omega), wn (v := z) (by omega), wp (v := x) (by omega), wp (v := y) (by omega), wp (v := z) (by omega)]
  exact hR
theorem eq_16 (x y z : Int) (R : V → Prop) : (K0G Tryz.prog glX 55 [V.agg [iv x, iv y, iv z], iv (-2000 : Int), iv (2000 : Int)] fun v => onBool v fun b => ifB (!b) (R (V.tup [V.agg [iv (0 : Int), iv (0 : Int), iv (0 : Int)], iv (2 : Int)])) (K0G Tryz.prog glX 36 [V.agg [V.fn (Fn.func (57 : FuncId)) [] [], iv (0 : Int), V.fn (Fn.func (56 : FuncId)) [] [], iv (1 : Int), V.fn (Fn.func (57 : FuncId)) [] [], iv (1 : Int)], V.agg [iv x, iv y, iv z]] fun v => onAgg v fun cs => onCons cs fun u r => onIntK IntKind.i64 u fun n => onCons r fun u r => onIntK IntKind.i64 u fun n_1 => onCons r fun u r => onIntK IntKind.i64 u fun n_2 => onNil r (R (V.tup [V.agg [iv n, iv n_1, iv n_2], iv (0 : Int)])))) = WY0 Tryz.prog cfU 100 26 Tryz.f26 [V.agg [iv x, iv y, iv z], iv 16] R := by kernel_rfl
theorem turn_16 {x y z : Int} (h : -2000 ≤ x ∧ x ≤ 2000 ∧ -2000 ≤ y ∧ y ≤ 2000 ∧ -2000 ≤ z ∧ z ≤ 2000) {R : V → Prop} (hR : R (V.tup [V.agg [iv (z), iv (x), iv (y)], iv 0])) : K0G Tryz.prog glX 26 [V.agg [iv x, iv y, iv z], iv 16] R := by
  refine K0_by hmX hcU 100 Tryz.func26 (eq_16 x y z R) ?_
  exact in55 h (onBool_bv (ifB_f rfl (cell_16 h (onAgg_agg (onCons_cons (onIntK_iv (onCons_cons (onIntK_iv (onCons_cons (onIntK_iv (onNil_nil (hR))))))))))))
theorem cell_17 {x y z : Int} (h : -2000 ≤ x ∧ x ≤ 2000 ∧ -2000 ≤ y ∧ y ≤ 2000 ∧ -2000 ≤ z ∧ z ≤ 2000) {R : V → Prop} (hR : R (V.agg [iv (z), iv (-y), iv (x)])) : K0G Tryz.prog glX 36 [ch17, V.agg [iv x, iv y, iv z]] R := by
  refine K0_by hmX hcT 100 Tryz.func36 (p := R (V.agg [iv (IntKind.i64.wrap ((0 : Int) - IntKind.i64.wrap ((0 : Int) - z))), iv (IntKind.i64.wrap ((0 : Int) - y)), iv x])) (by kernel_rfl) ?_
  simp only [wn (v := x) (by omega), wn (v := y) (by omega), wn (v := z) (by omega), wp (v := x) (by omega), wp (v := y) (by omega), wp (v := z) (by omega)]
  exact hR
theorem eq_17 (x y z : Int) (R : V → Prop) : (K0G Tryz.prog glX 55 [V.agg [iv x, iv y, iv z], iv (-2000 : Int), iv (2000 : Int)] fun v => onBool v fun b => ifB (!b) (R (V.tup [V.agg [iv (0 : Int), iv (0 : Int), iv (0 : Int)], iv (2 : Int)])) (K0G Tryz.prog glX 36 [V.agg [V.fn (Fn.func (57 : FuncId)) [] [], iv (1 : Int), V.fn (Fn.func (56 : FuncId)) [] [], iv (1 : Int), V.fn (Fn.func (57 : FuncId)) [] [], iv (1 : Int)], V.agg [iv x, iv y, iv z]] fun v => onAgg v fun cs => onCons cs fun u r => onIntK IntKind.i64 u fun n => onCons r fun u r => onIntK IntKind.i64 u fun n_1 => onCons r fun u r => onIntK IntKind.i64 u fun n_2 => onNil r (R (V.tup [V.agg [iv n, iv n_1, iv n_2], iv (0 : Int)])))) = WY0 Tryz.prog cfU 100 26 Tryz.f26 [V.agg [iv x, iv y, iv z], iv 17] R := by kernel_rfl
theorem turn_17 {x y z : Int} (h : -2000 ≤ x ∧ x ≤ 2000 ∧ -2000 ≤ y ∧ y ≤ 2000 ∧ -2000 ≤ z ∧ z ≤ 2000) {R : V → Prop} (hR : R (V.tup [V.agg [iv (z), iv (-y), iv (x)], iv 0])) : K0G Tryz.prog glX 26 [V.agg [iv x, iv y, iv z], iv 17] R := by
  refine K0_by hmX hcU 100 Tryz.func26 (eq_17 x y z R) ?_
  exact in55 h (onBool_bv (ifB_f rfl (cell_17 h (onAgg_agg (onCons_cons (onIntK_iv (onCons_cons (onIntK_iv (onCons_cons (onIntK_iv (onNil_nil (hR))))))))))))
theorem cell_18 {x y z : Int} (h : -2000 ≤ x ∧ x ≤ 2000 ∧ -2000 ≤ y ∧ y ≤ 2000 ∧ -2000 ≤ z ∧ z ≤ 2000) {R : V → Prop} (hR : R (V.agg [iv (z), iv (-x), iv (-y)])) : K0G Tryz.prog glX 36 [ch18, V.agg [iv x, iv y, iv z]] R := by
  refine K0_by hmX hcT 100 Tryz.func36 (p := R (V.agg [iv (IntKind.i64.wrap ((0 : Int) - IntKind.i64.wrap ((0 : Int) - z))), iv (IntKind.i64.wrap ((0 : Int) - x)), iv (IntKind.i64.wrap ((0 : Int) - y))])) (by kernel_rfl) ?_
  simp only [wn (v := x) (by omega), wn (v := y) (by omega), wn (v := z) (by omega), wp (v := x) (by omega), wp (v := y) (by omega), wp (v := z) (by omega)]
  exact hR
theorem eq_18 (x y z : Int) (R : V → Prop) : (K0G Tryz.prog glX 55 [V.agg [iv x, iv y, iv z], iv (-2000 : Int), iv (2000 : Int)] fun v => onBool v fun b => ifB (!b) (R (V.tup [V.agg [iv (0 : Int), iv (0 : Int), iv (0 : Int)], iv (2 : Int)])) (K0G Tryz.prog glX 36 [V.agg [V.fn (Fn.func (57 : FuncId)) [] [], iv (2 : Int), V.fn (Fn.func (56 : FuncId)) [] [], iv (1 : Int), V.fn (Fn.func (57 : FuncId)) [] [], iv (1 : Int)], V.agg [iv x, iv y, iv z]] fun v => onAgg v fun cs => onCons cs fun u r => onIntK IntKind.i64 u fun n => onCons r fun u r => onIntK IntKind.i64 u fun n_1 => onCons r fun u r => onIntK IntKind.i64 u fun n_2 => onNil r (R (V.tup [V.agg [iv n, iv n_1, iv n_2], iv (0 : Int)])))) = WY0 Tryz.prog cfU 100 26 Tryz.f26 [V.agg [iv x, iv y, iv z], iv 18] R := by kernel_rfl
theorem turn_18 {x y z : Int} (h : -2000 ≤ x ∧ x ≤ 2000 ∧ -2000 ≤ y ∧ y ≤ 2000 ∧ -2000 ≤ z ∧ z ≤ 2000) {R : V → Prop} (hR : R (V.tup [V.agg [iv (z), iv (-x), iv (-y)], iv 0])) : K0G Tryz.prog glX 26 [V.agg [iv x, iv y, iv z], iv 18] R := by
  refine K0_by hmX hcU 100 Tryz.func26 (eq_18 x y z R) ?_
  exact in55 h (onBool_bv (ifB_f rfl (cell_18 h (onAgg_agg (onCons_cons (onIntK_iv (onCons_cons (onIntK_iv (onCons_cons (onIntK_iv (onNil_nil (hR))))))))))))
theorem cell_19 {x y z : Int} (h : -2000 ≤ x ∧ x ≤ 2000 ∧ -2000 ≤ y ∧ y ≤ 2000 ∧ -2000 ≤ z ∧ z ≤ 2000) {R : V → Prop} (hR : R (V.agg [iv (z), iv (y), iv (-x)])) : K0G Tryz.prog glX 36 [ch19, V.agg [iv x, iv y, iv z]] R := by
  refine K0_by hmX hcT 100 Tryz.func36 (p := R (V.agg [iv (IntKind.i64.wrap ((0 : Int) - IntKind.i64.wrap ((0 : Int) - z))), iv (IntKind.i64.wrap ((0 : Int) - IntKind.i64.wrap ((0 : Int) - y))), iv (IntKind.i64.wrap ((0 : Int) - x))])) (by kernel_rfl) ?_
  simp only [wn (v := x) (by omega), wn (v := y) (by omega), wn (v := z) (by omega), wp (v := x) (by omega), wp (v := y) (by omega), wp (v := z) (by omega)]
  exact hR
theorem eq_19 (x y z : Int) (R : V → Prop) : (K0G Tryz.prog glX 55 [V.agg [iv x, iv y, iv z], iv (-2000 : Int), iv (2000 : Int)] fun v => onBool v fun b => ifB (!b) (R (V.tup [V.agg [iv (0 : Int), iv (0 : Int), iv (0 : Int)], iv (2 : Int)])) (K0G Tryz.prog glX 36 [V.agg [V.fn (Fn.func (57 : FuncId)) [] [], iv (3 : Int), V.fn (Fn.func (56 : FuncId)) [] [], iv (1 : Int), V.fn (Fn.func (57 : FuncId)) [] [], iv (1 : Int)], V.agg [iv x, iv y, iv z]] fun v => onAgg v fun cs => onCons cs fun u r => onIntK IntKind.i64 u fun n => onCons r fun u r => onIntK IntKind.i64 u fun n_1 => onCons r fun u r => onIntK IntKind.i64 u fun n_2 => onNil r (R (V.tup [V.agg [iv n, iv n_1, iv n_2], iv (0 : Int)])))) = WY0 Tryz.prog cfU 100 26 Tryz.f26 [V.agg [iv x, iv y, iv z], iv 19] R := by kernel_rfl
theorem turn_19 {x y z : Int} (h : -2000 ≤ x ∧ x ≤ 2000 ∧ -2000 ≤ y ∧ y ≤ 2000 ∧ -2000 ≤ z ∧ z ≤ 2000) {R : V → Prop} (hR : R (V.tup [V.agg [iv (z), iv (y), iv (-x)], iv 0])) : K0G Tryz.prog glX 26 [V.agg [iv x, iv y, iv z], iv 19] R := by
  refine K0_by hmX hcU 100 Tryz.func26 (eq_19 x y z R) ?_
  exact in55 h (onBool_bv (ifB_f rfl (cell_19 h (onAgg_agg (onCons_cons (onIntK_iv (onCons_cons (onIntK_iv (onCons_cons (onIntK_iv (onNil_nil (hR))))))))))))
theorem cell_20 {x y z : Int} (h : -2000 ≤ x ∧ x ≤ 2000 ∧ -2000 ≤ y ∧ y ≤ 2000 ∧ -2000 ≤ z ∧ z ≤ 2000) {R : V → Prop} (hR : R (V.agg [iv (-z), iv (-x), iv (y)])) : K0G Tryz.prog glX 36 [ch20, V.agg [iv x, iv y, iv z]] R := by
  refine K0_by hmX hcT 100 Tryz.func36 (p := R (V.agg [iv (IntKind.i64.wrap ((0 : Int) - IntKind.i64.wrap ((0 : Int) - IntKind.i64.wrap ((0 : Int) - z)))), iv (IntKind.i64.wrap ((0 : Int) - x)), iv y])) (by kernel_rfl) ?_
  simp only [wn (v := x) (by omega), wn (v := y) (by omega), wn (v := z) (by omega), wp (v := x) (by omega), wp (v := y) (by omega), wp (v := z) (by omega)]
  exact hR
theorem eq_20 (x y z : Int) (R : V → Prop) : (K0G Tryz.prog glX 55 [V.agg [iv x, iv y, iv z], iv (-2000 : Int), iv (2000 : Int)] fun v => onBool v fun b => ifB (!b) (R (V.tup [V.agg [iv (0 : Int), iv (0 : Int), iv (0 : Int)], iv (2 : Int)])) (K0G Tryz.prog glX 36 [V.agg [V.fn (Fn.func (57 : FuncId)) [] [], iv (0 : Int), V.fn (Fn.func (56 : FuncId)) [] [], iv (1 : Int), V.fn (Fn.func (57 : FuncId)) [] [], iv (3 : Int)], V.agg [iv x, iv y, iv z]] fun v => onAgg v fun cs => onCons cs fun u r => onIntK IntKind.i64 u fun n => onCons r fun u r => onIntK IntKind.i64 u fun n_1 => onCons r fun u r => onIntK IntKind.i64 u fun n_2 => onNil r (R (V.tup [V.agg [iv n, iv n_1, iv n_2], iv (0 : Int)])))) = WY0 Tryz.prog cfU 100 26 Tryz.f26 [V.agg [iv x, iv y, iv z], iv 20] R := by kernel_rfl
theorem turn_20 {x y z : Int} (h : -2000 ≤ x ∧ x ≤ 2000 ∧ -2000 ≤ y ∧ y ≤ 2000 ∧ -2000 ≤ z ∧ z ≤ 2000) {R : V → Prop} (hR : R (V.tup [V.agg [iv (-z), iv (-x), iv (y)], iv 0])) : K0G Tryz.prog glX 26 [V.agg [iv x, iv y, iv z], iv 20] R := by
  refine K0_by hmX hcU 100 Tryz.func26 (eq_20 x y z R) ?_
  exact in55 h (onBool_bv (ifB_f rfl (cell_20 h (onAgg_agg (onCons_cons (onIntK_iv (onCons_cons (onIntK_iv (onCons_cons (onIntK_iv (onNil_nil (hR))))))))))))
theorem cell_21 {x y z : Int} (h : -2000 ≤ x ∧ x ≤ 2000 ∧ -2000 ≤ y ∧ y ≤ 2000 ∧ -2000 ≤ z ∧ z ≤ 2000) {R : V → Prop} (hR : R (V.agg [iv (-z), iv (y), iv (x)])) : K0G Tryz.prog glX 36 [ch21, V.agg [iv x, iv y, iv z]] R := by
  refine K0_by hmX hcT 100 Tryz.func36 (p := R (V.agg [iv (IntKind.i64.wrap ((0 : Int) - IntKind.i64.wrap ((0 : Int) - IntKind.i64.wrap ((0 : Int) - z)))), iv (IntKind.i64.wrap ((0 : Int) - IntKind.i64.wrap ((0 : Int) - y))), iv x])) (by kernel_rfl) ?_
  simp only [wn (v := x) (by omega), wn (v := y) (by omega), wn (v := z) (by omega), wp (v := x) (by omega), wp (v := y) (by omega), wp (v := z) (by omega)]
  exact hR
theorem eq_21 (x y z : Int) (R : V → Prop) : (K0G Tryz.prog glX 55 [V.agg [iv x, iv y, iv z], iv (-2000 : Int), iv (2000 : Int)] fun v => onBool v fun b => ifB (!b) (R (V.tup [V.agg [iv (0 : Int), iv (0 : Int), iv (0 : Int)], iv (2 : Int)])) (K0G Tryz.prog glX 36 [V.agg [V.fn (Fn.func (57 : FuncId)) [] [], iv (1 : Int), V.fn (Fn.func (56 : FuncId)) [] [], iv (1 : Int), V.fn (Fn.func (57 : FuncId)) [] [], iv (3 : Int)], V.agg [iv x, iv y, iv z]] fun v => onAgg v fun cs => onCons cs fun u r => onIntK IntKind.i64 u fun n => onCons r fun u r => onIntK IntKind.i64 u fun n_1 => onCons r fun u r => onIntK IntKind.i64 u fun n_2 => onNil r (R (V.tup [V.agg [iv n, iv n_1, iv n_2], iv (0 : Int)])))) = WY0 Tryz.prog cfU 100 26 Tryz.f26 [V.agg [iv x, iv y, iv z], iv 21] R := by kernel_rfl
theorem turn_21 {x y z : Int} (h : -2000 ≤ x ∧ x ≤ 2000 ∧ -2000 ≤ y ∧ y ≤ 2000 ∧ -2000 ≤ z ∧ z ≤ 2000) {R : V → Prop} (hR : R (V.tup [V.agg [iv (-z), iv (y), iv (x)], iv 0])) : K0G Tryz.prog glX 26 [V.agg [iv x, iv y, iv z], iv 21] R := by
  refine K0_by hmX hcU 100 Tryz.func26 (eq_21 x y z R) ?_
  exact in55 h (onBool_bv (ifB_f rfl (cell_21 h (onAgg_agg (onCons_cons (onIntK_iv (onCons_cons (onIntK_iv (onCons_cons (onIntK_iv (onNil_nil (hR))))))))))))
theorem cell_22 {x y z : Int} (h : -2000 ≤ x ∧ x ≤ 2000 ∧ -2000 ≤ y ∧ y ≤ 2000 ∧ -2000 ≤ z ∧ z ≤ 2000) {R : V → Prop} (hR : R (V.agg [iv (-z), iv (x), iv (-y)])) : K0G Tryz.prog glX 36 [ch22, V.agg [iv x, iv y, iv z]] R := by
  refine K0_by hmX hcT 100 Tryz.func36 (p := R (V.agg [iv (IntKind.i64.wrap ((0 : Int) - IntKind.i64.wrap ((0 : Int) - IntKind.i64.wrap ((0 : Int) - z)))), iv (IntKind.i64.wrap ((0 : Int) - IntKind.i64.wrap ((0 : Int) - x))), iv (IntKind.i64.wrap ((0 : Int) - y))])) (by kernel_rfl) ?_
  simp only [wn (v := x) (by omega), wn (v := y) (by omega), wn (v := z) (by omega), wp (v := x) (by omega), wp (v := y) (by omega), wp (v := z) (by omega)]
  exact hR
theorem eq_22 (x y z : Int) (R : V → Prop) : (K0G Tryz.prog glX 55 [V.agg [iv x, iv y, iv z], iv (-2000 : Int), iv (2000 : Int)] fun v => onBool v fun b => ifB (!b) (R (V.tup [V.agg [iv (0 : Int), iv (0 : Int), iv (0 : Int)], iv (2 : Int)])) (K0G Tryz.prog glX 36 [V.agg [V.fn (Fn.func (57 : FuncId)) [] [], iv (2 : Int), V.fn (Fn.func (56 : FuncId)) [] [], iv (1 : Int), V.fn (Fn.func (57 : FuncId)) [] [], iv (3 : Int)], V.agg [iv x, iv y, iv z]] fun v => onAgg v fun cs => onCons cs fun u r => onIntK IntKind.i64 u fun n => onCons r fun u r => onIntK IntKind.i64 u fun n_1 => onCons r fun u r => onIntK IntKind.i64 u fun n_2 => onNil r (R (V.tup [V.agg [iv n, iv n_1, iv n_2], iv (0 : Int)])))) = WY0 Tryz.prog cfU 100 26 Tryz.f26 [V.agg [iv x, iv y, iv z], iv 22] R := by kernel_rfl
theorem turn_22 {x y z : Int} (h : -2000 ≤ x ∧ x ≤ 2000 ∧ -2000 ≤ y ∧ y ≤ 2000 ∧ -2000 ≤ z ∧ z ≤ 2000) {R : V → Prop} (hR : R (V.tup [V.agg [iv (-z), iv (x), iv (-y)], iv 0])) : K0G Tryz.prog glX 26 [V.agg [iv x, iv y, iv z], iv 22] R := by
  refine K0_by hmX hcU 100 Tryz.func26 (eq_22 x y z R) ?_
  exact in55 h (onBool_bv (ifB_f rfl (cell_22 h (onAgg_agg (onCons_cons (onIntK_iv (onCons_cons (onIntK_iv (onCons_cons (onIntK_iv (onNil_nil (hR))))))))))))
theorem cell_23 {x y z : Int} (h : -2000 ≤ x ∧ x ≤ 2000 ∧ -2000 ≤ y ∧ y ≤ 2000 ∧ -2000 ≤ z ∧ z ≤ 2000) {R : V → Prop} (hR : R (V.agg [iv (-z), iv (-y), iv (-x)])) : K0G Tryz.prog glX 36 [ch23, V.agg [iv x, iv y, iv z]] R := by
  refine K0_by hmX hcT 100 Tryz.func36 (p := R (V.agg [iv (IntKind.i64.wrap ((0 : Int) - IntKind.i64.wrap ((0 : Int) - IntKind.i64.wrap ((0 : Int) - z)))), iv (IntKind.i64.wrap ((0 : Int) - IntKind.i64.wrap ((0 : Int) - IntKind.i64.wrap ((0 : Int) - y)))), iv (IntKind.i64.wrap ((0 : Int) - x))])) (by kernel_rfl) ?_
  simp only [wn (v := x) (by omega), wn (v := y) (by omega), wn (v := z) (by omega), wp (v := x) (by omega), wp (v := y) (by omega), wp (v := z) (by omega)]
  exact hR
theorem eq_23 (x y z : Int) (R : V → Prop) : (K0G Tryz.prog glX 55 [V.agg [iv x, iv y, iv z], iv (-2000 : Int), iv (2000 : Int)] fun v => onBool v fun b => ifB (!b) (R (V.tup [V.agg [iv (0 : Int), iv (0 : Int), iv (0 : Int)], iv (2 : Int)])) (K0G Tryz.prog glX 36 [V.agg [V.fn (Fn.func (57 : FuncId)) [] [], iv (3 : Int), V.fn (Fn.func (56 : FuncId)) [] [], iv (1 : Int), V.fn (Fn.func (57 : FuncId)) [] [], iv (3 : Int)], V.agg [iv x, iv y, iv z]] fun v => onAgg v fun cs => onCons cs fun u r => onIntK IntKind.i64 u fun n => onCons r fun u r => onIntK IntKind.i64 u fun n_1 => onCons r fun u r => onIntK IntKind.i64 u fun n_2 => onNil r (R (V.tup [V.agg [iv n, iv n_1, iv n_2], iv (0 : Int)])))) = WY0 Tryz.prog cfU 100 26 Tryz.f26 [V.agg [iv x, iv y, iv z], iv 23] R := by kernel_rfl
theorem turn_23 {x y z : Int} (h : -2000 ≤ x ∧ x ≤ 2000 ∧ -2000 ≤ y ∧ y ≤ 2000 ∧ -2000 ≤ z ∧ z ≤ 2000) {R : V → Prop} (hR : R (V.tup [V.agg [iv (-z), iv (-y), iv (-x)], iv 0])) : K0G Tryz.prog glX 26 [V.agg [iv x, iv y, iv z], iv 23] R := by
  refine K0_by hmX hcU 100 Tryz.func26 (eq_23 x y z R) ?_
  exact in55 h (onBool_bv (ifB_f rfl (cell_23 h (onAgg_agg (onCons_cons (onIntK_iv (onCons_cons (onIntK_iv (onCons_cons (onIntK_iv (onNil_nil (hR))))))))))))
end Go.Proofs.YtdecfbnmioagjaaGreatDoor
