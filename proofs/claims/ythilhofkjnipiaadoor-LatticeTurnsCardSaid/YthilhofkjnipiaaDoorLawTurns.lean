/- LatticeTurns, walked: whatever the cell, the direction and the turns, the law returns true, if the package's table of steps holds its literal. -/
import Derived.Test.YthilhofkjnipiaaDoorRefW
namespace Go.Proofs.YthilhofkjnipiaaDoor
open Go.RowKit

theorem composed_same : ∀ a, a < 24 → ∀ b, b < 24 → composed a b = composedR a b := by decide +kernel
theorem inverse_same : ∀ a, a < 24 → inverse a = refInverse a := by decide +kernel
theorem compC_same (a b : Int) : compC a b = compR a b := by
  unfold compC compR
  by_cases h : inB a 0 23 = true ∧ inB b 0 23 = true
  · rw [if_pos h, if_pos h, composed_same _ (by have := inB_true.1 h.1; omega) _ (by have := inB_true.1 h.2; omega)]
  · rw [if_neg h, if_neg h]
theorem invC_same (a : Int) : invC a = invR a := by
  unfold invC invR
  by_cases h : inB a 0 23 = true
  · rw [if_pos h, if_pos h, inverse_same _ (by have := inB_true.1 h; omega)]
  · rw [if_neg h, if_neg h]
theorem same_self (c : Cell) : same c c = true := by simp [same]

set_option maxHeartbeats 4000000 in
theorem lawTurns_any (c : Cell) (d a b : Int) (w : World) (hs : StepsIn w) : Calls Tryd.prog 3 #[.agg #[.int .i64 c.1, .int .i64 c.2.1, .int .i64 c.2.2], .int .i64 d, .int .i64 a, .int .i64 b] w fun e w' => e = .returned (.bool true) ∧ Below w.heap.size w w' := by
  have HS := Lib.hid hs; clear hs
  have t1 := fun W => Turn_any c a W
  have t2 := fun W => refTurn_any c a W
  have d1 := fun W h => Direction_any d a W h
  have d2 := fun W => refDirection_any d a W
  have c1 := fun W => Compose_any a b W
  have c2 := fun W => refCompose_any a b W
  have i1 := fun W => Invert_any a W
  have i2 := fun W => refInvert_any a W
  rw [← compC_same] at c2
  rw [← invC_same] at i2
  generalize turnC c a = x at *
  generalize turnE c a = ex at *
  generalize dirC d a = y at *
  generalize dirE d a = ey at *
  generalize compC a b = z at *
  generalize compE a b = ez at *
  generalize invC a = v at *
  generalize invE a = ev at *
  have T1 := Lib.hid t1; clear t1
  have T2 := Lib.hid t2; clear t2
  have D1 := Lib.hid d1; clear d1
  have D2 := Lib.hid d2; clear d2
  have C1 := Lib.hid c1; clear c1
  have C2 := Lib.hid c2; clear c2
  have I1 := Lib.hid i1; clear i1
  have I2 := Lib.hid i2; clear i2
  have n1 := neqCell x x
  have n2 := fun o1 o2 => guardCell .neq o1 o2 x x
  have n3 := same_self x
  go_enter Tryd.func3, Tryd.ntmps3
  go_wp2_with fail
  refine (T1.out _).mono ?_
  rintro e w1 ⟨rfl, k1⟩
  have kB : Below w.heap.size w w1 := ((Below.refl _ _).alloc (Nat.le_refl _) _).trans (k1.mono (by simp))
  have kC : CellIn w1 w.heap.size c := Blk.below (Blk.at_ _ _ _ _ rfl) k1 (by simp)
  clear k1
  obtain ⟨q1, q2, q3, _, _, _, q4⟩ := Blk.three kC
  go_wp2_with fail
  refine (T2.out _).mono ?_
  rintro e w2 ⟨rfl, k2⟩
  have kB2 : Below w.heap.size w w2 := (kB.alloc kB.size _).trans (k2.mono (by simp; have := kB.size; omega))
  have kX : CellIn w2 w1.heap.size x := Blk.below (Blk.at_ _ _ _ _ rfl) k2 (by simp)
  clear q1 q2 q3 q4 kC kB k2
  obtain ⟨q1, q2, q3, _, _, _, q4⟩ := Blk.three kX
  go_wp2_with fail
  have kB3 : Below w.heap.size w (w2.alloc (.cells #[.int .i64 x.1, .int .i64 x.2.1, .int .i64 x.2.2] 23)) := kB2.alloc kB2.size _
  refine (D1.out _ (HS.out.below kB3)).mono ?_
  rintro e w3 ⟨rfl, k3⟩
  have kB4 := bthen kB3 k3
  clear q1 q2 q3 q4 kX kB2 kB3 k3
  go_wp2_with fail
  refine (D2.out _).mono ?_
  rintro e w4 ⟨rfl, k4⟩
  have kB5 := bthen kB4 k4
  clear kB4 k4
  go_wp2_with fail
  refine (C1.out _).mono ?_
  rintro e w5 ⟨rfl, k5⟩
  have kB6 := bthen kB5 k5
  clear kB5 k5
  go_wp2_with fail
  refine (C2.out _).mono ?_
  rintro e w6 ⟨rfl, k6⟩
  have kB7 := bthen kB6 k6
  clear kB6 k6
  go_wp2_with fail
  refine (I1.out _).mono ?_
  rintro e w7 ⟨rfl, k7⟩
  have kB8 := bthen kB7 k7
  clear kB7 k7
  go_wp2_with fail
  refine (I2.out _).mono ?_
  rintro e w8 ⟨rfl, k8⟩
  have kB9 := bthen kB8 k8
  clear kB8 k8
  go_wp2
  go_ret
  exact ⟨rfl, kB9⟩
end Go.Proofs.YthilhofkjnipiaaDoor
