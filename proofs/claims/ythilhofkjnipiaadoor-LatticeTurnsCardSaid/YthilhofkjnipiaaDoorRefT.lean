/- The turns of the specification's package, walked. -/
import Derived.Test.YthilhofkjnipiaaDoorWays
import Derived.Deep.DeepCutAuto
namespace Go.Proofs.YthilhofkjnipiaaDoor
open Go.RowKit

theorem refWithin_any (n lo hi : Int) (w : World) : Calls Tryd.prog 33 #[.int .i64 n, .int .i64 lo, .int .i64 hi] w fun e w' => e = .returned (.bool (inB n lo hi)) ∧ w = w' := by
  by_cases h : lo ≤ n
  · have h1 : decide (lo ≤ n) = true := by simpa using h
    go_enter Tryd.func33, Tryd.ntmps33
    go_wp2
    go_ret
    exact ⟨by simp [inB, h], rfl⟩
  · have h1 : decide (lo ≤ n) = false := by simpa using h
    generalize hI : inB n lo hi = I
    obtain rfl : I = false := by rw [← hI]; simp [inB, h1]
    clear hI
    go_enter Tryd.func33, Tryd.ntmps33
    go_wp2
    go_ret
    exact ⟨rfl, rfl⟩
theorem refIsTurn_any (n : Int) (w : World) : Calls Tryd.prog 29 #[.int .i64 n] w fun e w' => e = .returned (.bool (inB n 0 23)) ∧ w = w' := by
  go_enter Tryd.func29, Tryd.ntmps29
  go_wp2_with (go_at_call 33; refine (refWithin_any _ _ _ _).mono ?_; rintro e w' ⟨rfl, rfl⟩)
  go_ret
  exact ⟨rfl, rfl⟩

set_option maxHeartbeats 1000000 in
theorem refNear_any (c : Cell) (lo hi : Int) (w : World) : Calls Tryd.prog 28 #[.agg #[.int .i64 c.1, .int .i64 c.2.1, .int .i64 c.2.2], .int .i64 lo, .int .i64 hi] w fun e w' => e = .returned (.bool (near c lo hi)) ∧ Below w.heap.size w w' := by
  generalize hR : near c lo hi = R
  have HR := Lib.hid hR; clear hR
  by_cases h1 : inB c.1 lo hi = true
  · by_cases h2 : inB c.2.1 lo hi = true
    · go_enter Tryd.func28, Tryd.ntmps28
      go_wp2_with (go_at_call 33; refine (refWithin_any _ _ _ _).mono ?_; rintro e w' ⟨rfl, rfl⟩)
      go_ret
      exact ⟨by rw [← HR.out]; simp [near, h1, h2], (Below.refl _ _).alloc (Nat.le_refl _) _⟩
    · have h2 : inB c.2.1 lo hi = false := by simpa using h2
      go_enter Tryd.func28, Tryd.ntmps28
      go_wp2_with (go_at_call 33; refine (refWithin_any _ _ _ _).mono ?_; rintro e w' ⟨rfl, rfl⟩)
      go_ret
      exact ⟨by rw [← HR.out]; simp [near, h1, h2], (Below.refl _ _).alloc (Nat.le_refl _) _⟩
  · have h1 : inB c.1 lo hi = false := by simpa using h1
    go_enter Tryd.func28, Tryd.ntmps28
    go_wp2_with (go_at_call 33; refine (refWithin_any _ _ _ _).mono ?_; rintro e w' ⟨rfl, rfl⟩)
    go_ret
    exact ⟨by rw [← HR.out]; simp [near, h1], (Below.refl _ _).alloc (Nat.le_refl _) _⟩

set_option maxHeartbeats 2000000 in
theorem refAboutX_any (t : Nat) (c : Cell) (w : World) (hc : Bd c) (ht : t ≤ 3) : Calls Tryd.prog 55 #[.agg #[.int .i64 c.1, .int .i64 c.2.1, .int .i64 c.2.2], .int .i64 t] w fun e w' =>
    e = .returned (.agg #[.int .i64 (rots 1 t c).1, .int .i64 (rots 1 t c).2.1, .int .i64 (rots 1 t c).2.2]) ∧ Below w.heap.size w w' := by
  generalize hA : (fun j => rots 1 j c) = A
  have hA0 : A 0 = c := by rw [← hA]; rfl
  have hAs : ∀ j, A (j + 1) = rot 1 (A j) := by intro j; rw [← hA]; rfl
  have hAb : ∀ j, Bd (A j) := by intro j; rw [← hA]; exact rots_bd 1 j c hc
  have hAt : rots 1 t c = A t := by rw [← hA]
  rw [hAt]
  have HA0 := Lib.hid hA0
  have HAs := Lib.hid hAs
  have HAb := Lib.hid hAb
  clear hA hA0 hAs hAb hAt
  go_enter Tryd.func55, Tryd.ntmps55
  go_wp2
  go_loopw [5] (fun i wr => ∃ j : Nat, j ≤ t ∧ i = .int .i64 j ∧ CellIn wr w.heap.size (A j) ∧ CellIn wr (w.heap.size + 1) (0, 0, 0) ∧ Below w.heap.size w wr) (fun i _ => t - (intOf i).toNat)
  case atStart => exact ⟨0, by omega, rfl, by rw [HA0.out]; exact (Blk.at_ _ _ _ _ rfl).alloc _, Blk.at_ _ _ _ _ (by simp), ((Below.refl _ _).alloc (Nat.le_refl _) _).alloc (by simp) _⟩
  case round =>
    obtain ⟨j, hj, rfl, hI, hR, hB⟩ := hrel
    obtain ⟨i1, i2, i3, i4, i5, i6, i7⟩ := Blk.three hI
    obtain ⟨r1, r2, r3, r4, r5, r6, r7⟩ := Blk.three hR
    have hbd := HAb.out j
    obtain ⟨p1, p2, p3, p4, p5, p6⟩ := hbd
    by_cases hlt : j < t
    · have hltb : decide ((j : Int) < (t : Int)) = true := by simp; omega
      go_wp2
      go_roundw
      case rel => exact ⟨j + 1, by omega, by go_num, by rw [HAs.out]; exact cell_set3 hI (rot 1 (A j)), cell_set3_far hR (by simp) (rot 1 (A j)), below_set3 hB (Nat.le_refl _) (rot 1 (A j))⟩
      case measure => simp [intOf]; omega
    · have hltb : decide ((j : Int) < (t : Int)) = false := by simp; omega
      have hje : j = t := by omega
      subst hje
      go_wp2
      obtain ⟨f1, f2, f3, _⟩ := Blk.three (cell_set3 hR (A j))
      exact bodyPost_ret (v := .agg #[.int .i64 (A j).1, .int .i64 (A j).2.1, .int .i64 (A j).2.2]) (by simp [results, Tryd.results55, go_sem, f1, f2, f3]) rfl ⟨rfl, below_set3 hB (by omega) (A j)⟩

set_option maxHeartbeats 2000000 in
theorem refAboutZ_any (t : Nat) (c : Cell) (w : World) (hc : Bd c) (ht : t ≤ 3) : Calls Tryd.prog 54 #[.agg #[.int .i64 c.1, .int .i64 c.2.1, .int .i64 c.2.2], .int .i64 t] w fun e w' =>
    e = .returned (.agg #[.int .i64 (rots 2 t c).1, .int .i64 (rots 2 t c).2.1, .int .i64 (rots 2 t c).2.2]) ∧ Below w.heap.size w w' := by
  generalize hA : (fun j => rots 2 j c) = A
  have hA0 : A 0 = c := by rw [← hA]; rfl
  have hAs : ∀ j, A (j + 1) = rot 2 (A j) := by intro j; rw [← hA]; rfl
  have hAb : ∀ j, Bd (A j) := by intro j; rw [← hA]; exact rots_bd 2 j c hc
  have hAt : rots 2 t c = A t := by rw [← hA]
  rw [hAt]
  have HA0 := Lib.hid hA0
  have HAs := Lib.hid hAs
  have HAb := Lib.hid hAb
  clear hA hA0 hAs hAb hAt
  go_enter Tryd.func54, Tryd.ntmps54
  go_wp2
  go_loopw [5] (fun i wr => ∃ j : Nat, j ≤ t ∧ i = .int .i64 j ∧ CellIn wr w.heap.size (A j) ∧ CellIn wr (w.heap.size + 1) (0, 0, 0) ∧ Below w.heap.size w wr) (fun i _ => t - (intOf i).toNat)
  case atStart => exact ⟨0, by omega, rfl, by rw [HA0.out]; exact (Blk.at_ _ _ _ _ rfl).alloc _, Blk.at_ _ _ _ _ (by simp), ((Below.refl _ _).alloc (Nat.le_refl _) _).alloc (by simp) _⟩
  case round =>
    obtain ⟨j, hj, rfl, hI, hR, hB⟩ := hrel
    obtain ⟨i1, i2, i3, i4, i5, i6, i7⟩ := Blk.three hI
    obtain ⟨r1, r2, r3, r4, r5, r6, r7⟩ := Blk.three hR
    have hbd := HAb.out j
    obtain ⟨p1, p2, p3, p4, p5, p6⟩ := hbd
    by_cases hlt : j < t
    · have hltb : decide ((j : Int) < (t : Int)) = true := by simp; omega
      go_wp2
      go_roundw
      case rel => exact ⟨j + 1, by omega, by go_num, by rw [HAs.out]; exact cell_set3 hI (rot 2 (A j)), cell_set3_far hR (by simp) (rot 2 (A j)), below_set3 hB (Nat.le_refl _) (rot 2 (A j))⟩
      case measure => simp [intOf]; omega
    · have hltb : decide ((j : Int) < (t : Int)) = false := by simp; omega
      have hje : j = t := by omega
      subst hje
      go_wp2
      obtain ⟨f1, f2, f3, _⟩ := Blk.three (cell_set3 hR (A j))
      exact bodyPost_ret (v := .agg #[.int .i64 (A j).1, .int .i64 (A j).2.1, .int .i64 (A j).2.2]) (by simp [results, Tryd.results54, go_sem, f1, f2, f3]) rfl ⟨rfl, below_set3 hB (by omega) (A j)⟩
end Go.Proofs.YthilhofkjnipiaaDoor
