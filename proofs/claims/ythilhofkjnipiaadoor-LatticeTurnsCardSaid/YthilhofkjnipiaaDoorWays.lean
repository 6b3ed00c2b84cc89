/- The exported turns of package lattice, walked. -/
import Derived.Test.YthilhofkjnipiaaDoorLat
import Derived.BigQuiet
import Derived.Deep.RegionWith
namespace Go.Proofs.YthilhofkjnipiaaDoor
open Go.RowKit

theorem undrewB {B : Nat} {w w' : World} (h : Below B w.drew w') : Below B w w' := ((Below.refl B w).drew).trans h
theorem bthen {w w1 w2 : World} (h : Below w.heap.size w w1) (k : Below w1.heap.size w1 w2) : Below w.heap.size w w2 := h.trans (k.mono h.size)

theorem CellIn.below {W W' : World} {g : Nat} {c : Cell} (h : CellIn W g c) (hb : Below W.heap.size W W') : CellIn W' g c := Blk.below h hb (Blk.lt h)
theorem cell_set3 {W : World} {g : Nat} {c : Cell} (h : CellIn W g c) (d : Cell) : CellIn (((W.setCell ⟨g, 0, none⟩ (.int .i64 d.1)).setCell ⟨g, 1, none⟩ (.int .i64 d.2.1)).setCell ⟨g, 2, none⟩ (.int .i64 d.2.2)) g d :=
  ((Blk.set_ h 0 (.int .i64 d.1)).set_ 1 (.int .i64 d.2.1)).set_ 2 (.int .i64 d.2.2)
theorem below_set3 {w W : World} {g B : Nat} (h : Below B w W) (hg : B ≤ g) (d : Cell) : Below B w (((W.setCell ⟨g, 0, none⟩ (.int .i64 d.1)).setCell ⟨g, 1, none⟩ (.int .i64 d.2.1)).setCell ⟨g, 2, none⟩ (.int .i64 d.2.2)) :=
  ((h.setCell (p := ⟨g, 0, none⟩) hg _).setCell (p := ⟨g, 1, none⟩) hg _).setCell (p := ⟨g, 2, none⟩) hg _
theorem cell_set3_far {W : World} {g g' : Nat} {c : Cell} (h : CellIn W g c) (hne : g ≠ g') (d : Cell) : CellIn (((W.setCell ⟨g', 0, none⟩ (.int .i64 d.1)).setCell ⟨g', 1, none⟩ (.int .i64 d.2.1)).setCell ⟨g', 2, none⟩ (.int .i64 d.2.2)) g c :=
  ((Blk.far h (p := ⟨g', 0, none⟩) hne _).far (p := ⟨g', 1, none⟩) hne _).far (p := ⟨g', 2, none⟩) hne _

/-- Whether a number is in a range. -/
def inB (n lo hi : Int) : Bool := decide (lo ≤ n) && decide (n ≤ hi)
theorem inB_true {n lo hi : Int} : inB n lo hi = true ↔ lo ≤ n ∧ n ≤ hi := by simp [inB]
theorem inB_false {n lo hi : Int} : inB n lo hi = false ↔ ¬ (lo ≤ n ∧ n ≤ hi) := by rw [← inB_true]; simp
def near (c : Cell) (lo hi : Int) : Bool := inB c.1 lo hi && (inB c.2.1 lo hi && inB c.2.2 lo hi)

theorem within_any (n lo hi : Int) (w : World) : Calls Tryd.prog 51 #[.int .i64 n, .int .i64 lo, .int .i64 hi] w fun e w' => e = .returned (.bool (inB n lo hi)) ∧ w = w' := by
  by_cases h : lo ≤ n
  · have h1 : decide (lo ≤ n) = true := by simpa using h
    go_enter Tryd.func51, Tryd.ntmps51
    go_wp2
    go_ret
    exact ⟨by simp [inB, h], rfl⟩
  · have h1 : decide (lo ≤ n) = false := by simpa using h
    generalize hI : inB n lo hi = I
    obtain rfl : I = false := by rw [← hI]; simp [inB, h1]
    clear hI
    go_enter Tryd.func51, Tryd.ntmps51
    go_wp2
    go_ret
    exact ⟨rfl, rfl⟩

theorem isTurn_any (n : Int) (w : World) : Calls Tryd.prog 24 #[.int .i64 n] w fun e w' => e = .returned (.bool (inB n 0 23)) ∧ w = w' := by
  go_enter Tryd.func24, Tryd.ntmps24
  go_wp2_with (go_at_call 51; refine (within_any _ _ _ _).mono ?_; rintro e w' ⟨rfl, rfl⟩)
  go_ret
  exact ⟨rfl, rfl⟩
theorem isDirection_any (n : Int) (w : World) : Calls Tryd.prog 31 #[.int .i64 n] w fun e w' => e = .returned (.bool (inB n 0 5)) ∧ w = w' := by
  go_enter Tryd.func31, Tryd.ntmps31
  go_wp2_with (go_at_call 51; refine (within_any _ _ _ _).mono ?_; rintro e w' ⟨rfl, rfl⟩)
  go_ret
  exact ⟨rfl, rfl⟩

set_option maxHeartbeats 1000000 in
theorem cellWithin_any (c : Cell) (lo hi : Int) (w : World) : Calls Tryd.prog 25 #[.agg #[.int .i64 c.1, .int .i64 c.2.1, .int .i64 c.2.2], .int .i64 lo, .int .i64 hi] w fun e w' => e = .returned (.bool (near c lo hi)) ∧ Below w.heap.size w w' := by
  generalize hR : near c lo hi = R
  have HR := Lib.hid hR; clear hR
  by_cases h1 : inB c.1 lo hi = true
  · by_cases h2 : inB c.2.1 lo hi = true
    · go_enter Tryd.func25, Tryd.ntmps25
      go_wp2_with (go_at_call 51; refine (within_any _ _ _ _).mono ?_; rintro e w' ⟨rfl, rfl⟩)
      go_ret
      exact ⟨by rw [← HR.out]; simp [near, h1, h2], (Below.refl _ _).alloc (Nat.le_refl _) _⟩
    · have h2 : inB c.2.1 lo hi = false := by simpa using h2
      go_enter Tryd.func25, Tryd.ntmps25
      go_wp2_with (go_at_call 51; refine (within_any _ _ _ _).mono ?_; rintro e w' ⟨rfl, rfl⟩)
      go_ret
      exact ⟨by rw [← HR.out]; simp [near, h1, h2], (Below.refl _ _).alloc (Nat.le_refl _) _⟩
  · have h1 : inB c.1 lo hi = false := by simpa using h1
    go_enter Tryd.func25, Tryd.ntmps25
    go_wp2_with (go_at_call 51; refine (within_any _ _ _ _).mono ?_; rintro e w' ⟨rfl, rfl⟩)
    go_ret
    exact ⟨by rw [← HR.out]; simp [near, h1], (Below.refl _ _).alloc (Nat.le_refl _) _⟩

/-- Turn: what it returns. -/
def turnC (c : Cell) (n : Int) : Cell := if inB n 0 23 = true ∧ near c (-2000) 2000 = true then turned n.toNat c else (0, 0, 0)
def turnE (c : Cell) (n : Int) : Int := if inB n 0 23 = true ∧ near c (-2000) 2000 = true then 0 else 2
theorem near_bd {c : Cell} (h : near c (-2000) 2000 = true) : Bd c := by
  simp only [near, Bool.and_eq_true, inB_true] at h
  unfold Bd
  omega

/-- What a call that has one cell and lays one result keeps. -/
theorem cr_kept {W W' : World} {B : Nat} {c : Cell} {w : World} (hb : Below W.heap.size W W') (h1 : Below B w W) (h2 : CellIn W B c) (h3 : CellIn W (B + 1) (0, 0, 0)) (hB : B ≤ w.heap.size) :
    W'.cell? ⟨B, 0, none⟩ = some (.int .i64 c.1) ∧ W'.cell? ⟨B, 1, none⟩ = some (.int .i64 c.2.1) ∧ W'.cell? ⟨B, 2, none⟩ = some (.int .i64 c.2.2) ∧ W'.cell? ⟨B + 1, 0, none⟩ = some (.int .i64 0) ∧ W'.cell? ⟨B + 1, 1, none⟩ = some (.int .i64 0) ∧ W'.cell? ⟨B + 1, 2, none⟩ = some (.int .i64 0) ∧ W'.frozen? ⟨B + 1, 0, none⟩ = false ∧ W'.frozen? ⟨B + 1, 1, none⟩ = false ∧ W'.frozen? ⟨B + 1, 2, none⟩ = false ∧ Below B w W' ∧ CellIn W' B c ∧ CellIn W' (B + 1) (0, 0, 0) := by
  have a := Blk.below h2 hb (Blk.lt h2)
  have b := Blk.below h3 hb (Blk.lt h3)
  obtain ⟨a1, a2, a3, _⟩ := Blk.three a
  obtain ⟨b1, b2, b3, b4, b5, b6, _⟩ := Blk.three b
  exact ⟨a1, a2, a3, b1, b2, b3, b4, b5, b6, h1.trans (hb.mono (by have := h1.size; omega)), a, b⟩
theorem cr_drew {W : World} {B : Nat} {c : Cell} {w : World} (h1 : Below B w W) (h2 : CellIn W B c) (h3 : CellIn W (B + 1) (0, 0, 0)) (hB : B ≤ w.heap.size) :
    W.drew.cell? ⟨B, 0, none⟩ = some (.int .i64 c.1) ∧ W.drew.cell? ⟨B, 1, none⟩ = some (.int .i64 c.2.1) ∧ W.drew.cell? ⟨B, 2, none⟩ = some (.int .i64 c.2.2) ∧ W.drew.cell? ⟨B + 1, 0, none⟩ = some (.int .i64 0) ∧ W.drew.cell? ⟨B + 1, 1, none⟩ = some (.int .i64 0) ∧ W.drew.cell? ⟨B + 1, 2, none⟩ = some (.int .i64 0) ∧ W.drew.frozen? ⟨B + 1, 0, none⟩ = false ∧ W.drew.frozen? ⟨B + 1, 1, none⟩ = false ∧ W.drew.frozen? ⟨B + 1, 2, none⟩ = false ∧ Below B w W.drew ∧ CellIn W.drew B c ∧ CellIn W.drew (B + 1) (0, 0, 0) :=
  cr_kept ((Below.refl _ _).drew) h1 h2 h3 hB

theorem turnC_yes {c : Cell} {n : Int} (h1 : inB n 0 23 = true) (h2 : near c (-2000) 2000 = true) : turnC c n = turned n.toNat c := if_pos ⟨h1, h2⟩
theorem turnE_yes {c : Cell} {n : Int} (h1 : inB n 0 23 = true) (h2 : near c (-2000) 2000 = true) : turnE c n = 0 := if_pos ⟨h1, h2⟩
theorem turnC_no {c : Cell} {n : Int} (h : ¬ (inB n 0 23 = true ∧ near c (-2000) 2000 = true)) : turnC c n = (0, 0, 0) := if_neg h
theorem turnE_no {c : Cell} {n : Int} (h : ¬ (inB n 0 23 = true ∧ near c (-2000) 2000 = true)) : turnE c n = 2 := if_neg h

set_option maxHeartbeats 2000000 in
theorem Turn_yes (c : Cell) (n : Int) (w : World) (h1 : inB n 0 23 = true) (h2 : near c (-2000) 2000 = true) : Calls Tryd.prog 5 #[.agg #[.int .i64 c.1, .int .i64 c.2.1, .int .i64 c.2.2], .int .i64 n] w fun e w' => e = .returned (.tuple #[.agg #[.int .i64 (turned n.toNat c).1, .int .i64 (turned n.toNat c).2.1, .int .i64 (turned n.toNat c).2.2], .int .i64 0]) ∧ Below w.heap.size w w' := by
  have hn := inB_true.1 h1
  generalize hR : turned n.toNat c = R
  have HR := Lib.hid hR
  clear hR
  go_enter Tryd.func5, Tryd.ntmps5
  go_wp2_with fail
  refine (isTurn_any _ _).mono ?_
  rintro e w' ⟨rfl, rfl⟩
  go_wp2_with fail
  refine (cellWithin_any c _ _ _).mono ?_
  rintro e w1 ⟨rfl, hb1⟩
  have kB : Below w.heap.size w w1 := (((Below.refl _ _).alloc (Nat.le_refl _) _).alloc (by simp) _).trans (hb1.mono (by simp; omega))
  have kC : CellIn w1 w.heap.size c := Blk.below ((Blk.at_ _ _ _ _ rfl).alloc _) hb1 (by simp; omega)
  have kR : CellIn w1 (w.heap.size + 1) (0, 0, 0) := Blk.below (Blk.at_ _ _ _ _ (by simp)) hb1 (by simp)
  clear hb1
  go_wp2_with fail
  obtain ⟨c1, c2, c3, _⟩ := Blk.three kC
  obtain ⟨r1, r2, r3, r4, r5, r6, _⟩ := Blk.three kR
  go_region_with (first
      | (go_at_call 26; refine (chainOf_any _ _ (by omega) (by omega)).mono ?_; rintro e w' ⟨rfl, hb⟩; have kB := bthen kB (by first | exact hb | exact undrewB hb); have kC := CellIn.below kC (by first | exact hb | exact undrewB hb); have kR := CellIn.below kR (by first | exact hb | exact undrewB hb); clear hb; obtain ⟨c1, c2, c3, _⟩ := Blk.three kC; obtain ⟨r1, r2, r3, r4, r5, r6, _⟩ := Blk.three kR)
      | (go_at_call 27; refine (cell_turned _ (by omega) c _ (near_bd h2)).mono ?_; rintro e w' ⟨rfl, hb⟩; rw [HR.out]; have kB := bthen kB (by first | exact hb | exact undrewB hb); have kC := CellIn.below kC (by first | exact hb | exact undrewB hb); have kR := CellIn.below kR (by first | exact hb | exact undrewB hb); clear hb; obtain ⟨c1, c2, c3, _⟩ := Blk.three kC; obtain ⟨r1, r2, r3, r4, r5, r6, _⟩ := Blk.three kR))
  all_goals
    go_wp2
    obtain ⟨f1, f2, f3, _⟩ := Blk.three (cell_set3 kR R)
    exact bodyPost_ret (v := .tuple #[.agg #[.int .i64 R.1, .int .i64 R.2.1, .int .i64 R.2.2], .int .i64 0]) (by simp [results, Tryd.results5, go_sem, f1, f2, f3]) rfl ⟨rfl, below_set3 kB (by omega) R⟩

set_option maxHeartbeats 2000000 in
theorem Turn_no (c : Cell) (n : Int) (w : World) (h : ¬ (inB n 0 23 = true ∧ near c (-2000) 2000 = true)) : Calls Tryd.prog 5 #[.agg #[.int .i64 c.1, .int .i64 c.2.1, .int .i64 c.2.2], .int .i64 n] w fun e w' => e = .returned (.tuple #[.agg #[.int .i64 0, .int .i64 0, .int .i64 0], .int .i64 2]) ∧ Below w.heap.size w w' := by
  by_cases h1 : inB n 0 23 = true
  · have h2 : near c (-2000) 2000 = false := by
      cases hx : near c (-2000) 2000
      · rfl
      · exact absurd ⟨h1, hx⟩ h
    clear h
    go_enter Tryd.func5, Tryd.ntmps5
    go_wp2_with fail
    refine (isTurn_any _ _).mono ?_
    rintro e w' ⟨rfl, rfl⟩
    go_wp2_with fail
    refine (cellWithin_any c _ _ _).mono ?_
    rintro e w1 ⟨rfl, hb1⟩
    have kB : Below w.heap.size w w1 := (((Below.refl _ _).alloc (Nat.le_refl _) _).alloc (by simp) _).trans (hb1.mono (by simp; omega))
    have kR : CellIn w1 (w.heap.size + 1) (0, 0, 0) := Blk.below (Blk.at_ _ _ _ _ (by simp)) hb1 (by simp)
    clear hb1
    obtain ⟨r1, r2, r3, r4, r5, r6, _⟩ := Blk.three kR
    go_wp2
    obtain ⟨f1, f2, f3, _⟩ := Blk.three (cell_set3 kR (0, 0, 0))
    exact bodyPost_ret (v := .tuple #[.agg #[.int .i64 0, .int .i64 0, .int .i64 0], .int .i64 2]) (by simp [results, Tryd.results5, go_sem, f1, f2, f3]) rfl ⟨rfl, below_set3 kB (by omega) (0, 0, 0)⟩
  · have h1 : inB n 0 23 = false := by simpa using h1
    clear h
    go_enter Tryd.func5, Tryd.ntmps5
    go_wp2_with fail
    refine (isTurn_any _ _).mono ?_
    rintro e w' ⟨rfl, rfl⟩
    go_wp2
    exact bodyPost_ret (v := .tuple #[.agg #[.int .i64 0, .int .i64 0, .int .i64 0], .int .i64 2]) (by simp [results, Tryd.results5, go_sem]) rfl ⟨rfl, ((Below.refl _ _).alloc (Nat.le_refl _) _).alloc (by simp) _⟩

theorem Turn_any (c : Cell) (n : Int) (w : World) : Calls Tryd.prog 5 #[.agg #[.int .i64 c.1, .int .i64 c.2.1, .int .i64 c.2.2], .int .i64 n] w fun e w' => e = .returned (.tuple #[.agg #[.int .i64 (turnC c n).1, .int .i64 (turnC c n).2.1, .int .i64 (turnC c n).2.2], .int .i64 (turnE c n)]) ∧ Below w.heap.size w w' := by
  by_cases h : inB n 0 23 = true ∧ near c (-2000) 2000 = true
  · rw [turnC_yes h.1 h.2, turnE_yes h.1 h.2]; exact Turn_yes c n w h.1 h.2
  · rw [turnC_no h, turnE_no h]; exact Turn_no c n w h

/-- Compose and Invert: what they return. -/
def compC (a b : Int) : Int := if inB a 0 23 = true ∧ inB b 0 23 = true then composed a.toNat b.toNat else 0
def compE (a b : Int) : Int := if inB a 0 23 = true ∧ inB b 0 23 = true then 0 else 2
def invC (a : Int) : Int := if inB a 0 23 = true then inverse a.toNat else 0
def invE (a : Int) : Int := if inB a 0 23 = true then 0 else 2

set_option maxHeartbeats 2000000 in
theorem Compose_any (a b : Int) (w : World) : Calls Tryd.prog 9 #[.int .i64 a, .int .i64 b] w fun e w' => e = .returned (.tuple #[.int .i64 (compC a b), .int .i64 (compE a b)]) ∧ Below w.heap.size w w' := by
  by_cases h1 : inB a 0 23 = true
  · by_cases h2 : inB b 0 23 = true
    · have ha := inB_true.1 h1
      have hb := inB_true.1 h2
      rw [show compC a b = composed a.toNat b.toNat from if_pos ⟨h1, h2⟩, show compE a b = 0 from if_pos ⟨h1, h2⟩]
      generalize hR : composed a.toNat b.toNat = R
      have HR := Lib.hid hR
      clear hR
      go_enter Tryd.func9, Tryd.ntmps9
      go_wp2_with fail
      refine (isTurn_any _ _).mono ?_
      rintro e w' ⟨rfl, rfl⟩
      go_wp2_with fail
      refine (isTurn_any _ _).mono ?_
      rintro e w' ⟨rfl, rfl⟩
      go_wp2_with fail
      refine (compose_any a b _ ha.1 (by omega) hb.1 (by omega)).mono ?_
      rintro e w1 ⟨rfl, hb1⟩
      rw [HR.out]
      go_wp2
      go_ret2
      exact ⟨rfl, hb1⟩
    · have h2 : inB b 0 23 = false := by simpa using h2
      rw [show compC a b = 0 from if_neg (by simp [h2]), show compE a b = 2 from if_neg (by simp [h2])]
      go_enter Tryd.func9, Tryd.ntmps9
      go_wp2_with fail
      refine (isTurn_any _ _).mono ?_
      rintro e w' ⟨rfl, rfl⟩
      go_wp2_with fail
      refine (isTurn_any _ _).mono ?_
      rintro e w' ⟨rfl, rfl⟩
      go_wp2
      go_ret2
      exact ⟨rfl, Below.refl _ _⟩
  · have h1 : inB a 0 23 = false := by simpa using h1
    rw [show compC a b = 0 from if_neg (by simp [h1]), show compE a b = 2 from if_neg (by simp [h1])]
    go_enter Tryd.func9, Tryd.ntmps9
    go_wp2_with fail
    refine (isTurn_any _ _).mono ?_
    rintro e w' ⟨rfl, rfl⟩
    go_wp2
    go_ret2
    exact ⟨rfl, Below.refl _ _⟩

set_option maxHeartbeats 2000000 in
theorem Invert_any (a : Int) (w : World) : Calls Tryd.prog 11 #[.int .i64 a] w fun e w' => e = .returned (.tuple #[.int .i64 (invC a), .int .i64 (invE a)]) ∧ Below w.heap.size w w' := by
  by_cases h1 : inB a 0 23 = true
  · have ha := inB_true.1 h1
    rw [show invC a = inverse a.toNat from if_pos h1, show invE a = 0 from if_pos h1]
    generalize hR : inverse a.toNat = R
    have HR := Lib.hid hR
    clear hR
    go_enter Tryd.func11, Tryd.ntmps11
    go_wp2_with fail
    refine (isTurn_any _ _).mono ?_
    rintro e w' ⟨rfl, rfl⟩
    go_wp2_with fail
    refine (chainOf_any _ _ ha.1 (by omega)).mono ?_
    rintro e w1 ⟨rfl, k1⟩
    go_wp2_with fail
    refine (probe_any _).mono ?_
    rintro e w2 ⟨rfl, k2⟩
    go_wp2_with fail
    refine (cell_turned a.toNat (by omega) (1, 2, 3) _ probe_bd).mono ?_
    rintro e w3 ⟨rfl, k3⟩
    go_wp2_with fail
    refine (probe_any _).mono ?_
    rintro e w4 ⟨rfl, k4⟩
    go_wp2_with fail
    refine (turnBetween_any (turned a.toNat (1, 2, 3)) (1, 2, 3) _ (turned_bd _ _ probe_bd)).mono ?_
    rintro e w5 ⟨rfl, k5⟩
    go_wp2
    go_ret2
    exact ⟨by rw [← HR.out]; rfl, bthen (bthen (bthen (bthen k1 k2) k3) k4) k5⟩
  · have h1 : inB a 0 23 = false := by simpa using h1
    rw [show invC a = 0 from if_neg (by simp [h1]), show invE a = 2 from if_neg (by simp [h1])]
    go_enter Tryd.func11, Tryd.ntmps11
    go_wp2_with fail
    refine (isTurn_any _ _).mono ?_
    rintro e w' ⟨rfl, rfl⟩
    go_wp2
    go_ret2
    exact ⟨rfl, Below.refl _ _⟩
end Go.Proofs.YthilhofkjnipiaaDoor
