/- The specification's turn of a cell, and its exported turns, walked. -/
import Derived.Test.YthilhofkjnipiaaDoorRefT
namespace Go.Proofs.YthilhofkjnipiaaDoor
open Go.RowKit

theorem refAboutX_int (t : Int) (c : Cell) (w : World) (hc : Bd c) (h0 : 0 ≤ t) (h3 : t ≤ 3) : Calls Tryd.prog 55 #[.agg #[.int .i64 c.1, .int .i64 c.2.1, .int .i64 c.2.2], .int .i64 t] w fun e w' =>
    e = .returned (.agg #[.int .i64 (rots 1 t.toNat c).1, .int .i64 (rots 1 t.toNat c).2.1, .int .i64 (rots 1 t.toNat c).2.2]) ∧ Below w.heap.size w w' := by
  obtain ⟨k, rfl⟩ := Int.eq_ofNat_of_zero_le h0
  rw [Int.toNat_natCast]
  exact refAboutX_any k c w hc (by omega)
theorem refAboutZ_int (t : Int) (c : Cell) (w : World) (hc : Bd c) (h0 : 0 ≤ t) (h3 : t ≤ 3) : Calls Tryd.prog 54 #[.agg #[.int .i64 c.1, .int .i64 c.2.1, .int .i64 c.2.2], .int .i64 t] w fun e w' =>
    e = .returned (.agg #[.int .i64 (rots 2 t.toNat c).1, .int .i64 (rots 2 t.toNat c).2.1, .int .i64 (rots 2 t.toNat c).2.2]) ∧ Below w.heap.size w w' := by
  obtain ⟨k, rfl⟩ := Int.eq_ofNat_of_zero_le h0
  rw [Int.toNat_natCast]
  exact refAboutZ_any k c w hc (by omega)

theorem turned_low {n : Int} {c : Cell} (h0 : 0 ≤ n) (h : n / 4 < 4) : turned n.toNat c = rots 1 (n / 4).toNat (rots 2 (n % 4).toNat c) := by
  have e1 : n.toNat / 4 = (n / 4).toNat := by omega
  have e2 : n.toNat % 4 = (n % 4).toNat := by omega
  have e3 : (n / 4).toNat < 4 := by omega
  unfold turned
  simp only [afterK, Kn, Tn, e1, e2]
  rw [if_pos e3, if_pos e3, if_pos e3]
  by_cases hz : (n / 4).toNat = 0
  · rw [if_pos hz, hz]; rfl
  · rw [if_neg hz]; rfl
theorem turned_four {n : Int} {c : Cell} (h0 : 0 ≤ n) (h : n / 4 = 4) : turned n.toNat c = rots 2 1 (rots 1 1 (rots 2 (n % 4).toNat c)) := by
  have e1 : n.toNat / 4 = 4 := by omega
  have e2 : n.toNat % 4 = (n % 4).toNat := by omega
  unfold turned
  simp [afterK, Kn, Tn, e1, e2]
theorem turned_five {n : Int} {c : Cell} (h0 : 0 ≤ n) (h : n / 4 = 5) : turned n.toNat c = rots 2 3 (rots 1 1 (rots 2 (n % 4).toNat c)) := by
  have e1 : n.toNat / 4 = 5 := by omega
  have e2 : n.toNat % 4 = (n % 4).toNat := by omega
  unfold turned
  simp [afterK, Kn, Tn, e1, e2]

set_option maxHeartbeats 2000000 in
theorem Turned_any (c : Cell) (n : Int) (w : World) (hc : Bd c) (h0 : 0 ≤ n) (h1 : n < 24) : Calls Tryd.prog 30 #[.agg #[.int .i64 c.1, .int .i64 c.2.1, .int .i64 c.2.2], .int .i64 n] w fun e w' =>
    e = .returned (.agg #[.int .i64 (turned n.toNat c).1, .int .i64 (turned n.toNat c).2.1, .int .i64 (turned n.toNat c).2.2]) ∧ Below w.heap.size w w' := by
  generalize hR : turned n.toNat c = R
  have hdb := rots_bd 2 (n % 4).toNat c hc
  by_cases hq : n / 4 < 4
  · rw [turned_low h0 hq] at hR
    have HR := Lib.hid hR; clear hR
    have hqb : decide (n / 4 < 4) = true := by simpa using hq
    go_enter Tryd.func30, Tryd.ntmps30
    go_wp2_with fail
    refine (refAboutZ_int (n % 4) c _ hc (by omega) (by omega)).mono ?_
    rintro e w1 ⟨rfl, hb1⟩
    have kB : Below w.heap.size w w1 := (((Below.refl _ _).alloc (Nat.le_refl _) _).alloc (by simp) _).trans (hb1.mono (by simp; omega))
    have kC : CellIn w1 w.heap.size c := Blk.below ((Blk.at_ _ _ _ _ rfl).alloc _) hb1 (by simp; omega)
    have kR : CellIn w1 (w.heap.size + 1) (0, 0, 0) := Blk.below (Blk.at_ _ _ _ _ (by simp)) hb1 (by simp)
    clear hb1
    obtain ⟨c1, c2, c3, c4, c5, c6, c7⟩ := Blk.three kC
    obtain ⟨r1, r2, r3, r4, r5, r6, r7⟩ := Blk.three kR
    generalize rots 2 (n % 4).toNat c = d at *
    go_wp2_with fail
    refine (refAboutX_int (n / 4) d _ hdb (by omega) (by omega)).mono ?_
    rintro e w2 ⟨rfl, hb2⟩
    have kB2 := bthen (below_set3 kB (Nat.le_refl _) d) hb2
    have kR2 := CellIn.below (cell_set3_far kR (g' := w.heap.size) (by omega) d) hb2
    clear c1 c2 c3 c4 c5 c6 c7 r1 r2 r3 r4 r5 r6 r7 hb2
    obtain ⟨r1, r2, r3, r4, r5, r6, r7⟩ := Blk.three kR2
    rw [HR.out]
    go_wp2
    obtain ⟨f1, f2, f3, _⟩ := Blk.three (cell_set3 kR2 R)
    exact bodyPost_ret (v := .agg #[.int .i64 R.1, .int .i64 R.2.1, .int .i64 R.2.2]) (by simp [results, Tryd.results30, go_sem, f1, f2, f3]) rfl ⟨rfl, below_set3 kB2 (by omega) R⟩
  · have hqb : decide (n / 4 < 4) = false := by simpa using hq
    by_cases hq4 : n / 4 = 4
    · rw [turned_four h0 hq4] at hR
      have HR := Lib.hid hR; clear hR
      have hqc : (n / 4 == 4) = true := by simpa using hq4
      clear hq4
      go_enter Tryd.func30, Tryd.ntmps30
      go_wp2_with fail
      refine (refAboutZ_int (n % 4) c _ hc (by omega) (by omega)).mono ?_
      rintro e w1 ⟨rfl, hb1⟩
      have kB : Below w.heap.size w w1 := (((Below.refl _ _).alloc (Nat.le_refl _) _).alloc (by simp) _).trans (hb1.mono (by simp; omega))
      have kC : CellIn w1 w.heap.size c := Blk.below ((Blk.at_ _ _ _ _ rfl).alloc _) hb1 (by simp; omega)
      have kR : CellIn w1 (w.heap.size + 1) (0, 0, 0) := Blk.below (Blk.at_ _ _ _ _ (by simp)) hb1 (by simp)
      clear hb1
      obtain ⟨c1, c2, c3, c4, c5, c6, c7⟩ := Blk.three kC
      obtain ⟨r1, r2, r3, r4, r5, r6, r7⟩ := Blk.three kR
      generalize rots 2 (n % 4).toNat c = d at *
      go_wp2_with fail
      refine (refAboutX_int 1 d _ hdb (by omega) (by omega)).mono ?_
      rintro e w2 ⟨rfl, hb2⟩
      have kB2 := bthen (below_set3 kB (Nat.le_refl _) d) hb2
      have kC2 := CellIn.below (cell_set3 kC d) hb2
      have kR2 := CellIn.below (cell_set3_far kR (g' := w.heap.size) (by omega) d) hb2
      clear c1 c2 c3 c4 c5 c6 c7 r1 r2 r3 r4 r5 r6 r7 hb2 kB kC kR
      have hxb : Bd (rots 1 (1 : Int).toNat d) := rots_bd 1 _ d hdb
      have hx1 : rots 1 1 d = rots 1 (1 : Int).toNat d := rfl
      rw [hx1] at HR
      clear hx1
      generalize rots 1 (1 : Int).toNat d = x at *
      obtain ⟨c1, c2, c3, c4, c5, c6, c7⟩ := Blk.three kC2
      obtain ⟨r1, r2, r3, r4, r5, r6, r7⟩ := Blk.three kR2
      go_wp2_with fail
      refine (refAboutZ_int 1 x _ hxb (by omega) (by omega)).mono ?_
      rintro e w3 ⟨rfl, hb3⟩
      have kB3 := bthen (below_set3 kB2 (Nat.le_refl _) x) hb3
      have kR3 := CellIn.below (cell_set3_far kR2 (g' := w.heap.size) (by omega) x) hb3
      clear c1 c2 c3 c4 c5 c6 c7 r1 r2 r3 r4 r5 r6 r7 hb3
      obtain ⟨r1, r2, r3, r4, r5, r6, r7⟩ := Blk.three kR3
      rw [show rots 2 (1 : Int).toNat x = R from HR.out]
      go_wp2
      obtain ⟨f1, f2, f3, _⟩ := Blk.three (cell_set3 kR3 R)
      exact bodyPost_ret (v := .agg #[.int .i64 R.1, .int .i64 R.2.1, .int .i64 R.2.2]) (by simp [results, Tryd.results30, go_sem, f1, f2, f3]) rfl ⟨rfl, below_set3 kB3 (by omega) R⟩
    · rw [turned_five h0 (by omega)] at hR
      have HR := Lib.hid hR; clear hR
      have hqc : (n / 4 == 4) = false := by simpa using hq4
      clear hq4
      go_enter Tryd.func30, Tryd.ntmps30
      go_wp2_with fail
      refine (refAboutZ_int (n % 4) c _ hc (by omega) (by omega)).mono ?_
      rintro e w1 ⟨rfl, hb1⟩
      have kB : Below w.heap.size w w1 := (((Below.refl _ _).alloc (Nat.le_refl _) _).alloc (by simp) _).trans (hb1.mono (by simp; omega))
      have kC : CellIn w1 w.heap.size c := Blk.below ((Blk.at_ _ _ _ _ rfl).alloc _) hb1 (by simp; omega)
      have kR : CellIn w1 (w.heap.size + 1) (0, 0, 0) := Blk.below (Blk.at_ _ _ _ _ (by simp)) hb1 (by simp)
      clear hb1
      obtain ⟨c1, c2, c3, c4, c5, c6, c7⟩ := Blk.three kC
      obtain ⟨r1, r2, r3, r4, r5, r6, r7⟩ := Blk.three kR
      generalize rots 2 (n % 4).toNat c = d at *
      go_wp2_with fail
      refine (refAboutX_int 1 d _ hdb (by omega) (by omega)).mono ?_
      rintro e w2 ⟨rfl, hb2⟩
      have kB2 := bthen (below_set3 kB (Nat.le_refl _) d) hb2
      have kC2 := CellIn.below (cell_set3 kC d) hb2
      have kR2 := CellIn.below (cell_set3_far kR (g' := w.heap.size) (by omega) d) hb2
      clear c1 c2 c3 c4 c5 c6 c7 r1 r2 r3 r4 r5 r6 r7 hb2 kB kC kR
      have hxb : Bd (rots 1 (1 : Int).toNat d) := rots_bd 1 _ d hdb
      have hx1 : rots 1 1 d = rots 1 (1 : Int).toNat d := rfl
      rw [hx1] at HR
      clear hx1
      generalize rots 1 (1 : Int).toNat d = x at *
      obtain ⟨c1, c2, c3, c4, c5, c6, c7⟩ := Blk.three kC2
      obtain ⟨r1, r2, r3, r4, r5, r6, r7⟩ := Blk.three kR2
      go_wp2_with fail
      refine (refAboutZ_int 3 x _ hxb (by omega) (by omega)).mono ?_
      rintro e w3 ⟨rfl, hb3⟩
      have kB3 := bthen (below_set3 kB2 (Nat.le_refl _) x) hb3
      have kR3 := CellIn.below (cell_set3_far kR2 (g' := w.heap.size) (by omega) x) hb3
      clear c1 c2 c3 c4 c5 c6 c7 r1 r2 r3 r4 r5 r6 r7 hb3
      obtain ⟨r1, r2, r3, r4, r5, r6, r7⟩ := Blk.three kR3
      rw [show rots 2 (3 : Int).toNat x = R from HR.out]
      go_wp2
      obtain ⟨f1, f2, f3, _⟩ := Blk.three (cell_set3 kR3 R)
      exact bodyPost_ret (v := .agg #[.int .i64 R.1, .int .i64 R.2.1, .int .i64 R.2.2]) (by simp [results, Tryd.results30, go_sem, f1, f2, f3]) rfl ⟨rfl, below_set3 kB3 (by omega) R⟩
end Go.Proofs.YthilhofkjnipiaaDoor
