/- The turns of package lattice, walked. -/
import Derived.Test.YthilhofkjnipiaaDoorChain
import Derived.Test.YthilhofkjnipiaaDoorCellEq
import Derived.Test.YthilhofkjnipiaaDoorScan
import Derived.StillTactics
import Derived.Laws.Pointers
namespace Go.Proofs.YthilhofkjnipiaaDoor
open Go.RowKit

theorem probe_any (w : World) : Calls Tryd.prog 38 #[] w fun e w' => e = .returned (.agg #[.int .i64 1, .int .i64 2, .int .i64 3]) ∧ Below w.heap.size w w' := by
  go_enter Tryd.func38, Tryd.ntmps38
  go_wp2
  exact bodyPost_ret (v := .agg #[.int .i64 1, .int .i64 2, .int .i64 3]) (by simp [results, Tryd.results38, go_sem]) rfl ⟨rfl, (Below.refl _ _).alloc (Nat.le_refl _) _⟩

def between (f t : Cell) : Nat := firstB (fun n => same (turned n f) t) 24

/-- What a loop that compares keeps: two cells of the call's own. -/
theorem two_kept {W W' : World} {B : Nat} {f t : Cell} {w : World} (hb : Below W.heap.size W W') (h1 : Below B w W) (h2 : CellIn W B f) (h3 : CellIn W (B + 1) t) (hB : B ≤ w.heap.size) :
    W'.cell? ⟨B, 0, none⟩ = some (.int .i64 f.1) ∧ W'.cell? ⟨B, 1, none⟩ = some (.int .i64 f.2.1) ∧ W'.cell? ⟨B, 2, none⟩ = some (.int .i64 f.2.2) ∧ W'.cell? ⟨B + 1, 0, none⟩ = some (.int .i64 t.1) ∧ W'.cell? ⟨B + 1, 1, none⟩ = some (.int .i64 t.2.1) ∧ W'.cell? ⟨B + 1, 2, none⟩ = some (.int .i64 t.2.2) ∧ Below B w W' ∧ CellIn W' B f ∧ CellIn W' (B + 1) t := by
  have a := Blk.below h2 hb (Blk.lt h2)
  have b := Blk.below h3 hb (Blk.lt h3)
  obtain ⟨a1, a2, a3, _⟩ := Blk.three a
  obtain ⟨b1, b2, b3, _⟩ := Blk.three b
  exact ⟨a1, a2, a3, b1, b2, b3, h1.trans (hb.mono (by have := h1.size; omega)), a, b⟩

set_option maxRecDepth 100000 in
set_option maxHeartbeats 4000000 in
theorem turnBetween_any (f t : Cell) (w : World) (hf : Bd f) : Calls Tryd.prog 37 #[.agg #[.int .i64 f.1, .int .i64 f.2.1, .int .i64 f.2.2], .agg #[.int .i64 t.1, .int .i64 t.2.1, .int .i64 t.2.2]] w fun e w' => e = .returned (.int .i64 (between f t)) ∧ Below w.heap.size w w' := by
  generalize hR : between f t = R
  have HR := Lib.hid hR; clear hR
  go_enter Tryd.func37, Tryd.ntmps37
  go_wp2
  go_loopw [6] (fun i wr => ∃ k : Nat, k ≤ 24 ∧ i = .int .i64 k ∧ (∀ i, i < k → same (turned i f) t = false) ∧ CellIn wr w.heap.size f ∧ CellIn wr (w.heap.size + 1) t ∧ Below w.heap.size w wr) (fun i _ => 24 - (intOf i).toNat)
  case atStart => exact ⟨0, by omega, rfl, fun i hi => absurd hi (by omega), (Blk.at_ _ _ _ _ rfl).alloc _, Blk.at_ _ _ _ _ (by simp), ((Below.refl _ _).alloc (Nat.le_refl _) _).alloc (by simp) _⟩
  case round =>
    obtain ⟨k, hk, rfl, hl, hF, hT, hB⟩ := hrel
    have HL := Lib.hid hl; clear hl
    by_cases hlt : k < 24
    · have hltb : decide ((k : Int) < 24) = true := by simp; omega
      have eq1 := eqCell (turned k f) t
      have eq2 := fun o1 o2 => guardCell .eql o1 o2 (turned k f) t
      obtain ⟨i1, i2, i3, i4, i5, i6, i7⟩ := Blk.three hF
      obtain ⟨j1, j2, j3, j4, j5, j6, j7⟩ := Blk.three hT
      by_cases he : same (turned k f) t = true
      · go_wp2_with fail
        go_region_held3 (fun W => W.cell? ⟨w.heap.size, 0, none⟩ = some (.int .i64 f.1) ∧ W.cell? ⟨w.heap.size, 1, none⟩ = some (.int .i64 f.2.1) ∧ W.cell? ⟨w.heap.size, 2, none⟩ = some (.int .i64 f.2.2) ∧ W.cell? ⟨w.heap.size + 1, 0, none⟩ = some (.int .i64 t.1) ∧ W.cell? ⟨w.heap.size + 1, 1, none⟩ = some (.int .i64 t.2.1) ∧ W.cell? ⟨w.heap.size + 1, 2, none⟩ = some (.int .i64 t.2.2) ∧ Below w.heap.size w W ∧ CellIn W w.heap.size f ∧ CellIn W (w.heap.size + 1) t)
          (first
            | exact two_kept hb hB.drew hF.drew hT.drew (Nat.le_refl _)
            | (go_split_ands; exact two_kept hb (by assumption) (by assumption) (by assumption) (Nat.le_refl _))
            | exact ⟨i1, i2, i3, j1, j2, j3, hB.drew, hF.drew, hT.drew⟩)
          (first
            | (go_at_call 26; refine (chainOf_any _ _ (by omega) (by omega)).mono ?_; rintro e w' ⟨rfl, hb⟩)
            | (go_at_call 27; refine (cell_turned _ (by omega) f _ hf).mono ?_; rintro e w' ⟨rfl, hb⟩))
        obtain ⟨_, _, _, _, _, _, hB2, hF2, hT2⟩ : _ ∧ _ ∧ _ ∧ _ ∧ _ ∧ _ ∧ Below w.heap.size w w' ∧ CellIn w' w.heap.size f ∧ CellIn w' (w.heap.size + 1) t := by assumption
        go_wp2
        go_ret
        exact ⟨by rw [show R = k from HR.out.symm.trans (firstB_at hlt he HL.out)]; rfl, hB2⟩
      · have he : same (turned k f) t = false := by simpa using he
        go_wp2_with fail
        go_region_held3 (fun W => W.cell? ⟨w.heap.size, 0, none⟩ = some (.int .i64 f.1) ∧ W.cell? ⟨w.heap.size, 1, none⟩ = some (.int .i64 f.2.1) ∧ W.cell? ⟨w.heap.size, 2, none⟩ = some (.int .i64 f.2.2) ∧ W.cell? ⟨w.heap.size + 1, 0, none⟩ = some (.int .i64 t.1) ∧ W.cell? ⟨w.heap.size + 1, 1, none⟩ = some (.int .i64 t.2.1) ∧ W.cell? ⟨w.heap.size + 1, 2, none⟩ = some (.int .i64 t.2.2) ∧ Below w.heap.size w W ∧ CellIn W w.heap.size f ∧ CellIn W (w.heap.size + 1) t)
          (first
            | exact two_kept hb hB.drew hF.drew hT.drew (Nat.le_refl _)
            | (go_split_ands; exact two_kept hb (by assumption) (by assumption) (by assumption) (Nat.le_refl _))
            | exact ⟨i1, i2, i3, j1, j2, j3, hB.drew, hF.drew, hT.drew⟩)
          (first
            | (go_at_call 26; refine (chainOf_any _ _ (by omega) (by omega)).mono ?_; rintro e w' ⟨rfl, hb⟩)
            | (go_at_call 27; refine (cell_turned _ (by omega) f _ hf).mono ?_; rintro e w' ⟨rfl, hb⟩))
        obtain ⟨_, _, _, _, _, _, hB2, hF2, hT2⟩ : _ ∧ _ ∧ _ ∧ _ ∧ _ ∧ _ ∧ Below w.heap.size w w' ∧ CellIn w' w.heap.size f ∧ CellIn w' (w.heap.size + 1) t := by assumption
        go_wp2
        go_roundw
        case rel => exact ⟨k + 1, by omega, by go_num, fun i hi => by rcases Nat.lt_succ_iff_lt_or_eq.1 hi with h | rfl; exact HL.out i h; exact he, hF2, hT2, hB2⟩
        case measure => simp [intOf]; omega
    · have hltb : decide ((k : Int) < 24) = false := by simp; omega
      have hk24 : k = 24 := by omega
      subst hk24
      go_wp2
      go_ret
      exact ⟨by rw [show R = 0 from HR.out.symm.trans (firstB_none HL.out)]; rfl, hB⟩

/-- The turn that does what one does, and then what another one does. -/
def composed (a b : Nat) : Nat := between (1, 2, 3) (turned b (turned a (1, 2, 3)))
def inverse (a : Nat) : Nat := between (turned a (1, 2, 3)) (1, 2, 3)
theorem probe_bd : Bd (1, 2, 3) := by unfold Bd; simp

set_option maxHeartbeats 1000000 in
theorem compose_any (a b : Int) (w : World) (a0 : 0 ≤ a) (a1 : a < 24) (b0 : 0 ≤ b) (b1 : b < 24) : Calls Tryd.prog 35 #[.int .i64 a, .int .i64 b] w fun e w' => e = .returned (.int .i64 (composed a.toNat b.toNat)) ∧ Below w.heap.size w w' := by
  generalize hR : composed a.toNat b.toNat = R
  have HR := Lib.hid hR; clear hR
  go_enter Tryd.func35, Tryd.ntmps35
  go_wp2_with fail
  refine (probe_any _).mono ?_
  rintro e w1 ⟨rfl, h1⟩
  go_wp2_with fail
  refine (chainOf_any _ _ b0 b1).mono ?_
  rintro e w2 ⟨rfl, h2⟩
  go_wp2_with fail
  refine (chainOf_any _ _ a0 a1).mono ?_
  rintro e w3 ⟨rfl, h3⟩
  go_wp2_with fail
  refine (probe_any _).mono ?_
  rintro e w4 ⟨rfl, h4⟩
  go_wp2_with fail
  refine (cell_turned a.toNat (by omega) (1, 2, 3) _ probe_bd).mono ?_
  rintro e w5 ⟨rfl, h5⟩
  go_wp2_with fail
  refine (cell_turned b.toNat (by omega) (turned a.toNat (1, 2, 3)) _ (turned_bd _ _ probe_bd)).mono ?_
  rintro e w6 ⟨rfl, h6⟩
  go_wp2_with fail
  refine (turnBetween_any (1, 2, 3) (turned b.toNat (turned a.toNat (1, 2, 3))) _ probe_bd).mono ?_
  rintro e w7 ⟨rfl, h7⟩
  go_wp2
  go_ret
  exact ⟨by rw [← HR.out]; rfl, (((((h1.trans (h2.mono h1.size)).trans (h3.mono (by have := h1.size; have := h2.size; omega))).trans (h4.mono (by have := h1.size; have := h2.size; have := h3.size; omega))).trans (h5.mono (by have := h1.size; have := h2.size; have := h3.size; have := h4.size; omega))).trans (h6.mono (by have := h1.size; have := h2.size; have := h3.size; have := h4.size; have := h5.size; omega))).trans (h7.mono (by have := h1.size; have := h2.size; have := h3.size; have := h4.size; have := h5.size; have := h6.size; omega))⟩
end Go.Proofs.YthilhofkjnipiaaDoor
