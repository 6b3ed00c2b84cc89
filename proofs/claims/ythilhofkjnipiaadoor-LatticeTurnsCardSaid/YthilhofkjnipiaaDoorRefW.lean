/- The specification's Compose, Invert and Direction, and package lattice's Direction, walked. -/
import Derived.Test.YthilhofkjnipiaaDoorRefV
import Derived.Test.YthilhofkjnipiaaDoorDirs
namespace Go.Proofs.YthilhofkjnipiaaDoor
open Go.RowKit

/-- What a loop that compares keeps: one cell of the call's own. -/
theorem one_kept {W W' : World} {g : Nat} {t : Cell} {w : World} (hb : Below W.heap.size W W') (h1 : Below w.heap.size w W) (h3 : CellIn W g t) :
    W'.cell? ⟨g, 0, none⟩ = some (.int .i64 t.1) ∧ W'.cell? ⟨g, 1, none⟩ = some (.int .i64 t.2.1) ∧ W'.cell? ⟨g, 2, none⟩ = some (.int .i64 t.2.2) ∧ Below w.heap.size w W' ∧ CellIn W' g t := by
  have b := CellIn.below h3 hb
  obtain ⟨b1, b2, b3, _⟩ := Blk.three b
  exact ⟨b1, b2, b3, bthen h1 hb, b⟩
def refInverse (a : Nat) : Nat := firstB (fun n => composedR a n == 0) 24

set_option maxHeartbeats 2000000 in
theorem Inverse_any (a : Int) (w : World) (a0 : 0 ≤ a) (a1 : a < 24) : Calls Tryd.prog 39 #[.int .i64 a] w fun e w' => e = .returned (.int .i64 (refInverse a.toNat)) ∧ Below w.heap.size w w' := by
  generalize hR : refInverse a.toNat = R
  have HR := Lib.hid hR; clear hR
  go_enter Tryd.func39, Tryd.ntmps39
  go_wp2
  go_loopw [3] (fun i wr => ∃ k : Nat, k ≤ 24 ∧ i = .int .i64 k ∧ (∀ i, i < k → (composedR a.toNat i == 0) = false) ∧ Below w.heap.size w wr) (fun i _ => 24 - (intOf i).toNat)
  case atStart => exact ⟨0, by omega, rfl, fun i hi => absurd hi (by omega), Below.refl _ _⟩
  case round =>
    obtain ⟨k, hk, rfl, hl, hB⟩ := hrel
    have HL := Lib.hid hl; clear hl
    by_cases hlt : k < 24
    · have hltb : decide ((k : Int) < 24) = true := by simp; omega
      have ct := fun W => Composed_any a k W a0 a1 (by omega) (by omega)
      simp only [Int.toNat_natCast] at ct
      generalize hm : composedR a.toNat k = m at ct
      have HM := Lib.hid hm; clear hm
      have CT := Lib.hid ct; clear ct
      by_cases he : m = 0
      · have heb : ((m : Int) == 0) = true := by simpa using he
        go_wp2_with fail
        refine (CT.out _).mono ?_
        rintro e w1 ⟨rfl, hb⟩
        go_wp2
        go_ret
        exact ⟨by rw [show R = k from HR.out.symm.trans (firstB_at hlt (by rw [HM.out, he]; rfl) HL.out)]; rfl, bthen hB hb⟩
      · have heb : ((m : Int) == 0) = false := by simpa using he
        go_wp2_with fail
        refine (CT.out _).mono ?_
        rintro e w1 ⟨rfl, hb⟩
        go_wp2
        go_roundw
        case rel => exact ⟨k + 1, by omega, by go_num, fun i hi => by rcases Nat.lt_succ_iff_lt_or_eq.1 hi with h | rfl; exact HL.out i h; rw [HM.out]; simpa using he, bthen hB hb⟩
        case measure => simp [intOf]; omega
    · have hltb : decide ((k : Int) < 24) = false := by simp; omega
      have hk24 : k = 24 := by omega
      subst hk24
      go_wp2
      go_ret
      exact ⟨by rw [show R = 0 from HR.out.symm.trans (firstB_none HL.out)]; rfl, hB⟩

def compR (a b : Int) : Int := if inB a 0 23 = true ∧ inB b 0 23 = true then composedR a.toNat b.toNat else 0
def invR (a : Int) : Int := if inB a 0 23 = true then refInverse a.toNat else 0

set_option maxHeartbeats 2000000 in
theorem refCompose_any (a b : Int) (w : World) : Calls Tryd.prog 10 #[.int .i64 a, .int .i64 b] w fun e w' => e = .returned (.tuple #[.int .i64 (compR a b), .int .i64 (compE a b)]) ∧ Below w.heap.size w w' := by
  by_cases h1 : inB a 0 23 = true
  · by_cases h2 : inB b 0 23 = true
    · have ha := inB_true.1 h1
      have hb := inB_true.1 h2
      rw [show compR a b = composedR a.toNat b.toNat from if_pos ⟨h1, h2⟩, show compE a b = 0 from if_pos ⟨h1, h2⟩]
      generalize hR : composedR a.toNat b.toNat = R
      have HR := Lib.hid hR
      clear hR
      go_enter Tryd.func10, Tryd.ntmps10
      go_wp2_with fail
      refine (refIsTurn_any _ _).mono ?_
      rintro e w' ⟨rfl, rfl⟩
      go_wp2_with fail
      refine (refIsTurn_any _ _).mono ?_
      rintro e w' ⟨rfl, rfl⟩
      go_wp2_with fail
      refine (Composed_any a b _ ha.1 (by omega) hb.1 (by omega)).mono ?_
      rintro e w1 ⟨rfl, hb1⟩
      rw [HR.out]
      go_wp2
      go_ret2
      exact ⟨rfl, hb1⟩
    · have h2 : inB b 0 23 = false := by simpa using h2
      rw [show compR a b = 0 from if_neg (by simp [h2]), show compE a b = 2 from if_neg (by simp [h2])]
      go_enter Tryd.func10, Tryd.ntmps10
      go_wp2_with fail
      refine (refIsTurn_any _ _).mono ?_
      rintro e w' ⟨rfl, rfl⟩
      go_wp2_with fail
      refine (refIsTurn_any _ _).mono ?_
      rintro e w' ⟨rfl, rfl⟩
      go_wp2
      go_ret2
      exact ⟨rfl, Below.refl _ _⟩
  · have h1 : inB a 0 23 = false := by simpa using h1
    rw [show compR a b = 0 from if_neg (by simp [h1]), show compE a b = 2 from if_neg (by simp [h1])]
    go_enter Tryd.func10, Tryd.ntmps10
    go_wp2_with fail
    refine (refIsTurn_any _ _).mono ?_
    rintro e w' ⟨rfl, rfl⟩
    go_wp2
    go_ret2
    exact ⟨rfl, Below.refl _ _⟩

set_option maxHeartbeats 2000000 in
theorem refInvert_any (a : Int) (w : World) : Calls Tryd.prog 12 #[.int .i64 a] w fun e w' => e = .returned (.tuple #[.int .i64 (invR a), .int .i64 (invE a)]) ∧ Below w.heap.size w w' := by
  by_cases h1 : inB a 0 23 = true
  · have ha := inB_true.1 h1
    rw [show invR a = refInverse a.toNat from if_pos h1, show invE a = 0 from if_pos h1]
    generalize hR : refInverse a.toNat = R
    have HR := Lib.hid hR
    clear hR
    go_enter Tryd.func12, Tryd.ntmps12
    go_wp2_with fail
    refine (refIsTurn_any _ _).mono ?_
    rintro e w' ⟨rfl, rfl⟩
    go_wp2_with fail
    refine (Inverse_any a _ ha.1 (by omega)).mono ?_
    rintro e w1 ⟨rfl, k1⟩
    rw [HR.out]
    go_wp2
    go_ret2
    exact ⟨rfl, k1⟩
  · have h1 : inB a 0 23 = false := by simpa using h1
    rw [show invR a = 0 from if_neg (by simp [h1]), show invE a = 2 from if_neg (by simp [h1])]
    go_enter Tryd.func12, Tryd.ntmps12
    go_wp2_with fail
    refine (refIsTurn_any _ _).mono ?_
    rintro e w' ⟨rfl, rfl⟩
    go_wp2
    go_ret2
    exact ⟨rfl, Below.refl _ _⟩

set_option maxHeartbeats 2000000 in
theorem Step_lit (d : Nat) (w : World) (h : d < 6) : Calls Tryd.prog 56 #[.int .i64 d] w fun e w' => e = .returned (.agg #[.int .i64 (step d).1, .int .i64 (step d).2.1, .int .i64 (step d).2.2]) ∧ Below w.heap.size w w' := by
  have l0 : [Value.int IntKind.i64 1, Value.int IntKind.i64 0, Value.int IntKind.i64 0, Value.int IntKind.i64 (-1), Value.int IntKind.i64 0, Value.int IntKind.i64 0, Value.int IntKind.i64 0, Value.int IntKind.i64 1, Value.int IntKind.i64 0, Value.int IntKind.i64 0, Value.int IntKind.i64 (-1), Value.int IntKind.i64 0, Value.int IntKind.i64 0, Value.int IntKind.i64 0, Value.int IntKind.i64 1, Value.int IntKind.i64 0, Value.int IntKind.i64 0, Value.int IntKind.i64 (-1)][d * 3]? = some (.int .i64 (step d).1) ∧ [Value.int IntKind.i64 1, Value.int IntKind.i64 0, Value.int IntKind.i64 0, Value.int IntKind.i64 (-1), Value.int IntKind.i64 0, Value.int IntKind.i64 0, Value.int IntKind.i64 0, Value.int IntKind.i64 1, Value.int IntKind.i64 0, Value.int IntKind.i64 0, Value.int IntKind.i64 (-1), Value.int IntKind.i64 0, Value.int IntKind.i64 0, Value.int IntKind.i64 0, Value.int IntKind.i64 1, Value.int IntKind.i64 0, Value.int IntKind.i64 0, Value.int IntKind.i64 (-1)][d * 3 + 1]? = some (.int .i64 (step d).2.1) ∧ [Value.int IntKind.i64 1, Value.int IntKind.i64 0, Value.int IntKind.i64 0, Value.int IntKind.i64 (-1), Value.int IntKind.i64 0, Value.int IntKind.i64 0, Value.int IntKind.i64 0, Value.int IntKind.i64 1, Value.int IntKind.i64 0, Value.int IntKind.i64 0, Value.int IntKind.i64 (-1), Value.int IntKind.i64 0, Value.int IntKind.i64 0, Value.int IntKind.i64 0, Value.int IntKind.i64 1, Value.int IntKind.i64 0, Value.int IntKind.i64 0, Value.int IntKind.i64 (-1)][d * 3 + 2]? = some (.int .i64 (step d).2.2) := by
    have hd : d = 0 ∨ d = 1 ∨ d = 2 ∨ d = 3 ∨ d = 4 ∨ d = 5 := by omega
    rcases hd with rfl | rfl | rfl | rfl | rfl | rfl <;> exact ⟨rfl, rfl, rfl⟩
  obtain ⟨l0, l1, l2⟩ := l0
  go_enter Tryd.func56, Tryd.ntmps56
  go_wp2
  exact bodyPost_ret (v := .agg #[.int .i64 (step d).1, .int .i64 (step d).2.1, .int .i64 (step d).2.2]) (by simp [results, Tryd.results56, go_sem]) rfl ⟨rfl, ((Below.refl _ _).alloc (Nat.le_refl _) _).alloc (by simp) _⟩
theorem Step_any (d : Int) (w : World) (h0 : 0 ≤ d) (h : d < 6) : Calls Tryd.prog 56 #[.int .i64 d] w fun e w' => e = .returned (.agg #[.int .i64 (step d.toNat).1, .int .i64 (step d.toNat).2.1, .int .i64 (step d.toNat).2.2]) ∧ Below w.heap.size w w' := by
  obtain ⟨k, rfl⟩ := Int.eq_ofNat_of_zero_le h0
  rw [Int.toNat_natCast]
  exact Step_lit k w (by omega)

set_option maxRecDepth 100000 in
set_option maxHeartbeats 4000000 in
theorem Pointed_any (d n : Int) (w : World) (d0 : 0 ≤ d) (d1 : d < 6) (n0 : 0 ≤ n) (n1 : n < 24) : Calls Tryd.prog 34 #[.int .i64 d, .int .i64 n] w fun e w' => e = .returned (.int .i64 (pointed d.toNat n.toNat)) ∧ Below w.heap.size w w' := by
  generalize hR : pointed d.toNat n.toNat = R
  have HR := Lib.hid hR; clear hR
  go_enter Tryd.func34, Tryd.ntmps34
  go_wp2_with fail
  refine (Step_any d _ d0 d1).mono ?_
  rintro e w1 ⟨rfl, k1⟩
  go_wp2_with fail
  refine (Turned_any (step d.toNat) n _ (step_bd _) n0 n1).mono ?_
  rintro e w2 ⟨rfl, k2⟩
  have kB := bthen k1 k2
  clear k1 k2
  go_wp2
  go_loopw [6] (fun i wr => ∃ k : Nat, k ≤ 6 ∧ i = .int .i64 k ∧ (∀ i, i < k → same (step i) (turned n.toNat (step d.toNat)) = false) ∧ CellIn wr w2.heap.size (turned n.toNat (step d.toNat)) ∧ Below w.heap.size w wr) (fun i _ => 6 - (intOf i).toNat)
  case atStart => exact ⟨0, by omega, rfl, fun i hi => absurd hi (by omega), Blk.at_ _ _ _ _ rfl, kB.alloc kB.size _⟩
  case round =>
    obtain ⟨k, hk, rfl, hl, hG, hB⟩ := hrel
    have HL := Lib.hid hl; clear hl
    have hw2 := kB.size
    clear kB
    by_cases hlt : k < 6
    · have hltb : decide ((k : Int) < 6) = true := by simp; omega
      have eq1 := eqCell (step k) (turned n.toNat (step d.toNat))
      have eq2 := fun o1 o2 => guardCell .eql o1 o2 (step k) (turned n.toNat (step d.toNat))
      obtain ⟨c1, c2, c3, _, _, _, c7⟩ := Blk.three hG
      by_cases he : same (step k) (turned n.toNat (step d.toNat)) = true
      · go_wp2_with fail
        go_region_held3 (fun W => W.cell? ⟨w2.heap.size, 0, none⟩ = some (.int .i64 (turned n.toNat (step d.toNat)).1) ∧ W.cell? ⟨w2.heap.size, 1, none⟩ = some (.int .i64 (turned n.toNat (step d.toNat)).2.1) ∧ W.cell? ⟨w2.heap.size, 2, none⟩ = some (.int .i64 (turned n.toNat (step d.toNat)).2.2) ∧ Below w.heap.size w W ∧ CellIn W w2.heap.size (turned n.toNat (step d.toNat)))
          (first
            | exact one_kept hb hB.drew hG.drew
            | (go_split_ands; exact one_kept hb (by assumption) (by assumption))
            | exact ⟨c1, c2, c3, hB.drew, hG.drew⟩)
          (first
            | (go_at_call 56; refine (Step_lit k _ hlt).mono ?_; rintro e w' ⟨rfl, hb⟩))
        obtain ⟨_, _, _, hB2, hG2⟩ : _ ∧ _ ∧ _ ∧ Below w.heap.size w w' ∧ CellIn w' w2.heap.size (turned n.toNat (step d.toNat)) := by assumption
        go_wp2
        go_ret
        exact ⟨by rw [show R = k from HR.out.symm.trans (firstB_at hlt he HL.out)]; rfl, hB2⟩
      · have he : same (step k) (turned n.toNat (step d.toNat)) = false := by simpa using he
        go_wp2_with fail
        go_region_held3 (fun W => W.cell? ⟨w2.heap.size, 0, none⟩ = some (.int .i64 (turned n.toNat (step d.toNat)).1) ∧ W.cell? ⟨w2.heap.size, 1, none⟩ = some (.int .i64 (turned n.toNat (step d.toNat)).2.1) ∧ W.cell? ⟨w2.heap.size, 2, none⟩ = some (.int .i64 (turned n.toNat (step d.toNat)).2.2) ∧ Below w.heap.size w W ∧ CellIn W w2.heap.size (turned n.toNat (step d.toNat)))
          (first
            | exact one_kept hb hB.drew hG.drew
            | (go_split_ands; exact one_kept hb (by assumption) (by assumption))
            | exact ⟨c1, c2, c3, hB.drew, hG.drew⟩)
          (first
            | (go_at_call 56; refine (Step_lit k _ hlt).mono ?_; rintro e w' ⟨rfl, hb⟩))
        obtain ⟨_, _, _, hB2, hG2⟩ : _ ∧ _ ∧ _ ∧ Below w.heap.size w w' ∧ CellIn w' w2.heap.size (turned n.toNat (step d.toNat)) := by assumption
        go_wp2
        go_roundw
        case rel => exact ⟨k + 1, by omega, by go_num, fun i hi => by rcases Nat.lt_succ_iff_lt_or_eq.1 hi with h | rfl; exact HL.out i h; exact he, hG2, hB2⟩
        case measure => simp [intOf]; omega
    · have hltb : decide ((k : Int) < 6) = false := by simp; omega
      have hk6 : k = 6 := by omega
      subst hk6
      go_wp2
      go_ret
      exact ⟨by rw [show R = 0 from HR.out.symm.trans (firstB_none HL.out)]; rfl, hB⟩

/-- Direction: what it returns. -/
def dirC (d n : Int) : Int := if inB d 0 5 = true ∧ inB n 0 23 = true then pointed d.toNat n.toNat else 0
def dirE (d n : Int) : Int := if inB d 0 5 = true ∧ inB n 0 23 = true then 0 else 2

theorem dir_found : ∀ n, n < 24 → ∀ d, d < 6 → ∃ i, i < 6 ∧ same (step i) (turned n (step d)) = true := by decide +kernel

set_option maxHeartbeats 2000000 in
theorem refDirection_any (d n : Int) (w : World) : Calls Tryd.prog 8 #[.int .i64 d, .int .i64 n] w fun e w' => e = .returned (.tuple #[.int .i64 (dirC d n), .int .i64 (dirE d n)]) ∧ Below w.heap.size w w' := by
  by_cases h1 : inB d 0 5 = true
  · by_cases h2 : inB n 0 23 = true
    · have hd := inB_true.1 h1
      have hn := inB_true.1 h2
      rw [show dirC d n = pointed d.toNat n.toNat from if_pos ⟨h1, h2⟩, show dirE d n = 0 from if_pos ⟨h1, h2⟩]
      generalize hR : pointed d.toNat n.toNat = R
      have HR := Lib.hid hR
      clear hR
      go_enter Tryd.func8, Tryd.ntmps8
      go_wp2_with fail
      refine (refWithin_any _ _ _ _).mono ?_
      rintro e w' ⟨rfl, rfl⟩
      go_wp2_with fail
      refine (refIsTurn_any _ _).mono ?_
      rintro e w' ⟨rfl, rfl⟩
      go_wp2_with fail
      refine (Pointed_any d n _ hd.1 (by omega) hn.1 (by omega)).mono ?_
      rintro e w1 ⟨rfl, k1⟩
      rw [HR.out]
      go_wp2
      go_ret2
      exact ⟨rfl, k1⟩
    · have h2 : inB n 0 23 = false := by simpa using h2
      rw [show dirC d n = 0 from if_neg (by simp [h2]), show dirE d n = 2 from if_neg (by simp [h2])]
      go_enter Tryd.func8, Tryd.ntmps8
      go_wp2_with fail
      refine (refWithin_any _ _ _ _).mono ?_
      rintro e w' ⟨rfl, rfl⟩
      go_wp2_with fail
      refine (refIsTurn_any _ _).mono ?_
      rintro e w' ⟨rfl, rfl⟩
      go_wp2
      go_ret2
      exact ⟨rfl, Below.refl _ _⟩
  · have h1 : inB d 0 5 = false := by simpa using h1
    rw [show dirC d n = 0 from if_neg (by simp [h1]), show dirE d n = 2 from if_neg (by simp [h1])]
    go_enter Tryd.func8, Tryd.ntmps8
    go_wp2_with fail
    refine (refWithin_any _ _ _ _).mono ?_
    rintro e w' ⟨rfl, rfl⟩
    go_wp2
    go_ret2
    exact ⟨rfl, Below.refl _ _⟩

set_option maxHeartbeats 2000000 in
theorem Direction_any (d n : Int) (w : World) (hs : StepsIn w) : Calls Tryd.prog 7 #[.int .i64 d, .int .i64 n] w fun e w' => e = .returned (.tuple #[.int .i64 (dirC d n), .int .i64 (dirE d n)]) ∧ Below w.heap.size w w' := by
  by_cases h1 : inB d 0 5 = true
  · by_cases h2 : inB n 0 23 = true
    · have hd := inB_true.1 h1
      have hn := inB_true.1 h2
      rw [show dirC d n = pointed d.toNat n.toNat from if_pos ⟨h1, h2⟩, show dirE d n = 0 from if_pos ⟨h1, h2⟩]
      generalize hR : pointed d.toNat n.toNat = R
      have HR := Lib.hid hR
      clear hR
      have HS := Lib.hid hs; clear hs
      go_enter Tryd.func7, Tryd.ntmps7
      go_wp2_with fail
      refine (isDirection_any _ _).mono ?_
      rintro e w' ⟨rfl, rfl⟩
      go_wp2_with fail
      refine (isTurn_any _ _).mono ?_
      rintro e w' ⟨rfl, rfl⟩
      go_wp2_with fail
      refine (chainOf_any n _ hn.1 (by omega)).mono ?_
      rintro e w1 ⟨rfl, k1⟩
      go_wp2_with fail
      refine (direction_any n.toNat d _ (by omega) hd.1 (by omega) (HS.out.below k1) (dir_found _ (by omega) _ (by omega))).mono ?_
      rintro e w2 ⟨rfl, k2⟩
      rw [HR.out]
      go_wp2
      go_ret2
      exact ⟨rfl, bthen k1 k2⟩
    · have h2 : inB n 0 23 = false := by simpa using h2
      rw [show dirC d n = 0 from if_neg (by simp [h2]), show dirE d n = 2 from if_neg (by simp [h2])]
      go_enter Tryd.func7, Tryd.ntmps7
      go_wp2_with fail
      refine (isDirection_any _ _).mono ?_
      rintro e w' ⟨rfl, rfl⟩
      go_wp2_with fail
      refine (isTurn_any _ _).mono ?_
      rintro e w' ⟨rfl, rfl⟩
      go_wp2
      go_ret2
      exact ⟨rfl, Below.refl _ _⟩
  · have h1 : inB d 0 5 = false := by simpa using h1
    rw [show dirC d n = 0 from if_neg (by simp [h1]), show dirE d n = 2 from if_neg (by simp [h1])]
    go_enter Tryd.func7, Tryd.ntmps7
    go_wp2_with fail
    refine (isDirection_any _ _).mono ?_
    rintro e w' ⟨rfl, rfl⟩
    go_wp2
    go_ret2
    exact ⟨rfl, Below.refl _ _⟩
end Go.Proofs.YthilhofkjnipiaaDoor
