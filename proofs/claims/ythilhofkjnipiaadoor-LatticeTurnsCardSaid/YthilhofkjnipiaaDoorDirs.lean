/- Directions of package lattice, turned: the table of steps, and the search in it. -/
import Derived.Test.YthilhofkjnipiaaDoorWays
import Derived.Deep.DeepCutAuto
namespace Go.Proofs.YthilhofkjnipiaaDoor
open Go.RowKit

/-- The step along a direction. -/
def step : Nat → Cell
  | 0 => (1, 0, 0)
  | 1 => (-1, 0, 0)
  | 2 => (0, 1, 0)
  | 3 => (0, -1, 0)
  | 4 => (0, 0, 1)
  | _ => (0, 0, -1)
theorem step_bd (d : Nat) : Bd (step d) := by
  unfold step Bd
  split <;> simp

/-- The package's table of steps, in memory. -/
def StepsIn (w : World) : Prop := 0 < w.heap.size ∧ ∀ d : Nat, d < 6 → w.cell? ⟨0, d * 3, none⟩ = some (.int .i64 (step d).1) ∧ w.cell? ⟨0, d * 3 + 1, none⟩ = some (.int .i64 (step d).2.1) ∧ w.cell? ⟨0, d * 3 + 2, none⟩ = some (.int .i64 (step d).2.2)
theorem StepsIn.below {w w' : World} (h : StepsIn w) (hb : Below w.heap.size w w') : StepsIn w' :=
  ⟨by have := h.1; have := hb.size; omega, fun d hd => by
    obtain ⟨a, b, c⟩ := h.2 d hd
    exact ⟨(hb.cell (p := ⟨0, _, none⟩) h.1).trans a, (hb.cell (p := ⟨0, _, none⟩) h.1).trans b, (hb.cell (p := ⟨0, _, none⟩) h.1).trans c⟩⟩
theorem StepsIn.alloc {w : World} (h : StepsIn w) (o : Obj) : StepsIn (w.alloc o) := h.below ((Below.refl _ _).alloc (Nat.le_refl _) _)
theorem StepsIn.all {w : World} (h : StepsIn w) :
    (w.cell? ⟨0, 0, none⟩ = some (.int .i64 1) ∧ w.cell? ⟨0, 1, none⟩ = some (.int .i64 0) ∧ w.cell? ⟨0, 2, none⟩ = some (.int .i64 0)) ∧
    (w.cell? ⟨0, 3, none⟩ = some (.int .i64 (-1)) ∧ w.cell? ⟨0, 4, none⟩ = some (.int .i64 0) ∧ w.cell? ⟨0, 5, none⟩ = some (.int .i64 0)) ∧
    (w.cell? ⟨0, 6, none⟩ = some (.int .i64 0) ∧ w.cell? ⟨0, 7, none⟩ = some (.int .i64 1) ∧ w.cell? ⟨0, 8, none⟩ = some (.int .i64 0)) ∧
    (w.cell? ⟨0, 9, none⟩ = some (.int .i64 0) ∧ w.cell? ⟨0, 10, none⟩ = some (.int .i64 (-1)) ∧ w.cell? ⟨0, 11, none⟩ = some (.int .i64 0)) ∧
    (w.cell? ⟨0, 12, none⟩ = some (.int .i64 0) ∧ w.cell? ⟨0, 13, none⟩ = some (.int .i64 0) ∧ w.cell? ⟨0, 14, none⟩ = some (.int .i64 1)) ∧
    (w.cell? ⟨0, 15, none⟩ = some (.int .i64 0) ∧ w.cell? ⟨0, 16, none⟩ = some (.int .i64 0) ∧ w.cell? ⟨0, 17, none⟩ = some (.int .i64 (-1))) :=
  ⟨h.2 0 (by omega), h.2 1 (by omega), h.2 2 (by omega), h.2 3 (by omega), h.2 4 (by omega), h.2 5 (by omega)⟩

def stepsV : Value := .agg #[.int .i64 1, .int .i64 0, .int .i64 0, .int .i64 (-1), .int .i64 0, .int .i64 0, .int .i64 0, .int .i64 1, .int .i64 0, .int .i64 0, .int .i64 (-1), .int .i64 0, .int .i64 0, .int .i64 0, .int .i64 1, .int .i64 0, .int .i64 0, .int .i64 (-1)]
theorem index_steps0 (w : World) : (Instr.index 97 (.agg #[.int .i64 1, .int .i64 0, .int .i64 0, .int .i64 (-1), .int .i64 0, .int .i64 0, .int .i64 0, .int .i64 1, .int .i64 0, .int .i64 0, .int .i64 (-1), .int .i64 0, .int .i64 0, .int .i64 0, .int .i64 1, .int .i64 0, .int .i64 0, .int .i64 (-1)]) (.int .i64 0)).run Tryd.prog w = .ok (.agg #[.int .i64 1, .int .i64 0, .int .i64 0]) w := by kernel_rfl
theorem index_steps1 (w : World) : (Instr.index 97 (.agg #[.int .i64 1, .int .i64 0, .int .i64 0, .int .i64 (-1), .int .i64 0, .int .i64 0, .int .i64 0, .int .i64 1, .int .i64 0, .int .i64 0, .int .i64 (-1), .int .i64 0, .int .i64 0, .int .i64 0, .int .i64 1, .int .i64 0, .int .i64 0, .int .i64 (-1)]) (.int .i64 1)).run Tryd.prog w = .ok (.agg #[.int .i64 (-1), .int .i64 0, .int .i64 0]) w := by kernel_rfl
theorem index_steps2 (w : World) : (Instr.index 97 (.agg #[.int .i64 1, .int .i64 0, .int .i64 0, .int .i64 (-1), .int .i64 0, .int .i64 0, .int .i64 0, .int .i64 1, .int .i64 0, .int .i64 0, .int .i64 (-1), .int .i64 0, .int .i64 0, .int .i64 0, .int .i64 1, .int .i64 0, .int .i64 0, .int .i64 (-1)]) (.int .i64 2)).run Tryd.prog w = .ok (.agg #[.int .i64 0, .int .i64 1, .int .i64 0]) w := by kernel_rfl
theorem index_steps3 (w : World) : (Instr.index 97 (.agg #[.int .i64 1, .int .i64 0, .int .i64 0, .int .i64 (-1), .int .i64 0, .int .i64 0, .int .i64 0, .int .i64 1, .int .i64 0, .int .i64 0, .int .i64 (-1), .int .i64 0, .int .i64 0, .int .i64 0, .int .i64 1, .int .i64 0, .int .i64 0, .int .i64 (-1)]) (.int .i64 3)).run Tryd.prog w = .ok (.agg #[.int .i64 0, .int .i64 (-1), .int .i64 0]) w := by kernel_rfl
theorem index_steps4 (w : World) : (Instr.index 97 (.agg #[.int .i64 1, .int .i64 0, .int .i64 0, .int .i64 (-1), .int .i64 0, .int .i64 0, .int .i64 0, .int .i64 1, .int .i64 0, .int .i64 0, .int .i64 (-1), .int .i64 0, .int .i64 0, .int .i64 0, .int .i64 1, .int .i64 0, .int .i64 0, .int .i64 (-1)]) (.int .i64 4)).run Tryd.prog w = .ok (.agg #[.int .i64 0, .int .i64 0, .int .i64 1]) w := by kernel_rfl
theorem index_steps5 (w : World) : (Instr.index 97 (.agg #[.int .i64 1, .int .i64 0, .int .i64 0, .int .i64 (-1), .int .i64 0, .int .i64 0, .int .i64 0, .int .i64 1, .int .i64 0, .int .i64 0, .int .i64 (-1), .int .i64 0, .int .i64 0, .int .i64 0, .int .i64 1, .int .i64 0, .int .i64 0, .int .i64 (-1)]) (.int .i64 5)).run Tryd.prog w = .ok (.agg #[.int .i64 0, .int .i64 0, .int .i64 (-1)]) w := by kernel_rfl
theorem index_steps (k : Nat) (hk : k < 6) (w : World) : (Instr.index 97 (.agg #[.int .i64 1, .int .i64 0, .int .i64 0, .int .i64 (-1), .int .i64 0, .int .i64 0, .int .i64 0, .int .i64 1, .int .i64 0, .int .i64 0, .int .i64 (-1), .int .i64 0, .int .i64 0, .int .i64 0, .int .i64 1, .int .i64 0, .int .i64 0, .int .i64 (-1)]) (.int .i64 (k : Int))).run Tryd.prog w = .ok (.agg #[.int .i64 (step k).1, .int .i64 (step k).2.1, .int .i64 (step k).2.2]) w := by
  have h : k = 0 ∨ k = 1 ∨ k = 2 ∨ k = 3 ∨ k = 4 ∨ k = 5 := by omega
  rcases h with rfl | rfl | rfl | rfl | rfl | rfl
  · exact index_steps0 w
  · exact index_steps1 w
  · exact index_steps2 w
  · exact index_steps3 w
  · exact index_steps4 w
  · exact index_steps5 w

/-- The direction that a direction is turned into. -/
def pointed (d n : Nat) : Nat := firstB (fun i => same (step i) (turned n (step d))) 6

set_option maxRecDepth 100000 in
set_option maxHeartbeats 4000000 in
theorem direction_any (n : Nat) (d : Int) (w : World) (hn : n < 24) (d0 : 0 ≤ d) (d1 : d < 6) (hs : StepsIn w) (hp : ∃ i, i < 6 ∧ same (step i) (turned n (step d.toNat)) = true) :
    Calls Tryd.prog 32 #[chainV n, .int .i64 d] w fun e w' => e = .returned (.int .i64 (pointed d.toNat n)) ∧ Below w.heap.size w w' := by
  generalize hR : pointed d.toNat n = R
  have HR := Lib.hid hR; clear hR
  obtain ⟨m, hm6, hmt⟩ := hp
  have HM := Lib.hid hmt; clear hmt
  unfold chainV
  obtain ⟨v0, hv0⟩ : ∃ v, v = fnV (Kn n 0) := ⟨_, rfl⟩
  obtain ⟨v1, hv1⟩ : ∃ v, v = fnV (Kn n 1) := ⟨_, rfl⟩
  obtain ⟨v2, hv2⟩ : ∃ v, v = fnV (Kn n 2) := ⟨_, rfl⟩
  have HV : Hid (chainV n = .agg #[v0, .int .i64 (Tn n 0), v1, .int .i64 (Tn n 1), v2, .int .i64 (Tn n 2)]) := Lib.hid (by rw [hv0, hv1, hv2]; rfl)
  rw [← hv0, ← hv1, ← hv2]
  clear hv0 hv1 hv2
  have cont := fun W hb => cell_turned n hn (step d.toNat) W hb
  rw [HV.out] at cont
  have HC := Lib.hid cont; clear cont
  go_enter Tryd.func32, Tryd.ntmps32
  go_upto_region 1 with fail
  go_cut [5] (fun v wr => ∃ g, v = .pointer (some ⟨g, 0, none⟩) ∧ w.heap.size ≤ g ∧ CellIn wr g (turned n (step d.toNat)) ∧ Below w.heap.size w wr)
  case first =>
    have hd6 : d.toNat < 6 := by omega
    obtain ⟨s1, s2, s3⟩ := hs.2 d.toNat hd6
    have hs0 := hs.1
    have Hs := Lib.hid hs; clear hs
    go_region_with (first
      | (go_at_call 27; refine (HC.out _ (step_bd _)).mono ?_; rintro e w' ⟨rfl, hb⟩; obtain ⟨q1, q2⟩ := bcell hb; have q3 := hb.size))
    all_goals
      have kb : Below w.heap.size w w' := Below.trans (by repeat (first | exact Below.refl _ _ | refine Below.drew ?_ | refine Below.alloc ?_ (by simp <;> omega) _)) (hb.mono (by simp <;> omega))
      go_wp2_with fail
      go_meet
      first
        | exact ⟨_, rfl, kb.size, Blk.at_ _ _ _ _ rfl, kb.alloc kb.size _⟩
        | exact ⟨w.heap.size + 1, rfl, by omega, cell_set3 (c := (0, 0, 0)) (Blk.below (Blk.at_ _ _ _ _ (by simp)).drew hb (by simp)) _, below_set3 kb (by omega) _⟩
        | exact ⟨w.heap.size + 1, rfl, by omega, cell_set3 (c := (0, 0, 0)) (Blk.below (Blk.at_ _ _ _ _ (by simp)) hb (by simp)) _, below_set3 kb (by omega) _⟩
  case rest =>
    obtain ⟨g, rfl, hg, hG, hB⟩ := hcut
    have hS := hs.below hB
    obtain ⟨⟨a1, a2, a3⟩, ⟨a4, a5, a6⟩, ⟨a7, a8, a9⟩, ⟨a10, a11, a12⟩, ⟨a13, a14, a15⟩, ⟨a16, a17, a18⟩⟩ := hS.all
    go_wp2
    go_loopw [14] (fun i wr => ∃ k : Nat, k ≤ 6 ∧ i = .int .i64 k ∧ (∀ i, i < k → same (step i) (turned n (step d.toNat)) = false) ∧ CellIn wr g (turned n (step d.toNat)) ∧ Below w.heap.size w wr) (fun i _ => 6 - (intOf i).toNat)
    case atStart => exact ⟨0, by omega, rfl, fun i hi => absurd hi (by omega), hG, hB⟩
    case round =>
      clear hG hB a1 a2 a3 a4 a5 a6 a7 a8 a9 a10 a11 a12 a13 a14 a15 a16 a17 a18
      obtain ⟨k, hk, rfl, hl, hG, hB⟩ := hrel
      have HL := Lib.hid hl; clear hl
      by_cases hlt : k < 6
      · have hltb : decide ((k : Int) < 6) = true := by simp; omega
        have ix := index_steps k hlt
        have eq1 := eqCell (step k) (turned n (step d.toNat))
        have eq2 := fun o1 o2 => guardCell .eql o1 o2 (step k) (turned n (step d.toNat))
        obtain ⟨c1, c2, c3, _, _, _, c7⟩ := Blk.three hG
        by_cases he : same (step k) (turned n (step d.toNat)) = true
        · go_wp2
          go_ret
          exact ⟨by rw [show R = k from HR.out.symm.trans (firstB_at hlt he HL.out)]; rfl, hB.alloc hB.size _⟩
        · have he : same (step k) (turned n (step d.toNat)) = false := by simpa using he
          go_wp2
          go_roundw
          case rel => exact ⟨k + 1, by omega, by go_num, fun i hi => by rcases Nat.lt_succ_iff_lt_or_eq.1 hi with h | rfl; exact HL.out i h; exact he, hG.alloc _, hB.alloc hB.size _⟩
          case measure => simp [intOf]; omega
      · exact absurd (HL.out m (by omega)) (by rw [HM.out]; simp)
end Go.Proofs.YthilhofkjnipiaaDoor
