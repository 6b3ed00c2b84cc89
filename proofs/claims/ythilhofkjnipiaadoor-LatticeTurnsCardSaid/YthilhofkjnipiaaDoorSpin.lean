/- The turns, walked: quarters about two axes, and the chain that a turn is. -/
import Derived.Test.YthilhofkjnipiaaDoorProg
import Derived.Test.YthilhofkjnipiaaDoorKit
import Derived.WalkKit
import Derived.Laws.EntriesVeiled
import Derived.WalkSpells
import Derived.WalkLawsBesides
import Derived.LoopTactic
import Derived.Outline
import Derived.Deep.QuietTactic
import Derived.BigQuiet
import Derived.Deep.RegionHeld3
namespace Go.Proofs.YthilhofkjnipiaaDoor
open Go.RowKit

abbrev Cell := Int × Int × Int
def rz (c : Cell) : Cell := (-c.2.1, c.1, c.2.2)
def rx (c : Cell) : Cell := (c.1, -c.2.2, c.2.1)
def Bd (c : Cell) : Prop := -5000 ≤ c.1 ∧ c.1 ≤ 5000 ∧ -5000 ≤ c.2.1 ∧ c.2.1 ≤ 5000 ∧ -5000 ≤ c.2.2 ∧ c.2.2 ≤ 5000
def rot : Nat → Cell → Cell | 1, c => rx c | 2, c => rz c | _, c => c
def rots (k : Nat) : Nat → Cell → Cell | 0, c => c | t + 1, c => rot k (rots k t c)
theorem rot_bd (k : Nat) (c : Cell) (h : Bd c) : Bd (rot k c) := by
  obtain ⟨x, y, z⟩ := c
  obtain ⟨h1, h2, h3, h4, h5, h6⟩ := h
  simp only at h1 h2 h3 h4 h5 h6
  unfold rot
  split <;> simp only [rx, rz, Bd] <;> refine ⟨?_, ?_, ?_, ?_, ?_, ?_⟩ <;> omega
theorem rots_bd (k t : Nat) (c : Cell) (h : Bd c) : Bd (rots k t c) := by
  induction t with
  | zero => exact h
  | succ t ih => exact rot_bd k _ ih

def fnV : Nat → Value
  | 1 => .func (.func 52) #[] #[]
  | 2 => .func (.func 53) #[] #[]
  | _ => .nilFunc

theorem aboutZ_any (x y z : Int) (w : World) (hy : -5000 ≤ y) (hy' : y ≤ 5000) : Calls Tryd.prog 53 #[.agg #[.int .i64 x, .int .i64 y, .int .i64 z]] w fun e w' => e = .returned (.agg #[.int .i64 (-y), .int .i64 x, .int .i64 z]) ∧ Below w.heap.size w w' := by
  go_enter Tryd.func53, Tryd.ntmps53
  go_wp2
  exact bodyPost_ret (v := .agg #[.int .i64 (-y), .int .i64 x, .int .i64 z]) (by simp [results, Tryd.results53, go_sem]) rfl ⟨rfl, ((Below.refl _ _).alloc (Nat.le_refl _) _).alloc (by simp) _⟩
theorem aboutX_any (x y z : Int) (w : World) (hy : -5000 ≤ z) (hy' : z ≤ 5000) : Calls Tryd.prog 52 #[.agg #[.int .i64 x, .int .i64 y, .int .i64 z]] w fun e w' => e = .returned (.agg #[.int .i64 x, .int .i64 (-z), .int .i64 y]) ∧ Below w.heap.size w w' := by
  go_enter Tryd.func52, Tryd.ntmps52
  go_wp2
  exact bodyPost_ret (v := .agg #[.int .i64 x, .int .i64 (-z), .int .i64 y]) (by simp [results, Tryd.results52, go_sem]) rfl ⟨rfl, ((Below.refl _ _).alloc (Nat.le_refl _) _).alloc (by simp) _⟩

def afterK (K T : Nat → Nat) (c : Cell) : Nat → Cell
  | 0 => c
  | i + 1 => rots (K i) (T i) (afterK K T c i)
theorem afterK_bd (K T : Nat → Nat) (c : Cell) (h : Bd c) (i : Nat) : Bd (afterK K T c i) := by
  induction i with
  | zero => exact h
  | succ i ih => exact rots_bd _ _ _ ih

def CellIn (w : World) (g : Nat) (c : Cell) : Prop := Blk w g 23 #[.int .i64 c.1, .int .i64 c.2.1, .int .i64 c.2.2]
def Code (k t : Nat) : Prop := t ≤ 3 ∧ (k = 0 ∧ t = 0 ∨ k = 1 ∨ k = 2)

theorem part0 (a b c d e f : Value) (w : World) : (Instr.index 69 (.agg #[a, b, c, d, e, f]) (.int .i64 0)).run Tryd.prog w = .ok (.agg #[a, b]) w := by kernel_rfl
theorem part1 (a b c d e f : Value) (w : World) : (Instr.index 69 (.agg #[a, b, c, d, e, f]) (.int .i64 1)).run Tryd.prog w = .ok (.agg #[c, d]) w := by kernel_rfl
theorem part2 (a b c d e f : Value) (w : World) : (Instr.index 69 (.agg #[a, b, c, d, e, f]) (.int .i64 2)).run Tryd.prog w = .ok (.agg #[e, f]) w := by kernel_rfl

set_option maxRecDepth 100000 in
set_option maxHeartbeats 8000000 in
theorem cell_any (K T : Nat → Nat) (c : Cell) (w : World) (hc : Bd c) (hK : ∀ i, Code (K i) (T i)) :
    Calls Tryd.prog 27 #[.agg #[fnV (K 0), .int .i64 (T 0), fnV (K 1), .int .i64 (T 1), fnV (K 2), .int .i64 (T 2)], .agg #[.int .i64 c.1, .int .i64 c.2.1, .int .i64 c.2.2]] w fun e w' =>
      e = .returned (.agg #[.int .i64 (afterK K T c 3).1, .int .i64 (afterK K T c 3).2.1, .int .i64 (afterK K T c 3).2.2]) ∧ Below w.heap.size w w' := by
  generalize hA : afterK K T c = A
  have hA0 : A 0 = c := by rw [← hA]; rfl
  have hAs : ∀ i, A (i + 1) = rots (K i) (T i) (A i) := by intro i; rw [← hA]; rfl
  have hAb : ∀ i, Bd (A i) := by intro i; rw [← hA]; exact afterK_bd K T c hc i
  have HA0 := Lib.hid hA0
  have HAs := Lib.hid hAs
  have HAb := Lib.hid hAb
  have HK := Lib.hid hK
  clear hA hA0 hAs hAb hK
  obtain ⟨v0, hv0⟩ : ∃ v, v = fnV (K 0) := ⟨_, rfl⟩
  obtain ⟨v1, hv1⟩ : ∃ v, v = fnV (K 1) := ⟨_, rfl⟩
  obtain ⟨v2, hv2⟩ : ∃ v, v = fnV (K 2) := ⟨_, rfl⟩
  rw [← hv0, ← hv1, ← hv2]
  have HV0 := Lib.hid hv0
  have HV1 := Lib.hid hv1
  have HV2 := Lib.hid hv2
  clear hv0 hv1 hv2
  go_enter Tryd.func27, Tryd.ntmps27
  go_wp2
  go_loopw [8] (fun i wr => ∃ k : Nat, k ≤ 3 ∧ i = .int .i64 k ∧ CellIn wr (w.heap.size + 1) (A k) ∧ CellIn wr (w.heap.size + 1 + 1) (0, 0, 0) ∧ Below w.heap.size w wr) (fun i _ => 3 - (intOf i).toNat)
  case atStart =>
    refine ⟨0, by omega, rfl, ?_, ?_, ?_⟩
    · rw [HA0.out]; exact Blk.alloc (Blk.at_ _ _ _ _ (by simp)) _
    · exact Blk.at_ _ _ _ _ (by simp)
    · exact (((Below.refl _ _).alloc (Nat.le_refl _) _).alloc (by simp) _).alloc (by simp; omega) _
  case round =>
    obtain ⟨k, hk, rfl, hI, hR, hB⟩ := hrel
    by_cases hlt : k < 3
    · have hltb : decide ((k : Int) < 3) = true := by simp; omega
      have hcode := HK.out k
      obtain ⟨ht, hcode⟩ := hcode
      obtain ⟨i1, i2, i3, i4, i5, i6, i7⟩ := Blk.three hI
      have h3 : k = 0 ∨ k = 1 ∨ k = 2 := by omega
      have hix : ∃ vk, vk = fnV (K k) ∧ ∀ W, (Instr.index 69 (.agg #[v0, .int .i64 (T 0), v1, .int .i64 (T 1), v2, .int .i64 (T 2)]) (.int .i64 (k : Int))).run Tryd.prog W = .ok (.agg #[vk, .int .i64 (T k)]) W := by
        rcases h3 with rfl | rfl | rfl
        · exact ⟨v0, HV0.out, fun W => part0 _ _ _ _ _ _ W⟩
        · exact ⟨v1, HV1.out, fun W => part1 _ _ _ _ _ _ W⟩
        · exact ⟨v2, HV2.out, fun W => part2 _ _ _ _ _ _ W⟩
      obtain ⟨vk, hvk, ixk⟩ := hix
      have HVK := Lib.hid hvk
      clear hvk h3
      rcases hcode with ⟨hk0, ht0⟩ | hk0 | hk0
      · obtain rfl : vk = .nilFunc := by rw [HVK.out, hk0]; rfl
        have HT := Lib.hid ht0; clear hk0 ht0
        go_wp2
        obtain ⟨wo, rfl⟩ : ∃ wo : World, wo = wr := ⟨_, rfl⟩
        go_loopw [13] (fun i wr => ∃ j : Nat, j ≤ T k ∧ i = .int .i64 j ∧ CellIn wr (w.heap.size + 1) (rots (K k) j (A k)) ∧ CellIn wr (w.heap.size + 1 + 1) (0, 0, 0) ∧ Blk wr wo.heap.size 67 #[.nilFunc, .int .i64 (T k)] ∧ Below w.heap.size w wr) (fun i _ => T k - (intOf i).toNat)
        case atStart => exact ⟨0, Nat.zero_le _, rfl, hI.alloc _, hR.alloc _, Blk.at_ _ _ _ _ rfl, hB.alloc hB.size _⟩
        case round =>
          obtain ⟨j, hj, rfl, hI2, hR2, hP, hB2⟩ := hrel
          obtain ⟨i1, i2, i3, i4, i5, i6, i7⟩ := Blk.three hI2
          have hbd := rots_bd (K k) j _ (HAb.out k)
          obtain ⟨p1, p2, p3, p4, p5, p6⟩ := hbd
          have m1 := hP.cell 0
          have m2 := hP.lt
          simp only [List.getElem?_toArray, List.getElem?_cons_zero] at m1
          by_cases hjt : j < T k
          · exact absurd hjt (by have := HT.out; omega)
          · have hje : j = T k := by omega
            have HJ := Lib.hid hje; clear hje
            go_wp2
            go_roundw
            case rel => exact ⟨k + 1, by omega, by go_num, (by rw [HAs.out k, ← HJ.out]; exact hI2), hR2, hB2⟩
            case measure => simp [intOf]; omega
      · obtain rfl : vk = .func (.func 52) #[] #[] := by rw [HVK.out, hk0]; rfl
        have HK' := Lib.hid hk0; clear hk0
        go_wp2
        obtain ⟨wo, rfl⟩ : ∃ wo : World, wo = wr := ⟨_, rfl⟩
        go_loopw [13] (fun i wr => ∃ j : Nat, j ≤ T k ∧ i = .int .i64 j ∧ CellIn wr (w.heap.size + 1) (rots (K k) j (A k)) ∧ CellIn wr (w.heap.size + 1 + 1) (0, 0, 0) ∧ Blk wr wo.heap.size 67 #[.func (.func 52) #[] #[], .int .i64 (T k)] ∧ Below w.heap.size w wr) (fun i _ => T k - (intOf i).toNat)
        case atStart => exact ⟨0, by omega, rfl, hI.alloc _, hR.alloc _, Blk.at_ _ _ _ _ rfl, hB.alloc hB.size _⟩
        case round =>
          obtain ⟨j, hj, rfl, hI2, hR2, hP, hB2⟩ := hrel
          obtain ⟨i1, i2, i3, i4, i5, i6, i7⟩ := Blk.three hI2
          have hbd := rots_bd (K k) j _ (HAb.out k)
          obtain ⟨p1, p2, p3, p4, p5, p6⟩ := hbd
          have m1 := hP.cell 0
          have m2 := hP.lt
          simp only [List.getElem?_toArray, List.getElem?_cons_zero] at m1
          by_cases hjt : j < T k
          · go_wp2_with (go_at_call 52; refine (aboutX_any _ _ _ _ (by omega) (by omega)).mono ?_; rintro e w' ⟨rfl, hb⟩; obtain ⟨q1, q2⟩ := bcell hb; have q3 := hb.size)
            go_roundw
            case rel =>
              have hlt2 := Blk.lt hR2
              refine ⟨j + 1, by omega, by go_num, ?_, ?_, ?_, ?_⟩
              · have := (((Blk.below hI2 hb i7).set_ 0 (.int .i64 (rot 1 (rots (K k) j (A k))).1)).set_ 1 (.int .i64 (rot 1 (rots (K k) j (A k))).2.1)).set_ 2 (.int .i64 (rot 1 (rots (K k) j (A k))).2.2)
                unfold CellIn
                rw [show rots (K k) (j + 1) (A k) = rot 1 (rots (K k) j (A k)) from by rw [rots, HK'.out]]
                exact this
              · exact (((Blk.below hR2 hb hlt2).far (p := ⟨w.heap.size + 1, _, none⟩) (by simp) _).far (p := ⟨w.heap.size + 1, _, none⟩) (by simp) _).far (p := ⟨w.heap.size + 1, _, none⟩) (by simp) _
              · have hne : wo.heap.size ≠ w.heap.size + 1 := by have := Blk.lt hI; omega
                exact (((Blk.below hP hb hP.lt).far (p := ⟨w.heap.size + 1, _, none⟩) hne _).far (p := ⟨w.heap.size + 1, _, none⟩) hne _).far (p := ⟨w.heap.size + 1, _, none⟩) hne _
              · exact ((((hB2.trans (hb.mono hB2.size)).setCell (p := ⟨w.heap.size + 1, _, none⟩) (by simp) _).setCell (p := ⟨w.heap.size + 1, _, none⟩) (by simp) _).setCell (p := ⟨w.heap.size + 1, _, none⟩) (by simp) _)
            case measure => simp [intOf]; omega
          · have hje : j = T k := by omega
            have HJ := Lib.hid hje; clear hje
            go_wp2
            go_roundw
            case rel => exact ⟨k + 1, by omega, by go_num, (by rw [HAs.out k, ← HJ.out]; exact hI2), hR2, hB2⟩
            case measure => simp [intOf]; omega
      · obtain rfl : vk = .func (.func 53) #[] #[] := by rw [HVK.out, hk0]; rfl
        have HK' := Lib.hid hk0; clear hk0
        go_wp2
        obtain ⟨wo, rfl⟩ : ∃ wo : World, wo = wr := ⟨_, rfl⟩
        go_loopw [13] (fun i wr => ∃ j : Nat, j ≤ T k ∧ i = .int .i64 j ∧ CellIn wr (w.heap.size + 1) (rots (K k) j (A k)) ∧ CellIn wr (w.heap.size + 1 + 1) (0, 0, 0) ∧ Blk wr wo.heap.size 67 #[.func (.func 53) #[] #[], .int .i64 (T k)] ∧ Below w.heap.size w wr) (fun i _ => T k - (intOf i).toNat)
        case atStart => exact ⟨0, by omega, rfl, hI.alloc _, hR.alloc _, Blk.at_ _ _ _ _ rfl, hB.alloc hB.size _⟩
        case round =>
          obtain ⟨j, hj, rfl, hI2, hR2, hP, hB2⟩ := hrel
          obtain ⟨i1, i2, i3, i4, i5, i6, i7⟩ := Blk.three hI2
          have hbd := rots_bd (K k) j _ (HAb.out k)
          obtain ⟨p1, p2, p3, p4, p5, p6⟩ := hbd
          have m1 := hP.cell 0
          have m2 := hP.lt
          simp only [List.getElem?_toArray, List.getElem?_cons_zero] at m1
          by_cases hjt : j < T k
          · go_wp2_with (go_at_call 53; refine (aboutZ_any _ _ _ _ (by omega) (by omega)).mono ?_; rintro e w' ⟨rfl, hb⟩; obtain ⟨q1, q2⟩ := bcell hb; have q3 := hb.size)
            go_roundw
            case rel =>
              have hlt2 := Blk.lt hR2
              refine ⟨j + 1, by omega, by go_num, ?_, ?_, ?_, ?_⟩
              · have := (((Blk.below hI2 hb i7).set_ 0 (.int .i64 (rot 2 (rots (K k) j (A k))).1)).set_ 1 (.int .i64 (rot 2 (rots (K k) j (A k))).2.1)).set_ 2 (.int .i64 (rot 2 (rots (K k) j (A k))).2.2)
                unfold CellIn
                rw [show rots (K k) (j + 1) (A k) = rot 2 (rots (K k) j (A k)) from by rw [rots, HK'.out]]
                exact this
              · exact (((Blk.below hR2 hb hlt2).far (p := ⟨w.heap.size + 1, _, none⟩) (by simp) _).far (p := ⟨w.heap.size + 1, _, none⟩) (by simp) _).far (p := ⟨w.heap.size + 1, _, none⟩) (by simp) _
              · have hne : wo.heap.size ≠ w.heap.size + 1 := by have := Blk.lt hI; omega
                exact (((Blk.below hP hb hP.lt).far (p := ⟨w.heap.size + 1, _, none⟩) hne _).far (p := ⟨w.heap.size + 1, _, none⟩) hne _).far (p := ⟨w.heap.size + 1, _, none⟩) hne _
              · exact ((((hB2.trans (hb.mono hB2.size)).setCell (p := ⟨w.heap.size + 1, _, none⟩) (by simp) _).setCell (p := ⟨w.heap.size + 1, _, none⟩) (by simp) _).setCell (p := ⟨w.heap.size + 1, _, none⟩) (by simp) _)
            case measure => simp [intOf]; omega
          · have hje : j = T k := by omega
            have HJ := Lib.hid hje; clear hje
            go_wp2
            go_roundw
            case rel => exact ⟨k + 1, by omega, by go_num, (by rw [HAs.out k, ← HJ.out]; exact hI2), hR2, hB2⟩
            case measure => simp [intOf]; omega
    · have hk3 : k = 3 := by omega
      subst hk3
      obtain ⟨i1, i2, i3, i4, i5, i6, i7⟩ := Blk.three hI
      obtain ⟨j1, j2, j3, j4, j5, j6, j7⟩ := Blk.three hR
      go_wp2
      obtain ⟨f1, f2, f3, _⟩ := Blk.three (((hR.set_ 0 (.int .i64 (A 3).1)).set_ 1 (.int .i64 (A 3).2.1)).set_ 2 (.int .i64 (A 3).2.2))
      exact bodyPost_ret (v := .agg #[.int .i64 (A 3).1, .int .i64 (A 3).2.1, .int .i64 (A 3).2.2]) (by simp [results, Tryd.results27, go_sem, f1, f2, f3]) rfl ⟨rfl, ((hB.setCell (by simp; omega) _).setCell (by simp; omega) _).setCell (by simp; omega) _⟩
end Go.Proofs.YthilhofkjnipiaaDoor
