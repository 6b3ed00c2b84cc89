/- The specification's exported turns, walked. -/
import Derived.Test.YthilhofkjnipiaaDoorRefU
import Derived.Test.YthilhofkjnipiaaDoorScan
import Derived.Deep.RegionWith
import Derived.Deep.RegionHeld3
import Derived.Deep.DeepCutAuto
namespace Go.Proofs.YthilhofkjnipiaaDoor
open Go.RowKit

theorem Turned_nat (c : Cell) (k : Nat) (w : World) (hc : Bd c) (h1 : k < 24) : Calls Tryd.prog 30 #[.agg #[.int .i64 c.1, .int .i64 c.2.1, .int .i64 c.2.2], .int .i64 k] w fun e w' =>
    e = .returned (.agg #[.int .i64 (turned k c).1, .int .i64 (turned k c).2.1, .int .i64 (turned k c).2.2]) ∧ Below w.heap.size w w' := by
  have h := Turned_any c k w hc (by omega) (by omega)
  rw [Int.toNat_natCast] at h
  exact h

set_option maxHeartbeats 2000000 in
theorem refTurn_any (c : Cell) (n : Int) (w : World) : Calls Tryd.prog 6 #[.agg #[.int .i64 c.1, .int .i64 c.2.1, .int .i64 c.2.2], .int .i64 n] w fun e w' => e = .returned (.tuple #[.agg #[.int .i64 (turnC c n).1, .int .i64 (turnC c n).2.1, .int .i64 (turnC c n).2.2], .int .i64 (turnE c n)]) ∧ Below w.heap.size w w' := by
  by_cases h2 : near c (-2000) 2000 = true
  · by_cases h1 : inB n 0 23 = true
    · rw [turnC_yes h1 h2, turnE_yes h1 h2]
      have hn := inB_true.1 h1
      generalize hR : turned n.toNat c = R
      have HR := Lib.hid hR
      clear hR
      go_enter Tryd.func6, Tryd.ntmps6
      go_wp2_with fail
      refine (refNear_any c _ _ _).mono ?_
      rintro e w1 ⟨rfl, hb1⟩
      have kB : Below w.heap.size w w1 := (((Below.refl _ _).alloc (Nat.le_refl _) _).alloc (by simp) _).trans (hb1.mono (by simp; omega))
      have kC : CellIn w1 w.heap.size c := Blk.below ((Blk.at_ _ _ _ _ rfl).alloc _) hb1 (by simp; omega)
      have kR : CellIn w1 (w.heap.size + 1) (0, 0, 0) := Blk.below (Blk.at_ _ _ _ _ (by simp)) hb1 (by simp)
      clear hb1
      obtain ⟨c1, c2, c3, c4, c5, c6, c7⟩ := Blk.three kC
      go_wp2_with fail
      refine (refIsTurn_any _ _).mono ?_
      rintro e w' ⟨rfl, rfl⟩
      go_wp2_with fail
      refine (Turned_any c n _ (near_bd h2) hn.1 (by omega)).mono ?_
      rintro e w2 ⟨rfl, hb2⟩
      rw [HR.out]
      have kB2 := bthen kB hb2
      have kR2 := CellIn.below kR hb2
      clear hb2
      obtain ⟨r1, r2, r3, r4, r5, r6, r7⟩ := Blk.three kR2
      go_wp2
      obtain ⟨f1, f2, f3, _⟩ := Blk.three (cell_set3 kR2 R)
      exact bodyPost_ret (v := .tuple #[.agg #[.int .i64 R.1, .int .i64 R.2.1, .int .i64 R.2.2], .int .i64 0]) (by simp [results, Tryd.results6, go_sem, f1, f2, f3]) rfl ⟨rfl, below_set3 kB2 (by omega) R⟩
    · rw [turnC_no (fun h => h1 h.1), turnE_no (fun h => h1 h.1)]
      have h1 : inB n 0 23 = false := by simpa using h1
      go_enter Tryd.func6, Tryd.ntmps6
      go_wp2_with fail
      refine (refNear_any c _ _ _).mono ?_
      rintro e w1 ⟨rfl, hb1⟩
      have kB : Below w.heap.size w w1 := (((Below.refl _ _).alloc (Nat.le_refl _) _).alloc (by simp) _).trans (hb1.mono (by simp; omega))
      have kR : CellIn w1 (w.heap.size + 1) (0, 0, 0) := Blk.below (Blk.at_ _ _ _ _ (by simp)) hb1 (by simp)
      clear hb1
      obtain ⟨r1, r2, r3, r4, r5, r6, r7⟩ := Blk.three kR
      go_wp2_with fail
      refine (refIsTurn_any _ _).mono ?_
      rintro e w' ⟨rfl, rfl⟩
      go_wp2
      obtain ⟨f1, f2, f3, _⟩ := Blk.three (cell_set3 kR (0, 0, 0))
      exact bodyPost_ret (v := .tuple #[.agg #[.int .i64 0, .int .i64 0, .int .i64 0], .int .i64 2]) (by simp [results, Tryd.results6, go_sem, f1, f2, f3]) rfl ⟨rfl, below_set3 kB (by omega) (0, 0, 0)⟩
  · rw [turnC_no (fun h => h2 h.2), turnE_no (fun h => h2 h.2)]
    have h2 : near c (-2000) 2000 = false := by simpa using h2
    go_enter Tryd.func6, Tryd.ntmps6
    go_wp2_with fail
    refine (refNear_any c _ _ _).mono ?_
    rintro e w1 ⟨rfl, hb1⟩
    have kB : Below w.heap.size w w1 := (((Below.refl _ _).alloc (Nat.le_refl _) _).alloc (by simp) _).trans (hb1.mono (by simp; omega))
    have kR : CellIn w1 (w.heap.size + 1) (0, 0, 0) := Blk.below (Blk.at_ _ _ _ _ (by simp)) hb1 (by simp)
    clear hb1
    obtain ⟨r1, r2, r3, r4, r5, r6, r7⟩ := Blk.three kR
    go_wp2
    obtain ⟨f1, f2, f3, _⟩ := Blk.three (cell_set3 kR (0, 0, 0))
    exact bodyPost_ret (v := .tuple #[.agg #[.int .i64 0, .int .i64 0, .int .i64 0], .int .i64 2]) (by simp [results, Tryd.results6, go_sem, f1, f2, f3]) rfl ⟨rfl, below_set3 kB (by omega) (0, 0, 0)⟩

def ex : Cell := (1, 0, 0)
def ey : Cell := (0, 1, 0)
theorem ex_bd : Bd ex := by unfold Bd ex; simp
theorem ey_bd : Bd ey := by unfold Bd ey; simp
def axesB (a b n : Nat) : Bool := same (turned n ex) (turned b (turned a ex)) && same (turned n ey) (turned b (turned a ey))
def composedR (a b : Nat) : Nat := firstB (axesB a b) 24

/-- What a loop that compares keeps: two cells of the call's own. -/
theorem xy_kept {W W' : World} {B : Nat} {f t : Cell} {w : World} (hb : Below W.heap.size W W') (h1 : Below B w W) (h2 : CellIn W B f) (h3 : CellIn W (B + 1) t) (hB : B ≤ w.heap.size) :
    W'.cell? ⟨B, 0, none⟩ = some (.int .i64 f.1) ∧ W'.cell? ⟨B, 1, none⟩ = some (.int .i64 f.2.1) ∧ W'.cell? ⟨B, 2, none⟩ = some (.int .i64 f.2.2) ∧ W'.cell? ⟨B + 1, 0, none⟩ = some (.int .i64 t.1) ∧ W'.cell? ⟨B + 1, 1, none⟩ = some (.int .i64 t.2.1) ∧ W'.cell? ⟨B + 1, 2, none⟩ = some (.int .i64 t.2.2) ∧ Below B w W' ∧ CellIn W' B f ∧ CellIn W' (B + 1) t :=
  two_kept hb h1 h2 h3 hB

set_option maxRecDepth 100000 in
set_option maxHeartbeats 8000000 in
theorem Composed_any (a b : Int) (w : World) (a0 : 0 ≤ a) (a1 : a < 24) (b0 : 0 ≤ b) (b1 : b < 24) : Calls Tryd.prog 36 #[.int .i64 a, .int .i64 b] w fun e w' => e = .returned (.int .i64 (composedR a.toNat b.toNat)) ∧ Below w.heap.size w w' := by
  generalize hR : composedR a.toNat b.toNat = R
  have HR := Lib.hid hR; clear hR
  go_enter Tryd.func36, Tryd.ntmps36
  go_wp2
  go_loopw [7] (fun i wr => ∃ k : Nat, k ≤ 24 ∧ i = .int .i64 k ∧ (∀ i, i < k → axesB a.toNat b.toNat i = false) ∧ CellIn wr w.heap.size ex ∧ CellIn wr (w.heap.size + 1) ey ∧ Below w.heap.size w wr) (fun i _ => 24 - (intOf i).toNat)
  case atStart => exact ⟨0, by omega, rfl, fun i hi => absurd hi (by omega), (Blk.at_ _ _ _ _ rfl).alloc _, Blk.at_ _ _ _ _ (by simp), ((Below.refl _ _).alloc (Nat.le_refl _) _).alloc (by simp) _⟩
  case round =>
    obtain ⟨k, hk, rfl, hl, hF, hT, hB⟩ := hrel
    have HL := Lib.hid hl; clear hl
    by_cases hlt : k < 24
    · have hltb : decide ((k : Int) < 24) = true := by simp; omega
      have p1 := fun W => Turned_nat ex k W ex_bd hlt
      have p2 := fun W => Turned_any ex a W ex_bd a0 a1
      have p3 := fun W => Turned_any (turned a.toNat ex) b W (turned_bd _ _ ex_bd) b0 b1
      have q1 := fun W => Turned_nat ey k W ey_bd hlt
      have q2 := fun W => Turned_any ey a W ey_bd a0 a1
      have q3 := fun W => Turned_any (turned a.toNat ey) b W (turned_bd _ _ ey_bd) b0 b1
      have heb : axesB a.toNat b.toNat k = (same (turned k ex) (turned b.toNat (turned a.toNat ex)) && same (turned k ey) (turned b.toNat (turned a.toNat ey))) := rfl
      generalize turned b.toNat (turned a.toNat ex) = x2 at *
      generalize turned b.toNat (turned a.toNat ey) = y2 at *
      generalize turned a.toNat ex = x1 at *
      generalize turned a.toNat ey = y1 at *
      generalize turned k ex = x0 at *
      generalize turned k ey = y0 at *
      have P1 := Lib.hid p1
      have P2 := Lib.hid p2
      have P3 := Lib.hid p3
      have Q1 := Lib.hid q1
      have Q2 := Lib.hid q2
      have Q3 := Lib.hid q3
      clear p1 p2 p3 q1 q2 q3
      have eq1 := eqCell x0 x2
      have eq2 := fun o1 o2 => guardCell .eql o1 o2 x0 x2
      have eq3 := eqCell y0 y2
      have eq4 := fun o1 o2 => guardCell .eql o1 o2 y0 y2
      obtain ⟨i1, i2, i3, i4, i5, i6, i7⟩ := Blk.three hF
      obtain ⟨j1, j2, j3, j4, j5, j6, j7⟩ := Blk.three hT
      have HE := Lib.hid heb; clear heb
      go_upto_region 5 with fail
      go_cut [33] (fun v wr => v = .bool (same x0 x2 && same y0 y2) ∧ CellIn wr w.heap.size ex ∧ CellIn wr (w.heap.size + 1) ey ∧ Below w.heap.size w wr)
      case first =>
        by_cases he : same x0 x2 = true
        · go_region_held3 (fun W => W.cell? ⟨w.heap.size, 0, none⟩ = some (.int .i64 ex.1) ∧ W.cell? ⟨w.heap.size, 1, none⟩ = some (.int .i64 ex.2.1) ∧ W.cell? ⟨w.heap.size, 2, none⟩ = some (.int .i64 ex.2.2) ∧ W.cell? ⟨w.heap.size + 1, 0, none⟩ = some (.int .i64 ey.1) ∧ W.cell? ⟨w.heap.size + 1, 1, none⟩ = some (.int .i64 ey.2.1) ∧ W.cell? ⟨w.heap.size + 1, 2, none⟩ = some (.int .i64 ey.2.2) ∧ Below w.heap.size w W ∧ CellIn W w.heap.size ex ∧ CellIn W (w.heap.size + 1) ey)
          (first
            | exact two_kept hb hB.drew hF.drew hT.drew (Nat.le_refl _)
            | (go_split_ands; exact two_kept hb (by assumption) (by assumption) (by assumption) (Nat.le_refl _))
            | exact ⟨i1, i2, i3, j1, j2, j3, hB.drew, hF.drew, hT.drew⟩)
          (first
            | (go_at_call_of 30 (#[Value.agg #[Value.int IntKind.i64 ex.1, Value.int IntKind.i64 ex.2.1, Value.int IntKind.i64 ex.2.2], Value.int IntKind.i64 (k : Int)]); refine (P1.out _).mono ?_; rintro e w' ⟨rfl, hb⟩)
            | (go_at_call_of 30 (#[Value.agg #[Value.int IntKind.i64 ex.1, Value.int IntKind.i64 ex.2.1, Value.int IntKind.i64 ex.2.2], Value.int IntKind.i64 a]); refine (P2.out _).mono ?_; rintro e w' ⟨rfl, hb⟩)
            | (go_at_call_of 30 (#[Value.agg #[Value.int IntKind.i64 x1.1, Value.int IntKind.i64 x1.2.1, Value.int IntKind.i64 x1.2.2], Value.int IntKind.i64 b]); refine (P3.out _).mono ?_; rintro e w' ⟨rfl, hb⟩)
            | (go_at_call_of 30 (#[Value.agg #[Value.int IntKind.i64 ey.1, Value.int IntKind.i64 ey.2.1, Value.int IntKind.i64 ey.2.2], Value.int IntKind.i64 (k : Int)]); refine (Q1.out _).mono ?_; rintro e w' ⟨rfl, hb⟩)
            | (go_at_call_of 30 (#[Value.agg #[Value.int IntKind.i64 ey.1, Value.int IntKind.i64 ey.2.1, Value.int IntKind.i64 ey.2.2], Value.int IntKind.i64 a]); refine (Q2.out _).mono ?_; rintro e w' ⟨rfl, hb⟩)
            | (go_at_call_of 30 (#[Value.agg #[Value.int IntKind.i64 y1.1, Value.int IntKind.i64 y1.2.1, Value.int IntKind.i64 y1.2.2], Value.int IntKind.i64 b]); refine (Q3.out _).mono ?_; rintro e w' ⟨rfl, hb⟩))

          obtain ⟨_, _, _, _, _, _, hB2, hF2, hT2⟩ : _ ∧ _ ∧ _ ∧ _ ∧ _ ∧ _ ∧ Below w.heap.size w w' ∧ CellIn w' w.heap.size ex ∧ CellIn w' (w.heap.size + 1) ey := by assumption
          go_wp2_with fail
          go_meet
          refine ⟨?_, hF2, hT2, hB2⟩
          rw [he]
          rfl
        · have he : same x0 x2 = false := by simpa using he
          refine wp_region_held_drew (S := (fun W => W.cell? ⟨w.heap.size, 0, none⟩ = some (.int .i64 ex.1) ∧ W.cell? ⟨w.heap.size, 1, none⟩ = some (.int .i64 ex.2.1) ∧ W.cell? ⟨w.heap.size, 2, none⟩ = some (.int .i64 ex.2.2) ∧ W.cell? ⟨w.heap.size + 1, 0, none⟩ = some (.int .i64 ey.1) ∧ W.cell? ⟨w.heap.size + 1, 1, none⟩ = some (.int .i64 ey.2.1) ∧ W.cell? ⟨w.heap.size + 1, 2, none⟩ = some (.int .i64 ey.2.2) ∧ Below w.heap.size w W ∧ CellIn W w.heap.size ex ∧ CellIn W (w.heap.size + 1) ey)) (by kernel_rfl) ?_ (fun hHeld => ?_)
          · first
              | exact two_kept hb hB.drew hF.drew hT.drew (Nat.le_refl _)
              | (obtain ⟨_, _, _, _, _, _, g1, g2, g3⟩ := hHeld; exact two_kept hb g1 g2 g3 (Nat.le_refl _))
              | exact ⟨i1, i2, i3, j1, j2, j3, hB.drew, hF.drew, hT.drew⟩
          refine wpAnyH_take (i := 0) (oi := { dst := some 14, op := Go.Op.load 23 (Go.Operand.tmp 5), type := 23, pos := "ref.go:170", after := #[], guard := none }) (v := ?vh1) rfl (by kernel_rfl) (by kernel_rfl) (by kernel_rfl) (fun _ _ _ h => h) (Or.inl ⟨by rfl, ?yh1⟩) (by assumption) ?zh1
          case yh1 => (intro w hSw; (try dsimp only at hSw); go_simp <;> with_reducible rfl)
          try simp only [Act.put, List.setIfInBounds_toArray, List.set_cons_zero, List.set_cons_succ]
          refine wpAnyH_take (i := 1) (oi := { dst := some 15, op := Go.Op.move (Go.Operand.tmp 7), type := 3, pos := "ref.go:170", after := #[], guard := none }) (v := ?vh2) rfl (by kernel_rfl) (by kernel_rfl) (by kernel_rfl) (fun _ _ _ h => h) (Or.inl ⟨by rfl, ?yh2⟩) (by assumption) ?zh2
          case yh2 => (intro w hSw; (try dsimp only at hSw); go_simp <;> with_reducible rfl)
          try simp only [Act.put, List.setIfInBounds_toArray, List.set_cons_zero, List.set_cons_succ]
          refine wpAnyH_take (i := 3) (oi := { dst := some 17, op := Go.Op.load 23 (Go.Operand.tmp 5), type := 23, pos := "ref.go:170", after := #[], guard := none }) (v := ?vh3) rfl (by kernel_rfl) (by kernel_rfl) (by kernel_rfl) (fun _ _ _ h => h) (Or.inl ⟨by rfl, ?yh3⟩) (by assumption) ?zh3
          case yh3 => (intro w hSw; (try dsimp only at hSw); go_simp <;> with_reducible rfl)
          try simp only [Act.put, List.setIfInBounds_toArray, List.set_cons_zero, List.set_cons_succ]
          refine wpAnyH_take (i := 4) (oi := { dst := some 18, op := Go.Op.move (Go.Operand.tmp 0), type := 3, pos := "ref.go:170", after := #[], guard := none }) (v := ?vh4) rfl (by kernel_rfl) (by kernel_rfl) (by kernel_rfl) (fun _ _ _ h => h) (Or.inl ⟨by rfl, ?yh4⟩) (by assumption) ?zh4
          case yh4 => (intro w hSw; (try dsimp only at hSw); go_simp <;> with_reducible rfl)
          try simp only [Act.put, List.setIfInBounds_toArray, List.set_cons_zero, List.set_cons_succ]
          refine wpAnyH_take (i := 6) (oi := { dst := some 20, op := Go.Op.move (Go.Operand.tmp 1), type := 3, pos := "ref.go:170", after := #[], guard := none }) (v := ?vh5) rfl (by kernel_rfl) (by kernel_rfl) (by kernel_rfl) (fun _ _ _ h => h) (Or.inl ⟨by rfl, ?yh5⟩) (by assumption) ?zh5
          case yh5 => (intro w hSw; (try dsimp only at hSw); go_simp <;> with_reducible rfl)
          try simp only [Act.put, List.setIfInBounds_toArray, List.set_cons_zero, List.set_cons_succ]
          refine wpAnyH_ready (rs := [2]) (by kernel_rfl) (by simp) ?_
          refine AllReadyH.cons (o := { dst := some 16, op := Go.Op.call { callee := Go.Callee.value (Go.Operand.func 30), args := #[Go.Operand.tmp 14, Go.Operand.tmp 15], argTypes := #[23, 3] }, type := 23, pos := "ref.go:170", after := #[{ on := 0, ground := Go.Ground.data }, { on := 1, ground := Go.Ground.data }], guard := none }) rfl (fun K hK => ?_) ?_
          · go_simp
            refine (P1.out _).mono ?_
            rintro e w' ⟨rfl, hb⟩
            refine hK.out _ _ ?_ (fun hHeld => ?_)
            · first
                | exact two_kept hb hB.drew hF.drew hT.drew (Nat.le_refl _)
                | (obtain ⟨_, _, _, _, _, _, g1, g2, g3⟩ := hHeld; exact two_kept hb g1 g2 g3 (Nat.le_refl _))
                | exact ⟨i1, i2, i3, j1, j2, j3, hB.drew, hF.drew, hT.drew⟩
            clear hK K
            try simp only [Act.put, List.setIfInBounds_toArray, List.set_cons_zero, List.set_cons_succ]
            refine wpAnyH_ready (rs := [5]) (by kernel_rfl) (by simp) ?_
            refine AllReadyH.cons (o := { dst := some 19, op := Go.Op.call { callee := Go.Callee.value (Go.Operand.func 30), args := #[Go.Operand.tmp 17, Go.Operand.tmp 18], argTypes := #[23, 3] }, type := 23, pos := "ref.go:170", after := #[{ on := 3, ground := Go.Ground.data }, { on := 4, ground := Go.Ground.data }, { on := 2, ground := Go.Ground.chain }], guard := none }) rfl (fun K hK => ?_) ?_
            · go_simp
              refine (P2.out _).mono ?_
              rintro e w' ⟨rfl, hb⟩
              refine hK.out _ _ ?_ (fun hHeld => ?_)
              · first
                  | exact two_kept hb hB.drew hF.drew hT.drew (Nat.le_refl _)
                  | (obtain ⟨_, _, _, _, _, _, g1, g2, g3⟩ := hHeld; exact two_kept hb g1 g2 g3 (Nat.le_refl _))
                  | exact ⟨i1, i2, i3, j1, j2, j3, hB.drew, hF.drew, hT.drew⟩
              clear hK K
              try simp only [Act.put, List.setIfInBounds_toArray, List.set_cons_zero, List.set_cons_succ]
              refine wpAnyH_ready (rs := [7]) (by kernel_rfl) (by simp) ?_
              refine AllReadyH.cons (o := { dst := some 21, op := Go.Op.call { callee := Go.Callee.value (Go.Operand.func 30), args := #[Go.Operand.tmp 19, Go.Operand.tmp 20], argTypes := #[23, 3] }, type := 23, pos := "ref.go:170", after := #[{ on := 5, ground := Go.Ground.data }, { on := 6, ground := Go.Ground.data }, { on := 5, ground := Go.Ground.chain }], guard := none }) rfl (fun K hK => ?_) ?_
              · go_simp
                refine (P3.out _).mono ?_
                rintro e w' ⟨rfl, hb⟩
                refine hK.out _ _ ?_ (fun hHeld => ?_)
                · first
                    | exact two_kept hb hB.drew hF.drew hT.drew (Nat.le_refl _)
                    | (obtain ⟨_, _, _, _, _, _, g1, g2, g3⟩ := hHeld; exact two_kept hb g1 g2 g3 (Nat.le_refl _))
                    | exact ⟨i1, i2, i3, j1, j2, j3, hB.drew, hF.drew, hT.drew⟩
                clear hK K
                try simp only [Act.put, List.setIfInBounds_toArray, List.set_cons_zero, List.set_cons_succ]
                refine wpAnyH_take (i := 8) (oi := { dst := some 22, op := Go.Op.binOp Go.BinOp.eql 23 (Go.Operand.tmp 16) (Go.Operand.tmp 21) 23, type := 4, pos := "ref.go:170", after := #[{ on := 2, ground := Go.Ground.data }, { on := 7, ground := Go.Ground.data }], guard := none }) (v := ?vh6) rfl (by kernel_rfl) (by kernel_rfl) (by kernel_rfl) (fun _ _ _ h => h) (Or.inl ⟨by rfl, ?yh6⟩) (by assumption) ?zh6
                case yh6 => (intro w hSw; (try dsimp only at hSw); go_simp <;> with_reducible rfl)
                try simp only [Act.put, List.setIfInBounds_toArray, List.set_cons_zero, List.set_cons_succ]
                refine wpAnyH_take (i := 9) (oi := { dst := some 23, op := Go.Op.move (Go.Operand.tmp 22), type := 4, pos := "ref.go:170", after := #[{ on := 8, ground := Go.Ground.data }, { on := 7, ground := Go.Ground.chain }], guard := none }) (v := ?vh7) rfl (by kernel_rfl) (by kernel_rfl) (by kernel_rfl) (fun _ _ _ h => h) (Or.inl ⟨by rfl, ?yh7⟩) (by assumption) ?zh7
                case yh7 => (intro w hSw; (try dsimp only at hSw); go_simp <;> with_reducible rfl)
                try simp only [Act.put, List.setIfInBounds_toArray, List.set_cons_zero, List.set_cons_succ]
                refine wpAnyH_take (i := 10) (oi := { dst := some 24, op := Go.Op.load 23 (Go.Operand.tmp 6), type := 23, pos := "ref.go:170", after := #[{ on := 9, ground := Go.Ground.guard }], guard := some (9, true) }) (v := undef) rfl (by kernel_rfl) (by kernel_rfl) (by kernel_rfl) (fun _ _ _ h => h) (Or.inr ⟨by rfl, rfl⟩) (by assumption) ?_
                try simp only [Act.put, List.setIfInBounds_toArray, List.set_cons_zero, List.set_cons_succ]
                refine wpAnyH_take (i := 11) (oi := { dst := some 25, op := Go.Op.move (Go.Operand.tmp 7), type := 3, pos := "ref.go:170", after := #[{ on := 9, ground := Go.Ground.guard }], guard := some (9, true) }) (v := undef) rfl (by kernel_rfl) (by kernel_rfl) (by kernel_rfl) (fun _ _ _ h => h) (Or.inr ⟨by rfl, rfl⟩) (by assumption) ?_
                try simp only [Act.put, List.setIfInBounds_toArray, List.set_cons_zero, List.set_cons_succ]
                refine wpAnyH_take (i := 12) (oi := { dst := some 26, op := Go.Op.call { callee := Go.Callee.value (Go.Operand.func 30), args := #[Go.Operand.tmp 24, Go.Operand.tmp 25], argTypes := #[23, 3] }, type := 23, pos := "ref.go:170", after := #[{ on := 10, ground := Go.Ground.data }, { on := 11, ground := Go.Ground.data }, { on := 9, ground := Go.Ground.chain }, { on := 9, ground := Go.Ground.guard }], guard := some (9, true) }) (v := undef) rfl (by kernel_rfl) (by kernel_rfl) (by kernel_rfl) (fun _ _ _ h => h) (Or.inr ⟨by rfl, rfl⟩) (by assumption) ?_
                try simp only [Act.put, List.setIfInBounds_toArray, List.set_cons_zero, List.set_cons_succ]
                refine wpAnyH_take (i := 13) (oi := { dst := some 27, op := Go.Op.load 23 (Go.Operand.tmp 6), type := 23, pos := "ref.go:170", after := #[{ on := 9, ground := Go.Ground.guard }], guard := some (9, true) }) (v := undef) rfl (by kernel_rfl) (by kernel_rfl) (by kernel_rfl) (fun _ _ _ h => h) (Or.inr ⟨by rfl, rfl⟩) (by assumption) ?_
                try simp only [Act.put, List.setIfInBounds_toArray, List.set_cons_zero, List.set_cons_succ]
                refine wpAnyH_take (i := 14) (oi := { dst := some 28, op := Go.Op.move (Go.Operand.tmp 0), type := 3, pos := "ref.go:170", after := #[{ on := 9, ground := Go.Ground.guard }], guard := some (9, true) }) (v := undef) rfl (by kernel_rfl) (by kernel_rfl) (by kernel_rfl) (fun _ _ _ h => h) (Or.inr ⟨by rfl, rfl⟩) (by assumption) ?_
                try simp only [Act.put, List.setIfInBounds_toArray, List.set_cons_zero, List.set_cons_succ]
                refine wpAnyH_take (i := 15) (oi := { dst := some 29, op := Go.Op.call { callee := Go.Callee.value (Go.Operand.func 30), args := #[Go.Operand.tmp 27, Go.Operand.tmp 28], argTypes := #[23, 3] }, type := 23, pos := "ref.go:170", after := #[{ on := 13, ground := Go.Ground.data }, { on := 14, ground := Go.Ground.data }, { on := 12, ground := Go.Ground.chain }, { on := 9, ground := Go.Ground.guard }], guard := some (9, true) }) (v := undef) rfl (by kernel_rfl) (by kernel_rfl) (by kernel_rfl) (fun _ _ _ h => h) (Or.inr ⟨by rfl, rfl⟩) (by assumption) ?_
                try simp only [Act.put, List.setIfInBounds_toArray, List.set_cons_zero, List.set_cons_succ]
                refine wpAnyH_take (i := 16) (oi := { dst := some 30, op := Go.Op.move (Go.Operand.tmp 1), type := 3, pos := "ref.go:170", after := #[{ on := 9, ground := Go.Ground.guard }], guard := some (9, true) }) (v := undef) rfl (by kernel_rfl) (by kernel_rfl) (by kernel_rfl) (fun _ _ _ h => h) (Or.inr ⟨by rfl, rfl⟩) (by assumption) ?_
                try simp only [Act.put, List.setIfInBounds_toArray, List.set_cons_zero, List.set_cons_succ]
                refine wpAnyH_take (i := 17) (oi := { dst := some 31, op := Go.Op.call { callee := Go.Callee.value (Go.Operand.func 30), args := #[Go.Operand.tmp 29, Go.Operand.tmp 30], argTypes := #[23, 3] }, type := 23, pos := "ref.go:170", after := #[{ on := 15, ground := Go.Ground.data }, { on := 16, ground := Go.Ground.data }, { on := 15, ground := Go.Ground.chain }, { on := 9, ground := Go.Ground.guard }], guard := some (9, true) }) (v := undef) rfl (by kernel_rfl) (by kernel_rfl) (by kernel_rfl) (fun _ _ _ h => h) (Or.inr ⟨by rfl, rfl⟩) (by assumption) ?_
                try simp only [Act.put, List.setIfInBounds_toArray, List.set_cons_zero, List.set_cons_succ]
                refine wpAnyH_take (i := 18) (oi := { dst := some 32, op := Go.Op.binOp Go.BinOp.eql 23 (Go.Operand.tmp 26) (Go.Operand.tmp 31) 23, type := 4, pos := "ref.go:170", after := #[{ on := 12, ground := Go.Ground.data }, { on := 17, ground := Go.Ground.data }, { on := 9, ground := Go.Ground.guard }], guard := some (9, true) }) (v := undef) rfl (by kernel_rfl) (by kernel_rfl) (by kernel_rfl) (fun _ _ _ h => h) (Or.inr ⟨by rfl, rfl⟩) (by assumption) ?_
                try simp only [Act.put, List.setIfInBounds_toArray, List.set_cons_zero, List.set_cons_succ]
                refine wpAnyH_take (i := 19) (oi := { dst := some 33, op := Go.Op.pick (Go.Operand.tmp 23) (Go.Operand.tmp 32) (Go.Operand.const (Go.Value.bool false)), type := 4, pos := "ref.go:170", after := #[{ on := 9, ground := Go.Ground.data }, { on := 18, ground := Go.Ground.data }], guard := none }) (v := ?vh8) rfl (by kernel_rfl) (by kernel_rfl) (by kernel_rfl) (fun _ _ _ h => h) (Or.inl ⟨by rfl, ?yh8⟩) (by assumption) ?zh8
                case yh8 => (intro w hSw; (try dsimp only at hSw); go_simp <;> with_reducible rfl)
                try simp only [Act.put, List.setIfInBounds_toArray, List.set_cons_zero, List.set_cons_succ]
                refine wpAnyH_done (by kernel_rfl) ?_ _
                obtain ⟨_, _, _, _, _, _, hB2, hF2, hT2⟩ := hHeld
                go_wp2_with fail
                go_meet
                exact ⟨by rw [he]; rfl, hF2, hT2, hB2⟩
              exact AllReadyH.nil
            exact AllReadyH.nil
          exact AllReadyH.nil
      case rest =>
        clear hF hT hB i1 i2 i3 i4 i5 i6 i7 j1 j2 j3 j4 j5 j6 j7
        obtain ⟨rfl, hF, hT, hB⟩ := hcut
        by_cases hb : (same x0 x2 && same y0 y2) = true
        · rw [hb]
          go_wp2
          go_ret
          exact ⟨by rw [show R = k from HR.out.symm.trans (firstB_at hlt (HE.out.trans hb) HL.out)]; rfl, hB⟩
        · have hb : (same x0 x2 && same y0 y2) = false := by simpa using hb
          rw [hb]
          go_wp2
          go_roundw
          case rel => exact ⟨k + 1, by omega, by go_num, fun i hi => by rcases Nat.lt_succ_iff_lt_or_eq.1 hi with h | rfl; exact HL.out i h; exact HE.out.trans hb, hF, hT, hB⟩
          case measure => simp [intOf]; omega
    · have hltb : decide ((k : Int) < 24) = false := by simp; omega
      have hk24 : k = 24 := by omega
      subst hk24
      go_wp2
      go_ret
      exact ⟨by rw [show R = 0 from HR.out.symm.trans (firstB_none HL.out)]; rfl, hB⟩
end Go.Proofs.YthilhofkjnipiaaDoor
