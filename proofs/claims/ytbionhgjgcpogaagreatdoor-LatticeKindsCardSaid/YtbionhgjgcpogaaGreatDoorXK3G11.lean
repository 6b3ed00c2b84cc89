/- A part of the proof. -/
import Derived.Test.YtbionhgjgcpogaaGreatDoorXK3G10
namespace Go.Proofs.YtbionhgjgcpogaaGreatDoor
open Go Go.Proofs.YtbionhgjgcpogaaGreatDoor.Clean
set_option linter.unusedVariables false
set_option linter.unusedSimpArgs false
set_option maxRecDepth 10000
theorem hcT : cfT.ok Tryz.prog := cfgM_ok
theorem hcU : cfU.ok Tryz.prog := cfgM_ok
theorem hcV : cfV.ok Tryz.prog := cfgM_ok
theorem hcX : cfX.ok Tryz.prog := cfgM_ok
def qz (c : Cl) : Cl := (-c.2.1, c.1, c.2.2)
def qx (c : Cl) : Cl := (c.1, -c.2.2, c.2.1)
def itr (f : Cl → Cl) : Nat → Cl → Cl
  | 0, c => c
  | n + 1, c => itr f n (f c)
def tn (n : Nat) (c : Cl) : Cl := if n / 4 < 4 then itr qx (n / 4) (itr qz (n % 4) c) else itr qz (if n / 4 = 4 then 1 else 3) (qx (itr qz (n % 4) c))
theorem wn {t : Int} (h : -3000 ≤ t) (h' : t ≤ 3000) : IntKind.i64.wrap (0 - t) = -t := by rw [wr (by omega) (by omega)]; omega
theorem wn6 {t : Int} (h : -3000 ≤ t) (h' : t ≤ 3000) : IntKind.i64.wrap (0 - t) = -t ∧ IntKind.i64.wrap (0 - -t) = - -t ∧ IntKind.i64.wrap (0 - - -t) = - - -t ∧ IntKind.i64.wrap (0 - - - -t) = - - - -t ∧ IntKind.i64.wrap (0 - - - - -t) = - - - - -t :=
  ⟨wn h h', wn (by omega) (by omega), wn (by omega) (by omega), wn (by omega) (by omega), wn (by omega) (by omega)⟩
theorem cell85_0 {c : Cl} {R : V → Prop} (hb : Bd 3000 c) (h : R (.agg (clr (tn 0 c)))) : K0G Tryz.prog glX 85 [(chA 0), .agg (clr c)] R := by
  refine K0_by hmX hcT 3000 Tryz.func85 (p := R (V.agg [iv c.1, iv c.2.1, iv c.2.2])) (by kernel_rfl) ?_
  unfold Bd Nr at hb
  obtain ⟨x1, x2, x3, x4, x5⟩ := wn6 (t := c.1) (by omega) (by omega)
  obtain ⟨y1, y2, y3, y4, y5⟩ := wn6 (t := c.2.1) (by omega) (by omega)
  obtain ⟨z1, z2, z3, z4, z5⟩ := wn6 (t := c.2.2) (by omega) (by omega)
  try simp only [x1, x2, x3, x4, x5, y1, y2, y3, y4, y5, z1, z2, z3, z4, z5]
  exact h
theorem chain82_0 {R : V → Prop} (h : R (chA 0)) : K0G Tryz.prog glX 82 [iv 0] R := K0_by hmX hcT 3000 Tryz.func82 (p := R (chA 0)) (by kernel_rfl) h
theorem turned100_0 {c : Cl} {R : V → Prop} (hb : Bd 3000 c) (h : R (.agg (clr (tn 0 c)))) : K0G Tryz.prog glX 100 [.agg (clr c), iv 0] R := by
  refine K0_by hmX hcV 3000 Tryz.func100 (p := R (V.agg [iv c.1, iv c.2.1, iv c.2.2])) (by kernel_rfl) ?_
  unfold Bd Nr at hb
  obtain ⟨x1, x2, x3, x4, x5⟩ := wn6 (t := c.1) (by omega) (by omega)
  obtain ⟨y1, y2, y3, y4, y5⟩ := wn6 (t := c.2.1) (by omega) (by omega)
  obtain ⟨z1, z2, z3, z4, z5⟩ := wn6 (t := c.2.2) (by omega) (by omega)
  try simp only [x1, x2, x3, x4, x5, y1, y2, y3, y4, y5, z1, z2, z3, z4, z5]
  exact h
theorem cell85_1 {c : Cl} {R : V → Prop} (hb : Bd 3000 c) (h : R (.agg (clr (tn 1 c)))) : K0G Tryz.prog glX 85 [(chA 1), .agg (clr c)] R := by
  refine K0_by hmX hcT 3000 Tryz.func85 (p := R (V.agg [iv (IntKind.i64.wrap (0 - c.2.1)), iv c.1, iv c.2.2])) (by kernel_rfl) ?_
  unfold Bd Nr at hb
  obtain ⟨x1, x2, x3, x4, x5⟩ := wn6 (t := c.1) (by omega) (by omega)
  obtain ⟨y1, y2, y3, y4, y5⟩ := wn6 (t := c.2.1) (by omega) (by omega)
  obtain ⟨z1, z2, z3, z4, z5⟩ := wn6 (t := c.2.2) (by omega) (by omega)
  try simp only [x1, x2, x3, x4, x5, y1, y2, y3, y4, y5, z1, z2, z3, z4, z5]
  exact h
theorem chain82_1 {R : V → Prop} (h : R (chA 1)) : K0G Tryz.prog glX 82 [iv 1] R := K0_by hmX hcT 3000 Tryz.func82 (p := R (chA 1)) (by kernel_rfl) h
theorem turned100_1 {c : Cl} {R : V → Prop} (hb : Bd 3000 c) (h : R (.agg (clr (tn 1 c)))) : K0G Tryz.prog glX 100 [.agg (clr c), iv 1] R := by
  refine K0_by hmX hcV 3000 Tryz.func100 (p := R (V.agg [iv (IntKind.i64.wrap (0 - c.2.1)), iv c.1, iv c.2.2])) (by kernel_rfl) ?_
  unfold Bd Nr at hb
  obtain ⟨x1, x2, x3, x4, x5⟩ := wn6 (t := c.1) (by omega) (by omega)
  obtain ⟨y1, y2, y3, y4, y5⟩ := wn6 (t := c.2.1) (by omega) (by omega)
  obtain ⟨z1, z2, z3, z4, z5⟩ := wn6 (t := c.2.2) (by omega) (by omega)
  try simp only [x1, x2, x3, x4, x5, y1, y2, y3, y4, y5, z1, z2, z3, z4, z5]
  exact h
theorem cell85_2 {c : Cl} {R : V → Prop} (hb : Bd 3000 c) (h : R (.agg (clr (tn 2 c)))) : K0G Tryz.prog glX 85 [(chA 2), .agg (clr c)] R := by
  refine K0_by hmX hcT 3000 Tryz.func85 (p := R (V.agg [iv (IntKind.i64.wrap (0 - c.1)), iv (IntKind.i64.wrap (0 - c.2.1)), iv c.2.2])) (by kernel_rfl) ?_
  unfold Bd Nr at hb
  obtain ⟨x1, x2, x3, x4, x5⟩ := wn6 (t := c.1) (by omega) (by omega)
  obtain ⟨y1, y2, y3, y4, y5⟩ := wn6 (t := c.2.1) (by omega) (by omega)
  obtain ⟨z1, z2, z3, z4, z5⟩ := wn6 (t := c.2.2) (by omega) (by omega)
  try simp only [x1, x2, x3, x4, x5, y1, y2, y3, y4, y5, z1, z2, z3, z4, z5]
  exact h
theorem chain82_2 {R : V → Prop} (h : R (chA 2)) : K0G Tryz.prog glX 82 [iv 2] R := K0_by hmX hcT 3000 Tryz.func82 (p := R (chA 2)) (by kernel_rfl) h
theorem turned100_2 {c : Cl} {R : V → Prop} (hb : Bd 3000 c) (h : R (.agg (clr (tn 2 c)))) : K0G Tryz.prog glX 100 [.agg (clr c), iv 2] R := by
  refine K0_by hmX hcV 3000 Tryz.func100 (p := R (V.agg [iv (IntKind.i64.wrap (0 - c.1)), iv (IntKind.i64.wrap (0 - c.2.1)), iv c.2.2])) (by kernel_rfl) ?_
  unfold Bd Nr at hb
  obtain ⟨x1, x2, x3, x4, x5⟩ := wn6 (t := c.1) (by omega) (by omega)
  obtain ⟨y1, y2, y3, y4, y5⟩ := wn6 (t := c.2.1) (by omega) (by omega)
  obtain ⟨z1, z2, z3, z4, z5⟩ := wn6 (t := c.2.2) (by omega) (by omega)
  try simp only [x1, x2, x3, x4, x5, y1, y2, y3, y4, y5, z1, z2, z3, z4, z5]
  exact h
theorem cell85_3 {c : Cl} {R : V → Prop} (hb : Bd 3000 c) (h : R (.agg (clr (tn 3 c)))) : K0G Tryz.prog glX 85 [(chA 3), .agg (clr c)] R := by
  refine K0_by hmX hcT 3000 Tryz.func85 (p := R (V.agg [iv (IntKind.i64.wrap (0 - (IntKind.i64.wrap (0 - c.2.1)))), iv (IntKind.i64.wrap (0 - c.1)), iv c.2.2])) (by kernel_rfl) ?_
  unfold Bd Nr at hb
  obtain ⟨x1, x2, x3, x4, x5⟩ := wn6 (t := c.1) (by omega) (by omega)
  obtain ⟨y1, y2, y3, y4, y5⟩ := wn6 (t := c.2.1) (by omega) (by omega)
  obtain ⟨z1, z2, z3, z4, z5⟩ := wn6 (t := c.2.2) (by omega) (by omega)
  try simp only [x1, x2, x3, x4, x5, y1, y2, y3, y4, y5, z1, z2, z3, z4, z5]
  exact h
theorem chain82_3 {R : V → Prop} (h : R (chA 3)) : K0G Tryz.prog glX 82 [iv 3] R := K0_by hmX hcT 3000 Tryz.func82 (p := R (chA 3)) (by kernel_rfl) h
theorem turned100_3 {c : Cl} {R : V → Prop} (hb : Bd 3000 c) (h : R (.agg (clr (tn 3 c)))) : K0G Tryz.prog glX 100 [.agg (clr c), iv 3] R := by
  refine K0_by hmX hcV 3000 Tryz.func100 (p := R (V.agg [iv (IntKind.i64.wrap (0 - (IntKind.i64.wrap (0 - c.2.1)))), iv (IntKind.i64.wrap (0 - c.1)), iv c.2.2])) (by kernel_rfl) ?_
  unfold Bd Nr at hb
  obtain ⟨x1, x2, x3, x4, x5⟩ := wn6 (t := c.1) (by omega) (by omega)
  obtain ⟨y1, y2, y3, y4, y5⟩ := wn6 (t := c.2.1) (by omega) (by omega)
  obtain ⟨z1, z2, z3, z4, z5⟩ := wn6 (t := c.2.2) (by omega) (by omega)
  try simp only [x1, x2, x3, x4, x5, y1, y2, y3, y4, y5, z1, z2, z3, z4, z5]
  exact h
theorem cell85_4 {c : Cl} {R : V → Prop} (hb : Bd 3000 c) (h : R (.agg (clr (tn 4 c)))) : K0G Tryz.prog glX 85 [(chB 0 1), .agg (clr c)] R := by
  refine K0_by hmX hcT 3000 Tryz.func85 (p := R (V.agg [iv c.1, iv (IntKind.i64.wrap (0 - c.2.2)), iv c.2.1])) (by kernel_rfl) ?_
  unfold Bd Nr at hb
  obtain ⟨x1, x2, x3, x4, x5⟩ := wn6 (t := c.1) (by omega) (by omega)
  obtain ⟨y1, y2, y3, y4, y5⟩ := wn6 (t := c.2.1) (by omega) (by omega)
  obtain ⟨z1, z2, z3, z4, z5⟩ := wn6 (t := c.2.2) (by omega) (by omega)
  try simp only [x1, x2, x3, x4, x5, y1, y2, y3, y4, y5, z1, z2, z3, z4, z5]
  exact h
theorem chain82_4 {R : V → Prop} (h : R (chB 0 1)) : K0G Tryz.prog glX 82 [iv 4] R := K0_by hmX hcT 3000 Tryz.func82 (p := R (chB 0 1)) (by kernel_rfl) h
theorem turned100_4 {c : Cl} {R : V → Prop} (hb : Bd 3000 c) (h : R (.agg (clr (tn 4 c)))) : K0G Tryz.prog glX 100 [.agg (clr c), iv 4] R := by
  refine K0_by hmX hcV 3000 Tryz.func100 (p := R (V.agg [iv c.1, iv (IntKind.i64.wrap (0 - c.2.2)), iv c.2.1])) (by kernel_rfl) ?_
  unfold Bd Nr at hb
  obtain ⟨x1, x2, x3, x4, x5⟩ := wn6 (t := c.1) (by omega) (by omega)
  obtain ⟨y1, y2, y3, y4, y5⟩ := wn6 (t := c.2.1) (by omega) (by omega)
  obtain ⟨z1, z2, z3, z4, z5⟩ := wn6 (t := c.2.2) (by omega) (by omega)
  try simp only [x1, x2, x3, x4, x5, y1, y2, y3, y4, y5, z1, z2, z3, z4, z5]
  exact h
theorem cell85_5 {c : Cl} {R : V → Prop} (hb : Bd 3000 c) (h : R (.agg (clr (tn 5 c)))) : K0G Tryz.prog glX 85 [(chB 1 1), .agg (clr c)] R := by
  refine K0_by hmX hcT 3000 Tryz.func85 (p := R (V.agg [iv (IntKind.i64.wrap (0 - c.2.1)), iv (IntKind.i64.wrap (0 - c.2.2)), iv c.1])) (by kernel_rfl) ?_
  unfold Bd Nr at hb
  obtain ⟨x1, x2, x3, x4, x5⟩ := wn6 (t := c.1) (by omega) (by omega)
  obtain ⟨y1, y2, y3, y4, y5⟩ := wn6 (t := c.2.1) (by omega) (by omega)
  obtain ⟨z1, z2, z3, z4, z5⟩ := wn6 (t := c.2.2) (by omega) (by omega)
  try simp only [x1, x2, x3, x4, x5, y1, y2, y3, y4, y5, z1, z2, z3, z4, z5]
  exact h
theorem chain82_5 {R : V → Prop} (h : R (chB 1 1)) : K0G Tryz.prog glX 82 [iv 5] R := K0_by hmX hcT 3000 Tryz.func82 (p := R (chB 1 1)) (by kernel_rfl) h
theorem turned100_5 {c : Cl} {R : V → Prop} (hb : Bd 3000 c) (h : R (.agg (clr (tn 5 c)))) : K0G Tryz.prog glX 100 [.agg (clr c), iv 5] R := by
  refine K0_by hmX hcV 3000 Tryz.func100 (p := R (V.agg [iv (IntKind.i64.wrap (0 - c.2.1)), iv (IntKind.i64.wrap (0 - c.2.2)), iv c.1])) (by kernel_rfl) ?_
  unfold Bd Nr at hb
  obtain ⟨x1, x2, x3, x4, x5⟩ := wn6 (t := c.1) (by omega) (by omega)
  obtain ⟨y1, y2, y3, y4, y5⟩ := wn6 (t := c.2.1) (by omega) (by omega)
  obtain ⟨z1, z2, z3, z4, z5⟩ := wn6 (t := c.2.2) (by omega) (by omega)
  try simp only [x1, x2, x3, x4, x5, y1, y2, y3, y4, y5, z1, z2, z3, z4, z5]
  exact h
theorem cell85_6 {c : Cl} {R : V → Prop} (hb : Bd 3000 c) (h : R (.agg (clr (tn 6 c)))) : K0G Tryz.prog glX 85 [(chB 2 1), .agg (clr c)] R := by
  refine K0_by hmX hcT 3000 Tryz.func85 (p := R (V.agg [iv (IntKind.i64.wrap (0 - c.1)), iv (IntKind.i64.wrap (0 - c.2.2)), iv (IntKind.i64.wrap (0 - c.2.1))])) (by kernel_rfl) ?_
  unfold Bd Nr at hb
  obtain ⟨x1, x2, x3, x4, x5⟩ := wn6 (t := c.1) (by omega) (by omega)
  obtain ⟨y1, y2, y3, y4, y5⟩ := wn6 (t := c.2.1) (by omega) (by omega)
  obtain ⟨z1, z2, z3, z4, z5⟩ := wn6 (t := c.2.2) (by omega) (by omega)
  try simp only [x1, x2, x3, x4, x5, y1, y2, y3, y4, y5, z1, z2, z3, z4, z5]
  exact h
theorem chain82_6 {R : V → Prop} (h : R (chB 2 1)) : K0G Tryz.prog glX 82 [iv 6] R := K0_by hmX hcT 3000 Tryz.func82 (p := R (chB 2 1)) (by kernel_rfl) h
theorem turned100_6 {c : Cl} {R : V → Prop} (hb : Bd 3000 c) (h : R (.agg (clr (tn 6 c)))) : K0G Tryz.prog glX 100 [.agg (clr c), iv 6] R := by
  refine K0_by hmX hcV 3000 Tryz.func100 (p := R (V.agg [iv (IntKind.i64.wrap (0 - c.1)), iv (IntKind.i64.wrap (0 - c.2.2)), iv (IntKind.i64.wrap (0 - c.2.1))])) (by kernel_rfl) ?_
  unfold Bd Nr at hb
  obtain ⟨x1, x2, x3, x4, x5⟩ := wn6 (t := c.1) (by omega) (by omega)
  obtain ⟨y1, y2, y3, y4, y5⟩ := wn6 (t := c.2.1) (by omega) (by omega)
  obtain ⟨z1, z2, z3, z4, z5⟩ := wn6 (t := c.2.2) (by omega) (by omega)
  try simp only [x1, x2, x3, x4, x5, y1, y2, y3, y4, y5, z1, z2, z3, z4, z5]
  exact h
theorem cell85_7 {c : Cl} {R : V → Prop} (hb : Bd 3000 c) (h : R (.agg (clr (tn 7 c)))) : K0G Tryz.prog glX 85 [(chB 3 1), .agg (clr c)] R := by
  refine K0_by hmX hcT 3000 Tryz.func85 (p := R (V.agg [iv (IntKind.i64.wrap (0 - (IntKind.i64.wrap (0 - c.2.1)))), iv (IntKind.i64.wrap (0 - c.2.2)), iv (IntKind.i64.wrap (0 - c.1))])) (by kernel_rfl) ?_
  unfold Bd Nr at hb
  obtain ⟨x1, x2, x3, x4, x5⟩ := wn6 (t := c.1) (by omega) (by omega)
  obtain ⟨y1, y2, y3, y4, y5⟩ := wn6 (t := c.2.1) (by omega) (by omega)
  obtain ⟨z1, z2, z3, z4, z5⟩ := wn6 (t := c.2.2) (by omega) (by omega)
  try simp only [x1, x2, x3, x4, x5, y1, y2, y3, y4, y5, z1, z2, z3, z4, z5]
  exact h
theorem chain82_7 {R : V → Prop} (h : R (chB 3 1)) : K0G Tryz.prog glX 82 [iv 7] R := K0_by hmX hcT 3000 Tryz.func82 (p := R (chB 3 1)) (by kernel_rfl) h
theorem turned100_7 {c : Cl} {R : V → Prop} (hb : Bd 3000 c) (h : R (.agg (clr (tn 7 c)))) : K0G Tryz.prog glX 100 [.agg (clr c), iv 7] R := by
  refine K0_by hmX hcV 3000 Tryz.func100 (p := R (V.agg [iv (IntKind.i64.wrap (0 - (IntKind.i64.wrap (0 - c.2.1)))), iv (IntKind.i64.wrap (0 - c.2.2)), iv (IntKind.i64.wrap (0 - c.1))])) (by kernel_rfl) ?_
  unfold Bd Nr at hb
  obtain ⟨x1, x2, x3, x4, x5⟩ := wn6 (t := c.1) (by omega) (by omega)
  obtain ⟨y1, y2, y3, y4, y5⟩ := wn6 (t := c.2.1) (by omega) (by omega)
  obtain ⟨z1, z2, z3, z4, z5⟩ := wn6 (t := c.2.2) (by omega) (by omega)
  try simp only [x1, x2, x3, x4, x5, y1, y2, y3, y4, y5, z1, z2, z3, z4, z5]
  exact h
theorem cell85_8 {c : Cl} {R : V → Prop} (hb : Bd 3000 c) (h : R (.agg (clr (tn 8 c)))) : K0G Tryz.prog glX 85 [(chB 0 2), .agg (clr c)] R := by
  refine K0_by hmX hcT 3000 Tryz.func85 (p := R (V.agg [iv c.1, iv (IntKind.i64.wrap (0 - c.2.1)), iv (IntKind.i64.wrap (0 - c.2.2))])) (by kernel_rfl) ?_
  unfold Bd Nr at hb
  obtain ⟨x1, x2, x3, x4, x5⟩ := wn6 (t := c.1) (by omega) (by omega)
  obtain ⟨y1, y2, y3, y4, y5⟩ := wn6 (t := c.2.1) (by omega) (by omega)
  obtain ⟨z1, z2, z3, z4, z5⟩ := wn6 (t := c.2.2) (by omega) (by omega)
  try simp only [x1, x2, x3, x4, x5, y1, y2, y3, y4, y5, z1, z2, z3, z4, z5]
  exact h
theorem chain82_8 {R : V → Prop} (h : R (chB 0 2)) : K0G Tryz.prog glX 82 [iv 8] R := K0_by hmX hcT 3000 Tryz.func82 (p := R (chB 0 2)) (by kernel_rfl) h
theorem turned100_8 {c : Cl} {R : V → Prop} (hb : Bd 3000 c) (h : R (.agg (clr (tn 8 c)))) : K0G Tryz.prog glX 100 [.agg (clr c), iv 8] R := by
  refine K0_by hmX hcV 3000 Tryz.func100 (p := R (V.agg [iv c.1, iv (IntKind.i64.wrap (0 - c.2.1)), iv (IntKind.i64.wrap (0 - c.2.2))])) (by kernel_rfl) ?_
  unfold Bd Nr at hb
  obtain ⟨x1, x2, x3, x4, x5⟩ := wn6 (t := c.1) (by omega) (by omega)
  obtain ⟨y1, y2, y3, y4, y5⟩ := wn6 (t := c.2.1) (by omega) (by omega)
  obtain ⟨z1, z2, z3, z4, z5⟩ := wn6 (t := c.2.2) (by omega) (by omega)
  try simp only [x1, x2, x3, x4, x5, y1, y2, y3, y4, y5, z1, z2, z3, z4, z5]
  exact h
theorem cell85_9 {c : Cl} {R : V → Prop} (hb : Bd 3000 c) (h : R (.agg (clr (tn 9 c)))) : K0G Tryz.prog glX 85 [(chB 1 2), .agg (clr c)] R := by
  refine K0_by hmX hcT 3000 Tryz.func85 (p := R (V.agg [iv (IntKind.i64.wrap (0 - c.2.1)), iv (IntKind.i64.wrap (0 - c.1)), iv (IntKind.i64.wrap (0 - c.2.2))])) (by kernel_rfl) ?_
  unfold Bd Nr at hb
  obtain ⟨x1, x2, x3, x4, x5⟩ := wn6 (t := c.1) (by omega) (by omega)
  obtain ⟨y1, y2, y3, y4, y5⟩ := wn6 (t := c.2.1) (by omega) (by omega)
  obtain ⟨z1, z2, z3, z4, z5⟩ := wn6 (t := c.2.2) (by omega) (by omega)
  try simp only [x1, x2, x3, x4, x5, y1, y2, y3, y4, y5, z1, z2, z3, z4, z5]
  exact h
theorem chain82_9 {R : V → Prop} (h : R (chB 1 2)) : K0G Tryz.prog glX 82 [iv 9] R := K0_by hmX hcT 3000 Tryz.func82 (p := R (chB 1 2)) (by kernel_rfl) h
theorem turned100_9 {c : Cl} {R : V → Prop} (hb : Bd 3000 c) (h : R (.agg (clr (tn 9 c)))) : K0G Tryz.prog glX 100 [.agg (clr c), iv 9] R := by
  refine K0_by hmX hcV 3000 Tryz.func100 (p := R (V.agg [iv (IntKind.i64.wrap (0 - c.2.1)), iv (IntKind.i64.wrap (0 - c.1)), iv (IntKind.i64.wrap (0 - c.2.2))])) (by kernel_rfl) ?_
  unfold Bd Nr at hb
  obtain ⟨x1, x2, x3, x4, x5⟩ := wn6 (t := c.1) (by omega) (by omega)
  obtain ⟨y1, y2, y3, y4, y5⟩ := wn6 (t := c.2.1) (by omega) (by omega)
  obtain ⟨z1, z2, z3, z4, z5⟩ := wn6 (t := c.2.2) (by omega) (by omega)
  try simp only [x1, x2, x3, x4, x5, y1, y2, y3, y4, y5, z1, z2, z3, z4, z5]
  exact h
theorem cell85_10 {c : Cl} {R : V → Prop} (hb : Bd 3000 c) (h : R (.agg (clr (tn 10 c)))) : K0G Tryz.prog glX 85 [(chB 2 2), .agg (clr c)] R := by
  refine K0_by hmX hcT 3000 Tryz.func85 (p := R (V.agg [iv (IntKind.i64.wrap (0 - c.1)), iv (IntKind.i64.wrap (0 - (IntKind.i64.wrap (0 - c.2.1)))), iv (IntKind.i64.wrap (0 - c.2.2))])) (by kernel_rfl) ?_
  unfold Bd Nr at hb
  obtain ⟨x1, x2, x3, x4, x5⟩ := wn6 (t := c.1) (by omega) (by omega)
  obtain ⟨y1, y2, y3, y4, y5⟩ := wn6 (t := c.2.1) (by omega) (by omega)
  obtain ⟨z1, z2, z3, z4, z5⟩ := wn6 (t := c.2.2) (by omega) (by omega)
  try simp only [x1, x2, x3, x4, x5, y1, y2, y3, y4, y5, z1, z2, z3, z4, z5]
  exact h
theorem chain82_10 {R : V → Prop} (h : R (chB 2 2)) : K0G Tryz.prog glX 82 [iv 10] R := K0_by hmX hcT 3000 Tryz.func82 (p := R (chB 2 2)) (by kernel_rfl) h
theorem turned100_10 {c : Cl} {R : V → Prop} (hb : Bd 3000 c) (h : R (.agg (clr (tn 10 c)))) : K0G Tryz.prog glX 100 [.agg (clr c), iv 10] R := by
  refine K0_by hmX hcV 3000 Tryz.func100 (p := R (V.agg [iv (IntKind.i64.wrap (0 - c.1)), iv (IntKind.i64.wrap (0 - (IntKind.i64.wrap (0 - c.2.1)))), iv (IntKind.i64.wrap (0 - c.2.2))])) (by kernel_rfl) ?_
  unfold Bd Nr at hb
  obtain ⟨x1, x2, x3, x4, x5⟩ := wn6 (t := c.1) (by omega) (by omega)
  obtain ⟨y1, y2, y3, y4, y5⟩ := wn6 (t := c.2.1) (by omega) (by omega)
  obtain ⟨z1, z2, z3, z4, z5⟩ := wn6 (t := c.2.2) (by omega) (by omega)
  try simp only [x1, x2, x3, x4, x5, y1, y2, y3, y4, y5, z1, z2, z3, z4, z5]
  exact h
theorem cell85_11 {c : Cl} {R : V → Prop} (hb : Bd 3000 c) (h : R (.agg (clr (tn 11 c)))) : K0G Tryz.prog glX 85 [(chB 3 2), .agg (clr c)] R := by
  refine K0_by hmX hcT 3000 Tryz.func85 (p := R (V.agg [iv (IntKind.i64.wrap (0 - (IntKind.i64.wrap (0 - c.2.1)))), iv (IntKind.i64.wrap (0 - (IntKind.i64.wrap (0 - c.1)))), iv (IntKind.i64.wrap (0 - c.2.2))])) (by kernel_rfl) ?_
  unfold Bd Nr at hb
  obtain ⟨x1, x2, x3, x4, x5⟩ := wn6 (t := c.1) (by omega) (by omega)
  obtain ⟨y1, y2, y3, y4, y5⟩ := wn6 (t := c.2.1) (by omega) (by omega)
  obtain ⟨z1, z2, z3, z4, z5⟩ := wn6 (t := c.2.2) (by omega) (by omega)
  try simp only [x1, x2, x3, x4, x5, y1, y2, y3, y4, y5, z1, z2, z3, z4, z5]
  exact h
theorem chain82_11 {R : V → Prop} (h : R (chB 3 2)) : K0G Tryz.prog glX 82 [iv 11] R := K0_by hmX hcT 3000 Tryz.func82 (p := R (chB 3 2)) (by kernel_rfl) h
theorem turned100_11 {c : Cl} {R : V → Prop} (hb : Bd 3000 c) (h : R (.agg (clr (tn 11 c)))) : K0G Tryz.prog glX 100 [.agg (clr c), iv 11] R := by
  refine K0_by hmX hcV 3000 Tryz.func100 (p := R (V.agg [iv (IntKind.i64.wrap (0 - (IntKind.i64.wrap (0 - c.2.1)))), iv (IntKind.i64.wrap (0 - (IntKind.i64.wrap (0 - c.1)))), iv (IntKind.i64.wrap (0 - c.2.2))])) (by kernel_rfl) ?_
  unfold Bd Nr at hb
  obtain ⟨x1, x2, x3, x4, x5⟩ := wn6 (t := c.1) (by omega) (by omega)
  obtain ⟨y1, y2, y3, y4, y5⟩ := wn6 (t := c.2.1) (by omega) (by omega)
  obtain ⟨z1, z2, z3, z4, z5⟩ := wn6 (t := c.2.2) (by omega) (by omega)
  try simp only [x1, x2, x3, x4, x5, y1, y2, y3, y4, y5, z1, z2, z3, z4, z5]
  exact h
theorem cell85_12 {c : Cl} {R : V → Prop} (hb : Bd 3000 c) (h : R (.agg (clr (tn 12 c)))) : K0G Tryz.prog glX 85 [(chB 0 3), .agg (clr c)] R := by
  refine K0_by hmX hcT 3000 Tryz.func85 (p := R (V.agg [iv c.1, iv (IntKind.i64.wrap (0 - (IntKind.i64.wrap (0 - c.2.2)))), iv (IntKind.i64.wrap (0 - c.2.1))])) (by kernel_rfl) ?_
  unfold Bd Nr at hb
  obtain ⟨x1, x2, x3, x4, x5⟩ := wn6 (t := c.1) (by omega) (by omega)
  obtain ⟨y1, y2, y3, y4, y5⟩ := wn6 (t := c.2.1) (by omega) (by omega)
  obtain ⟨z1, z2, z3, z4, z5⟩ := wn6 (t := c.2.2) (by omega) (by omega)
  try simp only [x1, x2, x3, x4, x5, y1, y2, y3, y4, y5, z1, z2, z3, z4, z5]
  exact h
theorem chain82_12 {R : V → Prop} (h : R (chB 0 3)) : K0G Tryz.prog glX 82 [iv 12] R := K0_by hmX hcT 3000 Tryz.func82 (p := R (chB 0 3)) (by kernel_rfl) h
theorem turned100_12 {c : Cl} {R : V → Prop} (hb : Bd 3000 c) (h : R (.agg (clr (tn 12 c)))) : K0G Tryz.prog glX 100 [.agg (clr c), iv 12] R := by
  refine K0_by hmX hcV 3000 Tryz.func100 (p := R (V.agg [iv c.1, iv (IntKind.i64.wrap (0 - (IntKind.i64.wrap (0 - c.2.2)))), iv (IntKind.i64.wrap (0 - c.2.1))])) (by kernel_rfl) ?_
  unfold Bd Nr at hb
  obtain ⟨x1, x2, x3, x4, x5⟩ := wn6 (t := c.1) (by omega) (by omega)
  obtain ⟨y1, y2, y3, y4, y5⟩ := wn6 (t := c.2.1) (by omega) (by omega)
  obtain ⟨z1, z2, z3, z4, z5⟩ := wn6 (t := c.2.2) (by omega) (by omega)
  try simp only [x1, x2, x3, x4, x5, y1, y2, y3, y4, y5, z1, z2, z3, z4, z5]
  exact h
theorem cell85_13 {c : Cl} {R : V → Prop} (hb : Bd 3000 c) (h : R (.agg (clr (tn 13 c)))) : K0G Tryz.prog glX 85 [(chB 1 3), .agg (clr c)] R := by
  refine K0_by hmX hcT 3000 Tryz.func85 (p := R (V.agg [iv (IntKind.i64.wrap (0 - c.2.1)), iv (IntKind.i64.wrap (0 - (IntKind.i64.wrap (0 - c.2.2)))), iv (IntKind.i64.wrap (0 - c.1))])) (by kernel_rfl) ?_
  unfold Bd Nr at hb
  obtain ⟨x1, x2, x3, x4, x5⟩ := wn6 (t := c.1) (by omega) (by omega)
  obtain ⟨y1, y2, y3, y4, y5⟩ := wn6 (t := c.2.1) (by omega) (by omega)
  obtain ⟨z1, z2, z3, z4, z5⟩ := wn6 (t := c.2.2) (by omega) (by omega)
  try simp only [x1, x2, x3, x4, x5, y1, y2, y3, y4, y5, z1, z2, z3, z4, z5]
  exact h
theorem chain82_13 {R : V → Prop} (h : R (chB 1 3)) : K0G Tryz.prog glX 82 [iv 13] R := K0_by hmX hcT 3000 Tryz.func82 (p := R (chB 1 3)) (by kernel_rfl) h
theorem turned100_13 {c : Cl} {R : V → Prop} (hb : Bd 3000 c) (h : R (.agg (clr (tn 13 c)))) : K0G Tryz.prog glX 100 [.agg (clr c), iv 13] R := by
  refine K0_by hmX hcV 3000 Tryz.func100 (p := R (V.agg [iv (IntKind.i64.wrap (0 - c.2.1)), iv (IntKind.i64.wrap (0 - (IntKind.i64.wrap (0 - c.2.2)))), iv (IntKind.i64.wrap (0 - c.1))])) (by kernel_rfl) ?_
  unfold Bd Nr at hb
  obtain ⟨x1, x2, x3, x4, x5⟩ := wn6 (t := c.1) (by omega) (by omega)
  obtain ⟨y1, y2, y3, y4, y5⟩ := wn6 (t := c.2.1) (by omega) (by omega)
  obtain ⟨z1, z2, z3, z4, z5⟩ := wn6 (t := c.2.2) (by omega) (by omega)
  try simp only [x1, x2, x3, x4, x5, y1, y2, y3, y4, y5, z1, z2, z3, z4, z5]
  exact h
theorem cell85_14 {c : Cl} {R : V → Prop} (hb : Bd 3000 c) (h : R (.agg (clr (tn 14 c)))) : K0G Tryz.prog glX 85 [(chB 2 3), .agg (clr c)] R := by
  refine K0_by hmX hcT 3000 Tryz.func85 (p := R (V.agg [iv (IntKind.i64.wrap (0 - c.1)), iv (IntKind.i64.wrap (0 - (IntKind.i64.wrap (0 - c.2.2)))), iv (IntKind.i64.wrap (0 - (IntKind.i64.wrap (0 - c.2.1))))])) (by kernel_rfl) ?_
  unfold Bd Nr at hb
  obtain ⟨x1, x2, x3, x4, x5⟩ := wn6 (t := c.1) (by omega) (by omega)
  obtain ⟨y1, y2, y3, y4, y5⟩ := wn6 (t := c.2.1) (by omega) (by omega)
  obtain ⟨z1, z2, z3, z4, z5⟩ := wn6 (t := c.2.2) (by omega) (by omega)
  try simp only [x1, x2, x3, x4, x5, y1, y2, y3, y4, y5, z1, z2, z3, z4, z5]
  exact h
theorem chain82_14 {R : V → Prop} (h : R (chB 2 3)) : K0G Tryz.prog glX 82 [iv 14] R := K0_by hmX hcT 3000 Tryz.func82 (p := R (chB 2 3)) (by kernel_rfl) h
theorem turned100_14 {c : Cl} {R : V → Prop} (hb : Bd 3000 c) (h : R (.agg (clr (tn 14 c)))) : K0G Tryz.prog glX 100 [.agg (clr c), iv 14] R := by
  refine K0_by hmX hcV 3000 Tryz.func100 (p := R (V.agg [iv (IntKind.i64.wrap (0 - c.1)), iv (IntKind.i64.wrap (0 - (IntKind.i64.wrap (0 - c.2.2)))), iv (IntKind.i64.wrap (0 - (IntKind.i64.wrap (0 - c.2.1))))])) (by kernel_rfl) ?_
  unfold Bd Nr at hb
  obtain ⟨x1, x2, x3, x4, x5⟩ := wn6 (t := c.1) (by omega) (by omega)
  obtain ⟨y1, y2, y3, y4, y5⟩ := wn6 (t := c.2.1) (by omega) (by omega)
  obtain ⟨z1, z2, z3, z4, z5⟩ := wn6 (t := c.2.2) (by omega) (by omega)
  try simp only [x1, x2, x3, x4, x5, y1, y2, y3, y4, y5, z1, z2, z3, z4, z5]
  exact h
theorem cell85_15 {c : Cl} {R : V → Prop} (hb : Bd 3000 c) (h : R (.agg (clr (tn 15 c)))) : K0G Tryz.prog glX 85 [(chB 3 3), .agg (clr c)] R := by
  refine K0_by hmX hcT 3000 Tryz.func85 (p := R (V.agg [iv (IntKind.i64.wrap (0 - (IntKind.i64.wrap (0 - c.2.1)))), iv (IntKind.i64.wrap (0 - (IntKind.i64.wrap (0 - c.2.2)))), iv (IntKind.i64.wrap (0 - (IntKind.i64.wrap (0 - c.1))))])) (by kernel_rfl) ?_
  unfold Bd Nr at hb
  obtain ⟨x1, x2, x3, x4, x5⟩ := wn6 (t := c.1) (by omega) (by omega)
  obtain ⟨y1, y2, y3, y4, y5⟩ := wn6 (t := c.2.1) (by omega) (by omega)
  obtain ⟨z1, z2, z3, z4, z5⟩ := wn6 (t := c.2.2) (by omega) (by omega)
  try simp only [x1, x2, x3, x4, x5, y1, y2, y3, y4, y5, z1, z2, z3, z4, z5]
  exact h
theorem chain82_15 {R : V → Prop} (h : R (chB 3 3)) : K0G Tryz.prog glX 82 [iv 15] R := K0_by hmX hcT 3000 Tryz.func82 (p := R (chB 3 3)) (by kernel_rfl) h
theorem turned100_15 {c : Cl} {R : V → Prop} (hb : Bd 3000 c) (h : R (.agg (clr (tn 15 c)))) : K0G Tryz.prog glX 100 [.agg (clr c), iv 15] R := by
  refine K0_by hmX hcV 3000 Tryz.func100 (p := R (V.agg [iv (IntKind.i64.wrap (0 - (IntKind.i64.wrap (0 - c.2.1)))), iv (IntKind.i64.wrap (0 - (IntKind.i64.wrap (0 - c.2.2)))), iv (IntKind.i64.wrap (0 - (IntKind.i64.wrap (0 - c.1))))])) (by kernel_rfl) ?_
  unfold Bd Nr at hb
  obtain ⟨x1, x2, x3, x4, x5⟩ := wn6 (t := c.1) (by omega) (by omega)
  obtain ⟨y1, y2, y3, y4, y5⟩ := wn6 (t := c.2.1) (by omega) (by omega)
  obtain ⟨z1, z2, z3, z4, z5⟩ := wn6 (t := c.2.2) (by omega) (by omega)
  try simp only [x1, x2, x3, x4, x5, y1, y2, y3, y4, y5, z1, z2, z3, z4, z5]
  exact h
theorem cell85_16 {c : Cl} {R : V → Prop} (hb : Bd 3000 c) (h : R (.agg (clr (tn 16 c)))) : K0G Tryz.prog glX 85 [(chC 0 1), .agg (clr c)] R := by
  refine K0_by hmX hcT 3000 Tryz.func85 (p := R (V.agg [iv (IntKind.i64.wrap (0 - (IntKind.i64.wrap (0 - c.2.2)))), iv c.1, iv c.2.1])) (by kernel_rfl) ?_
  unfold Bd Nr at hb
  obtain ⟨x1, x2, x3, x4, x5⟩ := wn6 (t := c.1) (by omega) (by omega)
  obtain ⟨y1, y2, y3, y4, y5⟩ := wn6 (t := c.2.1) (by omega) (by omega)
  obtain ⟨z1, z2, z3, z4, z5⟩ := wn6 (t := c.2.2) (by omega) (by omega)
  try simp only [x1, x2, x3, x4, x5, y1, y2, y3, y4, y5, z1, z2, z3, z4, z5]
  exact h
theorem chain82_16 {R : V → Prop} (h : R (chC 0 1)) : K0G Tryz.prog glX 82 [iv 16] R := K0_by hmX hcT 3000 Tryz.func82 (p := R (chC 0 1)) (by kernel_rfl) h
theorem turned100_16 {c : Cl} {R : V → Prop} (hb : Bd 3000 c) (h : R (.agg (clr (tn 16 c)))) : K0G Tryz.prog glX 100 [.agg (clr c), iv 16] R := by
  refine K0_by hmX hcV 3000 Tryz.func100 (p := R (V.agg [iv (IntKind.i64.wrap (0 - (IntKind.i64.wrap (0 - c.2.2)))), iv c.1, iv c.2.1])) (by kernel_rfl) ?_
  unfold Bd Nr at hb
  obtain ⟨x1, x2, x3, x4, x5⟩ := wn6 (t := c.1) (by omega) (by omega)
  obtain ⟨y1, y2, y3, y4, y5⟩ := wn6 (t := c.2.1) (by omega) (by omega)
  obtain ⟨z1, z2, z3, z4, z5⟩ := wn6 (t := c.2.2) (by omega) (by omega)
  try simp only [x1, x2, x3, x4, x5, y1, y2, y3, y4, y5, z1, z2, z3, z4, z5]
  exact h
theorem cell85_17 {c : Cl} {R : V → Prop} (hb : Bd 3000 c) (h : R (.agg (clr (tn 17 c)))) : K0G Tryz.prog glX 85 [(chC 1 1), .agg (clr c)] R := by
  refine K0_by hmX hcT 3000 Tryz.func85 (p := R (V.agg [iv (IntKind.i64.wrap (0 - (IntKind.i64.wrap (0 - c.2.2)))), iv (IntKind.i64.wrap (0 - c.2.1)), iv c.1])) (by kernel_rfl) ?_
  unfold Bd Nr at hb
  obtain ⟨x1, x2, x3, x4, x5⟩ := wn6 (t := c.1) (by omega) (by omega)
  obtain ⟨y1, y2, y3, y4, y5⟩ := wn6 (t := c.2.1) (by omega) (by omega)
  obtain ⟨z1, z2, z3, z4, z5⟩ := wn6 (t := c.2.2) (by omega) (by omega)
  try simp only [x1, x2, x3, x4, x5, y1, y2, y3, y4, y5, z1, z2, z3, z4, z5]
  exact h
theorem chain82_17 {R : V → Prop} (h : R (chC 1 1)) : K0G Tryz.prog glX 82 [iv 17] R := K0_by hmX hcT 3000 Tryz.func82 (p := R (chC 1 1)) (by kernel_rfl) h
theorem turned100_17 {c : Cl} {R : V → Prop} (hb : Bd 3000 c) (h : R (.agg (clr (tn 17 c)))) : K0G Tryz.prog glX 100 [.agg (clr c), iv 17] R := by
  refine K0_by hmX hcV 3000 Tryz.func100 (p := R (V.agg [iv (IntKind.i64.wrap (0 - (IntKind.i64.wrap (0 - c.2.2)))), iv (IntKind.i64.wrap (0 - c.2.1)), iv c.1])) (by kernel_rfl) ?_
  unfold Bd Nr at hb
  obtain ⟨x1, x2, x3, x4, x5⟩ := wn6 (t := c.1) (by omega) (by omega)
  obtain ⟨y1, y2, y3, y4, y5⟩ := wn6 (t := c.2.1) (by omega) (by omega)
  obtain ⟨z1, z2, z3, z4, z5⟩ := wn6 (t := c.2.2) (by omega) (by omega)
  try simp only [x1, x2, x3, x4, x5, y1, y2, y3, y4, y5, z1, z2, z3, z4, z5]
  exact h
theorem cell85_18 {c : Cl} {R : V → Prop} (hb : Bd 3000 c) (h : R (.agg (clr (tn 18 c)))) : K0G Tryz.prog glX 85 [(chC 2 1), .agg (clr c)] R := by
  refine K0_by hmX hcT 3000 Tryz.func85 (p := R (V.agg [iv (IntKind.i64.wrap (0 - (IntKind.i64.wrap (0 - c.2.2)))), iv (IntKind.i64.wrap (0 - c.1)), iv (IntKind.i64.wrap (0 - c.2.1))])) (by kernel_rfl) ?_
  unfold Bd Nr at hb
  obtain ⟨x1, x2, x3, x4, x5⟩ := wn6 (t := c.1) (by omega) (by omega)
  obtain ⟨y1, y2, y3, y4, y5⟩ := wn6 (t := c.2.1) (by omega) (by omega)
  obtain ⟨z1, z2, z3, z4, z5⟩ := wn6 (t := c.2.2) (by omega) (by omega)
  try simp only [x1, x2, x3, x4, x5, y1, y2, y3, y4, y5, z1, z2, z3, z4, z5]
  exact h
theorem chain82_18 {R : V → Prop} (h : R (chC 2 1)) : K0G Tryz.prog glX 82 [iv 18] R := K0_by hmX hcT 3000 Tryz.func82 (p := R (chC 2 1)) (by kernel_rfl) h
theorem turned100_18 {c : Cl} {R : V → Prop} (hb : Bd 3000 c) (h : R (.agg (clr (tn 18 c)))) : K0G Tryz.prog glX 100 [.agg (clr c), iv 18] R := by
  refine K0_by hmX hcV 3000 Tryz.func100 (p := R (V.agg [iv (IntKind.i64.wrap (0 - (IntKind.i64.wrap (0 - c.2.2)))), iv (IntKind.i64.wrap (0 - c.1)), iv (IntKind.i64.wrap (0 - c.2.1))])) (by kernel_rfl) ?_
  unfold Bd Nr at hb
  obtain ⟨x1, x2, x3, x4, x5⟩ := wn6 (t := c.1) (by omega) (by omega)
  obtain ⟨y1, y2, y3, y4, y5⟩ := wn6 (t := c.2.1) (by omega) (by omega)
  obtain ⟨z1, z2, z3, z4, z5⟩ := wn6 (t := c.2.2) (by omega) (by omega)
  try simp only [x1, x2, x3, x4, x5, y1, y2, y3, y4, y5, z1, z2, z3, z4, z5]
  exact h
theorem cell85_19 {c : Cl} {R : V → Prop} (hb : Bd 3000 c) (h : R (.agg (clr (tn 19 c)))) : K0G Tryz.prog glX 85 [(chC 3 1), .agg (clr c)] R := by
  refine K0_by hmX hcT 3000 Tryz.func85 (p := R (V.agg [iv (IntKind.i64.wrap (0 - (IntKind.i64.wrap (0 - c.2.2)))), iv (IntKind.i64.wrap (0 - (IntKind.i64.wrap (0 - c.2.1)))), iv (IntKind.i64.wrap (0 - c.1))])) (by kernel_rfl) ?_
  unfold Bd Nr at hb
  obtain ⟨x1, x2, x3, x4, x5⟩ := wn6 (t := c.1) (by omega) (by omega)
  obtain ⟨y1, y2, y3, y4, y5⟩ := wn6 (t := c.2.1) (by omega) (by omega)
  obtain ⟨z1, z2, z3, z4, z5⟩ := wn6 (t := c.2.2) (by omega) (by omega)
  try simp only [x1, x2, x3, x4, x5, y1, y2, y3, y4, y5, z1, z2, z3, z4, z5]
  exact h
theorem chain82_19 {R : V → Prop} (h : R (chC 3 1)) : K0G Tryz.prog glX 82 [iv 19] R := K0_by hmX hcT 3000 Tryz.func82 (p := R (chC 3 1)) (by kernel_rfl) h
theorem turned100_19 {c : Cl} {R : V → Prop} (hb : Bd 3000 c) (h : R (.agg (clr (tn 19 c)))) : K0G Tryz.prog glX 100 [.agg (clr c), iv 19] R := by
  refine K0_by hmX hcV 3000 Tryz.func100 (p := R (V.agg [iv (IntKind.i64.wrap (0 - (IntKind.i64.wrap (0 - c.2.2)))), iv (IntKind.i64.wrap (0 - (IntKind.i64.wrap (0 - c.2.1)))), iv (IntKind.i64.wrap (0 - c.1))])) (by kernel_rfl) ?_
  unfold Bd Nr at hb
  obtain ⟨x1, x2, x3, x4, x5⟩ := wn6 (t := c.1) (by omega) (by omega)
  obtain ⟨y1, y2, y3, y4, y5⟩ := wn6 (t := c.2.1) (by omega) (by omega)
  obtain ⟨z1, z2, z3, z4, z5⟩ := wn6 (t := c.2.2) (by omega) (by omega)
  try simp only [x1, x2, x3, x4, x5, y1, y2, y3, y4, y5, z1, z2, z3, z4, z5]
  exact h
theorem cell85_20 {c : Cl} {R : V → Prop} (hb : Bd 3000 c) (h : R (.agg (clr (tn 20 c)))) : K0G Tryz.prog glX 85 [(chC 0 3), .agg (clr c)] R := by
  refine K0_by hmX hcT 3000 Tryz.func85 (p := R (V.agg [iv (IntKind.i64.wrap (0 - (IntKind.i64.wrap (0 - (IntKind.i64.wrap (0 - c.2.2)))))), iv (IntKind.i64.wrap (0 - c.1)), iv c.2.1])) (by kernel_rfl) ?_
  unfold Bd Nr at hb
  obtain ⟨x1, x2, x3, x4, x5⟩ := wn6 (t := c.1) (by omega) (by omega)
  obtain ⟨y1, y2, y3, y4, y5⟩ := wn6 (t := c.2.1) (by omega) (by omega)
  obtain ⟨z1, z2, z3, z4, z5⟩ := wn6 (t := c.2.2) (by omega) (by omega)
  try simp only [x1, x2, x3, x4, x5, y1, y2, y3, y4, y5, z1, z2, z3, z4, z5]
  exact h
theorem chain82_20 {R : V → Prop} (h : R (chC 0 3)) : K0G Tryz.prog glX 82 [iv 20] R := K0_by hmX hcT 3000 Tryz.func82 (p := R (chC 0 3)) (by kernel_rfl) h
theorem turned100_20 {c : Cl} {R : V → Prop} (hb : Bd 3000 c) (h : R (.agg (clr (tn 20 c)))) : K0G Tryz.prog glX 100 [.agg (clr c), iv 20] R := by
  refine K0_by hmX hcV 3000 Tryz.func100 (p := R (V.agg [iv (IntKind.i64.wrap (0 - (IntKind.i64.wrap (0 - (IntKind.i64.wrap (0 - c.2.2)))))), iv (IntKind.i64.wrap (0 - c.1)), iv c.2.1])) (by kernel_rfl) ?_
  unfold Bd Nr at hb
  obtain ⟨x1, x2, x3, x4, x5⟩ := wn6 (t := c.1) (by omega) (by omega)
  obtain ⟨y1, y2, y3, y4, y5⟩ := wn6 (t := c.2.1) (by omega) (by omega)
  obtain ⟨z1, z2, z3, z4, z5⟩ := wn6 (t := c.2.2) (by omega) (by omega)
  try simp only [x1, x2, x3, x4, x5, y1, y2, y3, y4, y5, z1, z2, z3, z4, z5]
  exact h
theorem cell85_21 {c : Cl} {R : V → Prop} (hb : Bd 3000 c) (h : R (.agg (clr (tn 21 c)))) : K0G Tryz.prog glX 85 [(chC 1 3), .agg (clr c)] R := by
  refine K0_by hmX hcT 3000 Tryz.func85 (p := R (V.agg [iv (IntKind.i64.wrap (0 - (IntKind.i64.wrap (0 - (IntKind.i64.wrap (0 - c.2.2)))))), iv (IntKind.i64.wrap (0 - (IntKind.i64.wrap (0 - c.2.1)))), iv c.1])) (by kernel_rfl) ?_
  unfold Bd Nr at hb
  obtain ⟨x1, x2, x3, x4, x5⟩ := wn6 (t := c.1) (by omega) (by omega)
  obtain ⟨y1, y2, y3, y4, y5⟩ := wn6 (t := c.2.1) (by omega) (by omega)
  obtain ⟨z1, z2, z3, z4, z5⟩ := wn6 (t := c.2.2) (by omega) (by omega)
  try simp only [x1, x2, x3, x4, x5, y1, y2, y3, y4, y5, z1, z2, z3, z4, z5]
  exact h
theorem chain82_21 {R : V → Prop} (h : R (chC 1 3)) : K0G Tryz.prog glX 82 [iv 21] R := K0_by hmX hcT 3000 Tryz.func82 (p := R (chC 1 3)) (by kernel_rfl) h
theorem turned100_21 {c : Cl} {R : V → Prop} (hb : Bd 3000 c) (h : R (.agg (clr (tn 21 c)))) : K0G Tryz.prog glX 100 [.agg (clr c), iv 21] R := by
  refine K0_by hmX hcV 3000 Tryz.func100 (p := R (V.agg [iv (IntKind.i64.wrap (0 - (IntKind.i64.wrap (0 - (IntKind.i64.wrap (0 - c.2.2)))))), iv (IntKind.i64.wrap (0 - (IntKind.i64.wrap (0 - c.2.1)))), iv c.1])) (by kernel_rfl) ?_
  unfold Bd Nr at hb
  obtain ⟨x1, x2, x3, x4, x5⟩ := wn6 (t := c.1) (by omega) (by omega)
  obtain ⟨y1, y2, y3, y4, y5⟩ := wn6 (t := c.2.1) (by omega) (by omega)
  obtain ⟨z1, z2, z3, z4, z5⟩ := wn6 (t := c.2.2) (by omega) (by omega)
  try simp only [x1, x2, x3, x4, x5, y1, y2, y3, y4, y5, z1, z2, z3, z4, z5]
  exact h
theorem cell85_22 {c : Cl} {R : V → Prop} (hb : Bd 3000 c) (h : R (.agg (clr (tn 22 c)))) : K0G Tryz.prog glX 85 [(chC 2 3), .agg (clr c)] R := by
  refine K0_by hmX hcT 3000 Tryz.func85 (p := R (V.agg [iv (IntKind.i64.wrap (0 - (IntKind.i64.wrap (0 - (IntKind.i64.wrap (0 - c.2.2)))))), iv (IntKind.i64.wrap (0 - (IntKind.i64.wrap (0 - c.1)))), iv (IntKind.i64.wrap (0 - c.2.1))])) (by kernel_rfl) ?_
  unfold Bd Nr at hb
  obtain ⟨x1, x2, x3, x4, x5⟩ := wn6 (t := c.1) (by omega) (by omega)
  obtain ⟨y1, y2, y3, y4, y5⟩ := wn6 (t := c.2.1) (by omega) (by omega)
  obtain ⟨z1, z2, z3, z4, z5⟩ := wn6 (t := c.2.2) (by omega) (by omega)
  try simp only [x1, x2, x3, x4, x5, y1, y2, y3, y4, y5, z1, z2, z3, z4, z5]
  exact h
theorem chain82_22 {R : V → Prop} (h : R (chC 2 3)) : K0G Tryz.prog glX 82 [iv 22] R := K0_by hmX hcT 3000 Tryz.func82 (p := R (chC 2 3)) (by kernel_rfl) h
theorem turned100_22 {c : Cl} {R : V → Prop} (hb : Bd 3000 c) (h : R (.agg (clr (tn 22 c)))) : K0G Tryz.prog glX 100 [.agg (clr c), iv 22] R := by
  refine K0_by hmX hcV 3000 Tryz.func100 (p := R (V.agg [iv (IntKind.i64.wrap (0 - (IntKind.i64.wrap (0 - (IntKind.i64.wrap (0 - c.2.2)))))), iv (IntKind.i64.wrap (0 - (IntKind.i64.wrap (0 - c.1)))), iv (IntKind.i64.wrap (0 - c.2.1))])) (by kernel_rfl) ?_
  unfold Bd Nr at hb
  obtain ⟨x1, x2, x3, x4, x5⟩ := wn6 (t := c.1) (by omega) (by omega)
  obtain ⟨y1, y2, y3, y4, y5⟩ := wn6 (t := c.2.1) (by omega) (by omega)
  obtain ⟨z1, z2, z3, z4, z5⟩ := wn6 (t := c.2.2) (by omega) (by omega)
  try simp only [x1, x2, x3, x4, x5, y1, y2, y3, y4, y5, z1, z2, z3, z4, z5]
  exact h
theorem cell85_23 {c : Cl} {R : V → Prop} (hb : Bd 3000 c) (h : R (.agg (clr (tn 23 c)))) : K0G Tryz.prog glX 85 [(chC 3 3), .agg (clr c)] R := by
  refine K0_by hmX hcT 3000 Tryz.func85 (p := R (V.agg [iv (IntKind.i64.wrap (0 - (IntKind.i64.wrap (0 - (IntKind.i64.wrap (0 - c.2.2)))))), iv (IntKind.i64.wrap (0 - (IntKind.i64.wrap (0 - (IntKind.i64.wrap (0 - c.2.1)))))), iv (IntKind.i64.wrap (0 - c.1))])) (by kernel_rfl) ?_
  unfold Bd Nr at hb
  obtain ⟨x1, x2, x3, x4, x5⟩ := wn6 (t := c.1) (by omega) (by omega)
  obtain ⟨y1, y2, y3, y4, y5⟩ := wn6 (t := c.2.1) (by omega) (by omega)
  obtain ⟨z1, z2, z3, z4, z5⟩ := wn6 (t := c.2.2) (by omega) (by omega)
  try simp only [x1, x2, x3, x4, x5, y1, y2, y3, y4, y5, z1, z2, z3, z4, z5]
  exact h
theorem chain82_23 {R : V → Prop} (h : R (chC 3 3)) : K0G Tryz.prog glX 82 [iv 23] R := K0_by hmX hcT 3000 Tryz.func82 (p := R (chC 3 3)) (by kernel_rfl) h
theorem turned100_23 {c : Cl} {R : V → Prop} (hb : Bd 3000 c) (h : R (.agg (clr (tn 23 c)))) : K0G Tryz.prog glX 100 [.agg (clr c), iv 23] R := by
  refine K0_by hmX hcV 3000 Tryz.func100 (p := R (V.agg [iv (IntKind.i64.wrap (0 - (IntKind.i64.wrap (0 - (IntKind.i64.wrap (0 - c.2.2)))))), iv (IntKind.i64.wrap (0 - (IntKind.i64.wrap (0 - (IntKind.i64.wrap (0 - c.2.1)))))), iv (IntKind.i64.wrap (0 - c.1))])) (by kernel_rfl) ?_
  unfold Bd Nr at hb
  obtain ⟨x1, x2, x3, x4, x5⟩ := wn6 (t := c.1) (by omega) (by omega)
  obtain ⟨y1, y2, y3, y4, y5⟩ := wn6 (t := c.2.1) (by omega) (by omega)
  obtain ⟨z1, z2, z3, z4, z5⟩ := wn6 (t := c.2.2) (by omega) (by omega)
  try simp only [x1, x2, x3, x4, x5, y1, y2, y3, y4, y5, z1, z2, z3, z4, z5]
  exact h
def ch (n : Nat) : V := if n / 4 < 1 then chA (n % 4 : Nat) else if n / 4 < 4 then chB (n % 4 : Nat) (n / 4 : Nat) else chC (n % 4 : Nat) (if n / 4 = 4 then 1 else 3)
theorem cell85 {c : Cl} {R : V → Prop} (hb : Bd 3000 c) : ∀ n : Nat, n < 24 → R (.agg (clr (tn n c))) → K0G Tryz.prog glX 85 [ch n, .agg (clr c)] R
  | 0, _ => fun h => cell85_0 hb h
  | 1, _ => fun h => cell85_1 hb h
  | 2, _ => fun h => cell85_2 hb h
  | 3, _ => fun h => cell85_3 hb h
  | 4, _ => fun h => cell85_4 hb h
  | 5, _ => fun h => cell85_5 hb h
  | 6, _ => fun h => cell85_6 hb h
  | 7, _ => fun h => cell85_7 hb h
  | 8, _ => fun h => cell85_8 hb h
  | 9, _ => fun h => cell85_9 hb h
  | 10, _ => fun h => cell85_10 hb h
  | 11, _ => fun h => cell85_11 hb h
  | 12, _ => fun h => cell85_12 hb h
  | 13, _ => fun h => cell85_13 hb h
  | 14, _ => fun h => cell85_14 hb h
  | 15, _ => fun h => cell85_15 hb h
  | 16, _ => fun h => cell85_16 hb h
  | 17, _ => fun h => cell85_17 hb h
  | 18, _ => fun h => cell85_18 hb h
  | 19, _ => fun h => cell85_19 hb h
  | 20, _ => fun h => cell85_20 hb h
  | 21, _ => fun h => cell85_21 hb h
  | 22, _ => fun h => cell85_22 hb h
  | 23, _ => fun h => cell85_23 hb h
  | n + 24, h => absurd h (by omega)
theorem chain82 {R : V → Prop} : ∀ n : Nat, n < 24 → R (ch n) → K0G Tryz.prog glX 82 [iv (n : Int)] R
  | 0, _ => fun h => chain82_0 h
  | 1, _ => fun h => chain82_1 h
  | 2, _ => fun h => chain82_2 h
  | 3, _ => fun h => chain82_3 h
  | 4, _ => fun h => chain82_4 h
  | 5, _ => fun h => chain82_5 h
  | 6, _ => fun h => chain82_6 h
  | 7, _ => fun h => chain82_7 h
  | 8, _ => fun h => chain82_8 h
  | 9, _ => fun h => chain82_9 h
  | 10, _ => fun h => chain82_10 h
  | 11, _ => fun h => chain82_11 h
  | 12, _ => fun h => chain82_12 h
  | 13, _ => fun h => chain82_13 h
  | 14, _ => fun h => chain82_14 h
  | 15, _ => fun h => chain82_15 h
  | 16, _ => fun h => chain82_16 h
  | 17, _ => fun h => chain82_17 h
  | 18, _ => fun h => chain82_18 h
  | 19, _ => fun h => chain82_19 h
  | 20, _ => fun h => chain82_20 h
  | 21, _ => fun h => chain82_21 h
  | 22, _ => fun h => chain82_22 h
  | 23, _ => fun h => chain82_23 h
  | n + 24, h => absurd h (by omega)
theorem turned100 {c : Cl} {R : V → Prop} (hb : Bd 3000 c) : ∀ n : Nat, n < 24 → R (.agg (clr (tn n c))) → K0G Tryz.prog glX 100 [.agg (clr c), iv (n : Int)] R
  | 0, _ => fun h => turned100_0 hb h
  | 1, _ => fun h => turned100_1 hb h
  | 2, _ => fun h => turned100_2 hb h
  | 3, _ => fun h => turned100_3 hb h
  | 4, _ => fun h => turned100_4 hb h
  | 5, _ => fun h => turned100_5 hb h
  | 6, _ => fun h => turned100_6 hb h
  | 7, _ => fun h => turned100_7 hb h
  | 8, _ => fun h => turned100_8 hb h
  | 9, _ => fun h => turned100_9 hb h
  | 10, _ => fun h => turned100_10 hb h
  | 11, _ => fun h => turned100_11 hb h
  | 12, _ => fun h => turned100_12 hb h
  | 13, _ => fun h => turned100_13 hb h
  | 14, _ => fun h => turned100_14 hb h
  | 15, _ => fun h => turned100_15 hb h
  | 16, _ => fun h => turned100_16 hb h
  | 17, _ => fun h => turned100_17 hb h
  | 18, _ => fun h => turned100_18 hb h
  | 19, _ => fun h => turned100_19 hb h
  | 20, _ => fun h => turned100_20 hb h
  | 21, _ => fun h => turned100_21 hb h
  | 22, _ => fun h => turned100_22 hb h
  | 23, _ => fun h => turned100_23 hb h
  | n + 24, h => absurd h (by omega)
end Go.Proofs.YtbionhgjgcpogaaGreatDoor
