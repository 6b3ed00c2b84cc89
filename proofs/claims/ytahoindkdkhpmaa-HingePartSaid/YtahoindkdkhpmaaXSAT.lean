/- Two convex polygons between which there is a line have an edge whose line is between them. Plain mathematics of whole numbers. -/
namespace Go.Proofs.Ytahoindkdkhpmaa.Sat

abbrev Pt := Int × Int
def cr (u v : Pt) : Int := u.1 * v.2 - u.2 * v.1
def dt (u v : Pt) : Int := u.1 * v.1 + u.2 * v.2
def sb (u v : Pt) : Pt := (u.1 - v.1, u.2 - v.2)

theorem cr_neg (a b : Pt) : cr b a = - cr a b := by simp only [cr]; grind
theorem cr_add (a b c : Pt) : cr a (b.1 + c.1, b.2 + c.2) = cr a b + cr a c := by simp only [cr]; grind
theorem plu (a b c d : Pt) : cr a b * cr c d - cr a c * cr b d + cr a d * cr b c = 0 := by simp only [cr]; grind

theorem nonneg_of_mul {a b : Int} (ha : 0 < a) (h : 0 ≤ a * b) : 0 ≤ b := by
  refine Classical.byContradiction fun hn => ?_
  have := Int.mul_neg_of_pos_of_neg ha (by omega : b < 0)
  omega
theorem nonpos_of_mul {a b : Int} (ha : 0 < a) (h : a * b ≤ 0) : b ≤ 0 := by
  refine Classical.byContradiction fun hn => ?_
  have := Int.mul_pos ha (by omega : 0 < b)
  omega

/-- Where D is between E1 and E2 and between G1 and G2, and E1 is no earlier than G1, E1 is before G2. -/
theorem low {E1 G1 G2 D : Pt} (hg : 0 < cr G1 G2) (h1 : 0 ≤ cr E1 D) (h2 : 0 < cr G1 D) (h3 : 0 ≤ cr D G2) (h : 0 ≤ cr G1 E1) : 0 ≤ cr E1 G2 := by
  have p := plu G1 E1 D G2
  have a := Int.mul_nonneg h h3
  have b := Int.mul_nonneg (Int.le_of_lt hg) h1
  exact nonneg_of_mul h2 (by rw [show cr G1 D * cr E1 G2 = cr G1 E1 * cr D G2 + cr G1 G2 * cr E1 D by omega]; omega)
theorem high {E2 G1 G2 D : Pt} (hg : 0 < cr G1 G2) (h1 : 0 ≤ cr D E2) (h2 : 0 ≤ cr G1 D) (h3 : 0 < cr D G2) (h : 0 ≤ cr E2 G2) : 0 ≤ cr G1 E2 := by
  have p := plu G1 D E2 G2
  have a := Int.mul_nonneg h2 h
  have b := Int.mul_nonneg (Int.le_of_lt hg) h1
  exact nonneg_of_mul h3 (by rw [Int.mul_comm, show cr G1 E2 * cr D G2 = cr G1 D * cr E2 G2 + cr G1 G2 * cr D E2 by omega]; omega)
/-- One of two bounds sees W to its right, if what is between them does. -/
theorem mid {L U D W : Pt} (h1 : 0 < cr L D) (h2 : 0 < cr D U) (h : 0 ≤ cr L U) (hw : cr D W ≤ 0) : cr L W ≤ 0 ∨ cr U W ≤ 0 := by
  by_cases hl : cr L W ≤ 0
  · exact .inl hl
  refine .inr ?_
  refine Classical.byContradiction fun hu => ?_
  have p := plu L D U W
  have a := Int.mul_pos h1 (by omega : 0 < cr U W)
  have b := Int.mul_pos h2 (by omega : 0 < cr L W)
  have c := Int.mul_nonneg h (by omega : 0 ≤ - cr D W)
  rw [Int.mul_neg] at c
  rw [Int.mul_comm (cr L W)] at p
  omega
/-- What a corner sees lies to the right of E, if E is between what comes to it and what leaves it. -/
theorem beyond {E F1 F2 V : Pt} (hf : 0 < cr F1 F2) (h1 : 0 ≤ cr E F1) (h2 : cr E F2 ≤ 0) (v1 : 0 ≤ cr F1 V) (v2 : 0 ≤ cr F2 V) : cr E V ≤ 0 := by
  have p := plu F1 F2 E V
  have a := Int.mul_nonneg h1 v2
  have b := Int.mul_nonneg v1 (by omega : 0 ≤ - cr E F2)
  rw [cr_neg E F1, cr_neg E F2] at p
  rw [Int.mul_neg] at b
  refine nonpos_of_mul hf ?_
  have e1 : - cr E F1 * cr F2 V = - (cr E F1 * cr F2 V) := Int.neg_mul _ _
  have e2 : cr F1 V * - cr E F2 = - (cr F1 V * cr E F2) := Int.mul_neg _ _
  omega
/-- D is along E: then E is a part of D. -/
theorem along {E1 E2 D V : Pt} (he : 0 < cr E1 E2) (h2 : 0 ≤ cr D E2) (h0 : cr E1 D = 0) (hD : D ≠ (0, 0)) (hv : cr D V ≤ 0) : cr E1 V ≤ 0 := by
  have p := plu E1 E2 D V
  have q := plu E1 E2 D (D.2, - D.1)
  -- cr E1 E2 * D = cr D E2 * E1
  have e1 : cr E1 E2 * D.1 = cr D E2 * E1.1 := by simp only [cr] at h0 ⊢; grind
  have e2 : cr E1 E2 * D.2 = cr D E2 * E1.2 := by simp only [cr] at h0 ⊢; grind
  have hp : 0 < cr D E2 := by
    refine Classical.byContradiction fun hn => ?_
    have hz : cr D E2 = 0 := by omega
    rw [hz, Int.zero_mul] at e1 e2
    have d1 := (Int.mul_eq_zero.1 e1).resolve_left (by omega)
    have d2 := (Int.mul_eq_zero.1 e2).resolve_left (by omega)
    exact hD (Prod.ext d1 d2)
  refine nonpos_of_mul hp ?_
  have : cr D E2 * cr E1 V = cr E1 E2 * cr D V := by
    have : cr D E2 * cr E1 V = (cr D E2 * E1.1) * V.2 - (cr D E2 * E1.2) * V.1 := by simp only [cr]; grind
    rw [this, ← e1, ← e2]; simp only [cr]; grind
  rw [this]
  have := Int.mul_nonneg (Int.le_of_lt he) (by omega : 0 ≤ - cr D V)
  rw [Int.mul_neg] at this
  omega
theorem along' {E1 E2 D V : Pt} (he : 0 < cr E1 E2) (h1 : 0 ≤ cr E1 D) (h0 : cr D E2 = 0) (hD : D ≠ (0, 0)) (hv : cr D V ≤ 0) : cr E2 V ≤ 0 := by
  -- seen in a mirror
  have e1 : cr E1 E2 * D.1 = cr E1 D * E2.1 := by simp only [cr] at h0 ⊢; grind
  have e2 : cr E1 E2 * D.2 = cr E1 D * E2.2 := by simp only [cr] at h0 ⊢; grind
  have hp : 0 < cr E1 D := by
    refine Classical.byContradiction fun hn => ?_
    have hz : cr E1 D = 0 := by omega
    rw [hz, Int.zero_mul] at e1 e2
    have d1 := (Int.mul_eq_zero.1 e1).resolve_left (by omega)
    have d2 := (Int.mul_eq_zero.1 e2).resolve_left (by omega)
    exact hD (Prod.ext d1 d2)
  refine nonpos_of_mul hp ?_
  have : cr E1 D * cr E2 V = cr E1 E2 * cr D V := by
    have : cr E1 D * cr E2 V = (cr E1 D * E2.1) * V.2 - (cr E1 D * E2.2) * V.1 := by simp only [cr]; grind
    rw [this, ← e1, ← e2]; simp only [cr]; grind
  rw [this]
  have := Int.mul_nonneg (Int.le_of_lt he) (by omega : 0 ≤ - cr D V)
  rw [Int.mul_neg] at this
  omega

/-- A polygon: its corners, one after the other, all others to the left of each edge. -/
structure Poly (n : Nat) (P : Nat → Pt) : Prop where
  n3 : 3 ≤ n
  cv : ∀ i k, i < n → k < n → k ≠ i → k ≠ (i + 1) % n → 0 < cr (sb (P ((i + 1) % n)) (P i)) (sb (P k) (P i))

theorem Poly.left {n : Nat} {P : Nat → Pt} (h : Poly n P) {i k : Nat} (hi : i < n) (hk : k < n) : 0 ≤ cr (sb (P ((i + 1) % n)) (P i)) (sb (P k) (P i)) := by
  by_cases h1 : k = i
  · subst h1; simp only [cr, sb]; grind
  by_cases h2 : k = (i + 1) % n
  · subst h2; simp only [cr, sb]; grind
  exact Int.le_of_lt (h.cv i k hi hk h1 h2)

theorem exists_max (n : Nat) (f : Nat → Int) (hn : 0 < n) : ∃ i, i < n ∧ ∀ k, k < n → f k ≤ f i := by
  induction n with
  | zero => omega
  | succ n ih =>
    by_cases h : n = 0
    · subst h; exact ⟨0, by omega, fun k hk => by rw [show k = 0 by omega]; exact Int.le_refl _⟩
    obtain ⟨i, hi, hm⟩ := ih (by omega)
    by_cases hc : f i ≤ f n
    · refine ⟨n, by omega, fun k hk => ?_⟩
      by_cases hkn : k = n
      · subst hkn; exact Int.le_refl _
      · exact Int.le_trans (hm k (by omega)) hc
    · refine ⟨i, by omega, fun k hk => ?_⟩
      by_cases hkn : k = n
      · subst hkn; omega
      · exact hm k (by omega)

/-- The corner before. -/
def pre (n i : Nat) : Nat := (i + (n - 1)) % n
theorem pre_lt {n i : Nat} (hn : 0 < n) : pre n i < n := Nat.mod_lt _ hn
theorem pre_succ {n i : Nat} (hi : i < n) : (pre n i + 1) % n = i := by
  unfold pre
  by_cases h : i = 0
  · subst h
    rw [Nat.zero_add, Nat.mod_eq_of_lt (by omega : n - 1 < n), show n - 1 + 1 = n by omega, Nat.mod_self]
  · rw [show i + (n - 1) = (i - 1) + n by omega, Nat.add_mod_right, Nat.mod_eq_of_lt (by omega : i - 1 < n), show i - 1 + 1 = i by omega, Nat.mod_eq_of_lt hi]
theorem pre_ne {n i : Nat} (hn : 3 ≤ n) (hi : i < n) : pre n i ≠ i ∧ (i + 1) % n ≠ i ∧ (i + 1) % n ≠ pre n i := by
  unfold pre
  by_cases h : i = 0
  · subst h
    rw [Nat.zero_add, Nat.mod_eq_of_lt (by omega : n - 1 < n), Nat.mod_eq_of_lt (by omega : 0 + 1 < n)]; omega
  · rw [show i + (n - 1) = (i - 1) + n by omega, Nat.add_mod_right, Nat.mod_eq_of_lt (by omega : i - 1 < n)]
    by_cases h2 : i + 1 < n
    · rw [Nat.mod_eq_of_lt h2]; omega
    · rw [show i + 1 = n by omega, Nat.mod_self]; omega

/-- **If a line is between two polygons, one along an edge is.** -/
theorem edge_between {n m : Nat} {P Q : Nat → Pt} (hP : Poly n P) (hQ : Poly m Q) {N : Pt} (hN : N ≠ (0, 0)) (h : ∀ i j, i < n → j < m → dt N (P i) ≤ dt N (Q j)) :
    (∃ i, i < n ∧ ∀ j, j < m → cr (sb (P ((i + 1) % n)) (P i)) (sb (Q j) (P i)) ≤ 0) ∨ (∃ j, j < m ∧ ∀ i, i < n → cr (sb (Q ((j + 1) % m)) (Q j)) (sb (P i) (Q j)) ≤ 0) := by
  have n3 := hP.n3
  have m3 := hQ.n3
  obtain ⟨i, hi, hmax⟩ := exists_max n (fun i => dt N (P i)) (by omega)
  obtain ⟨j, hj, hmin⟩ := exists_max m (fun j => - dt N (Q j)) (by omega)
  have hmin : ∀ k, k < m → dt N (Q j) ≤ dt N (Q k) := fun k hk => by have := hmin k hk; omega
  have hij := h i j hi hj
  have hip := pre_lt (n := n) (i := i) (by omega)
  have hjp := pre_lt (n := m) (i := j) (by omega)
  have his : (i + 1) % n < n := Nat.mod_lt _ (by omega)
  have hjs : (j + 1) % m < m := Nat.mod_lt _ (by omega)
  obtain ⟨i1, i2, i3⟩ := pre_ne n3 hi
  obtain ⟨j1, j2, j3⟩ := pre_ne m3 hj
  have eip := pre_succ hi
  have ejp := pre_succ hj
  -- the edges that meet at the two corners
  obtain ⟨E1, hE1⟩ : ∃ E, E = sb (P i) (P (pre n i)) := ⟨_, rfl⟩
  obtain ⟨E2, hE2⟩ : ∃ E, E = sb (P ((i + 1) % n)) (P i) := ⟨_, rfl⟩
  obtain ⟨F1, hF1⟩ : ∃ E, E = sb (Q j) (Q (pre m j)) := ⟨_, rfl⟩
  obtain ⟨F2, hF2⟩ : ∃ E, E = sb (Q ((j + 1) % m)) (Q j) := ⟨_, rfl⟩
  obtain ⟨W, hW⟩ : ∃ E, E = sb (Q j) (P i) := ⟨_, rfl⟩
  obtain ⟨D, hD⟩ : ∃ E : Pt, E = (- N.2, N.1) := ⟨_, rfl⟩
  have hD0 : D ≠ (0, 0) := by
    intro hz
    rw [hD] at hz
    have a := congrArg Prod.fst hz
    have b := congrArg Prod.snd hz
    simp only at a b
    exact hN (Prod.ext b (by simp only; omega))
  have dc : ∀ a b : Pt, cr D (sb a b) = dt N b - dt N a := fun a b => by rw [hD]; simp only [cr, sb, dt]; grind
  have e1 : 0 ≤ cr E1 D := by rw [cr_neg, hE1, dc]; have := hmax _ hip; omega
  have e2 : 0 ≤ cr D E2 := by rw [hE2, dc]; have := hmax _ his; omega
  have f1 : 0 ≤ cr D F1 := by rw [hF1, dc]; have := hmin _ hjp; omega
  have f2 : 0 ≤ cr F2 D := by rw [cr_neg, hF2, dc]; have := hmin _ hjs; omega
  have hw : cr D W ≤ 0 := by rw [hW, dc]; omega
  have he : 0 < cr E1 E2 := by
    have := hP.cv (pre n i) ((i + 1) % n) hip his i3 (by rw [eip]; exact i2)
    rw [eip] at this
    have e : cr E1 E2 = cr (sb (P i) (P (pre n i))) (sb (P ((i + 1) % n)) (P (pre n i))) := by rw [hE1, hE2]; simp only [cr, sb]; grind
    rw [e]; exact this
  have hf : 0 < cr F1 F2 := by
    have := hQ.cv (pre m j) ((j + 1) % m) hjp hjs j3 (by rw [ejp]; exact j2)
    rw [ejp] at this
    have e : cr F1 F2 = cr (sb (Q j) (Q (pre m j))) (sb (Q ((j + 1) % m)) (Q (pre m j))) := by rw [hF1, hF2]; simp only [cr, sb]; grind
    rw [e]; exact this
  -- what the corners see
  have pv1 : ∀ k, k < n → 0 ≤ cr E1 (sb (P k) (P i)) := fun k hk => by
    have := hP.left hip hk
    rw [eip, ← hE1] at this
    have e : cr E1 (sb (P k) (P i)) = cr E1 (sb (P k) (P (pre n i))) := by rw [hE1]; simp only [cr, sb]; grind
    rw [e]; exact this
  have pv2 : ∀ k, k < n → 0 ≤ cr E2 (sb (P k) (P i)) := fun k hk => by rw [hE2]; exact hP.left hi hk
  have qv1 : ∀ k, k < m → 0 ≤ cr F1 (sb (Q k) (Q j)) := fun k hk => by
    have := hQ.left hjp hk
    rw [ejp, ← hF1] at this
    have e : cr F1 (sb (Q k) (Q j)) = cr F1 (sb (Q k) (Q (pre m j))) := by rw [hF1]; simp only [cr, sb]; grind
    rw [e]; exact this
  have qv2 : ∀ k, k < m → 0 ≤ cr F2 (sb (Q k) (Q j)) := fun k hk => by rw [hF2]; exact hQ.left hj hk
  -- the four ways out
  have outE1 : (∀ k, k < m → cr E1 (sb (Q k) (P i)) ≤ 0) → ∃ i, i < n ∧ ∀ j, j < m → cr (sb (P ((i + 1) % n)) (P i)) (sb (Q j) (P i)) ≤ 0 := fun hh => by
    refine ⟨pre n i, hip, fun k hk => ?_⟩
    rw [eip, ← hE1]
    have e : cr E1 (sb (Q k) (P (pre n i))) = cr E1 (sb (Q k) (P i)) := by rw [hE1]; simp only [cr, sb]; grind
    rw [e]; exact hh k hk
  have outE2 : (∀ k, k < m → cr E2 (sb (Q k) (P i)) ≤ 0) → ∃ i, i < n ∧ ∀ j, j < m → cr (sb (P ((i + 1) % n)) (P i)) (sb (Q j) (P i)) ≤ 0 := fun hh => ⟨i, hi, fun k hk => by rw [← hE2]; exact hh k hk⟩
  have outF1 : (∀ k, k < n → cr F1 (sb (P k) (Q j)) ≤ 0) → ∃ j, j < m ∧ ∀ i, i < n → cr (sb (Q ((j + 1) % m)) (Q j)) (sb (P i) (Q j)) ≤ 0 := fun hh => by
    refine ⟨pre m j, hjp, fun k hk => ?_⟩
    rw [ejp, ← hF1]
    have e : cr F1 (sb (P k) (Q (pre m j))) = cr F1 (sb (P k) (Q j)) := by rw [hF1]; simp only [cr, sb]; grind
    rw [e]; exact hh k hk
  have outF2 : (∀ k, k < n → cr F2 (sb (P k) (Q j)) ≤ 0) → ∃ j, j < m ∧ ∀ i, i < n → cr (sb (Q ((j + 1) % m)) (Q j)) (sb (P i) (Q j)) ≤ 0 := fun hh => ⟨j, hj, fun k hk => by rw [← hF2]; exact hh k hk⟩
  have spQ : ∀ X k, cr X (sb (Q k) (P i)) = cr X W + cr X (sb (Q k) (Q j)) := fun X k => by rw [hW]; simp only [cr, sb]; grind
  have spP : ∀ X k, cr X (sb (P k) (Q j)) = cr X (sb (P k) (P i)) - cr X W := fun X k => by rw [hW]; simp only [cr, sb]; grind
  have sepE : ∀ k, k < m → cr D (sb (Q k) (P i)) ≤ 0 := fun k hk => by rw [dc]; have := h i k hi hk; omega
  have sepF : ∀ k, k < n → 0 ≤ cr D (sb (P k) (Q j)) := fun k hk => by rw [dc]; have := h k j hk hj; omega
  -- D is along an edge
  by_cases z1 : cr E1 D = 0
  · exact .inl (outE1 fun k hk => along he e2 z1 hD0 (sepE k hk))
  by_cases z2 : cr D E2 = 0
  · exact .inl (outE2 fun k hk => along' he e1 z2 hD0 (sepE k hk))
  have hD0' : (- D.1, - D.2) ≠ ((0, 0) : Pt) := by
    intro hz
    have a := congrArg Prod.fst hz
    have b := congrArg Prod.snd hz
    simp only at a b
    exact hD0 (Prod.ext (by simp only; omega) (by simp only; omega))
  have nl : ∀ X : Pt, cr (- D.1, - D.2) X = - cr D X := fun X => by simp only [cr]; grind
  have nr : ∀ X : Pt, cr X (- D.1, - D.2) = cr D X := fun X => by simp only [cr]; grind
  by_cases z3 : cr D F1 = 0
  · exact .inr (outF1 fun k hk => along (D := (- D.1, - D.2)) hf (by rw [nl, ← cr_neg]; exact f2) (by rw [nr]; exact z3) hD0' (by rw [nl]; have := sepF k hk; omega))
  by_cases z4 : cr F2 D = 0
  · exact .inr (outF2 fun k hk => along' (D := (- D.1, - D.2)) hf (by rw [nr]; exact f1) (by rw [nl, ← cr_neg]; exact z4) hD0' (by rw [nl]; have := sepF k hk; omega))
  -- the cones
  obtain ⟨G1, hG1⟩ : ∃ G : Pt, G = (- F1.1, - F1.2) := ⟨_, rfl⟩
  obtain ⟨G2, hG2⟩ : ∃ G : Pt, G = (- F2.1, - F2.2) := ⟨_, rfl⟩
  have g1l : ∀ X, cr G1 X = - cr F1 X := fun X => by rw [hG1]; simp only [cr]; grind
  have g2l : ∀ X, cr G2 X = - cr F2 X := fun X => by rw [hG2]; simp only [cr]; grind
  have g1r : ∀ X, cr X G1 = - cr X F1 := fun X => by rw [hG1]; simp only [cr]; grind
  have g2r : ∀ X, cr X G2 = - cr X F2 := fun X => by rw [hG2]; simp only [cr]; grind
  have hg : 0 < cr G1 G2 := by rw [g1l, g2r]; omega
  have s1 : 0 < cr E1 D := by omega
  have s2 : 0 < cr D E2 := by omega
  have s3 : 0 < cr G1 D := by rw [g1l, cr_neg D F1]; omega
  have s4 : 0 < cr D G2 := by rw [g2r, cr_neg F2 D]; omega
  have wayE : ∀ E, 0 ≤ cr G1 E → 0 ≤ cr E G2 → cr E W ≤ 0 → ∀ k, k < m → cr E (sb (Q k) (P i)) ≤ 0 := fun E a b c k hk => by
    rw [spQ]
    have := beyond (E := E) hf (by rw [cr_neg F1 E]; rw [g1l] at a; omega) (by rw [g2r] at b; omega) (qv1 k hk) (qv2 k hk)
    omega
  have wayF : ∀ F, 0 ≤ cr F E1 → cr F E2 ≤ 0 → 0 ≤ cr F W → ∀ k, k < n → cr F (sb (P k) (Q j)) ≤ 0 := fun F a b c k hk => by
    rw [spP]
    have := beyond (E := F) he a b (pv1 k hk) (pv2 k hk)
    omega
  have exE1 : 0 ≤ cr G1 E1 → cr E1 W ≤ 0 → ∃ i, i < n ∧ ∀ j, j < m → cr (sb (P ((i + 1) % n)) (P i)) (sb (Q j) (P i)) ≤ 0 := fun a c =>
    outE1 (wayE E1 a (low hg (by omega) s3 (by omega) a) c)
  have exE2 : 0 ≤ cr E2 G2 → cr E2 W ≤ 0 → ∃ i, i < n ∧ ∀ j, j < m → cr (sb (P ((i + 1) % n)) (P i)) (sb (Q j) (P i)) ≤ 0 := fun a c =>
    outE2 (wayE E2 (high hg (by omega) (by omega) s4 a) a c)
  have exF1 : 0 ≤ cr E1 G1 → cr G1 W ≤ 0 → ∃ j, j < m ∧ ∀ i, i < n → cr (sb (Q ((j + 1) % m)) (Q j)) (sb (P i) (Q j)) ≤ 0 := fun a c => by
    have b := low (E1 := G1) he (by omega) s1 (by omega) a
    refine outF1 (wayF F1 (by rw [cr_neg E1 F1]; rw [g1r] at a; omega) (by rw [g1l] at b; omega) (by rw [g1l] at c; omega))
  have exF2 : 0 ≤ cr G2 E2 → cr G2 W ≤ 0 → ∃ j, j < m ∧ ∀ i, i < n → cr (sb (Q ((j + 1) % m)) (Q j)) (sb (P i) (Q j)) ≤ 0 := fun a c => by
    have b := high (E2 := G2) he (by omega) (by omega) s2 a
    refine outF2 (wayF F2 (by rw [cr_neg E1 F2]; rw [g2r] at b; omega) (by rw [g2l] at a; omega) (by rw [g2l] at c; omega))
  by_cases c1 : 0 ≤ cr G1 E1
  · by_cases c2 : 0 ≤ cr E2 G2
    · rcases mid s1 s2 (by omega) hw with hh | hh
      · exact .inl (exE1 c1 hh)
      · exact .inl (exE2 c2 hh)
    · rcases mid s1 s4 (low hg (by omega) s3 (by omega) c1) hw with hh | hh
      · exact .inl (exE1 c1 hh)
      · exact .inr (exF2 (by rw [cr_neg E2 G2]; omega) hh)
  · have c1' : 0 ≤ cr E1 G1 := by rw [cr_neg G1 E1]; omega
    by_cases c2 : 0 ≤ cr E2 G2
    · rcases mid s3 s2 (high hg (by omega) (by omega) s4 c2) hw with hh | hh
      · exact .inr (exF1 c1' hh)
      · exact .inl (exE2 c2 hh)
    · rcases mid s3 s4 (by omega) hw with hh | hh
      · exact .inr (exF1 c1' hh)
      · exact .inr (exF2 (by rw [cr_neg E2 G2]; omega) hh)
end Go.Proofs.Ytahoindkdkhpmaa.Sat
