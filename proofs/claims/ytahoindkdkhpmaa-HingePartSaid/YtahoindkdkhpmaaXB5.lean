/- B5: a part of the proof. -/
import Derived.Test.YtahoindkdkhpmaaXB4
import Derived.Test.YtahoindkdkhpmaaXSAT
namespace Go.Proofs.Ytahoindkdkhpmaa
open Go Go.Proofs.Ytahoindkdkhpmaa.Clean
set_option linter.unusedVariables false
set_option linter.unusedSimpArgs false
set_option maxRecDepth 20000

/-! what proofs prove -/
theorem insP_get {p q : Pd} {i : Nat} (h : i < p.1.length) : (insP p q)[i]? = some (ixI (lf p q (rot p.1 i)) q.1) := by
  simp [insP, rots, h]
theorem ixI_neg {α : Type} {f : α → Bool} {l : List α} : ixI f l = -1 ↔ ∀ x ∈ l, f x = false := by
  constructor
  · intro h
    rcases ixI_cases f l with ⟨_, h2⟩ | ⟨i, hi, h1, _⟩
    · exact h2
    · omega
  · exact ixI_none
/-- An edge of p has nothing of q to its left. -/
def Free (p q : Pd) : Prop := ∃ i, i < p.1.length ∧ ∀ c ∈ q.1, lf p q (rot p.1 i) c = false
theorem fstI_free {p q : Pd} : 0 ≤ fstI p q ↔ Free p q := by
  constructor
  · intro h
    rcases ixI_cases (fun x => (-1 : Int) == x) (insP p q) with ⟨h1, _⟩ | ⟨i, hi, h1, h2⟩
    · unfold fstI at h; omega
    · have hi' : i < p.1.length := by rw [insP_length] at hi; exact hi
      refine ⟨i, hi', ixI_neg.1 ?_⟩
      have := insP_get (q := q) hi'
      rw [List.getElem?_eq_getElem hi] at this
      have := Option.some.inj this
      rw [← this]
      simp at h2; exact h2.symm
  · rintro ⟨i, hi, hc⟩
    refine Classical.byContradiction fun hn => ?_
    rcases ixI_cases (fun x => (-1 : Int) == x) (insP p q) with ⟨_, h2⟩ | ⟨j, hj, h1, _⟩
    · have := h2 _ (List.mem_of_getElem? (insP_get (q := q) hi))
      rw [ixI_neg.2 hc] at this
      simp at this
    · unfold fstI at hn; omega
theorem apart_clear {p q : Pd} : (apartP p q).1 = true ↔ Free p q ∨ Free q p := by
  rw [← fstI_free, ← fstI_free]
  unfold apartP
  by_cases h : 0 ≤ fstI p q
  · rw [if_pos h]; simp [lineP, h]
  · rw [if_neg h]
    by_cases h2 : 0 ≤ fstI q p
    · rw [if_pos h2]; simp [negP, lineP, h2]
    · rw [if_neg h2]; simp [h, h2]
theorem apart_symm (p q : Pd) : (apartP q p).1 = (apartP p q).1 := by
  rw [Bool.eq_iff_iff, apart_clear, apart_clear, Or.comm]
theorem lf_false {p q : Pd} {i : Nat} {c : Sp} (h3 : 3 ≤ p.1.length) (hi : i < p.1.length) : lf p q (rot p.1 i) c = false ↔ side (p.1.getD i (0, 0)) (p.1.getD ((i + 1) % p.1.length) (0, 0)) p.2 c q.2 ≤ 0 := by
  unfold lf
  rw [getD_rot0 hi, getD_rot1 h3 hi]
  unfold lft
  rw [decide_eq_false_iff_not]; omega
theorem edge_all {p : Pd} (hp : PdOK p) {i : Nat} (hi : i < p.1.length) {c : Sp} (hc : c ∈ p.1) : 0 ≤ side (p.1.getD i (0, 0)) (p.1.getD ((i + 1) % p.1.length) (0, 0)) 1 c 1 := by
  obtain ⟨k, hk, rfl⟩ := List.getElem_of_mem hc
  have hg : p.1[k] = p.1.getD k (0, 0) := by simp [List.getD, List.getElem?_eq_getElem hk]
  rw [hg]
  by_cases h1 : k = i
  · subst h1; simp only [side]; grind
  by_cases h2 : k = (i + 1) % p.1.length
  · subst h2; simp only [side]; grind
  have := (convB_iff hp.len3).1 hp.cv i k hi hk h1 h2
  unfold lft at this
  rw [decide_eq_true_iff] at this; omega
/-- What a line along an edge is. -/
structure LineOK (a : Ap) (p q : Pd) : Prop where
  ins : a.2.2.2.2.2 = []
  clear : a.1 = true
  nz : ¬ (a.2.1 = 0 ∧ a.2.2.1 = 0)
  A : Bd 3125000 a.2.1
  B : Bd 3125000 a.2.2.1
  C : Bd 68359375000000 a.2.2.2.1
  E1 : 1 ≤ a.2.2.2.2.1
  E2 : a.2.2.2.2.1 ≤ 15625
  le : ∀ c ∈ p.1, a.2.2.2.2.1 * (a.2.1 * c.1 + a.2.2.1 * c.2) ≤ a.2.2.2.1 * p.2
  ge : ∀ c ∈ q.1, a.2.2.2.1 * q.2 ≤ a.2.2.2.2.1 * (a.2.1 * c.1 + a.2.2.1 * c.2)
theorem line_ok {p q : Pd} (hp : PdOK p) (hq : PdOK q) {i : Nat} (hi : i < p.1.length) (hf : ∀ c ∈ q.1, lf p q (rot p.1 i) c = false) : LineOK (lineP (rot p.1 i) p.2) p q := by
  obtain ⟨e, he⟩ : ∃ e, e = rot p.1 i := ⟨_, rfl⟩
  have heo := rot_ok hp hi
  have hg0 := edge_ne hp hi
  rw [← he] at heo hg0 ⊢
  have h3 := hp.len3
  have e0 : e.getD 0 (0, 0) = p.1.getD i (0, 0) := by rw [he, getD_rot0 hi]
  have e1 : e.getD 1 (0, 0) = p.1.getD ((i + 1) % p.1.length) (0, 0) := by rw [he, getD_rot1 h3 hi]
  obtain ⟨b1, b2, b3⟩ := ln_bd heo
  have hd := hp.d1
  have hd2 := hp.d2
  -- the divisions leave nothing
  have hgd := gcd_dvd_all [edA e, edB e] 0
  have hg1 : ((edG e : Nat) : Int) ≠ 0 := by omega
  obtain ⟨A, hA, hA'⟩ := tdiv_eq (hgd.2 (edA e) (by simp)) hg1
  obtain ⟨B, hB, hB'⟩ := tdiv_eq (hgd.2 (edB e) (by simp)) hg1
  have hlA : lnA e = A := hA'
  have hlB : lnB e = B := hB'
  have hGd := gcd_dvd_all [lnC e, p.2] 0
  have hG0 : lnG e p.2 ≠ 0 := fun h0 => by
    have := (gcdl2_zero (a := lnC e) (b := p.2) h0).2
    omega
  have hG1 : ((lnG e p.2 : Nat) : Int) ≠ 0 := by omega
  obtain ⟨C, hC, hC'⟩ := tdiv_eq (hGd.2 (lnC e) (by simp)) hG1
  obtain ⟨E, hE, hE'⟩ := tdiv_eq (hGd.2 p.2 (by simp)) hG1
  obtain ⟨g, hg⟩ : ∃ g : Int, g = ((edG e : Nat) : Int) := ⟨_, rfl⟩
  obtain ⟨G, hG⟩ : ∃ G : Int, G = ((lnG e p.2 : Nat) : Int) := ⟨_, rfl⟩
  have hA : edA e = g * A := by rw [hg]; exact hA
  have hB : edB e = g * B := by rw [hg]; exact hB
  have hC : lnC e = G * C := by rw [hG]; exact hC
  have hE : p.2 = G * E := by rw [hG]; exact hE
  have hgp : 0 < g := by omega
  have hGp : 0 < G := by omega
  have hEp : 0 < E := by
    refine Classical.byContradiction fun hn => ?_
    have := Int.mul_nonneg (Int.le_of_lt hGp) (by omega : 0 ≤ - E)
    rw [Int.mul_neg] at this
    omega
  have hlC : A * (p.1.getD i (0, 0)).1 + B * (p.1.getD i (0, 0)).2 = G * C := by
    rw [← hC]; unfold lnC; rw [hlA, hlB, e0]
  have vA : edA e = (p.1.getD ((i + 1) % p.1.length) (0, 0)).2 - (p.1.getD i (0, 0)).2 := by unfold edA; rw [e0, e1]
  have vB : edB e = (p.1.getD i (0, 0)).1 - (p.1.getD ((i + 1) % p.1.length) (0, 0)).1 := by unfold edB; rw [e0, e1]
  obtain ⟨a, ha⟩ : ∃ a, a = p.1.getD i (0, 0) := ⟨_, rfl⟩
  obtain ⟨b, hb⟩ : ∃ b, b = p.1.getD ((i + 1) % p.1.length) (0, 0) := ⟨_, rfl⟩
  rw [← ha] at hlC vA vB
  rw [← hb] at vA vB
  have hL : lineP e p.2 = (true, A, B, C, E, []) := by
    unfold lineP
    rw [hlA, hlB]
    simp only [Prod.mk.injEq, true_and, and_true]
    exact ⟨hC', hE'⟩
  rw [hL]
  rw [hlA] at b1
  rw [hlB] at b2
  have hCb : Bd 68359375000000 C := by rw [← hC']; exact b3.tdiv _
  refine ⟨rfl, rfl, ?_, b1, b2, hCb, by simp only; omega, ?_, fun c hc => ?_, fun c hc => ?_⟩
  · rintro ⟨z1, z2⟩
    simp only at z1 z2
    rw [z1, Int.mul_zero] at hA
    rw [z2, Int.mul_zero] at hB
    apply hg0
    unfold edG
    rw [hA, hB]; rfl
  · simp only
    have : E ≤ G * E := by
      have := Int.mul_le_mul_of_nonneg_right (by omega : (1 : Int) ≤ G) (Int.le_of_lt hEp)
      omega
    omega
  · simp only
    have hs := edge_all hp hi hc
    rw [← ha, ← hb] at hs
    have : 0 ≤ g * (G * C - (A * c.1 + B * c.2)) := by
      have e : g * (G * C - (A * c.1 + B * c.2)) = side a b 1 c 1 := by
        rw [← hlC]
        have x1 : b.2 = a.2 + g * A := by omega
        have x2 : b.1 = a.1 - g * B := by omega
        simp only [side]; rw [x1, x2]; grind
      rw [e]; exact hs
    have h1 := Sat.nonneg_of_mul hgp this
    have := Int.mul_le_mul_of_nonneg_left (by omega : A * c.1 + B * c.2 ≤ G * C) (Int.le_of_lt hEp)
    rw [hE]
    have e : C * (G * E) = E * (G * C) := by grind
    omega
  · simp only
    have hs := (lf_false h3 hi).1 (hf c hc)
    rw [← ha, ← hb] at hs
    have : 0 ≤ g * (p.2 * (A * c.1 + B * c.2) - G * C * q.2) := by
      have e : g * (p.2 * (A * c.1 + B * c.2) - G * C * q.2) = - side a b p.2 c q.2 := by
        rw [← hlC]
        have x1 : b.2 = a.2 + g * A := by omega
        have x2 : b.1 = a.1 - g * B := by omega
        simp only [side]; rw [x1, x2]; grind
      rw [e]; omega
    have h1 := Sat.nonneg_of_mul hgp this
    rw [hE] at h1
    have : 0 ≤ G * (E * (A * c.1 + B * c.2) - C * q.2) := by
      have e : G * (E * (A * c.1 + B * c.2) - C * q.2) = G * E * (A * c.1 + B * c.2) - G * C * q.2 := by grind
      rw [e]; exact h1
    have := Sat.nonneg_of_mul hGp this
    omega
theorem btw_of_line {a : Ap} {p q : Pd} (h : LineOK a p q) : btwB a p q = true := by
  unfold btwB
  simp only [Bool.and_eq_true, List.all_eq_true, decide_eq_true_iff]
  have := h.A
  have := h.B
  have := h.C
  unfold Bd at *
  refine ⟨⟨⟨⟨⟨⟨⟨by rw [h.ins]; rfl, ?_⟩, win_iff.2 (by omega)⟩, win_iff.2 (by omega)⟩, win_iff.2 (by omega)⟩, win_iff.2 ⟨h.E1, by have := h.E2; omega⟩⟩, h.le⟩, h.ge⟩
  have := h.nz
  simp only [Bool.not_eq_true', Bool.and_eq_false_iff, beq_eq_false_iff_ne]
  omega
theorem line_neg {a : Ap} {p q : Pd} (h : LineOK a q p) : LineOK (negP a) p q := by
  have hA := h.A
  have hB := h.B
  have hC := h.C
  have nz := h.nz
  refine ⟨h.ins, h.clear, ?_, hA.neg, hB.neg, hC.neg, h.E1, h.E2, fun c hc => ?_, fun c hc => ?_⟩
  · rintro ⟨z1, z2⟩
    simp only [negP] at z1 z2
    omega
  · have := h.ge c hc
    simp only [negP]
    have e : a.2.2.2.2.1 * (-a.2.1 * c.1 + -a.2.2.1 * c.2) = - (a.2.2.2.2.1 * (a.2.1 * c.1 + a.2.2.1 * c.2)) := by grind
    have e2 : -a.2.2.2.1 * p.2 = - (a.2.2.2.1 * p.2) := Int.neg_mul _ _
    omega
  · have := h.le c hc
    simp only [negP]
    have e : a.2.2.2.2.1 * (-a.2.1 * c.1 + -a.2.2.1 * c.2) = - (a.2.2.2.2.1 * (a.2.1 * c.1 + a.2.2.1 * c.2)) := by grind
    have e2 : -a.2.2.2.1 * q.2 = - (a.2.2.2.1 * q.2) := Int.neg_mul _ _
    omega
theorem arl_of {p q : Pd} (hp : PdOK p) (hq : PdOK q) (h : fstI p q < 0) : arlB (insP p q) p q = true := by
  unfold arlB
  rw [List.all_eq_true]
  intro i hi
  have hi : i < p.1.length := List.mem_range.1 hi
  have hg := insP_get (q := q) hi
  have hd : (insP p q).getD i 0 = ixI (lf p q (rot p.1 i)) q.1 := by rw [List.getD_eq_getElem?_getD, hg]; rfl
  rw [hd]
  rcases ixI_cases (lf p q (rot p.1 i)) q.1 with ⟨h1, h2⟩ | ⟨j, hj, h1, h2⟩
  · exact absurd (fstI_free.2 ⟨i, hi, h2⟩) (by omega)
  · rw [h1, Bool.and_eq_true]
    refine ⟨win_iff.2 ⟨by omega, by omega⟩, ?_⟩
    rw [Int.toNat_natCast, show q.1.getD j (0, 0) = q.1[j] by simp [List.getD, List.getElem?_eq_getElem hj]]
    exact h2
theorem arl_not_free {l : List Int} {p q : Pd} (h : arlB l p q = true) : ¬ Free p q := by
  rintro ⟨i, hi, hf⟩
  unfold arlB at h
  rw [List.all_eq_true] at h
  have := h i (List.mem_range.2 hi)
  rw [Bool.and_eq_true] at this
  obtain ⟨w, hl⟩ := this
  have w := win_iff.1 w
  have hm : (l.getD i 0).toNat < q.1.length := by omega
  rw [hf _ (getD_mem hm)] at hl
  cases hl
/-- **The program's proof is right.** -/
theorem apart_right {p q : Pd} (hp : PdOK p) (hq : PdOK q) : rightB (apartP p q) p q = true := by
  unfold rightB apartP
  by_cases h : 0 ≤ fstI p q
  · rw [if_pos h]
    obtain ⟨i, hi, hf⟩ := fstI_free.1 h
    rcases ixI_cases (fun x => (-1 : Int) == x) (insP p q) with ⟨h1, _⟩ | ⟨i, hi, h1, h2⟩
    · unfold fstI at h; omega
    · have hi' : i < p.1.length := by rw [insP_length] at hi; exact hi
      have hx : fstI p q = (i : Int) := h1
      rw [hx, Int.toNat_natCast]
      have hg := insP_get (q := q) hi'
      rw [List.getElem?_eq_getElem hi] at hg
      have hg := Option.some.inj hg
      have := btw_of_line (line_ok hp hq hi' (ixI_neg.1 (by rw [← hg]; simp at h2; exact h2.symm)))
      simpa [lineP] using this
  · rw [if_neg h]
    by_cases h' : 0 ≤ fstI q p
    · rw [if_pos h']
      rcases ixI_cases (fun x => (-1 : Int) == x) (insP q p) with ⟨h1, _⟩ | ⟨i, hi, h1, h2⟩
      · unfold fstI at h'; omega
      · have hi' : i < q.1.length := by rw [insP_length] at hi; exact hi
        have hx : fstI q p = (i : Int) := h1
        rw [hx, Int.toNat_natCast]
        have hg := insP_get (q := p) hi'
        rw [List.getElem?_eq_getElem hi] at hg
        have hg := Option.some.inj hg
        have := btw_of_line (line_neg (line_ok hq hp hi' (ixI_neg.1 (by rw [← hg]; simp at h2; exact h2.symm))))
        simpa [lineP, negP] using this
    · rw [if_neg h']
      rw [if_neg (by simp)]
      unfold insB
      simp only [Bool.and_eq_true]
      have l1 : (insP p q).length = p.1.length := insP_length p q
      have l2 : (insP q p).length = q.1.length := insP_length q p
      refine ⟨⟨⟨by decide, by simp [l1, l2]⟩, ?_⟩, ?_⟩
      · rw [List.take_append_of_le_length (by omega), List.take_of_length_le (by omega)]
        exact arl_of hp hq (by omega)
      · rw [← l1, List.drop_left]
        exact arl_of hq hp (by omega)
/-- A polygon with the numbers by which its corners are divided taken out. -/
theorem poly_of {p : Pd} (hp : PdOK p) {e : Int} (he : 1 ≤ e) : Sat.Poly p.1.length (fun i => ((p.1.getD i (0, 0)).1 * e, (p.1.getD i (0, 0)).2 * e)) := by
  refine ⟨hp.len3, fun i k hi hk h1 h2 => ?_⟩
  have := (convB_iff hp.len3).1 hp.cv i k hi hk h1 h2
  unfold lft at this
  rw [decide_eq_true_iff] at this
  obtain ⟨a, ha⟩ : ∃ a, a = p.1.getD i (0, 0) := ⟨_, rfl⟩
  obtain ⟨b, hb⟩ : ∃ b, b = p.1.getD ((i + 1) % p.1.length) (0, 0) := ⟨_, rfl⟩
  obtain ⟨c, hc⟩ : ∃ c, c = p.1.getD k (0, 0) := ⟨_, rfl⟩
  rw [← ha, ← hb, ← hc] at this ⊢
  have e1 : Sat.cr (Sat.sb (b.1 * e, b.2 * e) (a.1 * e, a.2 * e)) (Sat.sb (c.1 * e, c.2 * e) (a.1 * e, a.2 * e)) = e * e * side a b 1 c 1 := by
    simp only [Sat.cr, Sat.sb, side]; grind
  rw [e1]
  exact Int.mul_pos (Int.mul_pos (by omega) (by omega)) this
theorem cr_side (a b c : Sp) (d o : Int) : Sat.cr (Sat.sb (b.1 * o, b.2 * o) (a.1 * o, a.2 * o)) (Sat.sb (c.1 * d, c.2 * d) (a.1 * o, a.2 * o)) = o * side a b d c o := by
  simp only [Sat.cr, Sat.sb, side]; grind
/-- **If a line is between two panels, one along an edge is.** -/
theorem free_of_line {p q : Pd} (hp : PdOK p) (hq : PdOK q) {A B C E : Int} (hE : 1 ≤ E) (hn : ¬ (A = 0 ∧ B = 0)) (hle : ∀ c ∈ p.1, E * (A * c.1 + B * c.2) ≤ C * p.2) (hge : ∀ c ∈ q.1, C * q.2 ≤ E * (A * c.1 + B * c.2)) : Free p q ∨ Free q p := by
  have hd := hp.d1
  have he := hq.d1
  have hmul : ∀ a b : Int, E * a ≤ E * b → a ≤ b := fun a b h => Int.le_of_mul_le_mul_left h (by omega)
  rcases Sat.edge_between (poly_of hp he) (poly_of hq hd) (N := (A, B)) (fun h => hn ⟨congrArg Prod.fst h, congrArg Prod.snd h⟩) (fun i j hi hj => by
    have h1 := hle _ (getD_mem hi)
    have h2 := hge _ (getD_mem hj)
    obtain ⟨a, ha⟩ : ∃ a, a = p.1.getD i (0, 0) := ⟨_, rfl⟩
    obtain ⟨c, hc⟩ : ∃ c, c = q.1.getD j (0, 0) := ⟨_, rfl⟩
    rw [← ha] at h1 ⊢
    rw [← hc] at h2 ⊢
    refine hmul _ _ ?_
    have h1 := Int.mul_le_mul_of_nonneg_right h1 (by omega : 0 ≤ q.2)
    have h2 := Int.mul_le_mul_of_nonneg_right h2 (by omega : 0 ≤ p.2)
    have e1 : E * Sat.dt (A, B) (a.1 * q.2, a.2 * q.2) = E * (A * a.1 + B * a.2) * q.2 := by simp only [Sat.dt]; grind
    have e2 : E * Sat.dt (A, B) (c.1 * p.2, c.2 * p.2) = E * (A * c.1 + B * c.2) * p.2 := by simp only [Sat.dt]; grind
    have e3 : C * p.2 * q.2 = C * q.2 * p.2 := by grind
    rw [e1, e2]; omega) with ⟨i, hi, h⟩ | ⟨j, hj, h⟩
  · refine .inl ⟨i, hi, fun c hc => (lf_false hp.len3 hi).2 ?_⟩
    obtain ⟨k, hk, rfl⟩ := List.getElem_of_mem hc
    have := h k hk
    rw [cr_side, show q.1.getD k (0, 0) = q.1[k] by simp [List.getD, List.getElem?_eq_getElem hk]] at this
    exact Sat.nonpos_of_mul (by omega) this
  · refine .inr ⟨j, hj, fun c hc => (lf_false hq.len3 hj).2 ?_⟩
    obtain ⟨k, hk, rfl⟩ := List.getElem_of_mem hc
    have := h k hk
    rw [cr_side, show p.1.getD k (0, 0) = p.1[k] by simp [List.getD, List.getElem?_eq_getElem hk]] at this
    exact Sat.nonpos_of_mul (by omega) this
/-- **What is proved, is so.** -/
theorem right_says {a : Ap} {p q : Pd} (hp : PdOK p) (hq : PdOK q) (h : rightB a p q = true) : a.1 = (apartP p q).1 := by
  unfold rightB at h
  by_cases hc : a.1 = true
  · rw [if_pos hc] at h
    rw [hc]
    unfold btwB at h
    simp only [Bool.and_eq_true, List.all_eq_true, decide_eq_true_iff] at h
    obtain ⟨⟨⟨⟨⟨⟨⟨h1, h2⟩, h3⟩, h4⟩, h5⟩, h6⟩, h7⟩, h8⟩ := h
    refine (apart_clear.2 (free_of_line hp hq (win_iff.1 h6).1 (fun hz => ?_) h7 h8)).symm
    simp [hz] at h2
  · rw [if_neg hc] at h
    unfold insB at h
    simp only [Bool.and_eq_true] at h
    have hn : a.1 = false := by simpa using hc
    rw [hn]
    symm
    rw [Bool.eq_false_iff]
    intro hq'
    rcases apart_clear.1 hq' with hf | hf
    · exact arl_not_free h.1.2 hf
    · exact arl_not_free h.2 hf
end Go.Proofs.Ytahoindkdkhpmaa
