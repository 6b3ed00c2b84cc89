/- D1: a part of the proof. -/
import Derived.Test.YtahoindkdkhpmaaXB7
namespace Go.Proofs.Ytahoindkdkhpmaa
open Go Go.Proofs.Ytahoindkdkhpmaa.Clean
set_option linter.unusedVariables false
set_option linter.unusedSimpArgs false

/-! a panel without one of its corners -/
def sx (n i : Nat) : Nat := if i + 1 = n then 0 else i + 1
def sk (c j : Nat) : Nat := if j < c then j else j + 1
theorem sx_mod {n i : Nat} (h : i < n) : (i + 1) % n = sx n i := by
  unfold sx
  by_cases he : i + 1 = n
  · rw [if_pos he, he, Nat.mod_self]
  · rw [if_neg he, Nat.mod_eq_of_lt (by omega)]
theorem plu_side (a b c k s : Sp) : side k s 1 c 1 * side a b 1 k 1 = side k s 1 a 1 * side c b 1 k 1 + side k s 1 b 1 * side a c 1 k 1 := by
  simp only [side]; grind
theorem cyc_side (a b k : Sp) : side a b 1 k 1 = side k a 1 b 1 := by simp only [side]; grind
theorem pos_of_mul {a b : Int} (ha : 0 < a) (h : 0 < a * b) : 0 < b := by
  rcases Int.lt_or_le 0 b with hb | hb
  · exact hb
  · have := Int.mul_nonpos_of_nonneg_of_nonpos (by omega : 0 ≤ a) hb; omega
theorem conv_del {n : Nat} {P : Nat → Sp} {c : Nat} (h : ∀ i k, i < n → k < n → k ≠ i → k ≠ sx n i → 0 < side (P i) (P (sx n i)) 1 (P k) 1) (hc : c < n) (hn : 4 ≤ n) :
    ∀ i k, i < n - 1 → k < n - 1 → k ≠ i → k ≠ sx (n - 1) i → 0 < side (P (sk c i)) (P (sk c (sx (n - 1) i))) 1 (P (sk c k)) 1 := by
  intro i k hi hk h1 h2
  have inj : ∀ a b, sk c a = sk c b → a = b := fun a b h => by unfold sk at h; split at h <;> split at h <;> omega
  have ne : ∀ a, sk c a ≠ c := fun a => by unfold sk; split <;> omega
  have lt : ∀ a, a < n - 1 → sk c a < n := fun a ha => by unfold sk; split <;> omega
  have hs : sx (n - 1) i < n - 1 := by unfold sx; split <;> omega
  have e1 : sk c k ≠ sk c i := fun he => h1 (inj _ _ he)
  have e2 : sk c k ≠ sk c (sx (n - 1) i) := fun he => h2 (inj _ _ he)
  have e3 : sk c i ≠ sk c (sx (n - 1) i) := fun he => by
    have := inj _ _ he
    unfold sx at this; split at this <;> omega
  have e4 := ne k
  have l1 := lt i hi
  have l2 := lt k hk
  have l3 := lt _ hs
  have hcase : sk c (sx (n - 1) i) = sx n (sk c i) ∨ (sx n (sk c i) = c ∧ sk c (sx (n - 1) i) = sx n c) := by
    unfold sx sk
    repeat' split
    all_goals omega
  rcases hcase with he | ⟨he1, he2⟩
  · rw [he] at e2 ⊢
    exact h _ _ l1 l2 e1 e2
  obtain ⟨a, ha⟩ : ∃ a, a = sk c i := ⟨_, rfl⟩
  obtain ⟨b, hb⟩ : ∃ b, b = sk c (sx (n - 1) i) := ⟨_, rfl⟩
  obtain ⟨m, hm⟩ : ∃ m, m = sk c k := ⟨_, rfl⟩
  rw [← ha] at e1 e3 l1 he1 ⊢
  rw [← hb] at e2 e3 l3 he2 ⊢
  rw [← hm] at e1 e2 e4 l2 ⊢
  have nea : a ≠ c := ha ▸ ne i
  have neb : b ≠ c := hb ▸ ne _
  have inS : ∀ x y, x < n → y < n → sx n x = sx n y → x = y := fun x y hx hy h => by unfold sx at h; split at h <;> split at h <;> omega
  by_cases hma : sx n m = a
  · have := h m b l2 l3 (fun h => e2 h.symm) (by rw [hma]; exact fun h => e3 h.symm)
    rw [hma] at this
    rw [cyc_side]; exact this
  · have hmc : c ≠ sx n m := fun hh => e1 (inS _ _ l2 l1 (by rw [← hh, he1]))
    have hmb : b ≠ sx n m := fun hh => e4 (inS _ _ l2 hc (by rw [← hh, he2]))
    have g1 := h m a l2 l1 (fun h => e1 h.symm) (fun h => hma h.symm)
    have g2 := h m b l2 l3 (fun h => e2 h.symm) hmb
    have g3 := h m c l2 hc (fun h => e4 h.symm) hmc
    have g4 := h a m l1 l2 e1 (by rw [he1]; exact e4)
    have g5 := h c m hc l2 e4 (by rw [← he2]; exact e2)
    rw [he1] at g4
    rw [← he2] at g5
    refine pos_of_mul g3 ?_
    rw [plu_side]
    have := Int.mul_pos g1 g5
    have := Int.mul_pos g2 g4
    omega

def del (l : List Sp) (c : Nat) : List Sp := l.take c ++ l.drop (c + 1)
theorem del_length {l : List Sp} {c : Nat} (h : c < l.length) : (del l c).length = l.length - 1 := by simp [del]; omega
theorem del_get {l : List Sp} {c j : Nat} (h : c < l.length) (hj : j < l.length - 1) : (del l c).getD j (0, 0) = l.getD (sk c j) (0, 0) := by
  unfold del sk
  simp only [List.getD_eq_getElem?_getD]
  congr 1
  by_cases hjc : j < c
  · rw [if_pos hjc, List.getElem?_append_left (by simp; omega), List.getElem?_take_of_lt hjc]
  · rw [if_neg hjc, List.getElem?_append_right (by simp; omega), List.getElem?_drop]
    congr 1
    simp only [List.length_take]; omega
theorem del_mem {l : List Sp} {c : Nat} {s : Sp} (h : s ∈ del l c) : s ∈ l := by
  rcases List.mem_append.1 h with h | h
  · exact List.mem_of_mem_take h
  · exact List.mem_of_mem_drop h
theorem del_map {l : List Sp} {c : Nat} (f : Sp → Sp) : del (l.map f) c = (del l c).map f := by simp [del, List.map_take, List.map_drop]
theorem convB_del {l : List Sp} {c : Nat} (h4 : 4 ≤ l.length) (hc : c < l.length) (h : convB l = true) : convB (del l c) = true := by
  have hl := del_length hc
  refine (convB_iff (by omega)).2 fun i k hi hk h1 h2 => ?_
  have hcv := (convB_iff (by omega)).1 h
  rw [hl] at hi hk
  rw [hl, sx_mod hi] at h2 ⊢
  have hs : sx (l.length - 1) i < l.length - 1 := by unfold sx; split <;> omega
  unfold lft
  rw [decide_eq_true_iff, del_get hc hi, del_get hc hk, del_get hc hs]
  refine conv_del (P := fun i => l.getD i (0, 0)) (fun i k hi hk g1 g2 => ?_) hc h4 i k hi hk h1 h2
  have := hcv i k hi hk g1 (by rw [sx_mod hi]; exact g2)
  unfold lft at this
  rw [decide_eq_true_iff, sx_mod hi] at this
  exact this
theorem panB_del {l : List Sp} {c : Nat} (h4 : 4 ≤ l.length) (hc : c < l.length) (h : panB l = true) : panB (del l c) = true := by
  obtain ⟨h1, h2, h3, h5⟩ := panB_ok h
  have hl := del_length hc
  unfold panB
  simp only [Bool.and_eq_true]
  refine ⟨⟨win_iff.2 (by rw [hl]; omega), ?_⟩, convB_del h4 hc h5⟩
  unfold spsB
  rw [List.all_eq_true]
  exact fun s hs => spB_iff.2 (h3 s (del_mem hs))
theorem panB_short {l : List Sp} (h : l.length < 3) : panB l = false := by
  unfold panB
  have : win (l.length : Int) 3 8 = false := by
    cases hw : win (l.length : Int) 3 8 with
    | false => rfl
    | true => have := win_iff.1 hw; omega
  simp [this]

/-! a linkage with a panel that lacks a corner -/
def lessL (l : Li) (i c : Nat) : Li := (l.1.set i (del (l.1.getD i []) c), l.2)
theorem lessL_len (l : Li) (i c : Nat) : (lessL l i c).1.length = l.1.length := by simp [lessL]
theorem lessL_get {l : Li} {i c : Nat} (h : i < l.1.length) (k : Nat) : (lessL l i c).1.getD k [] = if k = i then del (l.1.getD i []) c else l.1.getD k [] := by
  unfold lessL
  by_cases hk : k = i
  · subst hk; simp [List.getD, h]
  · simp [List.getD, List.getElem?_set, hk, Ne.symm hk]
theorem lessL_lin {l : Li} {i c : Nat} (hi : i < l.1.length) (hc : c < (l.1.getD i []).length) (hl : linB l = true) : linB (lessL l i c) = decide (4 ≤ (l.1.getD i []).length) := by
  obtain ⟨h1, h2, h3, h4, h5⟩ := linB_ok hl
  have hm : l.1.getD i [] ∈ l.1 := List.mem_of_getElem? (pan_getD hi)
  by_cases h : 4 ≤ (l.1.getD i []).length
  · rw [decide_eq_true h]
    unfold linB
    simp only [Bool.and_eq_true, decide_eq_true_iff, List.all_eq_true]
    refine ⟨⟨⟨win_iff.2 ?_, ?_⟩, ?_⟩, ?_⟩
    · rw [lessL_len]; omega
    · rw [lessL_len]; show (l.2.length : Int) = _; omega
    · intro p hp
      obtain ⟨k, hk, rfl⟩ := List.getElem_of_mem hp
      have hk' : k < l.1.length := by rw [lessL_len] at hk; exact hk
      have := lessL_get (c := c) hi k
      rw [show (lessL l i c).1.getD k [] = (lessL l i c).1[k] by simp [List.getD, List.getElem?_eq_getElem hk]] at this
      rw [this]
      by_cases hki : k = i
      · rw [if_pos hki]; exact panB_del h hc (h4 _ hm)
      · rw [if_neg hki]; exact h4 _ (List.mem_of_getElem? (pan_getD hk'))
    · exact List.all_eq_true.1 h5
  · rw [decide_eq_false h]
    have hs := panB_short (l := del (l.1.getD i []) c) (by rw [del_length hc]; omega)
    cases hb : linB (lessL l i c) with
    | false => rfl
    | true =>
      obtain ⟨_, _, _, g4, _⟩ := linB_ok hb
      have hmm : del (l.1.getD i []) c ∈ (lessL l i c).1 := by
        have := lessL_get (c := c) hi i
        rw [if_pos rfl] at this
        rw [← this]
        exact List.mem_of_getElem? (pan_getD (by rw [lessL_len]; exact hi))
      rw [g4 _ hmm] at hs; cases hs
theorem panI_less {l : Li} {i : Nat} {c : Nat} {k : Int} (hi : i < l.1.length) (hk : k.toNat ≠ i) : panI (lessL l i c) k = panI l k := by
  unfold panI
  rw [lessL_get hi, if_neg hk]; rfl
theorem panI_lessI {l : Li} {i : Nat} {c : Nat} (hi : i < l.1.length) : panI (lessL l i c) (i : Int) = (del (panI l (i : Int)).1 c, (panI l (i : Int)).2) := by
  unfold panI panAt
  rw [Int.toNat_natCast, lessL_get hi, if_pos rfl, del_map]; rfl
/-- What is clear stays clear without a corner. -/
theorem clear_less {p q : Pd} {c : Nat} (hp : PdOK p) (hq : PdOK q) (hp' : PdOK (del p.1 c, p.2)) (h : (apartP p q).1 = true) : (apartP (del p.1 c, p.2) q).1 = true := by
  rcases apart_clear.1 h with ⟨i, hi, hf⟩ | ⟨i, hi, hf⟩
  · have hl := line_ok hp hq hi hf
    exact apart_clear.2 (free_of_line hp' hq hl.E1 hl.nz (fun s hs => hl.le s (del_mem hs)) hl.ge)
  · have hl := line_neg (line_ok hq hp hi hf)
    exact apart_clear.2 (free_of_line hp' hq hl.E1 hl.nz (fun s hs => hl.le s (del_mem hs)) hl.ge)
/-- What Clash says. -/
def clE (l : Li) (i k : Int) : Int := if twoC l i k = 0 then (bif (apartP (panI l i) (panI l k)).1 then 0 else 51) else twoC l i k
theorem clE_cases (l : Li) (i k : Int) : clE l i k = 0 ∨ clE l i k = 51 ∨ clE l i k = 50 ∨ clE l i k = 2 := by
  unfold clE twoC
  by_cases h1 : linB l = true
  · rw [if_pos h1]
    by_cases h2 : (win i 0 (l.1.length - 1) && win k 0 (l.1.length - 1) && !(i == k)) = true
    · rw [if_pos h2, if_pos rfl]
      cases (apartP (panI l i) (panI l k)).1 <;> simp
    · rw [if_neg h2]; simp
  · rw [if_neg h1]; simp
theorem clE_zero {l : Li} {i k : Int} (h : clE l i k = 0) : twoC l i k = 0 ∧ (apartP (panI l i) (panI l k)).1 = true := by
  unfold clE at h
  by_cases h1 : twoC l i k = 0
  · rw [if_pos h1] at h
    refine ⟨h1, ?_⟩
    cases hc : (apartP (panI l i) (panI l k)).1 with
    | true => rfl
    | false => rw [hc] at h; simp at h
  · rw [if_neg h1] at h; exact (h1 h).elim
theorem cl_less {l : Li} {m c : Nat} {k : Int} (hm : m < l.1.length) (hc : c < (l.1.getD m []).length) :
    (clE l m k = 0 → 4 ≤ (l.1.getD m []).length → clE (lessL l m c) m k = 0) ∧ (clE l m k = 0 → (l.1.getD m []).length < 4 → clE (lessL l m c) m k = 50) ∧
      (clE (lessL l m c) m k = 51 → clE l m k = 51 ∨ clE l m k = 50) := by
  have a1 : clE l m k = 0 → 4 ≤ (l.1.getD m []).length → clE (lessL l m c) m k = 0 := fun h h4 => by
    obtain ⟨h1, h2⟩ := clE_zero h
    obtain ⟨g1, g2, g3, g4, g5, g6⟩ := twoC_ok h1
    have hl := lessL_lin (c := c) hm hc g1
    rw [decide_eq_true h4] at hl
    have ht : twoC (lessL l m c) m k = 0 := by
      unfold twoC at h1 ⊢
      rw [if_pos hl, lessL_len]
      rw [if_pos g1] at h1
      exact h1
    have hkm : k.toNat ≠ m := by omega
    have p1 := panI_ok (l := l) g1 g2 g3
    have p2 := panI_ok (l := l) g1 g4 g5
    have p3 := panI_ok (l := lessL l m c) (i := m) hl g2 (by rw [lessL_len]; exact g3)
    unfold clE
    rw [if_pos ht, panI_less hm hkm, panI_lessI hm]
    rw [panI_lessI hm] at p3
    rw [clear_less p1 p2 p3 h2]; rfl
  have a2 : clE l m k = 0 → (l.1.getD m []).length < 4 → clE (lessL l m c) m k = 50 := fun h h4 => by
    obtain ⟨h1, h2⟩ := clE_zero h
    obtain ⟨g1, _⟩ := twoC_ok h1
    have hl := lessL_lin (c := c) hm hc g1
    rw [decide_eq_false (by omega)] at hl
    unfold clE twoC
    rw [hl]; simp
  refine ⟨a1, a2, fun h => ?_⟩
  rcases clE_cases l m k with h1 | h1 | h1 | h1
  · by_cases h4 : 4 ≤ (l.1.getD m []).length
    · rw [a1 h1 h4] at h; simp at h
    · rw [a2 h1 (by omega)] at h; simp at h
  · exact .inl h1
  · exact .inr h1
  · -- no two panels
    have hl : linB l = true := by
      cases hb : linB l with
      | true => rfl
      | false => unfold clE twoC at h1; rw [hb] at h1; simp at h1
    have hw : ¬ (win (m : Int) 0 (l.1.length - 1) && win k 0 (l.1.length - 1) && !((m : Int) == k)) = true := fun hw => by
      unfold clE twoC at h1
      rw [if_pos hl, if_pos hw, if_pos rfl] at h1
      cases hx : (apartP (panI l m) (panI l k)).1 <;> rw [hx] at h1 <;> simp at h1
    exfalso
    unfold clE twoC at h
    rw [lessL_len, if_neg hw] at h
    cases hb : linB (lessL l m c) <;> rw [hb] at h <;> simp at h
end Go.Proofs.Ytahoindkdkhpmaa
