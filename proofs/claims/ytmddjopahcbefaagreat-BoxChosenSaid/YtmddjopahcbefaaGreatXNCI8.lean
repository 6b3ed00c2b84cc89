/- The law. -/
import Derived.Test.YtmddjopahcbefaaGreatXNCH8
import Derived.Test.YtmddjopahcbefaaGreatXNEXZ
namespace Go.Proofs.YtmddjopahcbefaaGreat
open Go Go.Proofs.YtmddjopahcbefaaGreat.Clean
set_option linter.unusedVariables false
set_option linter.unusedSimpArgs false
set_option maxRecDepth 10000

theorem use {f : FuncId} {a : List V} {r : V} {R : V → Prop} (h : K0G Tryz.prog glX f a fun v => v = r) (hr : R r) : K0G Tryz.prog glX f a R := h.mono' fun v e => by cases e; exact hr
/-- Who is in a list. -/
def whoF (n : Nat) (T : List Nat) : List Nat := (List.range n).map fun i => if i ∈ T then 1 else 0
theorem whoF_len (n : Nat) (T : List Nat) : (whoF n T).length = n := by simp [whoF]
theorem whoF_get {n i : Nat} (T : List Nat) (h : i < n) : (whoF n T)[i]? = some (if i ∈ T then 1 else 0) := by simp [whoF, h]
theorem whoF_set {n m : Nat} {T T' : List Nat} (hT : ∀ i, i ∈ T' ↔ i ∈ T ∨ i = m) : (whoF n T).set m 1 = whoF n T' := by
  apply List.ext_getElem?
  intro i
  rw [List.getElem?_set]
  by_cases hi : i < n
  · rw [whoF_get T' hi, whoF_get T hi]
    by_cases e : m = i
    · subst e
      simp [hT, whoF_len, hi]
    · rw [if_neg e]
      simp [hT, show ¬ i = m from fun h => e h.symm]
  · have e1 : (whoF n T)[i]? = none := by rw [List.getElem?_eq_none_iff, whoF_len]; omega
    have e2 : (whoF n T')[i]? = none := by rw [List.getElem?_eq_none_iff, whoF_len]; omega
    rw [e1, e2]
    by_cases e : m = i
    · subst e; simp [whoF_len, hi]
    · rw [if_neg e]
theorem ul_set (l : List Nat) (m : Nat) {row : List V} (hr : row.drop 1 = []) : (ul l).set (0 + m) (V.raw (Value.int IntKind.u8 (1 : Int)) :: (List.append ([] : List V)) (List.drop 1 row)) = ul (l.set m 1) := by
  rw [Nat.zero_add, hr]
  simp [ul, List.map_set, sv, u8v]
theorem bl8_mem {s i : Nat} : i ∈ bl8 s ↔ i < 8 ∧ s.testBit i = true := by simp [bl8, List.mem_filter]
theorem bl8_sorted (s : Nat) : (bl8 s).Pairwise (· < ·) := List.Pairwise.filter _ (List.pairwise_lt_range)
def sumV (v : List Int) (q : List Nat) : Int := (q.map fun i => v.getD i 0).sum
theorem sumV_ok {v : List Int} (hv : ∀ x ∈ v, 0 ≤ x ∧ x ≤ 1000) : ∀ q : List Nat, 0 ≤ sumV v q ∧ sumV v q ≤ (q.length : Int) * 1000
  | [] => by simp [sumV]
  | i :: q => by
    have ih := sumV_ok hv q
    have : 0 ≤ v.getD i 0 ∧ v.getD i 0 ≤ 1000 := by
      by_cases h : i < v.length
      · exact hv _ (List.mem_of_getElem? (getVa h))
      · simp [List.getD, show v.length ≤ i from by omega]
    simp only [sumV, List.map_cons, List.sum_cons, List.length_cons] at *
    omega
theorem sumV_snoc (v : List Int) (q : List Nat) (i : Nat) : sumV v (q ++ [i]) = sumV v q + v.getD i 0 := by simp [sumV]
/-- The sum over the plans is the sum over the list. -/
theorem sumF_range (p : List (List It)) (x : It) (T : List Nat) : ∀ (k : Nat), k ≤ p.length → sumF (p.drop (p.length - k)) ((whoF p.length T).drop (p.length - k)) 1 x = needF p ((List.range' (p.length - k) k).filter fun i => decide (i ∈ T)) x.1 x.2.1
  | 0, _ => by
    rw [Nat.sub_zero, List.drop_eq_nil_of_le (Nat.le_refl _)]
    simp [sumF, needF]
  | k + 1, hk => by
    have ih := sumF_range p x T k (by omega)
    have hlt : p.length - (k + 1) < p.length := by omega
    have e : p.length - (k + 1) + 1 = p.length - k := by omega
    have h1 : p.drop (p.length - (k + 1)) = p.getD (p.length - (k + 1)) [] :: p.drop (p.length - k) := by
      rw [List.drop_eq_getElem_cons hlt, e]; congr 1; simp [List.getD, hlt]
    have h2 : (whoF p.length T).drop (p.length - (k + 1)) = (if p.length - (k + 1) ∈ T then 1 else 0) :: (whoF p.length T).drop (p.length - k) := by
      rw [List.drop_eq_getElem_cons (by rw [whoF_len]; exact hlt), e]; congr 1; simp [whoF]
    rw [h1, h2, List.range'_succ, e]
    simp only [sumF]
    rw [ih]
    by_cases hT : p.length - (k + 1) ∈ T
    · rw [if_pos hT, if_pos rfl, List.filter_cons_of_pos (by simpa using hT)]
      simp [needF]
    · rw [if_neg hT, if_neg (by simp), List.filter_cons_of_neg (by simpa using hT)]
      simp [needF]
theorem sorted_ext : ∀ {a b : List Nat}, a.Pairwise (· < ·) → b.Pairwise (· < ·) → (∀ i, i ∈ a ↔ i ∈ b) → a = b
  | [], [], _, _, _ => rfl
  | [], y :: b, _, _, h => by have := (h y).2 (by simp); cases this
  | x :: a, [], _, _, h => by have := (h x).1 (by simp); cases this
  | x :: a, y :: b, ha, hb, h => by
    have a1 := List.pairwise_cons.1 ha
    have b1 := List.pairwise_cons.1 hb
    have exy : x = y := by
      have h1 := (h x).1 (by simp)
      have h2 := (h y).2 (by simp)
      rcases List.mem_cons.1 h1 with e | e
      · exact e
      · rcases List.mem_cons.1 h2 with e' | e'
        · exact e'.symm
        · have := b1.1 x e; have := a1.1 y e'; omega
    subst exy
    congr 1
    refine sorted_ext a1.2 b1.2 (fun i => ?_)
    constructor
    · intro hi
      have hlt := a1.1 i hi
      rcases List.mem_cons.1 ((h i).1 (by simp [hi])) with e | e
      · omega
      · exact e
    · intro hi
      have hlt := b1.1 i hi
      rcases List.mem_cons.1 ((h i).2 (by simp [hi])) with e | e
      · omega
      · exact e
theorem sumF_need {p : List (List It)} {T : List Nat} (x : It) (hT : ∀ i ∈ T, i < p.length) (hs : T.Pairwise (· < ·)) : sumF p (whoF p.length T) 1 x = needF p T x.1 x.2.1 := by
  have := sumF_range p x T p.length (Nat.le_refl _)
  rw [Nat.sub_self, List.drop_zero, List.drop_zero] at this
  rw [this]
  congr 1
  refine sorted_ext (List.Pairwise.filter _ (List.pairwise_lt_range' (s := 0) (n := p.length))) hs (fun i => ?_)
  simp only [List.mem_filter, decide_eq_true_eq, List.mem_range'_1]
  exact ⟨fun h => h.2, fun h => ⟨⟨by omega, by have := hT i h; omega⟩, h⟩⟩
theorem need_zero {p : List (List It)} {T : List Nat} {a b : Int} (h : ∀ i ∈ T, hasF (p.getD i []) a b = 0) : needF p T a b = 0 := by
  induction T with
  | nil => rfl
  | cons i T ih =>
    simp only [needF, List.map_cons, List.sum_cons] at *
    rw [h i (by simp), ih (fun j hj => h j (by simp [hj]))]
    rfl
/-- What is built of a stock: as numbers. -/
theorem built_need {bx : List It} {p : List (List It)} {T : List Nat} (hb : G bx) (hp : ∀ l ∈ p, G l) (hT : ∀ i ∈ T, i < p.length) (hs : T.Pairwise (· < ·)) : Built bx p (whoF p.length T) 1 ↔ ∀ a b, needF p T a b ≤ hasF bx a b := by
  constructor
  · intro h a b
    by_cases hz : ∀ i ∈ T, hasF (p.getD i []) a b = 0
    · rw [need_zero hz]; exact hb.pos a b
    · obtain ⟨i, hz⟩ := Classical.not_forall.1 hz
      obtain ⟨hi, hne⟩ := Classical.not_imp.1 hz
      obtain ⟨y, hy, e1, e2⟩ := has_mem hne
      have := h i _ (getPl (hT i hi)) (by rw [whoF_get T (hT i hi), if_pos hi]) y hy
      rw [sumF_need y hT hs, e1, e2] at this
      exact this
  · intro h i l hl hw x hx
    rw [sumF_need x hT hs]
    exact h x.1 x.2.1
end Go.Proofs.YtmddjopahcbefaaGreat
