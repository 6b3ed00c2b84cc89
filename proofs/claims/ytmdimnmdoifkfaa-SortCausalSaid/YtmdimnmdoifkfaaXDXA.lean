/- The law SortCausal: the mathematics. -/
import Derived.Test.YtmdimnmdoifkfaaXDWE
namespace Go.Proofs.Ytmdimnmdoifkfaa
open Go Go.Proofs.Ytmdimnmdoifkfaa.Clean
set_option linter.unusedVariables false
set_option linter.unusedSimpArgs false
set_option maxRecDepth 10000

theorem put_mem (x a : Sw) : ∀ l, a ∈ putF l x ↔ a = x ∨ a ∈ l
  | [] => by simp [putF]
  | y :: l => by
    unfold putF
    split
    · rw [List.mem_cons, put_mem x a l, List.mem_cons]; exact or_left_comm
    · rw [List.mem_cons]
/-- The swing s is one of the cluster that begins at i. -/
def At (b : Bt) (l : List Fd) (i : Nat) (s : Sw) : Prop := sortI b l i ≠ -1 ∧ firstF b.S l i = i ∧ (s = outI b l i (sortI b l i) ∨ s = backI b l i (sortI b l i))
theorem rsw_mem (b : Bt) (l : List Fd) (s : Sw) : ∀ k, s ∈ rsw b l k ↔ ∃ i, i < k ∧ At b l i s
  | 0 => by simp [rsw]
  | k + 1 => by
    rw [rsw, rstep]
    split
    · rename_i hc
      rw [rsw_mem b l s k]
      constructor
      · rintro ⟨i, h1, h2⟩; exact ⟨i, by omega, h2⟩
      · rintro ⟨i, h1, h2⟩
        by_cases he : i = k
        · subst he
          rcases hc with hc | hc
          · exact (h2.1 hc).elim
          · exact (hc h2.2.1).elim
        · exact ⟨i, by omega, h2⟩
    · rename_i hc
      rw [put_mem, put_mem, rsw_mem b l s k]
      have h1 : sortI b l k ≠ -1 := fun e => hc (.inl e)
      have h2 : firstF b.S l k = k := Classical.not_not.1 fun e => hc (.inr e)
      constructor
      · rintro (e | e | ⟨i, h, h'⟩)
        · exact ⟨k, by omega, h1, h2, .inr e⟩
        · exact ⟨k, by omega, h1, h2, .inl e⟩
        · exact ⟨i, by omega, h'⟩
      · rintro ⟨i, h, h'⟩
        by_cases he : i = k
        · subst he
          rcases h'.2.2 with e | e
          · exact .inr (.inl e)
          · exact .inl e
        · exact .inr (.inr ⟨i, by omega, h'⟩)
theorem fd_left {A B : List Fd} {j : Nat} (h : j < A.length) : fd (A ++ B) j = fd A j := by
  have h1 := fd_get (l := A ++ B) (i := j) (by rw [List.length_append]; omega)
  rw [List.getElem?_append_left h, fd_get h] at h1
  exact (Option.some.inj h1).symm
theorem fd_right {A B : List Fd} {j : Nat} (h : A.length ≤ j) (h' : j < (A ++ B).length) : fd (A ++ B) j ∈ B := by
  have h1 := fd_get h'
  rw [List.getElem?_append_right h] at h1
  exact mem_at h1
theorem half {b : Bt} {A B D : List Fd} {t : Int} {s : Sw} (hf : FdP (A ++ B)) (hB : ∀ x ∈ B, t - b.C < x.1) (hD : ∀ x ∈ D, t - b.C < x.1) (hS : 0 ≤ b.S) {i : Nat} (hi : i < (A ++ B).length) (h : At b (A ++ B) i s) (hs : s.1 ≤ t) : i < (A ++ D).length ∧ At b (A ++ D) i s := by
  obtain ⟨h1, h2, h3⟩ := h
  have hst : i = 0 ∨ ¬ nearP b.S (A ++ B) i := by
    cases i with
    | zero => exact .inl rfl
    | succ i =>
      refine .inr fun hn => ?_
      unfold firstF at h2
      rw [if_pos hn] at h2
      have := firstF_le b.S (A ++ B) i
      omega
  obtain ⟨m, hm⟩ := blk_ex hi hst
  obtain ⟨m1, m2, m3, m4, m5⟩ := id hm
  have hla : lastI b.S (A ++ B) i = i + m - 1 := lastI_blk hm (Nat.le_refl _) (by omega)
  have hsi : SiP b (A ++ B) i (i + m - 1) i ∧ sortI b (A ++ B) i = gk b (fd (A ++ B) i) := by
    by_cases hc : SiP b (A ++ B) (firstF b.S (A ++ B) i) (lastI b.S (A ++ B) i) i
    · have hr : sortI b (A ++ B) i = gk b (fd (A ++ B) i) := by rw [sortI, if_pos (dc_t hc)]
      rw [h2, hla] at hc
      exact ⟨hc, hr⟩
    · exact (h1 (by rw [sortI, if_neg (by rw [dc_f hc]; simp)])).elim
  obtain ⟨⟨_, s2, s3⟩, s4⟩ := hsi
  rw [← s4] at s3
  have hfl : (fd (A ++ B) i).1 ≤ (fd (A ++ B) (i + m - 1)).1 := by
    by_cases he : m = 1
    · rw [show i + m - 1 = i from by omega]; exact Int.le_refl _
    · have := fd_mono hf (i := i) (j := i + m - 1) (by omega) (by omega); omega
  have hT : (fd (A ++ B) (i + m - 1)).1 + 2 * b.S + 1 ≤ t - b.C := by
    rcases h3 with e | e
    · rw [e] at hs
      have hs : (fd (A ++ B) i).1 + (gt b (sortI b (A ++ B) i)).1 - b.S ≤ t := hs
      omega
    · rw [e] at hs
      have hs : (fd (A ++ B) (lastI b.S (A ++ B) i)).1 + (gt b (sortI b (A ++ B) i)).1 + 1 ≤ t := hs
      rw [hla] at hs
      omega
  have hin : i + m ≤ A.length := by
    by_cases hc : i + m ≤ A.length
    · exact hc
    · have := hB _ (fd_right (A := A) (B := B) (j := i + m - 1) (by omega) (by omega))
      omega
  have eqj : ∀ j, j < i + m → fd (A ++ D) j = fd (A ++ B) j := fun j hj => by rw [fd_left (by omega), fd_left (by omega)]
  have hlD : i + m ≤ (A ++ D).length := by rw [List.length_append]; omega
  have hmD : Blk b.S (A ++ D) i m := by
    refine ⟨m1, hlD, ?_, ?_, ?_⟩
    · rcases m3 with e | e
      · exact .inl e
      · right; unfold nearP at e ⊢; rw [eqj i (by omega), eqj (i - 1) (by omega)]; exact e
    · intro j j1 j2
      have := m4 j j1 j2
      unfold nearP at this ⊢
      rw [eqj j (by omega), eqj (j - 1) (by omega)]; exact this
    · by_cases he : i + m = (A ++ D).length
      · exact .inl he
      · right
        by_cases hA : i + m < A.length
        · have := m5.resolve_left (by rw [List.length_append]; omega)
          unfold nearP at this ⊢
          rw [fd_left hA, fd_left (by omega)] at this ⊢; exact this
        · have h5 := hD _ (fd_right (A := A) (B := D) (j := i + m) (by omega) (by omega))
          unfold nearP
          rw [eqj (i + m - 1) (by omega)]
          omega
  have hblk : ((A ++ D).drop i).take m = ((A ++ B).drop i).take m := by
    rw [List.drop_append_of_le_length (by omega), List.drop_append_of_le_length (by omega), List.take_append_of_le_length (by rw [List.length_drop]; omega), List.take_append_of_le_length (by rw [List.length_drop]; omega)]
  have hso : sortI b (A ++ D) i = sortI b (A ++ B) i := by rw [sort_blk hmD (Nat.le_refl _) (by omega), sort_blk hm (Nat.le_refl _) (by omega), hblk]
  refine ⟨by omega, by rw [hso]; exact h1, first_blk hmD i (Nat.le_refl _) (by omega), ?_⟩
  have ho : outI b (A ++ D) i (sortI b (A ++ B) i) = outI b (A ++ B) i (sortI b (A ++ B) i) := by unfold outI; rw [eqj i (by omega)]
  have hk : backI b (A ++ D) i (sortI b (A ++ B) i) = backI b (A ++ B) i (sortI b (A ++ B) i) := by unfold backI; rw [lastI_blk hmD (Nat.le_refl _) (by omega), hla, eqj (i + m - 1) (by omega)]
  rw [hso, ho, hk]
  exact h3
theorem sorted_eq : ∀ {l m : List Sw}, Sorted l → Sorted m → (∀ a, a ∈ l ↔ a ∈ m) → l = m
  | [], m, _, _, h => by
    cases m with
    | nil => rfl
    | cons y m => exact absurd ((h y).2 (List.mem_cons_self ..)) (by simp)
  | x :: l, [], _, _, h => absurd ((h x).1 (List.mem_cons_self ..)) (by simp)
  | x :: l, y :: m, hl, hm, h => by
    obtain ⟨l1, l2⟩ := List.pairwise_cons.1 hl
    obtain ⟨m1, m2⟩ := List.pairwise_cons.1 hm
    have hxy : x = y := by
      rcases List.mem_cons.1 ((h x).1 (List.mem_cons_self ..)) with e | e
      · exact e
      · rcases List.mem_cons.1 ((h y).2 (List.mem_cons_self ..)) with e' | e'
        · exact e'.symm
        · exact (ltK_irr x (ltK_trans (l1 y e') (m1 x e))).elim
    subst hxy
    have := sorted_eq l2 m2 (fun a => ⟨fun ha => (List.mem_cons.1 ((h a).1 (List.mem_cons_of_mem _ ha))).resolve_left (fun e => by subst e; exact ltK_irr _ (l1 _ ha)), fun ha => (List.mem_cons.1 ((h a).2 (List.mem_cons_of_mem _ ha))).resolve_left (fun e => by subst e; exact ltK_irr _ (m1 _ ha))⟩)
    rw [this]
def lo (T : Int) (l : List Fd) : List Fd := l.filter fun x => decide (x.1 ≤ T)
def hi (T : Int) (l : List Fd) : List Fd := l.filter fun x => decide (x.1 > T)
def upTo (t : Int) (l : List Sw) : List Sw := l.filter fun x => decide (x.1 ≤ t)
theorem split_le (T : Int) : ∀ {l : List Fd}, l.Pairwise FB → l = lo T l ++ hi T l
  | [], _ => rfl
  | x :: l, h => by
    obtain ⟨h1, h2⟩ := List.pairwise_cons.1 h
    unfold lo hi
    by_cases hx : x.1 ≤ T
    · rw [List.filter_cons_of_pos (by simpa using hx), List.filter_cons_of_neg (by simp; omega), List.cons_append]
      exact congrArg (x :: ·) (split_le T h2)
    · have e1 : l.filter (fun x => decide (x.1 ≤ T)) = [] := List.filter_eq_nil_iff.2 (fun a ha => by have : x.1 < a.1 := h1 a ha; simp; omega)
      have e2 : l.filter (fun x => decide (x.1 > T)) = l := List.filter_eq_self.2 (fun a ha => by have : x.1 < a.1 := h1 a ha; simp; omega)
      rw [List.filter_cons_of_neg (by simpa using hx), List.filter_cons_of_pos (by simp; omega), e1, e2]; rfl
theorem causal {b : Bt} {l m : List Fd} {t : Int} (hb : BtP b) (hl : FdP l) (hm : FdP (lo (t - b.C) l ++ hi (t - b.C) m)) : upTo t (swings b l) = upTo t (swings b (lo (t - b.C) l ++ hi (t - b.C) m)) := by
  have key : ∀ {A B D : List Fd}, FdP (A ++ B) → FdP (A ++ D) → (∀ x ∈ B, t - b.C < x.1) → (∀ x ∈ D, t - b.C < x.1) → ∀ s, s ∈ upTo t (swings b (A ++ B)) → s ∈ upTo t (swings b (A ++ D)) := by
    intro A B D h1 h2 hB hD s hs
    unfold upTo at hs ⊢
    rw [List.mem_filter] at hs ⊢
    obtain ⟨hs1, hs2⟩ := hs
    refine ⟨?_, hs2⟩
    rw [← (swings_eq hb h1).1, rsw_mem] at hs1
    rw [← (swings_eq hb h2).1, rsw_mem]
    obtain ⟨i, i1, i2⟩ := hs1
    obtain ⟨j1, j2⟩ := half h1 hB hD hb.2.1 i1 i2 (of_decide_eq_true hs2)
    exact ⟨i, j1, j2⟩
  have hsp := split_le (t - b.C) hl.2.2
  have hgt : ∀ (m : List Fd), ∀ x ∈ hi (t - b.C) m, t - b.C < x.1 := fun m x hx => by
    unfold hi at hx
    have := of_decide_eq_true (List.mem_filter.1 hx).2
    omega
  have hl' : FdP (lo (t - b.C) l ++ hi (t - b.C) l) := hsp ▸ hl
  have hso : ∀ {l : List Fd}, FdP l → Sorted (upTo t (swings b l)) := fun h => List.Pairwise.sublist List.filter_sublist (swings_eq hb h).2
  have := sorted_eq (hso hl') (hso hm) (fun a => ⟨key hl' hm (hgt l) (hgt m) a, key hm hl' (hgt m) (hgt l) a⟩)
  rw [← hsp] at this
  exact this
end Go.Proofs.Ytmdimnmdoifkfaa
