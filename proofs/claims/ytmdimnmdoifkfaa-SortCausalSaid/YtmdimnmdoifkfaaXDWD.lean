/- Clusters by their numbers; swings in order. -/
import Derived.Test.YtmdimnmdoifkfaaXDWC
namespace Go.Proofs.Ytmdimnmdoifkfaa
open Go Go.Proofs.Ytmdimnmdoifkfaa.Clean
set_option linter.unusedVariables false
set_option linter.unusedSimpArgs false
set_option maxRecDepth 10000

/-! where a cluster begins and ends -/
/-- From p on there are m parts of one cluster. -/
def Blk (S : Int) (l : List Fd) (p m : Nat) : Prop := 1 ≤ m ∧ p + m ≤ l.length ∧ (p = 0 ∨ ¬ nearP S l p) ∧ (∀ j, p < j → j < p + m → nearP S l j) ∧ (p + m = l.length ∨ ¬ nearP S l (p + m))
theorem first_blk {S : Int} {l : List Fd} {p m : Nat} (h : Blk S l p m) : ∀ i, p ≤ i → i < p + m → firstF S l i = p
  | 0, h1, _ => by
    have : p = 0 := by omega
    subst this; rfl
  | i + 1, h1, h2 => by
    obtain ⟨b1, b2, b3, b4, b5⟩ := h
    unfold firstF
    by_cases hp : p = i + 1
    · have hn : ¬ nearP S l (i + 1) := by rw [← hp]; exact b3.resolve_left (by omega)
      rw [if_neg hn, hp]
    · rw [if_pos (b4 (i + 1) (by omega) h2)]
      exact first_blk ⟨b1, b2, b3, b4, b5⟩ i (by omega) (by omega)
theorem last_blk {S : Int} {l : List Fd} {p m : Nat} (h : Blk S l p m) : ∀ n i, p ≤ i → i < p + m → p + m - 1 - i ≤ n → lastF S l n i = p + m - 1
  | 0, i, h1, h2, h3 => by
    have : i = p + m - 1 := by omega
    rw [lastF, this]
  | n + 1, i, h1, h2, h3 => by
    obtain ⟨b1, b2, b3, b4, b5⟩ := h
    unfold lastF
    by_cases hi : i = p + m - 1
    · have hn : ¬ (i + 1 < l.length ∧ nearP S l (i + 1)) := by
        rw [show i + 1 = p + m from by omega]
        rcases b5 with e | e
        · omega
        · exact fun hh => e hh.2
      rw [if_neg hn, hi]
    · rw [if_pos ⟨by omega, b4 (i + 1) (by omega) (by omega)⟩]
      exact last_blk ⟨b1, b2, b3, b4, b5⟩ n (i + 1) (by omega) (by omega) (by omega)
theorem lastI_blk {S : Int} {l : List Fd} {p m i : Nat} (h : Blk S l p m) (h1 : p ≤ i) (h2 : i < p + m) : lastI S l i = p + m - 1 := last_blk h _ i h1 h2 (by have := h.2.1; omega)
theorem fd_sub (l : List Fd) (p m j : Nat) (hj : j < m) : fd ((l.drop p).take m) j = fd l (p + j) := by
  unfold fd
  rw [List.getD_eq_getElem?_getD, List.getD_eq_getElem?_getD, List.getElem?_take_of_lt hj, List.getElem?_drop]
theorem sort_blk {b : Bt} {l : List Fd} {p m i : Nat} (h : Blk b.S l p m) (h1 : p ≤ i) (h2 : i < p + m) : sortI b l i = sortF b ((l.drop p).take m) := by
  have b1 := h.1; have b2 := h.2.1
  have hcl : ((l.drop p).take m).length = m := by rw [List.length_take, List.length_drop]; omega
  rw [sortI, first_blk h i h1 h2, lastI_blk h h1 h2, sortF]
  have e0 : fd ((l.drop p).take m) 0 = fd l p := fd_sub l p m 0 (by omega)
  have e1 : fd ((l.drop p).take m) (((l.drop p).take m).length - 1) = fd l (p + m - 1) := by rw [hcl, fd_sub l p m (m - 1) (by omega), show p + (m - 1) = p + m - 1 from by omega]
  have mem : ∀ y, y ∈ (l.drop p).take m ↔ ∃ k, p ≤ k ∧ k ≤ p + m - 1 ∧ y = fd l k := fun y => by
    constructor
    · intro hy
      obtain ⟨j, hj⟩ := List.mem_iff_getElem?.1 hy
      have hjm : j < m := by have := (List.getElem?_eq_some_iff.1 hj).1; omega
      have := fd_get (l := (l.drop p).take m) (i := j) (by omega)
      rw [this, fd_sub l p m j hjm] at hj
      cases hj
      exact ⟨p + j, by omega, by omega, rfl⟩
    · rintro ⟨k, k1, k2, rfl⟩
      have := fd_get (l := (l.drop p).take m) (i := k - p) (by omega)
      rw [fd_sub l p m (k - p) (by omega), show p + (k - p) = k from by omega] at this
      exact mem_at this
  by_cases hs : SrP b ((l.drop p).take m)
  · have hall : ∀ k, p ≤ k → k ≤ p + m - 1 → gk b (fd l k) = gk b (fd l p) := fun k k1 k2 => by rw [← e0]; exact hs.2.2 _ ((mem _).2 ⟨k, k1, k2, rfl⟩)
    have hi := hall i h1 (by omega)
    have hs' := hs.2.1
    rw [e0, e1] at hs'
    have : SiP b l p (p + m - 1) i := ⟨fun k k1 k2 => by rw [hi]; exact hall k k1 k2, by rw [hi, ← e0]; exact hs.1, by rw [hi]; exact hs'⟩
    rw [if_pos (dc_t this), if_pos (dc_t hs), e0, hi]
  · by_cases hi : SiP b l p (p + m - 1) i
    · refine (hs ⟨?_, ?_, fun y hy => ?_⟩).elim
      · rw [e0, hi.1 p (Nat.le_refl _) (by omega)]; exact hi.2.1
      · rw [e0, e1, hi.1 p (Nat.le_refl _) (by omega)]; exact hi.2.2
      · obtain ⟨k, k1, k2, rfl⟩ := (mem y).1 hy
        rw [e0, hi.1 p (Nat.le_refl _) (by omega)]; exact hi.1 k k1 k2
    · simp only [dc_f hs, dc_f hi, Bool.false_eq_true, if_false]
theorem near_drop {S : Int} {l : List Fd} {p j : Nat} (hj : 1 ≤ j) : nearP S (l.drop p) j ↔ nearP S l (p + j) := by
  unfold nearP fd
  simp only [List.getD_eq_getElem?_getD, List.getElem?_drop]
  rw [show p + (j - 1) = p + j - 1 from by omega]
/-- Where a cluster begins there is one. -/
theorem blk_ex {S : Int} {l : List Fd} {p : Nat} (hp : p < l.length) (hs : p = 0 ∨ ¬ nearP S l p) : ∃ m, Blk S l p m := by
  have key : ∀ n m, l.length - (p + m) ≤ n → 1 ≤ m → p + m ≤ l.length → (∀ j, p < j → j < p + m → nearP S l j) → ∃ m, Blk S l p m := by
    intro n
    induction n with
    | zero => intro m h1 h2 h3 h4; exact ⟨m, h2, h3, hs, h4, .inl (by omega)⟩
    | succ n ih =>
      intro m h1 h2 h3 h4
      by_cases he : p + m = l.length
      · exact ⟨m, h2, h3, hs, h4, .inl he⟩
      · by_cases hn : nearP S l (p + m)
        · refine ih (m + 1) (by omega) (by omega) (by omega) (fun j a c => ?_)
          by_cases hj : j = p + m
          · rw [hj]; exact hn
          · exact h4 j a (by omega)
        · exact ⟨m, h2, h3, hs, h4, .inr hn⟩
  exact key _ 1 (Nat.le_refl _) (Nat.le_refl _) (by omega) (fun j a c => by omega)
theorem blk_clu {S : Int} {l : List Fd} {p m : Nat} (h : Blk S l p m) : clu S (l.drop p) = (l.drop p).take m :: clu S (l.drop (p + m)) := by
  obtain ⟨b1, b2, b3, b4, b5⟩ := h
  have hl : (l.drop p).length = l.length - p := List.length_drop
  rw [clu_take (m := m) b1 (by omega) (fun j h1 h2 => (near_drop h1).2 (b4 (p + j) (by omega) (by omega))) (by
    rcases b5 with e | e
    · exact .inl (by omega)
    · exact .inr (fun hh => e ((near_drop b1).1 hh))), List.drop_drop]
/-- What holds at the beginning, and is handed on from cluster to cluster, holds at the end. -/
theorem by_clusters {S : Int} {l : List Fd} (P : Nat → Prop) (h0 : P 0) (hs : ∀ p m, Blk S l p m → P p → P (p + m)) : P l.length := by
  have key : ∀ n p, l.length - p ≤ n → p ≤ l.length → (p = 0 ∨ p = l.length ∨ ¬ nearP S l p) → P p → P l.length := by
    intro n
    induction n with
    | zero => intro p h1 h2 _ h; rwa [show p = l.length from by omega] at h
    | succ n ih =>
      intro p h1 h2 h3 h
      by_cases he : p = l.length
      · rwa [he] at h
      · obtain ⟨m, hm⟩ := blk_ex (S := S) (l := l) (p := p) (by omega) (by rcases h3 with e | e | e; exact .inl e; exact (he e).elim; exact .inr e)
        exact ih (p + m) (by have := hm.1; omega) hm.2.1 (.inr hm.2.2.2.2) (hs p m hm h)
  exact key _ 0 (Nat.le_refl _) (by omega) (.inl rfl) h0
theorem fates_eq (b : Bt) (l : List Fd) : fatR b l l.length = fates b l := by
  have := by_clusters (S := b.S) (l := l) (fun p => fates b l = fatR b l p ++ fates b (l.drop p)) rfl (fun p m h hp => by
    rw [hp, fates, blk_clu h, List.flatMap_cons, ← List.append_assoc]
    refine congrArg (· ++ _) ?_
    have b1 := h.1; have b2 := h.2.1
    have hcl : ((l.drop p).take m).length = m := by rw [List.length_take, List.length_drop]; omega
    refine List.ext_getElem? (fun i => ?_)
    by_cases hi : i < p
    · rw [List.getElem?_append_left (by rw [fatR_len]; exact hi)]
      simp [fatR, hi, show i < p + m from by omega]
    · rw [List.getElem?_append_right (by rw [fatR_len]; omega), fatR_len]
      by_cases hm : i < p + m
      · have hg := fd_get (l := (l.drop p).take m) (i := i - p) (by omega)
        rw [fd_sub l p m (i - p) (by omega), show p + (i - p) = i from by omega] at hg
        rw [fatC, List.getElem?_map, hg]
        simp [fatR, hm, fateI, sort_blk h (show p ≤ i by omega) hm]
      · rw [List.getElem?_eq_none (by rw [fatC, List.length_map, hcl]; omega), List.getElem?_eq_none (by rw [fatR_len]; omega)])
  rw [this, List.drop_length]
  simp [fates, clu_nil]
/-! swings in order -/
theorem ltK_irr (x : Sw) : ¬ ltK x x := by rintro (h | h) <;> omega
theorem gt_iff (x y : Sw) : gtS x y ↔ ltK y x := by
  unfold gtS ltK
  constructor
  · rintro (h | h)
    · exact .inl h
    · exact .inr ⟨h.1.symm, h.2⟩
  · rintro (h | h)
    · exact .inl h
    · exact .inr ⟨h.1.symm, h.2⟩
theorem ltK_trans {x y z : Sw} (h : ltK x y) (h' : ltK y z) : ltK x z := by
  unfold ltK at *
  omega
theorem insN_split (A B : List Sw) (x : Sw) (hA : ∀ a ∈ A, ltK a x) (hB : ∀ a ∈ B, ltK x a) : ∀ n, A.length ≤ n → n ≤ (A ++ B).length → insN (A ++ B) x n = A.length := by
  intro n
  induction n with
  | zero => intro h1 h2; rw [insN]; omega
  | succ n ih =>
    intro h1 h2
    rw [insN]
    simp only [List.length_append] at h2
    by_cases hn : A.length = n + 1
    · have hg : (A ++ B).getD n (0, 0, false) ∈ A := by
        rw [List.getD_eq_getElem?_getD, List.getElem?_append_left (by omega), List.getElem?_eq_getElem (by omega)]
        exact List.getElem_mem _
      rw [if_neg (fun hh => ltK_irr _ (ltK_trans ((gt_iff _ _).1 hh) (hA _ hg))), hn]
    · have hg : (A ++ B).getD n (0, 0, false) ∈ B := by
        rw [List.getD_eq_getElem?_getD, List.getElem?_append_right (by omega), List.getElem?_eq_getElem (by omega)]
        exact List.getElem_mem _
      rw [if_pos ((gt_iff _ _).2 (hB _ hg))]
      exact ih (by omega) (by simp only [List.length_append]; omega)
theorem ins_split {A B : List Sw} {x : Sw} (hA : ∀ a ∈ A, ltK a x) (hB : ∀ a ∈ B, ltK x a) : insF (A ++ B) x = A ++ [x] ++ B := by
  have h := insN_split A B x hA hB (A ++ B).length (by simp) (Nat.le_refl _)
  rw [insF, h]
  simp
theorem put_split {A B : List Sw} {x : Sw} (hA : ∀ a ∈ A, ltK a x) (hB : ∀ a ∈ B, ltK x a) : putF (A ++ B) x = A ++ [x] ++ B := by
  induction A with
  | nil =>
    cases B with
    | nil => rfl
    | cons b B =>
      show putF (b :: B) x = x :: b :: B
      rw [putF, if_neg (fun hh => ltK_irr _ (ltK_trans hh (hB b (by simp))))]
  | cons a A ih =>
    show putF (a :: (A ++ B)) x = a :: (A ++ [x] ++ B)
    rw [putF, if_pos (hA a (by simp)), ih (fun c hc => hA c (by simp [hc]))]
def Sorted (l : List Sw) : Prop := l.Pairwise ltK
theorem split_ex {l : List Sw} {x : Sw} (hs : Sorted l) (hx : ∀ a ∈ l, ltK a x ∨ ltK x a) : ∃ A B, l = A ++ B ∧ (∀ a ∈ A, ltK a x) ∧ ∀ a ∈ B, ltK x a := by
  induction l with
  | nil => exact ⟨[], [], rfl, by simp, by simp⟩
  | cons a l ih =>
    have hp := List.pairwise_cons.1 hs
    rcases hx a (by simp) with h | h
    · obtain ⟨A, B, e, hA, hB⟩ := ih hp.2 (fun c hc => hx c (by simp [hc]))
      refine ⟨a :: A, B, by rw [e]; rfl, fun c hc => ?_, hB⟩
      rcases List.mem_cons.1 hc with rfl | hc
      · exact h
      · exact hA c hc
    · refine ⟨[], a :: l, rfl, by simp, fun c hc => ?_⟩
      rcases List.mem_cons.1 hc with rfl | hc
      · exact h
      · exact ltK_trans h (hp.1 c hc)
/-- A swing is put into its place in a list in order: the same both ways, and the list stays in order. -/
theorem ins_put {l : List Sw} {x : Sw} (hs : Sorted l) (hx : ∀ a ∈ l, ltK a x ∨ ltK x a) : insF l x = putF l x ∧ Sorted (insF l x) ∧ ∀ a, a ∈ insF l x ↔ a = x ∨ a ∈ l := by
  obtain ⟨A, B, rfl, hA, hB⟩ := split_ex hs hx
  rw [ins_split hA hB, put_split hA hB]
  obtain ⟨s1, s2, s3⟩ := List.pairwise_append.1 hs
  refine ⟨rfl, ?_, fun a => by simp; constructor <;> (intro h; rcases h with h | h | h) <;> simp [h]⟩
  rw [Sorted, List.append_assoc, List.pairwise_append]
  refine ⟨s1, List.pairwise_cons.2 ⟨hB, s2⟩, fun a ha c hc => ?_⟩
  rcases List.mem_cons.1 hc with rfl | hc
  · exact hA a ha
  · exact s3 a ha c hc
end Go.Proofs.Ytmdimnmdoifkfaa
