/- Stocks as numbers of parts: what can be taken. -/
import Derived.Test.YtmddjopahcbefaaGreatXNCF8
namespace Go.Proofs.YtmddjopahcbefaaGreat
open Go Go.Proofs.YtmddjopahcbefaaGreat.Clean
set_option linter.unusedVariables false
set_option linter.unusedSimpArgs false
set_option maxRecDepth 10000

theorem Bef.trans {x y z : It} (h : Bef x y) (g : Bef y z) : Bef x z := by unfold Bef at *; omega
theorem Bef.ne {x y : It} (h : Bef x y) : ¬ (y.1 = x.1 ∧ y.2.1 = x.2.1) := by unfold Bef at h; omega
theorem Ord.tail {x : It} {l : List It} (h : Ord (x :: l)) : Ord l := fun i a b ha hb => h (i + 1) a b (by simpa using ha) (by simpa using hb)
theorem Ord.pair : ∀ {l : List It}, Ord l → l.Pairwise Bef
  | [], _ => .nil
  | [x], _ => by simp
  | x :: y :: l, h => by
    have ih := Ord.pair h.tail
    have hxy : Bef x y := h 0 x y rfl rfl
    refine List.Pairwise.cons (fun z hz => ?_) ih
    rcases List.mem_cons.1 hz with rfl | hz
    · exact hxy
    · exact hxy.trans ((List.pairwise_cons.1 ih).1 z hz)
/-- In order, with numbers from 1 on. -/
def G (l : List It) : Prop := l.Pairwise Bef ∧ ∀ x ∈ l, 1 ≤ x.2.2
theorem G.tail {x : It} {l : List It} (h : G (x :: l)) : G l := ⟨(List.pairwise_cons.1 h.1).2, fun y hy => h.2 y (by simp [hy])⟩
theorem G.nil : G [] := ⟨.nil, by simp⟩
theorem G.pos {l : List It} (h : G l) (a b : Int) : 0 ≤ hasF l a b := by
  induction l with
  | nil => simp [hasF]
  | cons y r ih =>
    simp only [hasF]
    split
    · have := h.2 y (by simp); omega
    · exact ih h.tail
theorem has_none {l : List It} {a b : Int} (h : ∀ y ∈ l, ¬ (y.1 = a ∧ y.2.1 = b)) : hasF l a b = 0 := by
  induction l with
  | nil => rfl
  | cons y r ih =>
    simp only [hasF]
    rw [if_neg (h y (by simp))]
    exact ih (fun z hz => h z (by simp [hz]))
theorem G.head {x : It} {l : List It} (h : G (x :: l)) : hasF l x.1 x.2.1 = 0 := has_none fun y hy e => ((List.pairwise_cons.1 h.1).1 y hy).ne e
theorem has_mem {l : List It} {a b : Int} (h : hasF l a b ≠ 0) : ∃ y ∈ l, y.1 = a ∧ y.2.1 = b := by
  induction l with
  | nil => exact (h rfl).elim
  | cons y r ih =>
    simp only [hasF] at h
    split at h
    · rename_i e
      exact ⟨y, by simp, e⟩
    · obtain ⟨z, h1, h2⟩ := ih h
      exact ⟨z, by simp [h1], h2⟩
theorem G.has {l : List It} (h : G l) {x : It} (hx : x ∈ l) : hasF l x.1 x.2.1 = x.2.2 := by
  induction l with
  | nil => cases hx
  | cons y r ih =>
    simp only [hasF]
    rcases List.mem_cons.1 hx with rfl | hx'
    · rw [if_pos ⟨rfl, rfl⟩]
    · rw [if_neg (fun e => ((List.pairwise_cons.1 h.1).1 x hx').ne ⟨e.1.symm, e.2.symm⟩)]
      exact ih h.tail hx'
theorem has_cons (x : It) (l : List It) (a b : Int) : hasF (x :: l) a b = if x.1 = a ∧ x.2.1 = b then x.2.2 else hasF l a b := rfl
def allF (l : List It) : Int := (l.map fun x => x.2.2).sum
/-- What comes out is in order, of parts that were there. -/
theorem rest_G : ∀ {l o m p : List It}, G l → G o → restF l o = some (m, p) → G m ∧ (∀ z ∈ m, ∃ w ∈ l, w.1 = z.1 ∧ w.2.1 = z.2.1) ∧ allF m ≤ allF l ∧ G p
  | [], o, m, p, hl, ho, h => by simp only [restF, Option.some.injEq, Prod.mk.injEq] at h; obtain ⟨rfl, rfl⟩ := h; exact ⟨G.nil, by simp, Int.le_refl _, ho⟩
  | x :: l, o, m, p, hl, ho, h => by
    have hx := hl.2 x (by simp)
    have ht : G (takeF x o).2 ∧ (takeF x o).1 ≤ x.2.2 := by
      cases o with
      | nil => exact ⟨G.nil, Int.le_refl _⟩
      | cons y o =>
        by_cases hc : y.1 = x.1 ∧ y.2.1 = x.2.1
        · rw [show takeF x (y :: o) = (x.2.2 - y.2.2, o) from if_pos hc]
          have := ho.2 y (by simp)
          exact ⟨ho.tail, by simp only; omega⟩
        · rw [show takeF x (y :: o) = (x.2.2, y :: o) from if_neg hc]
          exact ⟨ho, Int.le_refl _⟩
    simp only [restF] at h
    generalize takeF x o = t at h ht
    obtain ⟨n, o'⟩ := t
    simp only at h ht
    split at h
    · cases h
    · cases hr : restF l o' with
      | none => rw [hr] at h; cases h
      | some q =>
        rw [hr] at h
        simp only [Option.map_some, Option.some.injEq, Prod.mk.injEq] at h
        obtain ⟨rfl, rfl⟩ := h
        obtain ⟨i1, i2, i3, i4⟩ := rest_G hl.tail ht.1 (show restF l o' = some (q.1, q.2) from hr)
        unfold keepF
        split
        · rename_i hn
          refine ⟨⟨List.Pairwise.cons (fun z hz => ?_) i1.1, fun z hz => ?_⟩, fun z hz => ?_, ?_, i4⟩
          · obtain ⟨w, w1, w2⟩ := i2 z hz
            have := (List.pairwise_cons.1 hl.1).1 w w1
            unfold Bef at *
            simp only
            omega
          · rcases List.mem_cons.1 hz with rfl | hz
            · simp only; omega
            · exact i1.2 z hz
          · rcases List.mem_cons.1 hz with rfl | hz
            · exact ⟨x, by simp, rfl, rfl⟩
            · obtain ⟨w, w1, w2⟩ := i2 z hz
              exact ⟨w, by simp [w1], w2⟩
          · simp only [allF, List.map_cons, List.sum_cons, List.singleton_append] at *
            omega
        · refine ⟨i1, fun z hz => ?_, ?_, i4⟩
          · obtain ⟨w, w1, w2⟩ := i2 z hz
            exact ⟨w, by simp [w1], w2⟩
          · simp only [allF, List.map_cons, List.sum_cons, List.nil_append] at *
            omega
/-- Everything is taken: the numbers are the differences. -/
theorem rest_sub : ∀ {l o m : List It}, G l → G o → restF l o = some (m, []) → ∀ a b, hasF m a b = hasF l a b - hasF o a b
  | [], o, m, hl, ho, h, a, b => by simp only [restF, Option.some.injEq, Prod.mk.injEq] at h; obtain ⟨rfl, rfl⟩ := h; simp [hasF]
  | x :: l, o, m, hl, ho, h, a, b => by
    have hx := hl.2 x (by simp)
    have key : ∀ n o', ¬ n < 0 → ∀ m, (restF l o').map (fun p => (keepF x n ++ p.1, p.2)) = some (m, []) → ∃ m', restF l o' = some (m', []) ∧ m = keepF x n ++ m' := by
      intro n o' hn m h
      cases hr : restF l o' with
      | none => rw [hr] at h; cases h
      | some q =>
        rw [hr] at h
        simp only [Option.map_some, Option.some.injEq, Prod.mk.injEq] at h
        exact ⟨q.1, by rw [← h.2], h.1.symm⟩
    simp only [restF] at h
    have same : ∀ y o', o = y :: o' → (y.1 = x.1 ∧ y.2.1 = x.2.1) → hasF m a b = hasF (x :: l) a b - hasF o a b := by
      rintro y o' rfl hc
      rw [show takeF x (y :: o') = (x.2.2 - y.2.2, o') from if_pos hc] at h
      simp only at h
      split at h
      · cases h
      · rename_i hn
        obtain ⟨m', h1, rfl⟩ := key _ _ hn _ h
        obtain ⟨i1, i2, _, _⟩ := rest_G hl.tail ho.tail h1
        have ih := rest_sub hl.tail ho.tail h1 a b
        have hh := hl.head
        have hh' := ho.head
        rw [has_cons, has_cons, hc.1, hc.2]
        unfold keepF
        by_cases e : x.1 = a ∧ x.2.1 = b
        · rw [if_pos e, if_pos e]
          split
          · rw [List.singleton_append, has_cons, if_pos e]
          · rw [List.nil_append, ih, ← e.1, ← e.2, hh, ← hc.1, ← hc.2, hh']
            omega
        · rw [if_neg e, if_neg e, ← ih]
          split
          · rw [List.singleton_append, has_cons, if_neg e]
          · rfl
    have other : takeF x o = (x.2.2, o) → hasF m a b = hasF (x :: l) a b - hasF o a b := by
      intro ht
      rw [ht] at h
      simp only at h
      split at h
      · cases h
      · rename_i hn
        obtain ⟨m', h1, rfl⟩ := key _ _ hn _ h
        obtain ⟨i1, i2, _, _⟩ := rest_G hl.tail ho h1
        have ih := rest_sub hl.tail ho h1
        rw [show keepF x x.2.2 = [(x.1, x.2.1, x.2.2)] from if_pos (by omega), List.singleton_append, has_cons, has_cons]
        by_cases e : x.1 = a ∧ x.2.1 = b
        · rw [if_pos e, if_pos e]
          have q := ih x.1 x.2.1
          rw [hl.head] at q
          have q1 := i1.pos x.1 x.2.1
          have q2 := ho.pos x.1 x.2.1
          rw [← e.1, ← e.2]
          simp only
          omega
        · rw [if_neg e, if_neg e]
          exact ih a b
    cases o with
    | nil => exact other rfl
    | cons y o' =>
      by_cases hc : y.1 = x.1 ∧ y.2.1 = x.2.1
      · exact same y o' rfl hc
      · exact other (if_neg hc)
/-- If there is enough of each part, everything is taken. -/
theorem rest_all : ∀ {l o : List It}, G l → G o → (∀ a b, hasF o a b ≤ hasF l a b) → ∃ m, restF l o = some (m, [])
  | [], o, hl, ho, h => by
    cases o with
    | nil => exact ⟨[], rfl⟩
    | cons y o =>
      have := h y.1 y.2.1
      rw [ho.has (by simp)] at this
      have := ho.2 y (by simp)
      simp only [hasF] at *
      omega
  | x :: l, o, hl, ho, h => by
    have hx := hl.2 x (by simp)
    have ext : ∀ n o', ¬ n < 0 → takeF x o = (n, o') → G o' → (∀ a b, hasF o' a b ≤ hasF l a b) → ∃ m, restF (x :: l) o = some (m, []) := by
      intro n o' hn ht go hh
      obtain ⟨m, hm⟩ := rest_all hl.tail go hh
      refine ⟨keepF x n ++ m, ?_⟩
      simp only [restF, ht]
      rw [if_neg hn, hm]
      rfl
    cases o with
    | nil => exact ext x.2.2 [] (by omega) rfl G.nil (fun a b => hl.tail.pos a b)
    | cons y o =>
      by_cases hc : y.1 = x.1 ∧ y.2.1 = x.2.1
      · have h0 := h x.1 x.2.1
        rw [has_cons, has_cons, if_pos hc, if_pos ⟨rfl, rfl⟩] at h0
        refine ext (x.2.2 - y.2.2) o (by omega) (if_pos hc) ho.tail (fun a b => ?_)
        have := h a b
        rw [has_cons, has_cons, hc.1, hc.2] at this
        by_cases e : x.1 = a ∧ x.2.1 = b
        · have hh' := ho.head
          rw [hc.1, hc.2, e.1, e.2] at hh'
          rw [hh']
          exact hl.tail.pos a b
        · rw [if_neg e, if_neg e] at this
          exact this
      · refine ext x.2.2 (y :: o) (by omega) (if_neg hc) ho (fun a b => ?_)
        have := h a b
        rw [has_cons x] at this
        by_cases e : x.1 = a ∧ x.2.1 = b
        · -- x is before all of o
          have hy := h y.1 y.2.1
          rw [ho.has (by simp), has_cons, if_neg (fun e => hc ⟨e.1.symm, e.2.symm⟩)] at hy
          have hy1 := ho.2 y (by simp)
          obtain ⟨w, w1, w2⟩ := has_mem (l := l) (a := y.1) (b := y.2.1) (by omega)
          have hxw := (List.pairwise_cons.1 hl.1).1 w w1
          have hxy : Bef x y := by unfold Bef at *; omega
          rw [has_none (l := y :: o) (fun z hz => ?_)]
          · exact hl.tail.pos a b
          · have hxz : Bef x z := by
              rcases List.mem_cons.1 hz with rfl | hz
              · exact hxy
              · exact hxy.trans ((List.pairwise_cons.1 ho.1).1 z hz)
            have := hxz.ne
            rw [e.1, e.2] at this
            exact this
        · rw [if_neg e] at this
          exact this
theorem Stk.g {l : List It} (h : Stk l) : G l := ⟨h.2.1.pair, fun x hx => (h.2.2.2 x hx).1⟩
/-- How many of a part some plans need. -/
def needF (p : List (List It)) (q : List Nat) (a b : Int) : Int := (q.map fun i => hasF (p.getD i []) a b).sum
theorem needF_pos {p : List (List It)} (hp : ∀ l ∈ p, G l) : ∀ (q : List Nat) (a b : Int), 0 ≤ needF p q a b
  | [], a, b => by simp [needF]
  | i :: q, a, b => by
    have ih := needF_pos hp q a b
    have : G (p.getD i []) := by
      by_cases h : i < p.length
      · exact hp _ (List.mem_of_getElem? (getPl h))
      · simp [List.getD, show p.length ≤ i from by omega, G.nil]
    have := this.pos a b
    simp only [needF, List.map_cons, List.sum_cons] at *
    omega
theorem getG {p : List (List It)} (hp : ∀ l ∈ p, G l) (i : Nat) : G (p.getD i []) := by
  by_cases h : i < p.length
  · exact hp _ (List.mem_of_getElem? (getPl h))
  · simp [List.getD, show p.length ≤ i from by omega, G.nil]
theorem cho_some {p : List (List It)} {v : List Int} (hp : ∀ l ∈ p, G l) : ∀ {q : List Nat} {l m : List It} {n w : Int}, G l → choF p v q n l = some (w, m) → w = n + (q.map fun i => v.getD i 0).sum ∧ G m ∧ allF m ≤ allF l ∧ ∀ a b, hasF m a b = hasF l a b - needF p q a b
  | [], l, m, n, w, hl, h => by simp only [choF, Option.some.injEq, Prod.mk.injEq] at h; obtain ⟨rfl, rfl⟩ := h; exact ⟨by simp, hl, Int.le_refl _, by simp [needF]⟩
  | i :: q, l, m, n, w, hl, h => by
    simp only [choF] at h
    split at h
    · rename_i l' hr
      obtain ⟨i1, _, i3, _⟩ := rest_G hl (getG hp i) hr
      have hs := rest_sub hl (getG hp i) hr
      obtain ⟨j1, j2, j3, j4⟩ := cho_some hp i1 h
      refine ⟨by rw [j1]; simp only [List.map_cons, List.sum_cons]; omega, j2, by omega, fun a b => ?_⟩
      rw [j4, hs]
      simp only [needF, List.map_cons, List.sum_cons]
      omega
    · cases h
theorem cho_all {p : List (List It)} {v : List Int} (hp : ∀ l ∈ p, G l) : ∀ {q : List Nat} {l : List It} {n : Int}, G l → (∀ a b, needF p q a b ≤ hasF l a b) → ∃ m, choF p v q n l = some m
  | [], l, n, hl, h => ⟨_, rfl⟩
  | i :: q, l, n, hl, h => by
    have e : ∀ a b, needF p (i :: q) a b = hasF (p.getD i []) a b + needF p q a b := fun a b => by simp [needF]
    obtain ⟨m, hm⟩ := rest_all hl (getG hp i) (fun a b => by have := h a b; rw [e] at this; have := needF_pos hp q a b; omega)
    obtain ⟨i1, _, _, _⟩ := rest_G hl (getG hp i) hm
    have hs := rest_sub hl (getG hp i) hm
    obtain ⟨x, hx⟩ := cho_all (v := v) hp (q := q) (n := n + v.getD i 0) i1 (fun a b => by have := h a b; rw [e] at this; rw [hs]; omega)
    exact ⟨x, by simp only [choF, hm]; exact hx⟩
end Go.Proofs.YtmddjopahcbefaaGreat
