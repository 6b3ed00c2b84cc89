/- Trading in circles: why no group does better. -/
import Derived.Test.YtmddjopahcbefaaXTD
namespace Go.Proofs.Ytmddjopahcbefaa
open Go Go.Proofs.Ytmddjopahcbefaa.Clean
set_option linter.unusedVariables false
set_option linter.unusedSimpArgs false
set_option maxRecDepth 10000

/-! going round -/
def itf (f : Nat → Nat) : Nat → Nat → Nat
  | 0, a => a
  | k + 1, a => f (itf f k a)
theorem itf_add (f : Nat → Nat) (k a : Nat) : ∀ m, itf f (m + k) a = itf f m (itf f k a)
  | 0 => by rw [Nat.zero_add]; rfl
  | m + 1 => by
    rw [show m + 1 + k = (m + k) + 1 by omega]
    show f (itf f (m + k) a) = f (itf f m (itf f k a))
    rw [itf_add f k a m]
theorem distinct_le {n m : Nat} {g : Nat → Nat} (h1 : ∀ i, i < m → g i < n) (h2 : ∀ i j, i < j → j < m → g i ≠ g j) : m ≤ n := by
  rcases Nat.lt_or_ge n m with h | h
  · obtain ⟨k, k1, k2⟩ := pigeon n g (fun i hi => h1 i (by omega)) (fun i j hij hj => h2 i j hij (by omega)) (g n) (h1 n h)
    exact absurd k2 (h2 k n k1 h)
  · exact h
theorem closes {n : Nat} {f : Nat → Nat} {a : Nat} (h : ∀ k, itf f k a < n) : ∃ p, 1 ≤ p ∧ itf f p (itf f n a) = itf f n a := by
  by_cases hc : ∃ i j, i < j ∧ j < n + 1 ∧ itf f i a = itf f j a
  · obtain ⟨i, j, hij, hj, he⟩ := hc
    refine ⟨j - i, by omega, ?_⟩
    rw [← itf_add, show j - i + n = (n - i) + j by omega, itf_add, ← he, ← itf_add, show n - i + i = n by omega]
  · have := distinct_le (m := n + 1) (g := fun i => itf f i a) (fun i _ => h i) (fun i j hij hj he => hc ⟨i, j, hij, hj, he⟩)
    omega
theorem period {f : Nat → Nat} {a p : Nat} (h : itf f p a = a) : ∀ q, itf f (p * q) a = a
  | 0 => rfl
  | q + 1 => by rw [Nat.mul_succ, Nat.add_comm, itf_add, period h q, h]
theorem first_back {f : Nat → Nat} {a k p i : Nat} (hp : 1 ≤ p) (hpa : itf f p a = a) (hd : ∀ i j, i < j → j < k → itf f i a ≠ itf f j a) (hi : i < k) (he : itf f k a = itf f i a) : i = 0 := by
  rcases Nat.eq_zero_or_pos i with h | h
  · exact h
  · exfalso
    have hq : i ≤ p * i := Nat.le_mul_of_pos_left i hp
    have h1 := period hpa i
    generalize p * i = q at hq h1
    have h2 : itf f (k - i) a = a := by
      calc itf f (k - i) a = itf f (k - i) (itf f q a) := by rw [h1]
        _ = itf f (q - i) (itf f k a) := by rw [← itf_add, ← itf_add, show k - i + q = q - i + k by omega]
        _ = itf f (q - i) (itf f i a) := by rw [he]
        _ = a := by rw [← itf_add, show q - i + i = q by omega, h1]
    exact hd 0 (k - i) (by omega) (by omega) h2.symm
/-- a is on a circle of k. -/
structure Ring (f : Nat → Nat) (a k : Nat) : Prop where
  pos : 1 ≤ k
  back : itf f k a = a
  dis : ∀ i j, i < j → j < k → itf f i a ≠ itf f j a
theorem Ring.next {f : Nat → Nat} {a k x : Nat} (h : Ring f a k) (hx : ∃ j, j < k ∧ itf f j a = x) : ∃ j, j < k ∧ itf f j a = f x := by
  obtain ⟨j, h1, rfl⟩ := hx
  by_cases hj : j + 1 < k
  · exact ⟨j + 1, hj, rfl⟩
  · refine ⟨0, h.pos, ?_⟩
    have : k = j + 1 := by omega
    subst this
    exact h.back.symm
theorem Ring.inj {f : Nat → Nat} {a k x y : Nat} (h : Ring f a k) (hx : ∃ j, j < k ∧ itf f j a = x) (hy : ∃ j, j < k ∧ itf f j a = y) (he : f x = f y) : x = y := by
  have key : ∀ i j, i < j → j < k → f (itf f i a) ≠ f (itf f j a) := fun i j hij hj he => by
    have he : itf f (i + 1) a = itf f (j + 1) a := he
    by_cases hjk : j + 1 < k
    · exact h.dis (i + 1) (j + 1) (by omega) hjk he
    · have : k = j + 1 := by omega
      subst this
      rw [h.back] at he
      exact h.dis 0 (i + 1) (by omega) (by omega) he.symm
  obtain ⟨i, h1, rfl⟩ := hx
  obtain ⟨j, h2, rfl⟩ := hy
  rcases Nat.lt_trichotomy i j with g | g | g
  · exact absurd he (key i j g h2)
  · rw [g]
  · exact absurd he.symm (key j i g h1)

/-- the first lot of a list that is in a set -/
def fav : List Nat → Nat → Nat
  | [], _ => 0
  | a :: l, L => bif L.testBit a then a else fav l L
theorem fav_eq : ∀ {l : List Nat} {L k y : Nat}, l[k]? = some y → L.testBit y = true → (∀ (j z : Nat), j < k → l[j]? = some z → L.testBit z = false) → fav l L = y
  | [], L, k, y, h, _, _ => by simp at h
  | a :: l, L, 0, y, h, hy, _ => by
    simp at h; subst h
    simp [fav, hy]
  | a :: l, L, k + 1, y, h, hy, hn => by
    have h0 := hn 0 a (by omega) (by simp)
    simp only [fav, h0, cond_false]
    exact fav_eq (k := k) (by simpa using h) hy fun j z hj hz => hn (j + 1) z (by omega) (by simpa using hz)
theorem fav_out : ∀ {l : List Nat} {L : Nat}, (∀ (j z : Nat), l[j]? = some z → L.testBit z = false) → fav l L = 0
  | [], L, _ => rfl
  | a :: l, L, hn => by
    have h0 := hn 0 a (by simp)
    simp only [fav, h0, cond_false]
    exact fav_out fun j z hz => hn (j + 1) z (by simpa using hz)
theorem fav_spec : ∀ {l : List Nat} {L k x : Nat}, l[k]? = some x → L.testBit x = true → L.testBit (fav l L) = true ∧ ∃ k : Nat, l[k]? = some (fav l L) ∧ ∀ (j z : Nat), j < k → l[j]? = some z → L.testBit z = false
  | [], L, k, x, h, _ => by simp at h
  | a :: l, L, k, x, h, hx => by
    cases ha : L.testBit a with
    | true => simp only [fav, ha, cond_true]; exact ⟨trivial, 0, by simp, by omega⟩
    | false =>
      simp only [fav, ha, cond_false]
      cases k with
      | zero => simp at h; subst h; rw [ha] at hx; cases hx
      | succ k =>
        obtain ⟨h1, k', h2, h3⟩ := fav_spec (l := l) (k := k) (by simpa using h) hx
        refine ⟨h1, k' + 1, by simpa using h2, fun j z hj hz => ?_⟩
        cases j with
        | zero => simp at hz; subst hz; exact ha
        | succ j => exact h3 j z (by omega) (by simpa using hz)
theorem fav_lt {l : List Nat} {L k x y : Nat} (h : l[k]? = some x) (hx : L.testBit x = true) (hy : L.testBit y = true) (hne : y ≠ fav l L) : lik l (fav l L) < lik l y := by
  obtain ⟨h1, k', h2, h3⟩ := fav_spec h hx
  have hlt := (List.getElem?_eq_some_iff.1 h2).1
  have a : lik l (fav l L) ≤ k' := by
    rcases Nat.lt_or_ge k' (lik l (fav l L)) with g | g
    · exact absurd h2 (lik_no g)
    · exact g
  have b : k' < lik l y := by
    rcases Nat.lt_or_ge k' (lik l y) with g | g
    · exact g
    · have hat := lik_at (l := l) (x := y) (by omega)
      rcases Nat.lt_or_eq_of_le g with g | g
      · have := h3 _ y g hat; rw [hy] at this; cases this
      · rw [g, h2] at hat
        exact absurd (Option.some.inj hat).symm hne
  omega

/-- A trade by circles: rk is the round in which a trader leaves. -/
def Core (w : List (List Nat)) (tr : List Nat) : Prop := ∃ rk : Nat → Nat, (∀ t, t < w.length → tr.getD t 0 < w.length ∧ rk (tr.getD t 0) = rk t ∧ ∀ x, x < w.length → x ≠ tr.getD t 0 → rk t ≤ rk x → lik (w.getD t []) (tr.getD t 0) < lik (w.getD t []) x) ∧
  ∀ t u, t < w.length → u < w.length → tr.getD t 0 = tr.getD u 0 → t = u
theorem core_own {w : List (List Nat)} {tr : List Nat} (h : Core w tr) {t : Nat} (ht : t < w.length) : lik (w.getD t []) (tr.getD t 0) ≤ lik (w.getD t []) t := by
  obtain ⟨rk, h1, _⟩ := h
  by_cases he : t = tr.getD t 0
  · rw [← he]; exact Nat.le_refl _
  · exact Nat.le_of_lt ((h1 t ht).2.2 t ht he (Nat.le_refl _))
/-- **No group does better.** -/
theorem core_best {w : List (List Nat)} {tr : List Nat} (h : Core w tr) {G : Nat} (hG : ∀ t, G.testBit t = true → t < w.length) : ¬ Can w tr G G false := by
  rintro ⟨σ, s1, s2, s3⟩
  obtain ⟨rk, h1, h2⟩ := h
  have same : ∀ m t, G.testBit t = true → rk t = m → σ t = tr.getD t 0 := by
    intro m
    induction m using Nat.strongRecOn with
    | _ m ih =>
    intro t ht hm
    by_cases hne : σ t = tr.getD t 0
    · exact hne
    exfalso
    obtain ⟨b1, b2⟩ := s1 t ht
    have b2 := (rch_iff.1 b2).2
    have hu := hG _ b1
    have htn := hG t ht
    have hlt : rk (σ t) < rk t := by
      rcases Nat.lt_or_ge (rk (σ t)) (rk t) with g | g
      · exact g
      · have := (h1 t htn).2.2 (σ t) hu hne g
        omega
    -- those of the group that leave with it
    let g : Nat → Nat := fun i => bif G.testBit i && decide (rk i = rk (σ t)) then tr.getD i 0 else i
    have gin : ∀ i, i < w.length → g i < w.length := fun i hi => by
      simp only [g]
      cases G.testBit i && decide (rk i = rk (σ t)) with
      | true => exact (h1 i hi).1
      | false => exact hi
    have tog : ∀ i, (G.testBit i && decide (rk i = rk (σ t))) = true → G.testBit (tr.getD i 0) = true ∧ rk (tr.getD i 0) = rk (σ t) := fun i hi => by
      simp only [Bool.and_eq_true, decide_eq_true_eq] at hi
      have he := ih (rk i) (by omega) i hi.1 rfl
      refine ⟨he ▸ (s1 i hi.1).1, ?_⟩
      rw [(h1 i (hG i hi.1)).2.1]; exact hi.2
    have ginj : ∀ i j, i < j → j < w.length → g i ≠ g j := fun i j hij hj he => by
      simp only [g] at he
      cases hi : (G.testBit i && decide (rk i = rk (σ t))) with
      | true =>
        cases hjb : (G.testBit j && decide (rk j = rk (σ t))) with
        | true =>
          rw [hi, hjb] at he
          have := h2 i j (by omega) hj he
          omega
        | false =>
          rw [hi, hjb] at he
          simp only [cond_true, cond_false] at he
          obtain ⟨c1, c2⟩ := tog i hi
          rw [he] at c1 c2
          simp [c1, c2] at hjb
      | false =>
        cases hjb : (G.testBit j && decide (rk j = rk (σ t))) with
        | true =>
          rw [hi, hjb] at he
          simp only [cond_true, cond_false] at he
          obtain ⟨c1, c2⟩ := tog j hjb
          rw [← he] at c1 c2
          simp [c1, c2] at hi
        | false =>
          rw [hi, hjb] at he
          simp only [cond_false] at he
          omega
    obtain ⟨p, hp, hpe⟩ := pigeon w.length g gin ginj (σ t) hu
    simp only [g] at hpe
    cases hpb : (G.testBit p && decide (rk p = rk (σ t))) with
    | true =>
      rw [hpb] at hpe
      simp only [cond_true] at hpe
      have hpb' := hpb
      simp only [Bool.and_eq_true, decide_eq_true_eq] at hpb'
      have := ih (rk p) (by omega) p hpb'.1 rfl
      rw [hpe] at this
      have := s2 p t hpb'.1 ht this
      subst this
      omega
    | false =>
      rw [hpb] at hpe
      simp only [cond_false] at hpe
      subst hpe
      simp [b1] at hpb
  rcases s3 with s3 | ⟨t, ht, hne⟩
  · cases s3
  · exact hne (same (rk t) t ht rfl)

/-- What is so while the traders of L have not left yet. -/
def Part (w : List (List Nat)) (L : Nat) (s : List Nat) : Prop := ∃ (rk : Nat → Nat) (r : Nat), (∀ t, t < w.length → L.testBit t = false → rk t < r ∧ s.getD t 0 < w.length ∧ L.testBit (s.getD t 0) = false ∧ rk (s.getD t 0) = rk t ∧
    ∀ x, x < w.length → x ≠ s.getD t 0 → (L.testBit x = true ∨ rk t ≤ rk x) → lik (w.getD t []) (s.getD t 0) < lik (w.getD t []) x) ∧
  ∀ t u, t < w.length → u < w.length → L.testBit t = false → L.testBit u = false → s.getD t 0 = s.getD u 0 → t = u
theorem part_end {w : List (List Nat)} {s : List Nat} (h : Part w 0 s) : Core w s := by
  obtain ⟨rk, r, h1, h2⟩ := h
  refine ⟨rk, fun t ht => ?_, fun t u ht hu he => h2 t u ht hu (by simp) (by simp) he⟩
  obtain ⟨a1, a2, a3, a4, a5⟩ := h1 t ht (by simp)
  exact ⟨a2, a4, fun x hx hne hr => a5 x hx hne (.inr hr)⟩
theorem part_step {w : List (List Nat)} {L L' c : Nat} {s s' : List Nat} (hw : WokN w) (hL : ∀ x, L.testBit x = true → x < w.length) (hL' : ∀ x, L'.testBit x = (L.testBit x && !c.testBit x)) (hc : ∀ x, c.testBit x = true → L.testBit x = true)
    (hs : ∀ t, t < w.length → s'.getD t 0 = bif c.testBit t then fav (w.getD t []) L else s.getD t 0)
    (h1 : ∀ x, c.testBit x = true → c.testBit (fav (w.getD x []) L) = true) (h2 : ∀ x y, c.testBit x = true → c.testBit y = true → fav (w.getD x []) L = fav (w.getD y []) L → x = y) (h : Part w L s) : Part w L' s' := by
  obtain ⟨rk, r, p1, p2⟩ := h
  have out : ∀ {t}, L'.testBit t = false → c.testBit t = true ∨ (c.testBit t = false ∧ L.testBit t = false) := fun {t} ht => by
    rw [hL'] at ht
    cases hct : c.testBit t with
    | true => exact .inl rfl
    | false => rw [hct] at ht; simp at ht; exact .inr ⟨rfl, ht⟩
  have notin : ∀ {x}, L.testBit x = false → c.testBit x = false := fun {x} hx => by
    cases hcx : c.testBit x with
    | false => rfl
    | true => rw [hc x hcx] at hx; cases hx
  refine ⟨fun t => bif c.testBit t then r else rk t, r + 1, fun t ht hLt => ?_, fun t u ht hu hLt hLu he => ?_⟩
  · rw [hs t ht]
    rcases out hLt with hct | ⟨hct, hLt⟩
    · have hcf := h1 t hct
      have hft := hL _ (hc _ hcf)
      obtain ⟨k, hk⟩ := all_in (hw.2 t _ (getW ht)) ht
      simp only [hct, cond_true, hcf]
      refine ⟨by omega, hft, by rw [hL', hcf]; simp, trivial, fun x hx hne hor => ?_⟩
      have hLx : L.testBit x = true := by
        rcases hor with ho | ho
        · rw [hL'] at ho; simp at ho; exact ho.1
        · cases hcx : c.testBit x with
          | true => exact hc x hcx
          | false =>
            rw [hcx] at ho
            simp only [cond_false] at ho
            cases hLx : L.testBit x with
            | true => rfl
            | false => have := (p1 x hx hLx).1; omega
      exact fav_lt hk (hc t hct) hLx hne
    · obtain ⟨a1, a2, a3, a4, a5⟩ := p1 t ht hLt
      simp only [hct, cond_false, notin a3]
      refine ⟨by omega, a2, by rw [hL', a3]; simp, a4, fun x hx hne hor => a5 x hx hne ?_⟩
      cases hLx : L.testBit x with
      | true => exact .inl rfl
      | false =>
        right
        rcases hor with ho | ho
        · rw [hL', hLx] at ho; simp at ho
        · rw [notin hLx] at ho; exact ho
  · rw [hs t ht, hs u hu] at he
    rcases out hLt with hct | ⟨hct, hLt⟩ <;> rcases out hLu with hcu | ⟨hcu, hLu⟩
    · rw [hct, hcu] at he; exact h2 t u hct hcu he
    · rw [hct, hcu] at he
      simp only [cond_true, cond_false] at he
      have := (p1 u hu hLu).2.2.1
      rw [← he, hc _ (h1 t hct)] at this; cases this
    · rw [hct, hcu] at he
      simp only [cond_true, cond_false] at he
      have := (p1 t ht hLt).2.2.1
      rw [he, hc _ (h1 u hcu)] at this; cases this
    · rw [hct, hcu] at he; exact p2 t u ht hu hLt hLu he
end Go.Proofs.Ytmddjopahcbefaa
