/- The reference trades by circles, too. -/
import Derived.Test.YtmddjopahcbefaaXTG
namespace Go.Proofs.Ytmddjopahcbefaa
open Go Go.Proofs.Ytmddjopahcbefaa.Clean
set_option linter.unusedVariables false
set_option linter.unusedSimpArgs false
set_option maxRecDepth 10000

/-- How many of the first n. -/
def cnt (p : Nat → Bool) : Nat → Nat
  | 0 => 0
  | n + 1 => cnt p n + (bif p n then 1 else 0)
theorem cnt_le (p : Nat → Bool) : ∀ n, cnt p n ≤ n
  | 0 => Nat.le_refl 0
  | n + 1 => by have := cnt_le p n; simp only [cnt]; cases p n <;> simp <;> omega
theorem cnt_congr {p q : Nat → Bool} : ∀ {n}, (∀ x, x < n → p x = q x) → cnt p n = cnt q n
  | 0, _ => rfl
  | n + 1, h => by simp only [cnt]; rw [cnt_congr (n := n) (fun x hx => h x (by omega)), h n (by omega)]
theorem cnt_pos {p : Nat → Bool} : ∀ {n}, cnt p n ≠ 0 → ∃ x, x < n ∧ p x = true
  | 0, h => absurd rfl h
  | n + 1, h => by
    cases hp : p n with
    | true => exact ⟨n, by omega, hp⟩
    | false =>
      simp only [cnt, hp, cond_false, Nat.add_zero] at h
      obtain ⟨x, h1, h2⟩ := cnt_pos h
      exact ⟨x, by omega, h2⟩
theorem cnt_in {p : Nat → Bool} {x : Nat} (hp : p x = true) : ∀ {n}, x < n → 1 ≤ cnt p n
  | 0, h => by omega
  | n + 1, h => by
    simp only [cnt]
    by_cases hx : x = n
    · subst hx; rw [hp]; simp
    · have := cnt_in hp (n := n) (by omega); omega
theorem cnt_all : ∀ n, cnt (fun _ => true) n = n
  | 0 => rfl
  | n + 1 => by simp [cnt, cnt_all n]
theorem cnt_sub {p q : Nat → Bool} (h : ∀ x, q x = true → p x = true) : ∀ n, cnt (fun x => p x && !q x) n + cnt q n = cnt p n
  | 0 => rfl
  | n + 1 => by
    have ih := cnt_sub h n
    simp only [cnt]
    cases hq : q n with
    | true => rw [h n hq]; simp; omega
    | false => cases p n <;> simp <;> omega
/-- a set of numbers as bits -/
def ofP (p : Nat → Bool) : Nat → Nat
  | 0 => 0
  | n + 1 => bif p n then ofP p n ||| 2 ^ n else ofP p n
theorem ofP_bit (p : Nat → Bool) (x : Nat) : ∀ n, (ofP p n).testBit x = (decide (x < n) && p x)
  | 0 => by simp [ofP]
  | n + 1 => by
    simp only [ofP]
    cases hp : p n with
    | true =>
      rw [cond_true, Nat.testBit_or, Nat.testBit_two_pow, ofP_bit p x n]
      by_cases hx : n = x
      · subst hx; simp [hp]
      · have : decide (x < n + 1) = decide (x < n) := by rw [decide_eq_decide]; omega
        rw [this]; simp [hx]
    | false =>
      rw [cond_false, ofP_bit p x n]
      by_cases hx : n = x
      · subst hx; simp [hp]
      · have : decide (x < n + 1) = decide (x < n) := by rw [decide_eq_decide]; omega
        rw [this]
theorem itf_succ (f : Nat → Nat) (a : Nat) : ∀ k, itf f (k + 1) a = itf f k (f a) := fun k => by
  rw [itf_add]; rfl
/-- on a circle of at most n -/
def Onc (f : Nat → Nat) (n a : Nat) : Prop := ∃ q, 1 ≤ q ∧ q ≤ n ∧ itf f q a = a
theorem onc_next {f : Nat → Nat} {n a : Nat} (h : Onc f n a) : Onc f n (f a) := by
  obtain ⟨q, h1, h2, h3⟩ := h
  exact ⟨q, h1, h2, by rw [← itf_succ]; show f (itf f q a) = f a; rw [h3]⟩
theorem onc_inj {f : Nat → Nat} {n a b : Nat} (ha : Onc f n a) (hb : Onc f n b) (he : f a = f b) : a = b := by
  obtain ⟨q, q1, _, q3⟩ := ha
  obtain ⟨u, u1, _, u3⟩ := hb
  have e1 := period q3 u
  have e2 := period u3 q
  rw [Nat.mul_comm] at e2
  obtain ⟨N, hN⟩ : ∃ N, q * u = N + 1 := ⟨q * u - 1, by have := Nat.mul_pos q1 u1; omega⟩
  rw [hN, itf_succ] at e1 e2
  rw [← e1, ← e2, he]
theorem onc_some {f : Nat → Nat} {n a : Nat} (h : ∀ k, itf f k a < n) : Onc f n (itf f n a) := by
  by_cases hc : ∃ i j, i < j ∧ j < n + 1 ∧ itf f i a = itf f j a
  · obtain ⟨i, j, hij, hj, he⟩ := hc
    refine ⟨j - i, by omega, by omega, ?_⟩
    rw [← itf_add, show j - i + n = (n - i) + j by omega, itf_add, ← he, ← itf_add, show n - i + i = n by omega]
  · have := distinct_le (m := n + 1) (g := fun i => itf f i a) (fun i _ => h i) (fun i j hij hj he => hc ⟨i, j, hij, hj, he⟩)
    omega

theorem set_bl (l : List Bool) (i : Nat) (x : Bool) : (bl l).set i [bv x] = bl (l.set i x) := by simp [bl, List.map_set]
theorem nn_get0 {l : List Nat} {m x : Nat} (h : l[m]? = some x) : (nn l)[0 + m]? = some [iv (x : Int)] := by rw [Nat.zero_add]; exact nn_get h
theorem nel0 {l : List Nat} {i x : Nat} {k : Int → Prop} (h : l[i]? = some x) (hk : k (x : Int)) : onSome (nn l)[0 + i]? fun row => onSome row[0]? fun v => onIntK IntKind.i64 v fun n => k n := by rw [Nat.zero_add]; exact nel h hk
theorem getB' {l : List Bool} {i : Nat} (h : i < l.length) : l[i]? = some (l.getD i false) := by simp [List.getD, h]
theorem getD_setB {l : List Bool} {i j : Nat} {x : Bool} (hi : i < l.length) : (l.set i x).getD j false = if i = j then x else l.getD j false := by
  by_cases h : i = j
  · subst h; simp [List.getD, List.getElem?_set_self hi]
  · simp [List.getD, List.getElem?_set_ne h, h]
theorem getD_setN {l : List Nat} {i j x : Nat} (hi : i < l.length) : (l.set i x).getD j 0 = if i = j then x else l.getD j 0 := by
  by_cases h : i = j
  · subst h; simp [List.getD, List.getElem?_set_self hi]
  · simp [List.getD, List.getElem?_set_ne h, h]
theorem wishesN {w : List (List Nat)} {R : V → Prop} (hw : WokN w) (h : R (bv true)) : K0G Try.prog glX 86 [.lst 1 (wn w)] R := by
  rw [← wl_of]
  exact wishes15 (fun _ => h) (fun hn => absurd (wok_of.2 hw) hn)
theorem trade32 {w : List (List Nat)} {R : V → Prop} (hw : WokN w) (h : ∀ t : List Nat, t.length = w.length → Core w t → R (.tup [.lst 1 (nn t), iv 0])) : K0G Try.prog glX 32 [.lst 1 (wn w)] R := by
  refine K0_of_WY0 hmX hcM 100 Try.func32 (see (p := K0G Try.prog glX 86 [V.lst 1 (wn w)] fun v => onBool v fun b => ifB (!b) (R (V.tup [nilS, iv (2 : Int)])) (need ((wn w).length ≤ (wn w).length) (need (8 * (wn w).length ≤ 140737488355328) (need ((wn w).length ≤ 9223372036854775807) (need ((wn w).length ≤ (wn w).length) (need (1 * (wn w).length ≤ 140737488355328) (need ((wn w).length ≤ 9223372036854775807) (La 0 [(0 : Tmp), (4 : Tmp), (5 : Tmp), (6 : Tmp), (7 : Tmp)] (WY Try.prog cfM 91 (Env.mk (Bs.mk 0 []) 0 none 121 32 0) (cdAt [1, 1, 1, 1, 1, 0, 1, 0, 0] (bodyOf Try.f32))) (Qblk 0 (Qthen (WY Try.prog cfM 94 (Env.mk (Bs.mk 0 []) 0 none 121 32 0) (cdAt [1, 1, 1, 1, 1, 1] (bodyOf Try.f32)) (QendX Try.prog Try.f32 fun v h => R (frzW h v))) (QendX Try.prog Try.f32 fun v h => R (frzW h v)))) (St.mk (mkT [(0, V.lst 1 (wn w)), (4, iv (↑(wn w).length : Int)), (5, V.sl (Id.p 0) 0 (wn w).length), (6, V.sl (Id.p 1) 0 (wn w).length), (7, iv (↑(wn w).length : Int))]) (Hp.mk [(0, O.rows 1 true (List.replicate (wn w).length [iv (0 : Int)])), (1, O.rows 1 true (List.replicate (wn w).length [bv false]))] 2 [])))))))))) (by kernel_rfl) ?_)
  obtain ⟨hw1, hw2⟩ := hw
  rw [wn_length]
  refine wishesN ⟨hw1, hw2⟩ (onBool_bv (ifB_f rfl ?_))
  refine need_mk ⟨Nat.le_refl _, need_mk ⟨by omega, need_mk ⟨by omega, need_mk ⟨Nat.le_refl _, need_mk ⟨by omega, need_mk ⟨by omega, ?_⟩⟩⟩⟩⟩⟩
  have h8 : 2 ^ w.length ≤ 2 ^ 8 := Nat.pow_le_pow_right (by omega) hw1.2
  refine La.of (σ := List Nat × List Bool × Nat) (fun q => sh32 w q.1 q.2.1 q.2.2) (fun q => ∃ L, L < 2 ^ w.length ∧ q.1.length = w.length ∧ q.2.1.length = w.length ∧ (∀ x, x < w.length → q.2.1.getD x false = !L.testBit x) ∧ q.2.2 = cnt L.testBit w.length ∧ Part w L q.1) (fun q => q.2.2) (List.replicate w.length 0, List.replicate w.length false, w.length) (by simp [sh32, nn, bl]) ⟨2 ^ w.length - 1, by have := Nat.two_pow_pos w.length; omega, by simp, by simp, fun x hx => by simp [List.getD, hx, Nat.testBit_two_pow_sub_one], ?_, fun _ => 0, 0, fun t ht hL => ?_, fun t u ht hu hL => ?_⟩ ?_
  · simp only
    rw [cnt_congr (q := fun _ => true) (fun x hx => by rw [Nat.testBit_two_pow_sub_one]; simp [hx]), cnt_all]
  · simp only [Nat.testBit_two_pow_sub_one, decide_eq_false_iff_not] at hL; exact absurd ht hL
  · simp only [Nat.testBit_two_pow_sub_one, decide_eq_false_iff_not] at hL; exact absurd ht hL
  rintro ⟨s, g, c⟩ ⟨L, hL, hs, hg, hgL, hcL, hP⟩ J hJ
  simp only at hs hg hgL hcL hP
  have h256 : L < 256 := Nat.lt_of_lt_of_le hL h8
  have hLn : ∀ x, L.testBit x = true → x < w.length := fun x hx => (Nat.pow_lt_pow_iff_right (a := 2) (by omega)).1 (Nat.lt_of_le_of_lt (Nat.ge_two_pow_of_testBit hx) hL)
  refine see (p := ifB (decide ((↑c : Int) > (0 : Int))) (need (w.length ≤ w.length) (need (8 * w.length ≤ 140737488355328) (need (w.length ≤ 9223372036854775807) (La 0 [(0 : Tmp), (4 : Tmp), (5 : Tmp), (6 : Tmp), (7 : Tmp), (8 : Tmp), (9 : Tmp)] (WY Try.prog cfM 84 (Env.mk (Bs.mk 0 []) 0 none 121 32 2) (cdAt [1, 1, 1, 1, 1, 0, 1, 0, 0, 1, 0, 1, 0, 1, 0, 0] (bodyOf Try.f32))) (Qblk 2 (Qthen (WY Try.prog cfM 87 (Env.mk (Bs.mk 0 []) 0 none 121 32 1) (cdAt [1, 1, 1, 1, 1, 0, 1, 0, 0, 1, 0, 1, 1] (bodyOf Try.f32)) (Qblk 1 (Qla 0 [(0 : Tmp), (4 : Tmp), (5 : Tmp), (6 : Tmp), (7 : Tmp)] J (Qblk 0 (Qthen (WY Try.prog cfM 94 (Env.mk (Bs.mk 0 []) 0 none 121 32 0) (cdAt [1, 1, 1, 1, 1, 1] (bodyOf Try.f32)) (QendX Try.prog Try.f32 fun v h => R (frzW h v))) (QendX Try.prog Try.f32 fun v h => R (frzW h v))))))) (Qblk 1 (Qla 0 [(0 : Tmp), (4 : Tmp), (5 : Tmp), (6 : Tmp), (7 : Tmp)] J (Qblk 0 (Qthen (WY Try.prog cfM 94 (Env.mk (Bs.mk 0 []) 0 none 121 32 0) (cdAt [1, 1, 1, 1, 1, 1] (bodyOf Try.f32)) (QendX Try.prog Try.f32 fun v h => R (frzW h v))) (QendX Try.prog Try.f32 fun v h => R (frzW h v)))))))) (St.mk (mkT [(0, V.lst 1 (wn w)), (4, iv (↑w.length : Int)), (5, V.sl (Id.p 0) 0 w.length), (6, V.sl (Id.p 1) 0 w.length), (7, iv (↑c : Int)), (8, V.sl (Id.p 2) 0 w.length), (9, iv (0 : Int))]) (Hp.mk [(0, O.rows 1 true (nn s)), (1, O.rows 1 true (bl g)), (2, O.rows 1 true (List.replicate w.length [iv (0 : Int)]))] 3 [])))))) (R (V.tup [V.lst 1 (sub (nn s) 0 w.length), iv (0 : Int)]))) (by kernel_rfl) ?_
  refine ifB_mk (fun hb => ?_) (fun hb => ?_)
  rotate_left
  · have hc0 : c = 0 := by have := of_decide_eq_false hb; omega
    have hL0 : L = 0 := by
      apply Nat.eq_of_testBit_eq
      intro x
      rw [Nat.zero_testBit]
      cases hx : L.testBit x with
      | false => rfl
      | true => have := cnt_in (p := L.testBit) hx (hLn x hx); omega
    subst hL0
    rw [sub_all hs]
    exact h s hs (part_end hP)
  have hc0 : cnt L.testBit w.length ≠ 0 := by have := of_decide_eq_true hb; omega
  obtain ⟨a0, ha0, ha0L⟩ := cnt_pos hc0
  have hcn : c ≤ w.length := by rw [hcL]; exact cnt_le _ _
  clear hb
  refine need_mk ⟨Nat.le_refl _, need_mk ⟨by omega, need_mk ⟨by omega, ?_⟩⟩⟩
  let f : Nat → Nat := fun t => fav (w.getD t []) L
  have toL : ∀ t, t < w.length → L.testBit (f t) = true := fun t ht => by
    obtain ⟨k, hk⟩ := all_in (hw2 t _ (getW ht)) ha0
    exact (fav_spec hk ha0L).1
  have itL : ∀ k a, L.testBit a = true → L.testBit (itf f k a) = true := fun k a ha => by
    induction k with
    | zero => exact ha
    | succ k ih => exact toL _ (hLn _ ih)
  -- where each points to
  refine La.of (σ := List Nat × Nat) (fun q => sh32p w s g c q.1 q.2) (fun q => q.2 ≤ w.length ∧ q.1.length = w.length ∧ ∀ j, j < q.2 → q.1.getD j 0 = f j) (fun q => w.length - q.2) (List.replicate w.length 0, 0) (by simp [sh32p, nn]) ⟨by simp, by simp, by simp⟩ ?_
  rintro ⟨p, i⟩ ⟨hi, hp, hpf⟩ I hI
  simp only at hi hp hpf
  refine see (p := ifB (decide ((↑i : Int) < (↑w.length : Int))) (La 0 [(0 : Tmp), (4 : Tmp), (5 : Tmp), (6 : Tmp), (7 : Tmp), (8 : Tmp), (9 : Tmp), (10 : Tmp)] (WY Try.prog cfM 77 (Env.mk (Bs.mk 0 []) 0 none 121 32 4) (cdAt [1, 1, 1, 1, 1, 0, 1, 0, 0, 1, 0, 1, 0, 1, 0, 0, 1, 0, 0, 1, 0, 0, 0] (bodyOf Try.f32))) (Qblk 4 (Qthen (WY Try.prog cfM 79 (Env.mk (Bs.mk 0 []) 0 none 121 32 3) (cdAt [1, 1, 1, 1, 1, 0, 1, 0, 0, 1, 0, 1, 0, 1, 0, 0, 1, 0, 0, 1, 1] (bodyOf Try.f32)) (Qblk 3 (Qthen (WY Try.prog cfM 82 (Env.mk (Bs.mk 0 []) 0 none 121 32 2) (cdAt [1, 1, 1, 1, 1, 0, 1, 0, 0, 1, 0, 1, 0, 1, 0, 0, 1, 1] (bodyOf Try.f32)) (Qla 0 [(0 : Tmp), (4 : Tmp), (5 : Tmp), (6 : Tmp), (7 : Tmp), (8 : Tmp), (9 : Tmp)] I (Qblk 2 (Qthen (WY Try.prog cfM 87 (Env.mk (Bs.mk 0 []) 0 none 121 32 1) (cdAt [1, 1, 1, 1, 1, 0, 1, 0, 0, 1, 0, 1, 1] (bodyOf Try.f32)) (Qblk 1 (Qla 0 [(0 : Tmp), (4 : Tmp), (5 : Tmp), (6 : Tmp), (7 : Tmp)] J (Qblk 0 (Qthen (WY Try.prog cfM 94 (Env.mk (Bs.mk 0 []) 0 none 121 32 0) (cdAt [1, 1, 1, 1, 1, 1] (bodyOf Try.f32)) (QendX Try.prog Try.f32 fun v h => R (frzW h v))) (QendX Try.prog Try.f32 fun v h => R (frzW h v))))))) (Qblk 1 (Qla 0 [(0 : Tmp), (4 : Tmp), (5 : Tmp), (6 : Tmp), (7 : Tmp)] J (Qblk 0 (Qthen (WY Try.prog cfM 94 (Env.mk (Bs.mk 0 []) 0 none 121 32 0) (cdAt [1, 1, 1, 1, 1, 1] (bodyOf Try.f32)) (QendX Try.prog Try.f32 fun v h => R (frzW h v))) (QendX Try.prog Try.f32 fun v h => R (frzW h v)))))))))) (Qla 0 [(0 : Tmp), (4 : Tmp), (5 : Tmp), (6 : Tmp), (7 : Tmp), (8 : Tmp), (9 : Tmp)] I (Qblk 2 (Qthen (WY Try.prog cfM 87 (Env.mk (Bs.mk 0 []) 0 none 121 32 1) (cdAt [1, 1, 1, 1, 1, 0, 1, 0, 0, 1, 0, 1, 1] (bodyOf Try.f32)) (Qblk 1 (Qla 0 [(0 : Tmp), (4 : Tmp), (5 : Tmp), (6 : Tmp), (7 : Tmp)] J (Qblk 0 (Qthen (WY Try.prog cfM 94 (Env.mk (Bs.mk 0 []) 0 none 121 32 0) (cdAt [1, 1, 1, 1, 1, 1] (bodyOf Try.f32)) (QendX Try.prog Try.f32 fun v h => R (frzW h v))) (QendX Try.prog Try.f32 fun v h => R (frzW h v))))))) (Qblk 1 (Qla 0 [(0 : Tmp), (4 : Tmp), (5 : Tmp), (6 : Tmp), (7 : Tmp)] J (Qblk 0 (Qthen (WY Try.prog cfM 94 (Env.mk (Bs.mk 0 []) 0 none 121 32 0) (cdAt [1, 1, 1, 1, 1, 1] (bodyOf Try.f32)) (QendX Try.prog Try.f32 fun v h => R (frzW h v))) (QendX Try.prog Try.f32 fun v h => R (frzW h v)))))))))))) (Qblk 3 (Qthen (WY Try.prog cfM 82 (Env.mk (Bs.mk 0 []) 0 none 121 32 2) (cdAt [1, 1, 1, 1, 1, 0, 1, 0, 0, 1, 0, 1, 0, 1, 0, 0, 1, 1] (bodyOf Try.f32)) (Qla 0 [(0 : Tmp), (4 : Tmp), (5 : Tmp), (6 : Tmp), (7 : Tmp), (8 : Tmp), (9 : Tmp)] I (Qblk 2 (Qthen (WY Try.prog cfM 87 (Env.mk (Bs.mk 0 []) 0 none 121 32 1) (cdAt [1, 1, 1, 1, 1, 0, 1, 0, 0, 1, 0, 1, 1] (bodyOf Try.f32)) (Qblk 1 (Qla 0 [(0 : Tmp), (4 : Tmp), (5 : Tmp), (6 : Tmp), (7 : Tmp)] J (Qblk 0 (Qthen (WY Try.prog cfM 94 (Env.mk (Bs.mk 0 []) 0 none 121 32 0) (cdAt [1, 1, 1, 1, 1, 1] (bodyOf Try.f32)) (QendX Try.prog Try.f32 fun v h => R (frzW h v))) (QendX Try.prog Try.f32 fun v h => R (frzW h v))))))) (Qblk 1 (Qla 0 [(0 : Tmp), (4 : Tmp), (5 : Tmp), (6 : Tmp), (7 : Tmp)] J (Qblk 0 (Qthen (WY Try.prog cfM 94 (Env.mk (Bs.mk 0 []) 0 none 121 32 0) (cdAt [1, 1, 1, 1, 1, 1] (bodyOf Try.f32)) (QendX Try.prog Try.f32 fun v h => R (frzW h v))) (QendX Try.prog Try.f32 fun v h => R (frzW h v)))))))))) (Qla 0 [(0 : Tmp), (4 : Tmp), (5 : Tmp), (6 : Tmp), (7 : Tmp), (8 : Tmp), (9 : Tmp)] I (Qblk 2 (Qthen (WY Try.prog cfM 87 (Env.mk (Bs.mk 0 []) 0 none 121 32 1) (cdAt [1, 1, 1, 1, 1, 0, 1, 0, 0, 1, 0, 1, 1] (bodyOf Try.f32)) (Qblk 1 (Qla 0 [(0 : Tmp), (4 : Tmp), (5 : Tmp), (6 : Tmp), (7 : Tmp)] J (Qblk 0 (Qthen (WY Try.prog cfM 94 (Env.mk (Bs.mk 0 []) 0 none 121 32 0) (cdAt [1, 1, 1, 1, 1, 1] (bodyOf Try.f32)) (QendX Try.prog Try.f32 fun v h => R (frzW h v))) (QendX Try.prog Try.f32 fun v h => R (frzW h v))))))) (Qblk 1 (Qla 0 [(0 : Tmp), (4 : Tmp), (5 : Tmp), (6 : Tmp), (7 : Tmp)] J (Qblk 0 (Qthen (WY Try.prog cfM 94 (Env.mk (Bs.mk 0 []) 0 none 121 32 0) (cdAt [1, 1, 1, 1, 1, 1] (bodyOf Try.f32)) (QendX Try.prog Try.f32 fun v h => R (frzW h v))) (QendX Try.prog Try.f32 fun v h => R (frzW h v))))))))))))) (St.mk (mkT [(0, V.lst 1 (wn w)), (4, iv (↑w.length : Int)), (5, V.sl (Id.p 0) 0 w.length), (6, V.sl (Id.p 1) 0 w.length), (7, iv (↑c : Int)), (8, V.sl (Id.p 2) 0 w.length), (9, iv (↑i : Int)), (10, iv (0 : Int))]) (Hp.mk [(0, O.rows 1 true (nn s)), (1, O.rows 1 true (bl g)), (2, O.rows 1 true (nn p))] 3 []))) (need (w.length ≤ w.length) (need (1 * w.length ≤ 140737488355328) (need (w.length ≤ 9223372036854775807) (La 0 [(0 : Tmp), (4 : Tmp), (5 : Tmp), (6 : Tmp), (7 : Tmp), (8 : Tmp), (11 : Tmp), (12 : Tmp)] (WY Try.prog cfM 82 (Env.mk (Bs.mk 0 []) 0 none 121 32 6) (cdAt [1, 1, 1, 1, 1, 0, 1, 0, 0, 1, 0, 1, 1, 1, 0, 1, 0, 0] (bodyOf Try.f32))) (Qblk 6 (Qthen (WY Try.prog cfM 85 (Env.mk (Bs.mk 0 []) 0 none 121 32 1) (cdAt [1, 1, 1, 1, 1, 0, 1, 0, 0, 1, 0, 1, 1, 1, 1] (bodyOf Try.f32)) (Qblk 1 (Qla 0 [(0 : Tmp), (4 : Tmp), (5 : Tmp), (6 : Tmp), (7 : Tmp)] J (Qblk 0 (Qthen (WY Try.prog cfM 94 (Env.mk (Bs.mk 0 []) 0 none 121 32 0) (cdAt [1, 1, 1, 1, 1, 1] (bodyOf Try.f32)) (QendX Try.prog Try.f32 fun v h => R (frzW h v))) (QendX Try.prog Try.f32 fun v h => R (frzW h v))))))) (Qblk 1 (Qla 0 [(0 : Tmp), (4 : Tmp), (5 : Tmp), (6 : Tmp), (7 : Tmp)] J (Qblk 0 (Qthen (WY Try.prog cfM 94 (Env.mk (Bs.mk 0 []) 0 none 121 32 0) (cdAt [1, 1, 1, 1, 1, 1] (bodyOf Try.f32)) (QendX Try.prog Try.f32 fun v h => R (frzW h v))) (QendX Try.prog Try.f32 fun v h => R (frzW h v)))))))) (St.mk (mkT [(0, V.lst 1 (wn w)), (4, iv (↑w.length : Int)), (5, V.sl (Id.p 0) 0 w.length), (6, V.sl (Id.p 1) 0 w.length), (7, iv (↑c : Int)), (8, V.sl (Id.p 2) 0 w.length), (11, V.sl (Id.p 3) 0 w.length), (12, iv (0 : Int))]) (Hp.mk [(0, O.rows 1 true (nn s)), (1, O.rows 1 true (bl g)), (2, O.rows 1 true (nn p)), (3, O.rows 1 true (List.replicate w.length [bv false]))] 4 []))))))) (by kernel_rfl) ?_
  refine ifB_mk (fun hb => ?_) (fun hb => ?_)
  · have hlt : i < w.length := by have := of_decide_eq_true hb; omega
    have hwi := getW hlt
    generalize hl : w.getD i [] = l at hwi
    obtain ⟨hl1, hl2, hl3⟩ := hw2 i l hwi
    obtain ⟨k0, hk0⟩ := all_in ⟨hl1, hl2, hl3⟩ ha0
    have hk0n := (List.getElem?_eq_some_iff.1 hk0).1
    refine La.of (σ := Nat) (fun k => sh32k w s g c p i k) (fun k => k < w.length ∧ ∀ (j z : Nat), j < k → l[j]? = some z → L.testBit z = false) (fun k => w.length - k) 0 (by kernel_rfl) ⟨by omega, by omega⟩ ?_
    rintro k ⟨hk, hk1⟩ H hH
    refine see (p := onSome (wn w)[i]? fun row => onSome row[0]? fun v => onLst v fun s_1 es => need (s_1 = 1) (onSome es[k]? fun row => onSome row[0]? fun v => onIntK IntKind.i64 v fun n => onNat n fun m => need (m < w.length) (onSome (bl g)[0 + m]? fun row => onSome row[0]? fun v => onBool v fun b => ifB b (ifB (decide ((↑k : Int) < IntKind.i64.wrap ((↑w.length : Int) - (1 : Int)))) (H (St.mk (mkT [(0, V.lst 1 (wn w)), (4, iv (↑w.length : Int)), (5, V.sl (Id.p 0) 0 w.length), (6, V.sl (Id.p 1) 0 w.length), (7, iv (↑c : Int)), (8, V.sl (Id.p 2) 0 w.length), (9, iv (↑i : Int)), (10, iv (IntKind.i64.wrap ((↑k : Int) + (1 : Int))))]) (Hp.mk [(0, O.rows 1 true (nn s)), (1, O.rows 1 true (bl g)), (2, O.rows 1 true (nn p))] 3 []))) (onSome (wn w)[i]? fun row => onSome row[0]? fun v => onLst v fun s_2 es => need (s_2 = 1) (onSome es[k]? fun row => onSome row[0]? fun v => onIntK IntKind.i64 v fun n => need (i < w.length) (onSome (nn p)[0 + i]? fun row => guardB ((0 + 1).ble row.length) (I (St.mk (mkT [(0, V.lst 1 (wn w)), (4, iv (↑w.length : Int)), (5, V.sl (Id.p 0) 0 w.length), (6, V.sl (Id.p 1) 0 w.length), (7, iv (↑c : Int)), (8, V.sl (Id.p 2) 0 w.length), (9, iv (IntKind.i64.wrap ((↑i : Int) + (1 : Int))))]) (Hp.mk [(0, O.rows 1 true (nn s)), (1, O.rows 1 true (bl g)), (2, O.rows 1 true ((nn p).set (0 + i) (iv n :: (List.append ([] : List V)) (List.drop 1 row))))] 3 []))))))) (onSome (wn w)[i]? fun row => onSome row[0]? fun v => onLst v fun s_2 es => need (s_2 = 1) (onSome es[k]? fun row => onSome row[0]? fun v => onIntK IntKind.i64 v fun n => need (i < w.length) (onSome (nn p)[0 + i]? fun row => guardB ((0 + 1).ble row.length) (I (St.mk (mkT [(0, V.lst 1 (wn w)), (4, iv (↑w.length : Int)), (5, V.sl (Id.p 0) 0 w.length), (6, V.sl (Id.p 1) 0 w.length), (7, iv (↑c : Int)), (8, V.sl (Id.p 2) 0 w.length), (9, iv (IntKind.i64.wrap ((↑i : Int) + (1 : Int))))]) (Hp.mk [(0, O.rows 1 true (nn s)), (1, O.rows 1 true (bl g)), (2, O.rows 1 true ((nn p).set (0 + i) (iv n :: (List.append ([] : List V)) (List.drop 1 row))))] 3 []))))))))) (by kernel_rfl) ?_
    obtain ⟨x, hx⟩ : ∃ x, l[k]? = some x := ⟨l.getD k 0, getN (by omega)⟩
    have hxn := hl2 k x hx
    have hgx : g[x]? = some (!L.testBit x) := by rw [← hgL x hxn]; exact getB' (by omega)
    refine wel hwi (need_mk ⟨rfl, nel hx (onNat_c (need_mk ⟨hxn, onSome_mk (bl_get hgx) (onBool_bv (ifB_mk (fun hb => ?_) (fun hb => ?_)))⟩))⟩)
    · have hxL : L.testBit x = false := by simpa using hb
      have hkk : ∀ (j z : Nat), j < k + 1 → l[j]? = some z → L.testBit z = false := fun j z hj hz => by
        rcases Nat.lt_succ_iff_lt_or_eq.1 hj with q | q
        · exact hk1 j z q hz
        · subst q; rw [hx] at hz; cases hz; exact hxL
      have hkn : k + 1 < w.length := by
        rcases Nat.lt_or_ge k0 (k + 1) with q | q
        · have := hkk k0 a0 q hk0; rw [ha0L] at this; cases this
        · omega
      rw [wr (by omega) (by omega)]
      refine ifB_t (decide_eq_true (by omega)) ?_
      rw [wr1 hk (by omega)]
      exact hH (k + 1) ⟨hkn, hkk⟩ (by omega)
    · have hxL : L.testBit x = true := by simpa using hb
      have hfx : fav l L = x := fav_eq hx hxL hk1
      obtain ⟨z, hz⟩ : ∃ z, p[i]? = some z := ⟨p.getD i 0, getN (by omega)⟩
      refine wel hwi (need_mk ⟨rfl, nel hx (need_mk ⟨hlt, onSome_mk (nn_get0 hz) (guardB_mk rfl ?_)⟩)⟩)
      rw [show iv (x : Int) :: (List.append ([] : List V)) (List.drop 1 [iv (z : Int)]) = [iv (x : Int)] from rfl, Nat.zero_add, set_nn, wr1 hlt (by omega)]
      refine hI (p.set i x, i + 1) ⟨hlt, by simp [hp], fun j hj => ?_⟩ (by simp only; omega)
      simp only
      rw [getD_setN (by omega)]
      by_cases hij : i = j
      · subst hij; simp only [if_true, f]; rw [hl, hfx]
      · rw [if_neg hij]; exact hpf j (by simp only at hj; omega)
  have hiw : i = w.length := by have := of_decide_eq_false hb; omega
  subst hiw
  clear hI hb hi
  refine need_mk ⟨Nat.le_refl _, need_mk ⟨by omega, need_mk ⟨by omega, ?_⟩⟩⟩
  -- who is on a circle
  refine La.of (σ := List Bool × Nat) (fun q => sh32o w s g c p q.1 q.2) (fun q => q.2 ≤ w.length ∧ q.1.length = w.length ∧ ∀ j, j < w.length → (q.1.getD j false = true ↔ j < q.2 ∧ L.testBit j = true ∧ Onc f w.length j)) (fun q => w.length - q.2) (List.replicate w.length false, 0) (by simp [sh32o, bl]) ⟨by simp, by simp, fun j hj => by simp [List.getD, hj]⟩ ?_
  rintro ⟨o, i⟩ ⟨hi, ho, hoc⟩ K hK
  simp only at hi ho hoc
  refine see (p := ifB (decide ((↑i : Int) < (↑w.length : Int))) (La 0 [(0 : Tmp), (4 : Tmp), (5 : Tmp), (6 : Tmp), (7 : Tmp), (8 : Tmp), (11 : Tmp), (12 : Tmp), (13 : Tmp), (14 : Tmp)] (WY Try.prog cfM 75 (Env.mk (Bs.mk 0 []) 0 none 121 32 8) (cdAt [1, 1, 1, 1, 1, 0, 1, 0, 0, 1, 0, 1, 1, 1, 0, 1, 0, 0, 1, 0, 0, 1, 1, 0, 0] (bodyOf Try.f32))) (Qblk 8 (Qblk 7 (Qthen (WY Try.prog cfM 80 (Env.mk (Bs.mk 0 []) 0 none 121 32 6) (cdAt [1, 1, 1, 1, 1, 0, 1, 0, 0, 1, 0, 1, 1, 1, 0, 1, 0, 0, 1, 1] (bodyOf Try.f32)) (Qla 0 [(0 : Tmp), (4 : Tmp), (5 : Tmp), (6 : Tmp), (7 : Tmp), (8 : Tmp), (11 : Tmp), (12 : Tmp)] K (Qblk 6 (Qthen (WY Try.prog cfM 85 (Env.mk (Bs.mk 0 []) 0 none 121 32 1) (cdAt [1, 1, 1, 1, 1, 0, 1, 0, 0, 1, 0, 1, 1, 1, 1] (bodyOf Try.f32)) (Qblk 1 (Qla 0 [(0 : Tmp), (4 : Tmp), (5 : Tmp), (6 : Tmp), (7 : Tmp)] J (Qblk 0 (Qthen (WY Try.prog cfM 94 (Env.mk (Bs.mk 0 []) 0 none 121 32 0) (cdAt [1, 1, 1, 1, 1, 1] (bodyOf Try.f32)) (QendX Try.prog Try.f32 fun v h => R (frzW h v))) (QendX Try.prog Try.f32 fun v h => R (frzW h v))))))) (Qblk 1 (Qla 0 [(0 : Tmp), (4 : Tmp), (5 : Tmp), (6 : Tmp), (7 : Tmp)] J (Qblk 0 (Qthen (WY Try.prog cfM 94 (Env.mk (Bs.mk 0 []) 0 none 121 32 0) (cdAt [1, 1, 1, 1, 1, 1] (bodyOf Try.f32)) (QendX Try.prog Try.f32 fun v h => R (frzW h v))) (QendX Try.prog Try.f32 fun v h => R (frzW h v)))))))))) (Qla 0 [(0 : Tmp), (4 : Tmp), (5 : Tmp), (6 : Tmp), (7 : Tmp), (8 : Tmp), (11 : Tmp), (12 : Tmp)] K (Qblk 6 (Qthen (WY Try.prog cfM 85 (Env.mk (Bs.mk 0 []) 0 none 121 32 1) (cdAt [1, 1, 1, 1, 1, 0, 1, 0, 0, 1, 0, 1, 1, 1, 1] (bodyOf Try.f32)) (Qblk 1 (Qla 0 [(0 : Tmp), (4 : Tmp), (5 : Tmp), (6 : Tmp), (7 : Tmp)] J (Qblk 0 (Qthen (WY Try.prog cfM 94 (Env.mk (Bs.mk 0 []) 0 none 121 32 0) (cdAt [1, 1, 1, 1, 1, 1] (bodyOf Try.f32)) (QendX Try.prog Try.f32 fun v h => R (frzW h v))) (QendX Try.prog Try.f32 fun v h => R (frzW h v))))))) (Qblk 1 (Qla 0 [(0 : Tmp), (4 : Tmp), (5 : Tmp), (6 : Tmp), (7 : Tmp)] J (Qblk 0 (Qthen (WY Try.prog cfM 94 (Env.mk (Bs.mk 0 []) 0 none 121 32 0) (cdAt [1, 1, 1, 1, 1, 1] (bodyOf Try.f32)) (QendX Try.prog Try.f32 fun v h => R (frzW h v))) (QendX Try.prog Try.f32 fun v h => R (frzW h v)))))))))))) (St.mk (mkT [(0, V.lst 1 (wn w)), (4, iv (↑w.length : Int)), (5, V.sl (Id.p 0) 0 w.length), (6, V.sl (Id.p 1) 0 w.length), (7, iv (↑c : Int)), (8, V.sl (Id.p 2) 0 w.length), (11, V.sl (Id.p 3) 0 w.length), (12, iv (↑i : Int)), (13, iv (↑i : Int)), (14, iv (0 : Int))]) (Hp.mk [(0, O.rows 1 true (nn s)), (1, O.rows 1 true (bl g)), (2, O.rows 1 true (nn p)), (3, O.rows 1 true (bl o))] 4 []))) (La 0 [(0 : Tmp), (4 : Tmp), (5 : Tmp), (6 : Tmp), (7 : Tmp), (8 : Tmp), (11 : Tmp), (15 : Tmp)] (WY Try.prog cfM 82 (Env.mk (Bs.mk 0 []) 0 none 121 32 10) (cdAt [1, 1, 1, 1, 1, 0, 1, 0, 0, 1, 0, 1, 1, 1, 1, 1, 0, 0] (bodyOf Try.f32))) (Qblk 10 (Qblk 1 (Qla 0 [(0 : Tmp), (4 : Tmp), (5 : Tmp), (6 : Tmp), (7 : Tmp)] J (Qblk 0 (Qthen (WY Try.prog cfM 94 (Env.mk (Bs.mk 0 []) 0 none 121 32 0) (cdAt [1, 1, 1, 1, 1, 1] (bodyOf Try.f32)) (QendX Try.prog Try.f32 fun v h => R (frzW h v))) (QendX Try.prog Try.f32 fun v h => R (frzW h v))))))) (St.mk (mkT [(0, V.lst 1 (wn w)), (4, iv (↑w.length : Int)), (5, V.sl (Id.p 0) 0 w.length), (6, V.sl (Id.p 1) 0 w.length), (7, iv (↑c : Int)), (8, V.sl (Id.p 2) 0 w.length), (11, V.sl (Id.p 3) 0 w.length), (15, iv (0 : Int))]) (Hp.mk [(0, O.rows 1 true (nn s)), (1, O.rows 1 true (bl g)), (2, O.rows 1 true (nn p)), (3, O.rows 1 true (bl o))] 4 [])))) (by kernel_rfl) ?_
  refine ifB_mk (fun hb => ?_) (fun hb => ?_)
  · have hlt : i < w.length := by have := of_decide_eq_true hb; omega
    have hgi : g[i]? = some (!L.testBit i) := by rw [← hgL i hlt]; exact getB' (by omega)
    have ho0 : o.getD i false = false := by
      cases hq : o.getD i false with
      | false => rfl
      | true => have := ((hoc i hlt).1 hq).1; omega
    refine La.of (σ := List Bool × Nat × Nat) (fun q => sh32q w s g c p q.1 i q.2.1 q.2.2) (fun q => q.2.2 ≤ w.length ∧ q.2.1 = itf f q.2.2 i ∧ (L.testBit i = true ∨ q.2.2 = 0) ∧ q.1.length = w.length ∧ (∀ j, j ≠ i → q.1.getD j false = o.getD j false) ∧ (q.1.getD i false = true ↔ ∃ z, 1 ≤ z ∧ z ≤ q.2.2 ∧ itf f z i = i)) (fun q => w.length - q.2.2) (o, i, 0) (by kernel_rfl) ⟨by simp, rfl, .inr rfl, ho, fun _ _ => rfl, by simp only; rw [ho0]; constructor; (intro h; cases h); (rintro ⟨z, z1, z2, _⟩; omega)⟩ ?_
    rintro ⟨v, k, e⟩ ⟨he, hk, heL, hv, hvo, hvi⟩ H hH
    simp only at he hk heL hv hvo hvi
    refine see (p := ifB (decide ((↑e : Int) < (↑w.length : Int))) (need (i < w.length) (onSome (bl g)[0 + i]? fun row => onSome row[0]? fun v_1 => onBool v_1 fun b => ifB (!b) (need (k < w.length) (onSome (nn p)[0 + k]? fun row => onSome row[0]? fun v_2 => onIntK IntKind.i64 v_2 fun n => need (i < w.length) (onSome (bl v)[0 + i]? fun row => onSome row[0]? fun v_3 => onBool v_3 fun b => ifB b (need (i < w.length) (onSome (bl v)[0 + i]? fun row => guardB ((0 + 1).ble row.length) (H (St.mk (mkT [(0, V.lst 1 (wn w)), (4, iv (↑w.length : Int)), (5, V.sl (Id.p 0) 0 w.length), (6, V.sl (Id.p 1) 0 w.length), (7, iv (↑c : Int)), (8, V.sl (Id.p 2) 0 w.length), (11, V.sl (Id.p 3) 0 w.length), (12, iv (↑i : Int)), (13, iv n), (14, iv (IntKind.i64.wrap ((↑e : Int) + (1 : Int))))]) (Hp.mk [(0, O.rows 1 true (nn s)), (1, O.rows 1 true (bl g)), (2, O.rows 1 true (nn p)), (3, O.rows 1 true ((bl v).set (0 + i) (bv true :: (List.append ([] : List V)) (List.drop 1 row))))] 4 []))))) (need (i < w.length) (onSome (bl v)[0 + i]? fun row => guardB ((0 + 1).ble row.length) (H (St.mk (mkT [(0, V.lst 1 (wn w)), (4, iv (↑w.length : Int)), (5, V.sl (Id.p 0) 0 w.length), (6, V.sl (Id.p 1) 0 w.length), (7, iv (↑c : Int)), (8, V.sl (Id.p 2) 0 w.length), (11, V.sl (Id.p 3) 0 w.length), (12, iv (↑i : Int)), (13, iv n), (14, iv (IntKind.i64.wrap ((↑e : Int) + (1 : Int))))]) (Hp.mk [(0, O.rows 1 true (nn s)), (1, O.rows 1 true (bl g)), (2, O.rows 1 true (nn p)), (3, O.rows 1 true ((bl v).set (0 + i) (bv (n == (↑i : Int)) :: (List.append ([] : List V)) (List.drop 1 row))))] 4 [])))))))) (K (St.mk (mkT [(0, V.lst 1 (wn w)), (4, iv (↑w.length : Int)), (5, V.sl (Id.p 0) 0 w.length), (6, V.sl (Id.p 1) 0 w.length), (7, iv (↑c : Int)), (8, V.sl (Id.p 2) 0 w.length), (11, V.sl (Id.p 3) 0 w.length), (12, iv (IntKind.i64.wrap ((↑i : Int) + (1 : Int))))]) (Hp.mk [(0, O.rows 1 true (nn s)), (1, O.rows 1 true (bl g)), (2, O.rows 1 true (nn p)), (3, O.rows 1 true (bl v))] 4 []))))) (K (St.mk (mkT [(0, V.lst 1 (wn w)), (4, iv (↑w.length : Int)), (5, V.sl (Id.p 0) 0 w.length), (6, V.sl (Id.p 1) 0 w.length), (7, iv (↑c : Int)), (8, V.sl (Id.p 2) 0 w.length), (11, V.sl (Id.p 3) 0 w.length), (12, iv (IntKind.i64.wrap ((↑i : Int) + (1 : Int))))]) (Hp.mk [(0, O.rows 1 true (nn s)), (1, O.rows 1 true (bl g)), (2, O.rows 1 true (nn p)), (3, O.rows 1 true (bl v))] 4 [])))) (by kernel_rfl) ?_
    have done : (L.testBit i = false ∨ e = w.length) → K (sh32o w s g c p v (i + 1)) := fun hor => hK (v, i + 1) ⟨hlt, hv, fun j hj => by
      simp only
      by_cases hji : j = i
      · subst hji
        rw [hvi]
        constructor
        · rintro ⟨z, z1, z2, z3⟩
          have hL1 : L.testBit j = true := heL.resolve_right (by omega)
          exact ⟨by omega, hL1, z, z1, by omega, z3⟩
        · rintro ⟨_, h2, z, z1, z2, z3⟩
          rcases hor with h | h
          · rw [h2] at h; cases h
          · exact ⟨z, z1, by omega, z3⟩
      · rw [hvo j hji, hoc j hj]
        constructor
        · rintro ⟨a, b⟩; exact ⟨by omega, b⟩
        · rintro ⟨a, b⟩; exact ⟨by omega, b⟩⟩ (by simp only; omega)
    refine ifB_mk (fun hb => ?_) (fun hb => ?_)
    rotate_left
    · rw [wr1 hlt (by omega)]
      exact done (.inr (by have := of_decide_eq_false hb; omega))
    have hen : e < w.length := by have := of_decide_eq_true hb; omega
    refine need_mk ⟨hlt, onSome_mk (bl_get hgi) (onBool_bv (ifB_mk (fun hb => ?_) (fun hb => ?_)))⟩
    rotate_left
    · rw [wr1 hlt (by omega)]
      exact done (.inl (by simpa using hb))
    have hiL : L.testBit i = true := by simpa using hb
    have hkL : L.testBit k = true := by rw [hk]; exact itL e i hiL
    have hkn := hLn k hkL
    have hpk : p[k]? = some (f k) := by rw [← hpf k hkn]; exact getN (by omega)
    obtain ⟨z, hz⟩ : ∃ z, v[i]? = some z := ⟨v.getD i false, getB' (by omega)⟩
    have hzv : v.getD i false = z := by simp [List.getD, hz]
    rw [hzv] at hvi
    have next : ∀ y : Bool, (y = true ↔ ∃ q, 1 ≤ q ∧ q ≤ e + 1 ∧ itf f q i = i) → H (sh32q w s g c p (v.set i y) i (f k) (e + 1)) := fun y hy => hH (v.set i y, f k, e + 1) ⟨hen, by simp only; rw [hk]; rfl, .inl hiL, by simp [hv], fun j hji => by
      simp only
      rw [getD_setB (by omega), if_neg (Ne.symm hji)]
      exact hvo j hji, by
      simp only
      rw [getD_setB (by omega), if_pos rfl]
      exact hy⟩ (by simp only; omega)
    refine need_mk ⟨hkn, nel0 hpk (need_mk ⟨hlt, onSome_mk (bl_get hz) (onBool_bv (ifB_mk (fun hzt => ?_) (fun hzf => ?_)))⟩)⟩
    · refine need_mk ⟨hlt, onSome_mk (bl_get hz) (guardB_mk rfl ?_)⟩
      rw [show bv true :: (List.append ([] : List V)) (List.drop 1 [bv z]) = [bv true] from rfl, Nat.zero_add, set_bl, wr1 hen (by omega)]
      refine next true ⟨fun _ => ?_, fun _ => rfl⟩
      obtain ⟨q, q1, q2, q3⟩ := hvi.1 hzt
      exact ⟨q, q1, by omega, q3⟩
    · refine need_mk ⟨hlt, onSome_mk (bl_get hz) (guardB_mk rfl ?_)⟩
      rw [show bv ((f k : Nat) == (i : Int)) :: (List.append ([] : List V)) (List.drop 1 [bv z]) = [bv ((f k : Nat) == (i : Int))] from rfl, Nat.zero_add, set_bl, wr1 hen (by omega)]
      refine next _ ?_
      rw [beq_iff_eq]
      constructor
      · intro hfi
        exact ⟨e + 1, by omega, by omega, by show f (itf f e i) = i; rw [← hk]; omega⟩
      · rintro ⟨q, q1, q2, q3⟩
        rcases Nat.lt_or_eq_of_le q2 with h | h
        · have := hvi.2 ⟨q, q1, by omega, q3⟩; rw [this] at hzf; cases hzf
        · subst h
          have : f (itf f e i) = i := q3
          rw [← hk] at this; omega
  have hiw : i = w.length := by have := of_decide_eq_false hb; omega
  subst hiw
  clear hK hb hi
  -- those leave
  let C : Nat → Bool := fun x => o.getD x false
  have hCL : ∀ x, C x = true → L.testBit x = true ∧ Onc f w.length x ∧ x < w.length := fun x hx => by
    have hxo : x < w.length := by
      rcases Nat.lt_or_ge x w.length with h | h
      · exact h
      · have : o.getD x false = false := by simp [List.getD, List.getElem?_eq_none (show o.length ≤ x by omega)]
        simp only [C, this] at hx; cases hx
    have := (hoc x hxo).1 hx
    exact ⟨this.2.1, this.2.2, hxo⟩
  have hCi : ∀ x, x < w.length → L.testBit x = true → Onc f w.length x → C x = true := fun x h1 h2 h3 => (hoc x h1).2 ⟨h1, h2, h3⟩
  refine La.of (σ := (List Nat × List Bool) × Nat × Nat) (fun q => sh32e w q.1.1 q.1.2 q.2.1 p o q.2.2) (fun q => q.2.2 ≤ w.length ∧ q.1.1.length = w.length ∧ q.1.2.length = w.length ∧ (∀ t, t < w.length → q.1.1.getD t 0 = bif C t && decide (t < q.2.2) then f t else s.getD t 0) ∧ (∀ t, t < w.length → q.1.2.getD t false = (g.getD t false || C t && decide (t < q.2.2))) ∧ q.2.1 + cnt C q.2.2 = c) (fun q => w.length - q.2.2) ((s, g), c, 0) (by kernel_rfl) ⟨by simp, hs, hg, by simp, by simp, by simp [cnt]⟩ ?_
  rintro ⟨⟨u, v⟩, d, i⟩ ⟨hi, hu, hv, hut, hvt, hd⟩ H hH
  simp only at hi hu hv hut hvt hd
  refine see (p := ifB (decide ((↑i : Int) < (↑w.length : Int))) (need (i < w.length) (onSome (bl o)[0 + i]? fun row => onSome row[0]? fun v_1 => onBool v_1 fun b => ifB b (need (i < w.length) (onSome (nn p)[0 + i]? fun row => onSome row[0]? fun v_2 => onIntK IntKind.i64 v_2 fun n => need (i < w.length) (onSome (nn u)[0 + i]? fun row => guardB ((0 + 1).ble row.length) (need (i < w.length) (onSome (bl v)[0 + i]? fun row_1 => guardB ((0 + 1).ble row_1.length) (H (St.mk (mkT [(0, V.lst 1 (wn w)), (4, iv (↑w.length : Int)), (5, V.sl (Id.p 0) 0 w.length), (6, V.sl (Id.p 1) 0 w.length), (7, iv (IntKind.i64.wrap ((↑d : Int) - (1 : Int)))), (8, V.sl (Id.p 2) 0 w.length), (11, V.sl (Id.p 3) 0 w.length), (15, iv (IntKind.i64.wrap ((↑i : Int) + (1 : Int))))]) (Hp.mk [(0, O.rows 1 true ((nn u).set (0 + i) (iv n :: (List.append ([] : List V)) (List.drop 1 row)))), (1, O.rows 1 true ((bl v).set (0 + i) (bv true :: (List.append ([] : List V)) (List.drop 1 row_1)))), (2, O.rows 1 true (nn p)), (3, O.rows 1 true (bl o))] 4 [])))))))) (H (St.mk (mkT [(0, V.lst 1 (wn w)), (4, iv (↑w.length : Int)), (5, V.sl (Id.p 0) 0 w.length), (6, V.sl (Id.p 1) 0 w.length), (7, iv (↑d : Int)), (8, V.sl (Id.p 2) 0 w.length), (11, V.sl (Id.p 3) 0 w.length), (15, iv (IntKind.i64.wrap ((↑i : Int) + (1 : Int))))]) (Hp.mk [(0, O.rows 1 true (nn u)), (1, O.rows 1 true (bl v)), (2, O.rows 1 true (nn p)), (3, O.rows 1 true (bl o))] 4 []))))) (J (St.mk (mkT [(0, V.lst 1 (wn w)), (4, iv (↑w.length : Int)), (5, V.sl (Id.p 0) 0 w.length), (6, V.sl (Id.p 1) 0 w.length), (7, iv (↑d : Int))]) (Hp.mk [(0, O.rows 1 true (nn u)), (1, O.rows 1 true (bl v))] 2 [])))) (by kernel_rfl) ?_
  refine ifB_mk (fun hb => ?_) (fun hb => ?_)
  · have hlt : i < w.length := by have := of_decide_eq_true hb; omega
    have hoi : o[i]? = some (C i) := getB' (by omega)
    have split : ∀ t, decide (t < i + 1) = (decide (t < i) || decide (t = i)) := fun t => by
      rw [← Bool.decide_or, decide_eq_decide]; omega
    refine need_mk ⟨hlt, onSome_mk (bl_get hoi) (onBool_bv (ifB_mk (fun hC => ?_) (fun hC => ?_)))⟩
    · have hpi : p[i]? = some (f i) := by rw [← hpf i hlt]; exact getN (by omega)
      obtain ⟨y, hy⟩ : ∃ y, u[i]? = some y := ⟨u.getD i 0, getN (by omega)⟩
      obtain ⟨z, hz⟩ : ∃ z, v[i]? = some z := ⟨v.getD i false, getB' (by omega)⟩
      have hd1 : 1 ≤ d := by
        have h1 := cnt_sub (p := L.testBit) (q := C) (fun x hx => (hCL x hx).1) w.length
        have mono : ∀ n, i < n → cnt C i + 1 ≤ cnt C n := fun n => by
          induction n with
          | zero => omega
          | succ n ihn =>
            intro hin
            simp only [cnt]
            by_cases hni : i = n
            · subst hni; rw [hC]; simp
            · have := ihn (by omega); omega
        have := mono w.length hlt
        omega
      refine need_mk ⟨hlt, nel0 hpi (need_mk ⟨hlt, onSome_mk (nn_get0 hy) (guardB_mk rfl (need_mk ⟨hlt, onSome_mk (bl_get hz) (guardB_mk rfl ?_)⟩))⟩)⟩
      rw [show iv ((f i : Nat) : Int) :: (List.append ([] : List V)) (List.drop 1 [iv (y : Int)]) = [iv ((f i : Nat) : Int)] from rfl, show bv true :: (List.append ([] : List V)) (List.drop 1 [bv z]) = [bv true] from rfl, Nat.zero_add, set_nn, set_bl, wr1 hlt (by omega), wr (by omega) (by omega), show ((d : Int) - 1) = ((d - 1 : Nat) : Int) by omega]
      refine hH ((u.set i (f i), v.set i true), d - 1, i + 1) ⟨hlt, by simp [hu], by simp [hv], fun t ht => ?_, fun t ht => ?_, ?_⟩ (by simp only; omega)
      · simp only
        rw [getD_setN (by omega), split]
        by_cases hti : i = t
        · subst hti; rw [if_pos rfl, hC]; simp
        · rw [if_neg hti, hut t ht]; simp [Ne.symm hti]
      · simp only
        rw [getD_setB (by omega), split]
        by_cases hti : i = t
        · subst hti; rw [if_pos rfl, hC]; simp
        · rw [if_neg hti, hvt t ht]; simp [Ne.symm hti]
      · simp only [cnt, hC, cond_true]; omega
    · rw [wr1 hlt (by omega)]
      refine hH ((u, v), d, i + 1) ⟨hlt, hu, hv, fun t ht => ?_, fun t ht => ?_, ?_⟩ (by simp only; omega)
      · simp only
        rw [hut t ht, split]
        by_cases hti : t = i
        · subst hti; rw [hC]; simp
        · simp [hti]
      · simp only
        rw [hvt t ht, split]
        by_cases hti : t = i
        · subst hti; rw [hC]; simp
        · simp [hti]
      · simp only [cnt, hC, cond_false]; omega
  have hiw : i = w.length := by have := of_decide_eq_false hb; omega
  subst hiw
  have hcb : ∀ x, (ofP C w.length).testBit x = C x := fun x => by
    rw [ofP_bit]
    cases hx : C x with
    | false => simp
    | true => simp [(hCL x hx).2.2]
  have hsub := cnt_sub (p := L.testBit) (q := C) (fun x hx => (hCL x hx).1) w.length
  have hnew : cnt (dif L (ofP C w.length)).testBit w.length = cnt (fun x => L.testBit x && !C x) w.length := cnt_congr fun x _ => by rw [dif_bit h256, hcb]
  have hsome : 1 ≤ cnt C w.length := by
    have h1 := onc_some (f := f) (n := w.length) (a := a0) (fun k => hLn _ (itL k a0 ha0L))
    have h2 := itL w.length a0 ha0L
    exact cnt_in (hCi _ (hLn _ h2) h2 h1) (hLn _ h2)
  refine hJ (u, v, d) ⟨dif L (ofP C w.length), Nat.lt_of_le_of_lt (dif_le _ _) hL, hu, hv, fun x hx => ?_, ?_, part_step (c := ofP C w.length) ⟨hw1, hw2⟩ hLn (fun m => dif_bit h256) (fun x hx => (hCL x (by rw [← hcb]; exact hx)).1) (fun t ht => ?_) (fun x hx => ?_) (fun x y hx hy he => ?_) hP⟩ (by simp only; omega)
  · simp only
    rw [hvt x hx, hgL x hx, dif_bit h256, hcb]
    cases L.testBit x <;> cases C x <;> simp [hx]
  · simp only; omega
  · simp only
    rw [hut t ht, hcb]
    simp only [ht, decide_true, Bool.and_true]
    rfl
  · rw [hcb] at hx ⊢
    obtain ⟨h1, h2, h3⟩ := hCL x hx
    have h4 := toL x h3
    exact hCi _ (hLn _ h4) h4 (onc_next h2)
  · rw [hcb] at hx hy
    exact onc_inj (hCL x hx).2.1 (hCL y hy).2.1 he
theorem trade32_bad {w : List (List Int)} {R : V → Prop} (hw : ¬ Wok w) (h : R (.tup [nilS, iv 2])) : K0G Try.prog glX 32 [.lst 1 (wl w)] R := by
  refine K0_of_WY0 hmX hcM 100 Try.func32 (see (p := K0G Try.prog glX 86 [V.lst 1 (wl w)] fun v => onBool v fun b => ifB (!b) (R (V.tup [nilS, iv (2 : Int)])) (need ((wl w).length ≤ (wl w).length) (need (8 * (wl w).length ≤ 140737488355328) (need ((wl w).length ≤ 9223372036854775807) (need ((wl w).length ≤ (wl w).length) (need (1 * (wl w).length ≤ 140737488355328) (need ((wl w).length ≤ 9223372036854775807) (La 0 [(0 : Tmp), (4 : Tmp), (5 : Tmp), (6 : Tmp), (7 : Tmp)] (WY Try.prog cfM 91 (Env.mk (Bs.mk 0 []) 0 none 121 32 0) (cdAt [1, 1, 1, 1, 1, 0, 1, 0, 0] (bodyOf Try.f32))) (Qblk 0 (Qthen (WY Try.prog cfM 94 (Env.mk (Bs.mk 0 []) 0 none 121 32 0) (cdAt [1, 1, 1, 1, 1, 1] (bodyOf Try.f32)) (QendX Try.prog Try.f32 fun v h => R (frzW h v))) (QendX Try.prog Try.f32 fun v h => R (frzW h v)))) (St.mk (mkT [(0, V.lst 1 (wl w)), (4, iv (↑(wl w).length : Int)), (5, V.sl (Id.p 0) 0 (wl w).length), (6, V.sl (Id.p 1) 0 (wl w).length), (7, iv (↑(wl w).length : Int))]) (Hp.mk [(0, O.rows 1 true (List.replicate (wl w).length [iv (0 : Int)])), (1, O.rows 1 true (List.replicate (wl w).length [bv false]))] 2 [])))))))))) (by kernel_rfl) ?_)
  exact wishes15 (fun ho => absurd ho hw) (fun _ => onBool_bv (ifB_t rfl h))
end Go.Proofs.Ytmddjopahcbefaa
