/- There is one trade by circles; what the reference does for a group. -/
import Derived.Test.YtmddjopahcbefaaXTF
namespace Go.Proofs.Ytmddjopahcbefaa
open Go Go.Proofs.Ytmddjopahcbefaa.Clean
set_option linter.unusedVariables false
set_option linter.unusedSimpArgs false
set_option maxRecDepth 10000

theorem onto {n : Nat} {f : Nat → Nat} {S : Nat → Bool} (h1 : ∀ i, i < n → S i = true → f i < n ∧ S (f i) = true) (h2 : ∀ i j, i < n → j < n → S i = true → S j = true → f i = f j → i = j) {u : Nat} (hu : u < n) (hS : S u = true) : ∃ p, p < n ∧ S p = true ∧ f p = u := by
  let g : Nat → Nat := fun i => bif S i then f i else i
  obtain ⟨p, hp, hpe⟩ := pigeon n g (fun i hi => by
    simp only [g]
    cases hs : S i with
    | true => exact (h1 i hi hs).1
    | false => exact hi) (fun i j hij hj he => by
    simp only [g] at he
    cases hi : S i with
    | true =>
      cases hjs : S j with
      | true => rw [hi, hjs] at he; have := h2 i j (by omega) hj hi hjs he; omega
      | false =>
        rw [hi, hjs] at he
        simp only [cond_true, cond_false] at he
        have := (h1 i (by omega) hi).2
        rw [he, hjs] at this; cases this
    | false =>
      cases hjs : S j with
      | true =>
        rw [hi, hjs] at he
        simp only [cond_true, cond_false] at he
        have := (h1 j hj hjs).2
        rw [← he, hi] at this; cases this
      | false => rw [hi, hjs] at he; simp only [cond_false] at he; omega) u hu
  simp only [g] at hpe
  cases hs : S p with
  | true => rw [hs] at hpe; exact ⟨p, hp, hs, hpe⟩
  | false => rw [hs] at hpe; simp only [cond_false] at hpe; subst hpe; rw [hS] at hs; cases hs
/-- Two trades by circles are the same. -/
theorem core_uniq {w : List (List Nat)} {a b : List Nat} (ha : Core w a) (hb : Core w b) : ∀ t, t < w.length → a.getD t 0 = b.getD t 0 := by
  obtain ⟨r1, a1, a2⟩ := ha
  obtain ⟨r2, b1, b2⟩ := hb
  have key : ∀ m t, t < w.length → r1 t = m → a.getD t 0 = b.getD t 0 := by
    intro m
    induction m using Nat.strongRecOn with
    | _ m ih =>
    intro t ht hm
    by_cases hne : a.getD t 0 = b.getD t 0
    · exact hne
    exfalso
    have later : ∀ v, v < w.length → r1 v = m → m ≤ r1 (b.getD v 0) := fun v hv hvm => by
      rcases Nat.lt_or_ge (r1 (b.getD v 0)) m with h | h
      · exfalso
        obtain ⟨p, p1, p2, p3⟩ := onto (f := fun i => a.getD i 0) (S := fun i => decide (r1 i = r1 (b.getD v 0))) (fun i hi hs => ⟨(a1 i hi).1, by simp only [decide_eq_true_eq] at hs ⊢; rw [(a1 i hi).2.1]; exact hs⟩) (fun i j hi hj _ _ he => a2 i j hi hj he) (b1 v hv).1 (by simp)
        simp only [decide_eq_true_eq] at p2
        have he := ih (r1 p) (by omega) p p1 rfl
        have := b2 p v p1 hv (by rw [← he]; exact p3)
        subst this
        omega
      · exact h
    have down : ∀ v, v < w.length → r1 v = m → r2 (a.getD v 0) ≤ r2 v ∧ (a.getD v 0 ≠ b.getD v 0 → r2 (a.getD v 0) < r2 v) := fun v hv hvm => by
      by_cases he : a.getD v 0 = b.getD v 0
      · exact ⟨by rw [he, (b1 v hv).2.1]; exact Nat.le_refl _, fun h => absurd he h⟩
      · have h1 := (a1 v hv).2.2 (b.getD v 0) (b1 v hv).1 (Ne.symm he) (by have := later v hv hvm; omega)
        have : r2 (a.getD v 0) < r2 v := by
          rcases Nat.lt_or_ge (r2 (a.getD v 0)) (r2 v) with h | h
          · exact h
          · have := (b1 v hv).2.2 (a.getD v 0) (a1 v hv).1 he h
            omega
        exact ⟨by omega, fun _ => this⟩
    have hlt := (down t ht hm).2 hne
    obtain ⟨p, p1, p2, p3⟩ := onto (f := fun i => a.getD i 0) (S := fun i => decide (r1 i = m) && decide (r2 i < r2 t)) (u := a.getD t 0) (fun i hi hs => ⟨(a1 i hi).1, by
      simp only [Bool.and_eq_true, decide_eq_true_eq] at hs ⊢
      refine ⟨by rw [(a1 i hi).2.1]; exact hs.1, ?_⟩
      have := (down i hi hs.1).1
      omega⟩) (fun i j hi hj _ _ he => a2 i j hi hj he) (a1 t ht).1 (by simp only [Bool.and_eq_true, decide_eq_true_eq]; exact ⟨by rw [(a1 t ht).2.1]; exact hm, hlt⟩)
    simp only [Bool.and_eq_true, decide_eq_true_eq] at p2
    have := a2 p t p1 ht p3
    subst this
    omega
  exact fun t ht => key _ t ht rfl
theorem core_same {w : List (List Nat)} {a b : List Nat} (la : a.length = w.length) (lb : b.length = w.length) (ha : Core w a) (hb : Core w b) : a = b := by
  apply List.ext_getElem?
  intro i
  by_cases hi : i < w.length
  · rw [getN (l := a) (by omega), getN (l := b) (by omega), core_uniq ha hb i hi]
  · rw [List.getElem?_eq_none (by omega), List.getElem?_eq_none (by omega)]

/-! deals -/
/-- the members of G from m on -/
def hi (G m : Nat) : Nat := (G >>> m) <<< m
theorem hi_bit (G m x : Nat) : (hi G m).testBit x = (decide (m ≤ x) && G.testBit x) := by
  unfold hi
  rw [Nat.testBit_shiftLeft, Nat.testBit_shiftRight]
  by_cases h : m ≤ x
  · simp [h]
  · simp [h]
theorem hi_le (G m : Nat) : hi G m ≤ G := by
  unfold hi
  rw [Nat.shiftLeft_eq, Nat.shiftRight_eq_div_pow]
  exact Nat.div_mul_le_self _ _
theorem hi_zero (G : Nat) : hi G 0 = G := by simp [hi]
theorem hi_skip {G m : Nat} (h : G.testBit m = false) : hi G (m + 1) = hi G m := by
  apply Nat.eq_of_testBit_eq
  intro x
  rw [hi_bit, hi_bit]
  by_cases hx : x = m
  · subst hx; simp [h]
  · have : decide (m + 1 ≤ x) = decide (m ≤ x) := by rw [decide_eq_decide]; omega
    rw [this]
theorem hi_wo {G m : Nat} (hG : G < 256) (hm : m < 8) : wo (hi G m) m = hi G (m + 1) := by
  have hh : hi G m < 256 := Nat.lt_of_le_of_lt (hi_le _ _) hG
  apply Nat.eq_of_testBit_eq
  intro x
  by_cases hx : x < 8
  · rw [wo_bit _ hh m hm x hx, hi_bit, hi_bit]
    by_cases hxm : x = m
    · subst hxm; simp; intro h; omega
    · have : decide (m + 1 ≤ x) = decide (m ≤ x) := by rw [decide_eq_decide]; omega
      rw [this]; simp [hxm]
  · have z : ∀ {s : Nat}, s < 256 → s.testBit x = false := fun {s} hs => by
      cases hb : s.testBit x with
      | false => rfl
      | true => exact absurd (bit8 hs hb) hx
    rw [z (Nat.lt_of_le_of_lt (wo_le _ _) hh), z (Nat.lt_of_le_of_lt (hi_le _ _) hG)]
theorem bit0_bits : ∀ G, G < 256 → ∀ m, m < 8 → ((((G : Nat) : Int).fdiv ((2 : Int) ^ min (IntKind.u64.wrap ((m : Nat) : Int)).toNat 8)).tmod (2 : Int) == (0 : Int)) = !G.testBit m := by decide +kernel
theorem bit1_bits : ∀ G, G < 256 → ∀ m, m < 8 → ((((G : Nat) : Int).fdiv ((2 : Int) ^ min (IntKind.u64.wrap ((m : Nat) : Int)).toNat 8)).tmod (2 : Int) == (1 : Int)) = G.testBit m := by decide +kernel
theorem wo64_bits : ∀ s, s < 256 → ∀ n, n < 8 → IntKind.u8.wrap (↑(BitVec.ofInt 8 ((s : Nat) : Int) &&& ~~~BitVec.ofInt 8 (IntKind.u8.wrap ((1 : Int) * (2 : Int) ^ min (IntKind.u64.wrap ((n : Nat) : Int)).toNat 8))).toNat : Int) = ((wo s n : Nat) : Int) := by decide +kernel
theorem lik_in {l : List Nat} {k x : Nat} (h : l[k]? = some x) : lik l x < l.length := by
  have hlt := (List.getElem?_eq_some_iff.1 h).1
  rcases Nat.lt_or_ge (lik l x) l.length with g | g
  · exact g
  · exact absurd h (lik_no (by omega))
theorem gain_eq {l : List Nat} {k x y : Nat} (h : l[k]? = some x) (hle : lik l x ≤ lik l y) : decide ((lik l x : Int) < (lik l y : Int)) = (x != y) := by
  rw [Bool.eq_iff_iff, decide_eq_true_iff, bne_iff_ne]
  constructor
  · intro hlt he; subst he; omega
  · intro hne
    rcases Nat.lt_or_eq_of_le hle with g | g
    · omega
    · have h1 := lik_at (lik_in h)
      have h2 := lik_at (l := l) (x := y) (by have := lik_in h; omega)
      rw [← g, h1] at h2
      exact absurd (Option.some.inj h2) hne
theorem deals90 {w : List (List Nat)} {t : List Nat} {G : Nat} (hw : WokN w) (ht : OnceN t w.length) (hG : G < 2 ^ w.length) : ∀ (d m : Nat), m + d = w.length → ∀ (F : Nat) (b : Bool) (R : V → Prop), F < 256 → (∀ r, (r = true ↔ Can w t (hi G m) F b) → R (bv r)) → K0G Try.prog glX 90 [.lst 1 (wn w), .lst 1 (nn t), sv G, iv (m : Int), sv F, bv b] R := by
  obtain ⟨hw1, hw2⟩ := hw
  have h8 : 2 ^ w.length ≤ 2 ^ 8 := Nat.pow_le_pow_right (by omega) hw1.2
  have hG8 : G < 256 := Nat.lt_of_lt_of_le hG h8
  intro d
  induction d using Nat.strongRecOn with
  | _ d ih =>
  intro m0 hm0 F b R hF h
  refine K0_of_WY0 hmX hcM 100 Try.func90 (see (p := La 0 [(0 : Tmp), (1 : Tmp), (2 : Tmp), (3 : Tmp), (4 : Tmp), (5 : Tmp)] (WY Try.prog cfM 96 (Env.mk (Bs.mk 0 []) 0 none 86 90 0) (cdAt [1, 0, 0, 0] (bodyOf Try.f90))) (Qblk 0 (Qthen (WY Try.prog cfM 98 (Env.mk (Bs.mk 0 []) 0 none 86 90 0) (cdAt [1, 1] (bodyOf Try.f90)) (QendX Try.prog Try.f90 fun v h => R (frzW h v))) (QendX Try.prog Try.f90 fun v h => R (frzW h v)))) (St.mk (mkT [(0, V.lst 1 (wn w)), (1, V.lst 1 (nn t)), (2, V.raw (Value.int IntKind.u8 (↑G : Int))), (3, iv (↑m0 : Int)), (4, V.raw (Value.int IntKind.u8 (↑F : Int))), (5, bv b)]) (Hp.mk [] 0 []))) (by kernel_rfl) ?_)
  refine La.of (σ := Nat) (fun m => sh90a w t G m F b) (fun m => m0 ≤ m ∧ m ≤ w.length ∧ hi G m = hi G m0) (fun m => w.length - m) m0 (by kernel_rfl) ⟨by omega, by omega, rfl⟩ ?_
  rintro m ⟨hmm, hmn, hmh⟩ J hJ
  refine see (p := ifB (decide ((↑m : Int) < (↑(wn w).length : Int))) (ifB (((↑G : Int).fdiv ((2 : Int) ^ min (IntKind.u64.wrap (↑m : Int)).toNat 8)).tmod (2 : Int) == (0 : Int)) (J (St.mk (mkT [(0, V.lst 1 (wn w)), (1, V.lst 1 (nn t)), (2, V.raw (Value.int IntKind.u8 (↑G : Int))), (3, iv (IntKind.i64.wrap ((↑m : Int) + (1 : Int)))), (4, V.raw (Value.int IntKind.u8 (↑F : Int))), (5, bv b)]) (Hp.mk [] 0 []))) (ifB ((↑m : Int) == (↑(wn w).length : Int)) (R (bv b)) (La 0 [(0 : Tmp), (1 : Tmp), (2 : Tmp), (3 : Tmp), (4 : Tmp), (5 : Tmp), (13 : Tmp)] (WY Try.prog cfM 93 (Env.mk (Bs.mk 0 []) 0 none 86 90 2) (cdAt [1, 1, 1, 0, 1, 0, 0] (bodyOf Try.f90))) (Qblk 2 (Qthen (WY Try.prog cfM 96 (Env.mk (Bs.mk 0 []) 0 none 86 90 0) (cdAt [1, 1, 1, 1] (bodyOf Try.f90)) (QendX Try.prog Try.f90 fun v h => R (frzW h v))) (QendX Try.prog Try.f90 fun v h => R (frzW h v)))) (St.mk (mkT [(0, V.lst 1 (wn w)), (1, V.lst 1 (nn t)), (2, V.raw (Value.int IntKind.u8 (↑G : Int))), (3, iv (↑m : Int)), (4, V.raw (Value.int IntKind.u8 (↑F : Int))), (5, bv b), (13, iv (0 : Int))]) (Hp.mk [] 0 []))))) (ifB ((↑m : Int) == (↑(wn w).length : Int)) (R (bv b)) (La 0 [(0 : Tmp), (1 : Tmp), (2 : Tmp), (3 : Tmp), (4 : Tmp), (5 : Tmp), (13 : Tmp)] (WY Try.prog cfM 93 (Env.mk (Bs.mk 0 []) 0 none 86 90 2) (cdAt [1, 1, 1, 0, 1, 0, 0] (bodyOf Try.f90))) (Qblk 2 (Qthen (WY Try.prog cfM 96 (Env.mk (Bs.mk 0 []) 0 none 86 90 0) (cdAt [1, 1, 1, 1] (bodyOf Try.f90)) (QendX Try.prog Try.f90 fun v h => R (frzW h v))) (QendX Try.prog Try.f90 fun v h => R (frzW h v)))) (St.mk (mkT [(0, V.lst 1 (wn w)), (1, V.lst 1 (nn t)), (2, V.raw (Value.int IntKind.u8 (↑G : Int))), (3, iv (↑m : Int)), (4, V.raw (Value.int IntKind.u8 (↑F : Int))), (5, bv b), (13, iv (0 : Int))]) (Hp.mk [] 0 []))))) (by kernel_rfl) ?_
  rw [wn_length]
  refine ifB_mk (fun hc => ?_) (fun hc => ifB_t (by simp at hc ⊢; omega) ?_)
  rotate_left
  · have : m = w.length := by simp at hc; omega
    subst this
    refine h b ⟨fun hb => ⟨id, fun u hu => ?_, fun u v hu => ?_, .inl hb⟩, fun ⟨σ, _, _, h3⟩ => h3.elim id fun ⟨u, hu, _⟩ => ?_⟩
    all_goals
      rw [← hmh, hi_bit] at hu
      simp only [Bool.and_eq_true, decide_eq_true_eq] at hu
      have := (Nat.pow_lt_pow_iff_right (a := 2) (by omega)).1 (Nat.lt_of_le_of_lt (Nat.ge_two_pow_of_testBit hu.2) hG)
      omega
  have hlt : m < w.length := by simp at hc; omega
  rw [bit0_bits G hG8 m (by omega)]
  refine ifB_mk (fun hb0 => ?_) (fun hb0 => ifB_f (by simp; omega) ?_)
  · rw [wr1 hlt (by omega)]
    exact hJ (m + 1) ⟨by omega, hlt, by rw [hi_skip (by simpa using hb0), hmh]⟩ (by omega)
  have hGm : G.testBit m = true := by simpa using hb0
  have hT : hi G m < 256 := Nat.lt_of_le_of_lt (hi_le _ _) hG8
  have hTm : (hi G m).testBit m = true := by rw [hi_bit]; simp [hGm]
  have hwm := getW hlt
  generalize hl : w.getD m [] = l at hwm
  have hlo := hw2 m l hwm
  have hl1000 : l.length ≤ 1000 := by have := hlo.1; omega
  have hty : t[m]? = some (t.getD m 0) := getN (by rw [ht.1]; exact hlt)
  have hcs := can_step (tr := t) (g := b) hT hF hTm hl
  rw [hmh] at hcs
  generalize t.getD m 0 = y at hty hcs
  rw [← hmh, hi_wo hG8 (by omega)] at hcs
  clear hJ
  have hpos : ∀ x, x < w.length → ∃ k : Nat, l[k]? = some x := fun x hx => all_in hlo hx
  have hcan : Can w t (hi G m0) F b ↔ ∃ x, x < w.length ∧ F.testBit x = true ∧ lik l x ≤ lik l y ∧ Can w t (hi G (m + 1)) (wo F x) (b || x != y) := by
    rw [← hmh, hcs]
    constructor
    · rintro ⟨k, x, k1, k2, k3, k4⟩
      exact ⟨x, hlo.2.1 k x k1, k3, (rch_iff.1 ⟨k, k1, k2⟩).2, k4⟩
    · rintro ⟨x, x1, x2, x3, x4⟩
      obtain ⟨k, hk⟩ := hpos x x1
      obtain ⟨k', k1, k2⟩ := rch_iff.2 ⟨lik_in hk, x3⟩
      exact ⟨k', x, k1, k2, x2, x4⟩
  refine La.of (σ := Nat) (fun k => sh90b w t G m F b k) (fun k => k ≤ w.length ∧ ∀ x, x < k → F.testBit x = true → lik l x ≤ lik l y → ¬ Can w t (hi G (m + 1)) (wo F x) (b || x != y)) (fun k => w.length - k) 0 (by kernel_rfl) ⟨by omega, by omega⟩ ?_
  rintro k ⟨hk, hk1⟩ I hI
  refine see (p := ifB (decide ((↑k : Int) < (↑(wn w).length : Int))) (onSome (wn w)[m]? fun row => onSome row[0]? fun v => onLst v fun s es => onSome (wn w)[m]? fun row => onSome row[0]? fun v => onLst v fun s_1 es_1 => onSome (nn t)[m]? fun row => onSome row[0]? fun v => onIntK IntKind.i64 v fun n => K0G Try.prog glX 122 [V.lst s es, iv (↑k : Int)] fun v => onIntK IntKind.i64 v fun n_1 => K0G Try.prog glX 122 [V.lst s_1 es_1, iv n] fun v => onIntK IntKind.i64 v fun n => ifB (((↑F : Int).fdiv ((2 : Int) ^ min (IntKind.u64.wrap (↑k : Int)).toNat 8)).tmod (2 : Int) == (1 : Int)) (ifB (decide (n_1 ≤ n)) (ifB b (K0G Try.prog glX 90 [V.lst 1 (wn w), V.lst 1 (nn t), V.raw (Value.int IntKind.u8 (↑G : Int)), iv (IntKind.i64.wrap ((↑m : Int) + (1 : Int))), V.raw (Value.int IntKind.u8 (IntKind.u8.wrap (↑(BitVec.ofInt 8 (↑F : Int) &&& ~~~BitVec.ofInt 8 (IntKind.u8.wrap ((1 : Int) * (2 : Int) ^ min (IntKind.u64.wrap (↑k : Int)).toNat 8))).toNat : Int))), bv true] fun v => onBool v fun b_1 => ifB b_1 (R (bv true)) (I (St.mk (mkT [(0, V.lst 1 (wn w)), (1, V.lst 1 (nn t)), (2, V.raw (Value.int IntKind.u8 (↑G : Int))), (3, iv (↑m : Int)), (4, V.raw (Value.int IntKind.u8 (↑F : Int))), (5, bv b), (13, iv (IntKind.i64.wrap ((↑k : Int) + (1 : Int))))]) (Hp.mk [] 0 [])))) (K0G Try.prog glX 90 [V.lst 1 (wn w), V.lst 1 (nn t), V.raw (Value.int IntKind.u8 (↑G : Int)), iv (IntKind.i64.wrap ((↑m : Int) + (1 : Int))), V.raw (Value.int IntKind.u8 (IntKind.u8.wrap (↑(BitVec.ofInt 8 (↑F : Int) &&& ~~~BitVec.ofInt 8 (IntKind.u8.wrap ((1 : Int) * (2 : Int) ^ min (IntKind.u64.wrap (↑k : Int)).toNat 8))).toNat : Int))), bv (decide (n_1 < n))] fun v => onBool v fun b_1 => ifB b_1 (R (bv true)) (I (St.mk (mkT [(0, V.lst 1 (wn w)), (1, V.lst 1 (nn t)), (2, V.raw (Value.int IntKind.u8 (↑G : Int))), (3, iv (↑m : Int)), (4, V.raw (Value.int IntKind.u8 (↑F : Int))), (5, bv b), (13, iv (IntKind.i64.wrap ((↑k : Int) + (1 : Int))))]) (Hp.mk [] 0 []))))) (I (St.mk (mkT [(0, V.lst 1 (wn w)), (1, V.lst 1 (nn t)), (2, V.raw (Value.int IntKind.u8 (↑G : Int))), (3, iv (↑m : Int)), (4, V.raw (Value.int IntKind.u8 (↑F : Int))), (5, bv b), (13, iv (IntKind.i64.wrap ((↑k : Int) + (1 : Int))))]) (Hp.mk [] 0 [])))) (I (St.mk (mkT [(0, V.lst 1 (wn w)), (1, V.lst 1 (nn t)), (2, V.raw (Value.int IntKind.u8 (↑G : Int))), (3, iv (↑m : Int)), (4, V.raw (Value.int IntKind.u8 (↑F : Int))), (5, bv b), (13, iv (IntKind.i64.wrap ((↑k : Int) + (1 : Int))))]) (Hp.mk [] 0 [])))) (R (bv false))) (by kernel_rfl) ?_
  rw [wn_length]
  refine ifB_mk (fun hc => ?_) (fun hc => h false ⟨(fun h => by cases h), fun hcn => ?_⟩)
  rotate_left
  · obtain ⟨x, x1, x2, x3, x4⟩ := hcan.1 hcn
    have : k = w.length := by simp at hc; omega
    exact (hk1 x (by omega) x2 x3 x4).elim
  have hkn : k < w.length := by simp at hc; omega
  obtain ⟨kk, hkk⟩ := hpos k hkn
  have next : (F.testBit k = true → lik l k ≤ lik l y → ¬ Can w t (hi G (m + 1)) (wo F k) (b || k != y)) → I (sh90b w t G m F b (k + 1)) := fun hn => hI (k + 1) ⟨hkn, fun x hx => by
    rcases Nat.lt_succ_iff_lt_or_eq.1 hx with g | g
    · exact hk1 x g
    · subst g; exact hn⟩ (by omega)
  refine wel hwm (wel hwm (nel hty (liking17 hl1000 (onIntK_iv (liking17 hl1000 (onIntK_iv ?_))))))
  rw [bit1_bits F hF k (by omega), wr1 hkn (by omega), wo64_bits F hF k (by omega), wr1 hlt (by omega)]
  have fin : ∀ r, (r = true ↔ Can w t (hi G (m + 1)) (wo F k) (b || k != y)) → F.testBit k = true → lik l k ≤ lik l y → (ifB r (R (bv true)) (I (sh90b w t G m F b (k + 1)))) := fun r hr h1 h2 =>
    ifB_mk (fun hrt => h true ⟨fun _ => hcan.2 ⟨k, hkn, h1, h2, hr.1 hrt⟩, fun _ => rfl⟩) (fun hrf => next fun _ _ hc => by have := hr.2 hc; rw [this] at hrf; cases hrf)
  refine ifB_mk (fun h1 => ifB_mk (fun h2 => ?_) (fun h2 => next fun _ h => by have := of_decide_eq_false h2; omega)) (fun h1 => next fun h => by rw [h] at h1; cases h1)
  have h2' : lik l k ≤ lik l y := by have := of_decide_eq_true h2; omega
  refine ifB_mk (fun hb => ?_) (fun hb => ?_)
  · refine ih (w.length - (m + 1)) (by omega) (m + 1) (by omega) (wo F k) true _ (Nat.lt_of_le_of_lt (wo_le _ _) hF) (fun r hr => onBool_bv (fin r (by rw [hr, hb]; rfl) h1 h2'))
  · refine ih (w.length - (m + 1)) (by omega) (m + 1) (by omega) (wo F k) _ _ (Nat.lt_of_le_of_lt (wo_le _ _) hF) (fun r hr => onBool_bv (fin r (by rw [hr, hb, gain_eq hkk h2']; rfl) h1 h2'))
/-! the answers for a group -/
theorem shn : ∀ n, n < 9 → IntKind.i64.wrap ((1 : Int) * (2 : Int) ^ min ((n : Nat) : Int).toNat 64) = ((2 ^ n : Nat) : Int) := by decide +kernel
theorem andn_not : ∀ n, n < 9 → ∀ g, g < 256 → 2 ^ n ≤ g → (IntKind.u8.wrap (↑(BitVec.ofInt 8 ((g : Nat) : Int) &&& ~~~BitVec.ofInt 8 ((2 ^ n - 1 : Nat) : Int)).toNat : Int) != 0) = true := by decide +kernel
/-- What both answer. -/
structure Says (w : List (List Int)) (t : List Int) (g : Nat) (R : V → Prop) : Prop where
  wishes : ¬ Wok w → R (.tup [bv false, iv 2])
  trade : Wok w → ¬ Once t w.length → R (.tup [bv false, iv 8])
  group : Wok w → Once t w.length → (g = 0 ∨ 2 ^ w.length ≤ g) → R (.tup [bv false, iv 2])
  good : ∀ (ww : List (List Nat)) (tt : List Nat), w = ofW ww → t = ofN tt → WokN ww → OnceN tt ww.length → g ≠ 0 → g < 2 ^ ww.length → ∀ b, (b = true ↔ Can ww tt g g false) → R (.tup [bv b, iv 0])
theorem better34 {w : List (List Int)} {t : List Int} {g : Nat} {R : V → Prop} (hg : g < 256) (h : Says w t g R) : K0G Try.prog glX 34 [.lst 1 (wl w), .lst 1 (nl t), sv g] R := by
  refine K0_of_WY0 hmX hcM 100 Try.func34 (see (p := K0G Try.prog glX 86 [V.lst 1 (wl w)] fun v => onBool v fun b => ifB (!b) (R (V.tup [bv false, iv (2 : Int)])) (K0G Try.prog glX 89 [V.lst 1 (nl t), iv (↑(wl w).length : Int)] fun v => onBool v fun b => ifB (!b) (R (V.tup [bv false, iv (8 : Int)])) (ifB ((↑g : Int) == (0 : Int)) (R (V.tup [bv false, iv (2 : Int)])) (ifB (decide (IntKind.i64.wrap (↑g : Int) ≥ IntKind.i64.wrap ((1 : Int) * (2 : Int) ^ min (↑(wl w).length : Int).toNat 64))) (R (V.tup [bv false, iv (2 : Int)])) (K0G Try.prog glX 90 [V.lst 1 (wl w), V.lst 1 (nl t), V.raw (Value.int IntKind.u8 (↑g : Int)), iv (0 : Int), V.raw (Value.int IntKind.u8 (↑g : Int)), bv false] fun v => onBool v fun b => R (V.tup [bv b, iv (0 : Int)])))))) (by kernel_rfl) ?_)
  refine wishes15 (fun hw => onBool_bv (ifB_f rfl ?_)) (fun hw => onBool_bv (ifB_t rfl (h.wishes hw)))
  rw [wl_length]
  refine order16 hw.1 (fun b hb => onBool_bv (ifB_mk (fun hc => h.trade hw fun ho => ?_) (fun hc => ?_)))
  · have := hb.2 ho; subst this; cases hc
  have ho := hb.1 (by cases b; cases hc; rfl)
  rw [shn w.length (by have := hw.1; omega), wr (by omega) (by omega)]
  refine ifB_mk (fun h0 => h.group hw ho (.inl (by simpa using h0))) (fun h0 => ifB_mk (fun h1 => h.group hw ho (.inr (by have := of_decide_eq_true h1; omega))) (fun h1 => ?_))
  have hgn : g < 2 ^ w.length := by have := of_decide_eq_false h1; omega
  obtain ⟨ww, hu, hwn⟩ := to_W hw
  have hlu : w.length = ww.length := by rw [hu]; simp [ofW]
  obtain ⟨tt, hp, htp⟩ := to_N ho
  rw [hlu] at htp hgn
  have hgood := h.good ww tt hu hp hwn htp (by simpa using h0) hgn
  clear h hb hc hw ho h1 b
  subst hu hp
  rw [wl_of, nl_of]
  refine deals90 hwn htp hgn ww.length 0 (by omega) g false _ hg (fun b hb => onBool_bv (hgood b ?_))
  rw [hi_zero] at hb
  exact hb
theorem better33 {w : List (List Int)} {t : List Int} {g : Nat} {R : V → Prop} (hg : g < 256) (h : Says w t g R) : K0G Try.prog glX 33 [.lst 1 (wl w), .lst 1 (nl t), sv g] R := by
  refine K0_of_WY0 hmX hcM 100 Try.func33 (see (p := K0G Try.prog glX 80 [V.lst 1 (wl w)] fun v => onIntK IntKind.i64 v fun n => ifB (n != (0 : Int)) (R (V.tup [bv false, iv n])) (K0G Try.prog glX 87 [V.lst 1 (nl t), iv (↑(wl w).length : Int)] fun v => onBool v fun b => ifB (!b) (R (V.tup [bv false, iv (8 : Int)])) (ifB ((↑g : Int) == (0 : Int)) (R (V.tup [bv false, iv (2 : Int)])) (K0G Try.prog glX 81 [iv (↑(wl w).length : Int)] fun v => onIntK IntKind.u8 v fun n => ifB (IntKind.u8.wrap (↑(BitVec.ofInt 8 (↑g : Int) &&& ~~~BitVec.ofInt 8 n).toNat : Int) != (0 : Int)) (R (V.tup [bv false, iv (2 : Int)])) (K0G Try.prog glX 88 [V.lst 1 (wl w), V.lst 1 (nl t), V.raw (Value.int IntKind.u8 (↑g : Int))] fun v => onBool v fun b => R (V.tup [bv b, iv (0 : Int)])))))) (by kernel_rfl) ?_)
  refine wishes43 (fun hw => onIntK_iv (ifB_f rfl ?_)) (fun hw => onIntK_iv (ifB_t rfl (h.wishes hw)))
  rw [wl_length]
  refine once50 hw.1 (fun b hb => onBool_bv (ifB_mk (fun hc => h.trade hw fun ho => ?_) (fun hc => ?_)))
  · have := hb.2 ho; subst this; cases hc
  have ho := hb.1 (by cases b; cases hc; rfl)
  refine ifB_mk (fun h0 => h.group hw ho (.inl (by simpa using h0))) (fun h0 => firsts44 (by have := hw.1; omega) (onIntK_u8 ?_))
  rcases Nat.lt_or_ge g (2 ^ w.length) with hgn | hgn
  rotate_left
  · exact ifB_t (andn_not w.length (by have := hw.1; omega) g hg hgn) (h.group hw ho (.inr hgn))
  refine ifB_f (by rw [andn_bits w.length (by have := hw.1; omega) g hgn]; rfl) ?_
  obtain ⟨ww, hu, hwn⟩ := to_W hw
  have hlu : w.length = ww.length := by rw [hu]; simp [ofW]
  obtain ⟨tt, hp, htp⟩ := to_N ho
  rw [hlu] at htp hgn
  have hgood := h.good ww tt hu hp hwn htp (by simpa using h0) hgn
  clear h hb hc hw ho b
  subst hu hp
  rw [wl_of, nl_of]
  exact better51 hwn htp hgn (fun b hb => onBool_bv (hgood b hb))
theorem same23 {a : List Nat} {R : V → Prop} (ha : a.length ≤ 1000) (h : R (bv true)) : K0G Try.prog glX 23 [.lst 1 (nn a), .lst 1 (nn a)] R := by
  refine K0_of_WY0 hmX hcM 100 Try.func23 (see (p := ifB ((↑(nn a).length : Int) != (↑(nn a).length : Int)) (R (bv false)) (La 0 [(0 : Tmp), (1 : Tmp), (5 : Tmp)] (WY Try.prog cfM 94 (Env.mk (Bs.mk 0 []) 0 none 26 23 0) (cdAt [1, 1, 0, 1, 0, 0] (bodyOf Try.f23))) (Qblk 0 (Qthen (WY Try.prog cfM 97 (Env.mk (Bs.mk 0 []) 0 none 26 23 0) (cdAt [1, 1, 1] (bodyOf Try.f23)) (QendX Try.prog Try.f23 fun v h => R (frzW h v))) (QendX Try.prog Try.f23 fun v h => R (frzW h v)))) (St.mk (mkT [(0, V.lst 1 (nn a)), (1, V.lst 1 (nn a)), (5, iv (0 : Int))]) (Hp.mk [] 0 [])))) (by kernel_rfl) ?_)
  refine ifB_f (by simp) ?_
  refine La.of (σ := Nat) (fun k => sh23 a a k) (fun k => k ≤ a.length) (fun k => a.length - k) 0 (by kernel_rfl) (by simp) ?_
  rintro k hk J hJ
  refine see (p := ifB (decide ((↑k : Int) < (↑(nn a).length : Int))) (onSome (nn a)[k]? fun row => onSome row[0]? fun v => onIntK IntKind.i64 v fun n => onSome (nn a)[k]? fun row => onSome row[0]? fun v => onIntK IntKind.i64 v fun n_1 => ifB (n != n_1) (R (bv false)) (J (St.mk (mkT [(0, V.lst 1 (nn a)), (1, V.lst 1 (nn a)), (5, iv (IntKind.i64.wrap ((↑k : Int) + (1 : Int))))]) (Hp.mk [] 0 [])))) (R (bv true))) (by kernel_rfl) ?_
  refine ifB_mk (fun hb => ?_) (fun hb => h)
  have hlt : k < a.length := by rw [nn_length] at hb; have := of_decide_eq_true hb; omega
  refine nel (getN hlt) (nel (getN hlt) (ifB_f (by simp) ?_))
  rw [wr1 hlt (by omega)]
  exact hJ (k + 1) hlt (by omega)
theorem same23_nil {R : V → Prop} (h : R (bv true)) : K0G Try.prog glX 23 [.lst 0 [], .lst 0 []] R := by
  refine K0_of_WY0 hmX hcM 100 Try.func23 (see (p := La 0 [(0 : Tmp), (1 : Tmp), (5 : Tmp)] (WY Try.prog cfM 94 (Env.mk (Bs.mk 0 []) 0 none 26 23 0) (cdAt [1, 1, 0, 1, 0, 0] (bodyOf Try.f23))) (Qblk 0 (Qthen (WY Try.prog cfM 97 (Env.mk (Bs.mk 0 []) 0 none 26 23 0) (cdAt [1, 1, 1] (bodyOf Try.f23)) (QendX Try.prog Try.f23 fun v h => R (frzW h v))) (QendX Try.prog Try.f23 fun v h => R (frzW h v)))) (St.mk (mkT [(0, V.lst 0 []), (1, V.lst 0 []), (5, iv (0 : Int))]) (Hp.mk [] 0 []))) (by kernel_rfl) ?_)
  refine La.of (σ := Nat) (fun k => sh23n k) (fun k => True) (fun k => 0) 0 (by kernel_rfl) trivial ?_
  rintro k hk J hJ
  refine see (p := R (bv true)) (by kernel_rfl) ?_
  first | exact h | exact ifB_f (by simp) h
end Go.Proofs.Ytmddjopahcbefaa
