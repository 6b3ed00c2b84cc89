/- A group of one does better just if its trader likes its own lot more; what helps everybody is found for the group of all. -/
import Derived.Test.YtmddjopahcbefaaXTB
import Derived.Test.YtmddjopahcbefaaXTC
namespace Go.Proofs.Ytmddjopahcbefaa
open Go Go.Proofs.Ytmddjopahcbefaa.Clean
set_option linter.unusedVariables false
set_option linter.unusedSimpArgs false
set_option maxRecDepth 10000

theorem use {f : FuncId} {a : List V} {r : V} {R : V → Prop} (h : K0G Try.prog glX f a fun v => v = r) (hr : R r) : K0G Try.prog glX f a R := h.mono' fun v e => by cases e; exact hr

/-! numbers from 0 on -/
def ofN (l : List Nat) : List Int := l.map fun (n : Nat) => (n : Int)
def ofW (w : List (List Nat)) : List (List Int) := w.map ofN
theorem nl_of (l : List Nat) : nl (ofN l) = nn l := by simp [nl, nn, ofN]
theorem wl_of (w : List (List Nat)) : wl (ofW w) = wn w := by simp [wl, wn, ofW, nl_of]
def OnceN (l : List Nat) (n : Nat) : Prop := l.length = n ∧ (∀ (i x : Nat), l[i]? = some x → x < n) ∧ ∀ (i j x : Nat), i < j → l[i]? = some x → l[j]? ≠ some x
theorem ofN_get (l : List Nat) (i : Nat) : (ofN l)[i]? = (l[i]?).map fun (n : Nat) => (n : Int) := by simp [ofN]
theorem once_of {l : List Nat} {n : Nat} : Once (ofN l) n ↔ OnceN l n := by
  constructor
  · rintro ⟨h1, h2, h3⟩
    refine ⟨by simpa [ofN] using h1, fun i x hi => ?_, fun i j x hij hi hj => ?_⟩
    · have := h2 i x (by rw [ofN_get, hi]; rfl); omega
    · exact h3 i j x hij (by rw [ofN_get, hi]; rfl) (by rw [ofN_get, hj]; rfl)
  · rintro ⟨h1, h2, h3⟩
    refine ⟨by simpa [ofN] using h1, fun i x hi => ?_, fun i j x hij hi hj => ?_⟩
    · rw [ofN_get] at hi
      obtain ⟨a, ha, rfl⟩ := Option.map_eq_some_iff.1 hi
      have := h2 i a ha; omega
    · rw [ofN_get] at hi hj
      obtain ⟨a, ha, rfl⟩ := Option.map_eq_some_iff.1 hi
      obtain ⟨b, hb, hab⟩ := Option.map_eq_some_iff.1 hj
      have : b = a := by have h : (b : Int) = (a : Int) := hab; omega
      subst this
      exact h3 i j b hij ha hb
theorem to_N {l : List Int} {n : Nat} (h : Once l n) : ∃ l', l = ofN l' ∧ OnceN l' n := by
  have : l = ofN (l.map Int.toNat) := by
    apply List.ext_getElem?
    intro i
    rw [ofN_get, List.getElem?_map]
    cases hi : l[i]? with
    | none => rfl
    | some x =>
      have := (h.2.1 i x hi).1
      simp only [Option.map_some]
      congr 1
      omega
  exact ⟨_, this, once_of.1 (this ▸ h)⟩
def WokN (w : List (List Nat)) : Prop := (1 ≤ w.length ∧ w.length ≤ 8) ∧ ∀ (i : Nat) l, w[i]? = some l → OnceN l w.length
theorem wok_of {w : List (List Nat)} : Wok (ofW w) ↔ WokN w := by
  unfold Wok WokN
  have hl : (ofW w).length = w.length := by simp [ofW]
  rw [hl]
  refine and_congr_right fun _ => ⟨fun h i l hi => once_of.1 (h i (ofN l) (by simp [ofW, hi])), fun h i l hi => ?_⟩
  simp only [ofW, List.getElem?_map] at hi
  obtain ⟨a, ha, rfl⟩ := Option.map_eq_some_iff.1 hi
  exact once_of.2 (h i a ha)
theorem to_W {w : List (List Int)} (h : Wok w) : ∃ w', w = ofW w' ∧ WokN w' := by
  have : w = ofW (w.map fun l => l.map Int.toNat) := by
    apply List.ext_getElem?
    intro i
    simp only [ofW, List.getElem?_map]
    cases hi : w[i]? with
    | none => rfl
    | some l =>
      obtain ⟨l', rfl, _⟩ := to_N (h.2 i l hi)
      simp only [Option.map_some]
      congr 1
      simp [ofN]
  exact ⟨_, this, wok_of.1 (this ▸ h)⟩

/-! each lot is there -/
theorem pigeon : ∀ (n : Nat) (f : Nat → Nat), (∀ i, i < n → f i < n) → (∀ i j, i < j → j < n → f i ≠ f j) → ∀ m, m < n → ∃ k, k < n ∧ f k = m
  | 0, _, _, _, m, hm => by omega
  | n + 1, f, h1, h2, m, hm => by
    by_cases hn : f n = m
    · exact ⟨n, by omega, hn⟩
    -- what goes to n goes to f n
    let g : Nat → Nat := fun i => if f i = n then f n else f i
    have g1 : ∀ i, i < n → g i < n := fun i hi => by
      simp only [g]
      split
      · rename_i he
        have := h1 n (by omega)
        have := h2 i n hi (by omega)
        omega
      · have := h1 i (by omega); omega
    have g2 : ∀ i j, i < j → j < n → g i ≠ g j := fun i j hij hj => by
      have a := h2 i j hij (by omega)
      have b := h2 i n (by omega) (by omega)
      have c := h2 j n (by omega) (by omega)
      simp only [g]
      split <;> split <;> omega
    by_cases hmn : m = n
    · subst hmn
      -- some i below n goes to n
      have hfn : f m < m := by have := h1 m (by omega); omega
      obtain ⟨k, k1, k2⟩ := pigeon m g g1 g2 (f m) hfn
      simp only [g] at k2
      split at k2
      · rename_i he; exact ⟨k, by omega, he⟩
      · exact absurd k2 (h2 k m k1 (by omega))
    · obtain ⟨k, k1, k2⟩ := pigeon n g g1 g2 m (by omega)
      simp only [g] at k2
      split at k2
      · exact absurd k2 hn
      · exact ⟨k, by omega, k2⟩
theorem all_in {l : List Nat} {n m : Nat} (h : OnceN l n) (hm : m < n) : ∃ k : Nat, l[k]? = some m := by
  obtain ⟨h1, h2, h3⟩ := h
  have g : ∀ i, i < n → l[i]? = some (l.getD i 0) := fun i hi => getN (by omega)
  obtain ⟨k, k1, k2⟩ := pigeon n (fun i => l.getD i 0) (fun i hi => h2 i _ (g i hi)) (fun i j hij hj he => h3 i j _ hij (g i (by omega)) (by rw [g j hj]; exact congrArg some he.symm)) m hm
  exact ⟨k, by rw [g k k1]; exact congrArg some k2⟩

/-- Where a lot stands in a list of wishes. -/
def lik : List Nat → Nat → Nat
  | [], _ => 0
  | a :: l, x => if a = x then 0 else lik l x + 1
theorem lik_le : ∀ (l : List Nat) (x : Nat), lik l x ≤ l.length
  | [], x => by simp [lik]
  | a :: l, x => by simp only [lik, List.length_cons]; split; omega; have := lik_le l x; omega
theorem lik_at : ∀ {l : List Nat} {x : Nat}, lik l x < l.length → l[lik l x]? = some x
  | [], x, h => by simp at h
  | a :: l, x, h => by
    simp only [lik, List.length_cons] at h ⊢
    split at h
    · rename_i he; rw [if_pos he]; simp [he]
    · rename_i he; rw [if_neg he]; simpa using lik_at (l := l) (x := x) (by omega)
theorem lik_no : ∀ {l : List Nat} {x j : Nat}, j < lik l x → l[j]? ≠ some x
  | [], x, j, h => by simp [lik] at h
  | a :: l, x, j, h => by
    simp only [lik] at h
    split at h
    · omega
    · rename_i he
      cases j with
      | zero => simpa using he
      | succ j => simpa using lik_no (l := l) (x := x) (j := j) (by omega)
theorem lik_eq {l : List Nat} {x k : Nat} (hk : l[k]? = some x) (hn : ∀ j, j < k → l[j]? ≠ some x) : lik l x = k := by
  have hlt := (List.getElem?_eq_some_iff.1 hk).1
  rcases Nat.lt_trichotomy (lik l x) k with h | h | h
  · exact absurd (lik_at (by omega)) (hn _ h)
  · exact h
  · exact absurd hk (lik_no h)
theorem lik_out {l : List Nat} {x : Nat} (hn : ∀ j, j < l.length → l[j]? ≠ some x) : lik l x = l.length := by
  have := lik_le l x
  rcases Nat.lt_or_ge (lik l x) l.length with h | h
  · exact absurd (lik_at h) (hn _ h)
  · omega
theorem rch_iff {l : List Nat} {x y : Nat} : rch l x y ↔ lik l x < l.length ∧ lik l x ≤ lik l y := by
  constructor
  · rintro ⟨k, h1, h2⟩
    have hlt := (List.getElem?_eq_some_iff.1 h1).1
    have a : lik l x ≤ k := by
      rcases Nat.lt_or_ge k (lik l x) with h | h
      · exact absurd h1 (lik_no h)
      · exact h
    have b : k ≤ lik l y := by
      rcases Nat.lt_or_ge (lik l y) k with h | h
      · exact absurd (lik_at (by omega)) (h2 _ h)
      · exact h
    omega
  · rintro ⟨h1, h2⟩
    exact ⟨lik l x, lik_at h1, fun j hj => lik_no (by omega)⟩
theorem liking17 {l : List Nat} {x : Nat} {R : V → Prop} (hl : l.length ≤ 1000) (h : R (iv (lik l x : Int))) : K0G Try.prog glX 122 [.lst 1 (nn l), iv (x : Int)] R := by
  refine K0_of_WY0 hmX hcM 100 Try.func122 (see (p := La 0 [(0 : Tmp), (1 : Tmp), (5 : Tmp)] (WY Try.prog cfM 95 (Env.mk (Bs.mk 0 []) 0 none 21 122 0) (cdAt [1, 0, 1, 0, 0] (bodyOf Try.f122))) (Qblk 0 (Qthen (WY Try.prog cfM 98 (Env.mk (Bs.mk 0 []) 0 none 21 122 0) (cdAt [1, 1] (bodyOf Try.f122)) (QendX Try.prog Try.f122 fun v h => R (frzW h v))) (QendX Try.prog Try.f122 fun v h => R (frzW h v)))) (St.mk (mkT [(0, V.lst 1 (nn l)), (1, iv (↑x : Int)), (5, iv (0 : Int))]) (Hp.mk [] 0 []))) (by kernel_rfl) ?_)
  refine La.of (σ := Nat) (fun k => sh17 l x k) (fun k => k ≤ l.length ∧ ∀ j, j < k → l[j]? ≠ some x) (fun k => l.length - k) 0 (by kernel_rfl) ⟨by simp, by simp⟩ ?_
  rintro k ⟨hk, hk1⟩ J hJ
  refine see (p := ifB (decide ((↑k : Int) < (↑(nn l).length : Int))) (onSome (nn l)[k]? fun row => onSome row[0]? fun v => onIntK IntKind.i64 v fun n => ifB (n == (↑x : Int)) (R (iv (↑k : Int))) (J (St.mk (mkT [(0, V.lst 1 (nn l)), (1, iv (↑x : Int)), (5, iv (IntKind.i64.wrap ((↑k : Int) + (1 : Int))))]) (Hp.mk [] 0 [])))) (R (iv (↑(nn l).length : Int)))) (by kernel_rfl) ?_
  refine ifB_mk (fun hb => ?_) (fun hb => ?_)
  · have hlt : k < l.length := by rw [nn_length] at hb; have := of_decide_eq_true hb; omega
    have hx := getN hlt
    generalize l.getD k 0 = y at hx
    refine nel hx (ifB_mk (fun he => ?_) (fun he => ?_))
    · have : y = x := by have := beq_iff_eq.1 he; omega
      subst this
      rw [lik_eq hx hk1] at h
      exact h
    · rw [wr1 hlt (by omega)]
      refine hJ (k + 1) ⟨hlt, fun j hj => ?_⟩ (by omega)
      rcases Nat.lt_succ_iff_lt_or_eq.1 hj with g | g
      · exact hk1 j g
      · subst g
        rw [hx]
        intro hh
        cases hh
        simp at he
  · have hkl : k = l.length := by rw [nn_length] at hb; have := of_decide_eq_false hb; omega
    rw [lik_out (fun j hj => hk1 j (by omega))] at h
    rw [nn_length]
    exact h
theorem wide13 {w : List (List Int)} {R : V → Prop} (hw : w.length ≤ 9223372036854775807) (h : ∀ b, R (bv b)) : K0G Try.prog glX 30 [.lst 1 (wl w)] R := by
  refine K0_of_WY0 hmX hcM 100 Try.func30 (see (p := La 0 [(0 : Tmp), (5 : Tmp), (6 : Tmp), (7 : Tmp)] (WY Try.prog cfM 95 (Env.mk (Bs.mk 0 []) 0 none 18 30 0) (cdAt [1, 0, 1, 0, 0] (bodyOf Try.f30))) (Qblk 0 (Qthen (WY Try.prog cfM 98 (Env.mk (Bs.mk 0 []) 0 none 18 30 0) (cdAt [1, 1] (bodyOf Try.f30)) (QendX Try.prog Try.f30 fun v h => R (frzW h v))) (QendX Try.prog Try.f30 fun v h => R (frzW h v)))) (St.mk (mkT [(0, V.lst 1 (wl w)), (5, V.lst 1 (wl w)), (6, iv (↑(wl w).length : Int)), (7, iv (0 : Int))]) (Hp.mk [] 0 []))) (by kernel_rfl) ?_)
  refine La.of (σ := Nat) (fun k => sh13 w nilS k) (fun k => k ≤ w.length) (fun k => w.length - k) 0 (by kernel_rfl) (by simp) ?_
  rintro k hk J hJ
  refine see (p := ifB (decide ((↑k : Int) < (↑(wl w).length : Int))) (onSome (wl w)[k]? fun row => onSome row[0]? fun v => onLst v fun s es => ifB (decide ((↑es.length : Int) > (12 : Int))) (R (bv true)) (J (St.mk (mkT [(0, V.lst 1 (wl w)), (5, V.lst 1 (wl w)), (6, iv (↑(wl w).length : Int)), (7, iv (IntKind.i64.wrap ((↑k : Int) + (1 : Int))))]) (Hp.mk [] 0 [])))) (R (bv (decide ((↑(wl w).length : Int) > (12 : Int)))))) (by kernel_rfl) ?_
  refine ifB_mk (fun hb => ?_) (fun hb => h _)
  have hlt : k < w.length := by rw [wl_length] at hb; have := of_decide_eq_true hb; omega
  refine wlel (getWI hlt) (ifB_mk (fun _ => h _) (fun _ => ?_))
  rw [wr1 hlt (by omega)]
  exact hJ (k + 1) hlt (by omega)

/-! Better -/
theorem better51 {w : List (List Nat)} {t : List Nat} {g : Nat} {R : V → Prop} (hw : WokN w) (ht : OnceN t w.length) (hg : g < 2 ^ w.length) (h : ∀ b, (b = true ↔ Can w t g g false) → R (bv b)) : K0G Try.prog glX 88 [.lst 1 (wn w), .lst 1 (nn t), sv g] R := by
  refine K0_by hmX hcM 100 Try.func88 (p := KM Try.prog glX 121 [V.raw (Value.int IntKind.u8 (↑g : Int)), V.raw (Value.int IntKind.u8 (↑g : Int)), bv false, V.ptr (Id.p 0) 0 0, V.ptr (Id.p 1) 0 0, V.ptr (Id.p 2) 0 0] (Hp.mk [(0, O.rows 1 false [[V.lst 1 (wn w)]]), (1, O.rows 1 false [[V.fn (Fn.func 121) [] [V.ptr (Id.p 0) 0 0, V.ptr (Id.p 1) 0 0, V.ptr (Id.p 2) 0 0]]]), (2, O.rows 1 false [[V.lst 1 (nn t)]])] 3 []) (fun h x => h) fun v us => onBool v fun b => R (bv b)) (by kernel_rfl) ?_
  have h8 : 2 ^ w.length ≤ 2 ^ 8 := Nat.pow_le_pow_right (by omega) hw.1.2
  have h256 : g < 256 := Nat.lt_of_lt_of_le hg h8
  have hwv : ∀ l ∈ w, l.length ≤ 1000 ∧ ∀ x ∈ l, x < 8 := by
    intro l hl
    obtain ⟨i, hi⟩ := List.getElem?_of_mem hl
    obtain ⟨a1, a2, _⟩ := hw.2 i l hi
    have := hw.1.2
    refine ⟨by omega, fun x hx => ?_⟩
    obtain ⟨j, hj⟩ := List.getElem?_of_mem hx
    have := a2 j x hj
    omega
  have hgb : ∀ i, g.testBit i = true → i < w.length := by
    intro i hi
    exact (Nat.pow_lt_pow_iff_right (a := 2) (by omega)).1 (Nat.lt_of_le_of_lt (Nat.ge_two_pow_of_testBit hi) hg)
  exact give74 (w := w) (tr := t) hwv ht.1 g h256 hgb g false _ h256 (fun b hb => onBool_bv (h b hb))
theorem andn_bits : ∀ n, n < 9 → ∀ g, g < 2 ^ n → IntKind.u8.wrap (↑(BitVec.ofInt 8 ((g : Nat) : Int) &&& ~~~BitVec.ofInt 8 ((2 ^ n - 1 : Nat) : Int)).toNat : Int) = 0 := by decide +kernel
theorem better18 {w : List (List Nat)} {t : List Nat} {g : Nat} {R : V → Prop} (hw : WokN w) (ht : OnceN t w.length) (hg0 : g ≠ 0) (hg : g < 2 ^ w.length) (h : ∀ b, (b = true ↔ Can w t g g false) → R (.tup [bv b, iv 0])) : K0G Try.prog glX 33 [.lst 1 (wn w), .lst 1 (nn t), sv g] R := by
  refine K0_of_WY0 hmX hcM 100 Try.func33 (see (p := K0G Try.prog glX 80 [V.lst 1 (wn w)] fun v => onIntK IntKind.i64 v fun n => ifB (n != (0 : Int)) (R (V.tup [bv false, iv n])) (K0G Try.prog glX 87 [V.lst 1 (nn t), iv (↑(wn w).length : Int)] fun v => onBool v fun b => ifB (!b) (R (V.tup [bv false, iv (8 : Int)])) (ifB ((↑g : Int) == (0 : Int)) (R (V.tup [bv false, iv (2 : Int)])) (K0G Try.prog glX 81 [iv (↑(wn w).length : Int)] fun v => onIntK IntKind.u8 v fun n => ifB (IntKind.u8.wrap (↑(BitVec.ofInt 8 (↑g : Int) &&& ~~~BitVec.ofInt 8 n).toNat : Int) != (0 : Int)) (R (V.tup [bv false, iv (2 : Int)])) (K0G Try.prog glX 88 [V.lst 1 (wn w), V.lst 1 (nn t), V.raw (Value.int IntKind.u8 (↑g : Int))] fun v => onBool v fun b => R (V.tup [bv b, iv (0 : Int)])))))) (by kernel_rfl) ?_)
  rw [← wl_of w, ← nl_of t]
  refine wishes43 (fun _ => onIntK_iv (ifB_f rfl ?_)) (fun hn => absurd (wok_of.2 hw) hn)
  rw [wl_length, show (ofW w).length = w.length by simp [ofW]]
  refine once50 hw.1 (fun b hb => onBool_bv ?_)
  have hb1 : b = true := hb.2 (once_of.2 ht)
  subst hb1
  refine ifB_f rfl (ifB_f (by simp; omega) (firsts44 (by have := hw.1.2; omega) (onIntK_u8 (ifB_f ?_ ?_))))
  · rw [andn_bits w.length (by have := hw.1.2; omega) g hg]; rfl
  · rw [wl_of, nl_of]
    exact better51 hw ht hg (fun b hb => onBool_bv (h b hb))
theorem sh1_bits : ∀ i, i < 8 → IntKind.u8.wrap ((1 : Int) * (2 : Int) ^ min ((i : Nat) : Int).toNat 8) = ((2 ^ i : Nat) : Int) := by decide +kernel
theorem can_one {w : List (List Nat)} {t : List Nat} {i : Nat} (hw : WokN w) (ht : OnceN t w.length) (hi : i < w.length) : Can w t (2 ^ i) (2 ^ i) false ↔ lik (w.getD i []) i < lik (w.getD i []) (t.getD i 0) := by
  have bit : ∀ {m}, (2 ^ i).testBit m = true ↔ i = m := fun {m} => by rw [Nat.testBit_two_pow]; simp
  have hwi := hw.2 i _ (getW hi)
  have hti : t[i]? = some (t.getD i 0) := getN (by rw [ht.1]; exact hi)
  have htn := ht.2.1 i _ hti
  obtain ⟨k1, hk1⟩ := all_in hwi hi
  have in1 : lik (w.getD i []) i < (w.getD i []).length := by
    have hlt := (List.getElem?_eq_some_iff.1 hk1).1
    rcases Nat.lt_or_ge (lik (w.getD i []) i) (w.getD i []).length with h | h
    · exact h
    · exact absurd hk1 (lik_no (by omega))
  constructor
  · rintro ⟨σ, h1, h2, h3⟩
    obtain ⟨a1, a2⟩ := h1 i (bit.2 rfl)
    have hs : i = σ i := bit.1 a1
    rw [← hs] at a2
    have a2 := (rch_iff.1 a2).2
    rcases h3 with h3 | ⟨u, h3, h4⟩
    · cases h3
    · have := bit.1 h3
      subst this
      rw [← hs] at h4
      rcases Nat.lt_or_eq_of_le a2 with h | h
      · exact h
      · have b1 := lik_at in1
        have b2 := lik_at (l := w.getD i []) (x := t.getD i 0) (by omega)
        rw [← h, b1] at b2
        exact absurd (Option.some.inj b2) h4
  · intro hlt
    refine ⟨fun _ => i, fun u hu => ?_, fun u v hu hv _ => by rw [← bit.1 hu, ← bit.1 hv], .inr ⟨i, bit.2 rfl, fun he => ?_⟩⟩
    · have := bit.1 hu
      subst this
      exact ⟨bit.2 rfl, rch_iff.2 ⟨in1, Nat.le_of_lt hlt⟩⟩
    · simp only at he
      rw [← he] at hlt; omega
theorem wf_u8 {n : Int} (h : (Lit.int .u8 n).wf = true) : 0 ≤ n ∧ n < 256 := by
  simp [Lit.wf, IntKind.min, IntKind.max, IntKind.signed, IntKind.bits] at h
  omega
theorem len_ok {α : Type} {l : List α} (h : l.length ≤ maxLen) : l.length ≤ 9223372036854775807 := by
  have : maxLen = 9223372036854775807 := by decide
  omega
end Go.Proofs.Ytmddjopahcbefaa
