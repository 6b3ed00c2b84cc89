/- What Choose returns. -/
import Derived.Test.YtmddjopahcbefaaGreatXNCD8
namespace Go.Proofs.YtmddjopahcbefaaGreat
open Go Go.Proofs.YtmddjopahcbefaaGreat.Clean
set_option linter.unusedVariables false
set_option linter.unusedSimpArgs false
set_option maxRecDepth 10000

/-- One part is before another one. -/
def Bef (x y : It) : Prop := x.1 < y.1 ∨ x.1 = y.1 ∧ x.2.1 < y.2.1
theorem parts112 {a b c d : Int} {R : V → Prop} (h : ∀ n, (n < 0 → a < c ∨ a = c ∧ b < d) → R (iv n)) : K0G Tryz.prog glX 112 [.agg [iv a, u8v b], .agg [iv c, u8v d]] R := by
  refine K0_of_WY0 hmX hcM 3000 Tryz.func112 (see (p := ifB (a != a) (ifB (c != c) (ifB (b != b) (ifB (d != d) (R (iv (0 : Int))) (R (iv (-1 : Int)))) (ifB (d != d) (R (iv (1 : Int))) (ifB (decide (b < d)) (R (iv (-1 : Int))) (ifB (decide (b > d)) (R (iv (1 : Int))) (R (iv (0 : Int))))))) (ifB (b != b) (ifB (d != d) (R (iv (-1 : Int))) (R (iv (-1 : Int)))) (ifB (d != d) (R (iv (-1 : Int))) (ifB (decide (b < d)) (R (iv (-1 : Int))) (ifB (decide (b > d)) (R (iv (-1 : Int))) (R (iv (-1 : Int)))))))) (ifB (c != c) (ifB (b != b) (ifB (d != d) (R (iv (1 : Int))) (R (iv (1 : Int)))) (ifB (d != d) (R (iv (1 : Int))) (ifB (decide (b < d)) (R (iv (1 : Int))) (ifB (decide (b > d)) (R (iv (1 : Int))) (R (iv (1 : Int))))))) (ifB (decide (a < c)) (ifB (b != b) (ifB (d != d) (R (iv (-1 : Int))) (R (iv (-1 : Int)))) (ifB (d != d) (R (iv (-1 : Int))) (ifB (decide (b < d)) (R (iv (-1 : Int))) (ifB (decide (b > d)) (R (iv (-1 : Int))) (R (iv (-1 : Int))))))) (ifB (decide (a > c)) (ifB (b != b) (ifB (d != d) (R (iv (1 : Int))) (R (iv (1 : Int)))) (ifB (d != d) (R (iv (1 : Int))) (ifB (decide (b < d)) (R (iv (1 : Int))) (ifB (decide (b > d)) (R (iv (1 : Int))) (R (iv (1 : Int))))))) (ifB (b != b) (ifB (d != d) (R (iv (0 : Int))) (R (iv (-1 : Int)))) (ifB (d != d) (R (iv (1 : Int))) (ifB (decide (b < d)) (R (iv (-1 : Int))) (ifB (decide (b > d)) (R (iv (1 : Int))) (R (iv (0 : Int))))))))))) (by kernel_rfl) ?_)
  simp only [bne_self_eq_false]
  refine ifB_f rfl (ifB_f rfl (ifB_mk (fun h1 => ?_) (fun h1 => ifB_mk (fun h2 => ?_) (fun h2 => ?_))))
  · have h1 := of_decide_eq_true h1
    refine ifB_f rfl (ifB_f rfl (ifB_mk (fun _ => ?_) (fun _ => ifB_mk (fun _ => ?_) (fun _ => ?_)))) <;> exact h _ (fun _ => .inl h1)
  · refine ifB_f rfl (ifB_f rfl (ifB_mk (fun _ => ?_) (fun _ => ifB_mk (fun _ => ?_) (fun _ => ?_)))) <;> exact h _ (fun hn => absurd hn (by omega))
  · have h1 := of_decide_eq_false h1
    have h2 := of_decide_eq_false h2
    refine ifB_f rfl (ifB_f rfl (ifB_mk (fun h3 => ?_) (fun _ => ifB_mk (fun _ => ?_) (fun _ => ?_))))
    · have h3 := of_decide_eq_true h3
      exact h _ (fun _ => .inr ⟨by omega, h3⟩)
    · exact h _ (fun hn => absurd hn (by omega))
    · exact h _ (fun hn => absurd hn (by omega))
def Ord (l : List It) : Prop := ∀ (i : Nat) (x y : It), l[i]? = some x → l[i + 1]? = some y → Bef x y
def Okp (x : It) : Prop := 0 ≤ x.1 ∧ x.1 ≤ 15 ∧ x.2.1 ≤ 15
theorem itl_get {l : List It} {i : Nat} {x : It} (h : l[i]? = some x) : (itl l)[i]? = some (itm x) := by simp [itl, h]
theorem order72 {l : List It} {R : V → Prop} (hl : l.length ≤ 1000) (h : ∀ b, (b = true → Ord l ∧ ∀ x ∈ l, Okp x) → R (bv b)) : K0G Tryz.prog glX 72 [.lst 3 (itl l), .fn (.func 73) [] []] R := by
  refine K0_of_WY0 hmX hcM 3000 Tryz.func72 (see (p := La 0 [(0 : Tmp), (1 : Tmp), (7 : Tmp), (8 : Tmp), (9 : Tmp)] (WY Tryz.prog cfM 2995 (Env.mk (Bs.mk 0 []) 0 none 38 72 0) (cdAt [1, 0, 1, 0, 0] (bodyOf Tryz.f72))) (Qblk 0 (Qthen (WY Tryz.prog cfM 2998 (Env.mk (Bs.mk 0 []) 0 none 38 72 0) (cdAt [1, 1] (bodyOf Tryz.f72)) (QendX Tryz.prog Tryz.f72 fun v h => R (frzW h v))) (QendX Tryz.prog Tryz.f72 fun v h => R (frzW h v)))) (St.mk (mkT [(0, V.lst 3 (itl l)), (1, V.fn (Fn.func (73 : FuncId)) [] []), (7, V.lst 3 (itl l)), (8, iv (↑(itl l).length : Int)), (9, iv (0 : Int))]) (Hp.mk [] 0 []))) (by kernel_rfl) ?_)
  refine La.of (σ := Nat) (fun k => sh72 l k) (fun k => k ≤ l.length ∧ (∀ (i : Nat) (x y : It), i + 1 < k → l[i]? = some x → l[i + 1]? = some y → Bef x y) ∧ ∀ (i : Nat) (x : It), i < k → l[i]? = some x → Okp x) (fun k => l.length - k) 0 (by kernel_rfl) ⟨by simp, by simp, by simp⟩ ?_
  rintro k ⟨g1, g2, g3⟩ J hJ
  refine see (p := ifB (decide ((↑k : Int) < (↑(itl l).length : Int))) (onSome (itl l)[k]? fun row => onCons (List.drop 0 row) fun u r => onIntK IntKind.i64 u fun n => onCons r fun u r => onIntK IntKind.u8 u fun n_1 => onCons r fun u r => onIntK IntKind.i64 u fun n_2 => ifB (decide ((0 : Int) ≤ n)) (ifB (decide (n ≤ (15 : Int))) (ifB (!decide (n_1 ≤ (15 : Int))) (R (bv false)) (ifB (decide ((↑k : Int) > (0 : Int))) (onNat (IntKind.i64.wrap ((↑k : Int) - (1 : Int))) fun m => onSome (itl l)[m]? fun row => onCons (List.drop 0 row) fun u r => onIntK IntKind.i64 u fun n_3 => onCons r fun u r => onIntK IntKind.u8 u fun n_4 => onCons r fun u r => onIntK IntKind.i64 u fun n_5 => K0G Tryz.prog glX 112 [V.agg [iv n_3, V.raw (Value.int IntKind.u8 n_4)], V.agg [iv n, V.raw (Value.int IntKind.u8 n_1)]] fun v => onIntK IntKind.i64 v fun n => ifB (decide (n ≥ (0 : Int))) (R (bv false)) (J (St.mk (mkT [(0, V.lst 3 (itl l)), (1, V.fn (Fn.func (73 : FuncId)) [] []), (7, V.lst 3 (itl l)), (8, iv (↑(itl l).length : Int)), (9, iv (IntKind.i64.wrap ((↑k : Int) + (1 : Int))))]) (Hp.mk [] 0 [])))) (J (St.mk (mkT [(0, V.lst 3 (itl l)), (1, V.fn (Fn.func (73 : FuncId)) [] []), (7, V.lst 3 (itl l)), (8, iv (↑(itl l).length : Int)), (9, iv (IntKind.i64.wrap ((↑k : Int) + (1 : Int))))]) (Hp.mk [] 0 []))))) (R (bv false))) (R (bv false))) (R (bv true))) (by kernel_rfl) ?_
  simp only [itl_length]
  have bad : R (bv false) := h false (fun h => by cases h)
  refine ifB_mk (fun hb => ?_) (fun hb => ?_)
  · have hlt : k < l.length := by have := of_decide_eq_true hb; omega
    obtain ⟨x, hx⟩ : ∃ x, l[k]? = some x := ⟨l[k], by simp [hlt]⟩
    refine onSome_mk (itl_get hx) (onCons_cons (onIntK_iv (onCons_cons (onIntK_u8 (onCons_cons (onIntK_iv ?_))))))
    refine ifB_mk (fun a1 => ifB_mk (fun a2 => ifB_mk (fun _ => bad) (fun a3 => ?_)) (fun _ => bad)) (fun _ => bad)
    have hok : Okp x := ⟨of_decide_eq_true a1, of_decide_eq_true a2, by simpa using a3⟩
    rw [wr1i hlt (by omega)]
    have go : (0 < k → ∀ y, l[k - 1]? = some y → Bef y x) → J (sh72 l (k + 1)) := fun hbef => hJ (k + 1) ⟨by omega, fun i y z hi hy hz => by
      rcases Nat.lt_succ_iff_lt_or_eq.1 hi with q | q
      · exact g2 i y z q hy hz
      · rw [q] at hz
        rw [hx] at hz
        cases hz
        exact hbef (by omega) y (by rw [show k - 1 = i from by omega]; exact hy), fun i y hi hy => by
      rcases Nat.lt_succ_iff_lt_or_eq.1 hi with q | q
      · exact g3 i y q hy
      · rw [q, hx] at hy; cases hy; exact hok⟩ (by omega)
    have go' : (0 < k → ∀ y, l[k - 1]? = some y → Bef y x) → J ⟨mkT [(0, V.lst 3 (itl l)), (1, V.fn (Fn.func 73) [] []), (7, V.lst 3 (itl l)), (8, iv (l.length : Int)), (9, iv ((k + 1 : Nat) : Int))], ⟨[], 0, []⟩⟩ := fun hbef => hJ' (by simp [sh72, itl_length]) (go hbef)
    refine ifB_mk (fun hk => ?_) (fun hk => go' (fun h0 => by have := of_decide_eq_false hk; omega))
    have hk0 : 0 < k := by have := of_decide_eq_true hk; omega
    obtain ⟨y, hy⟩ : ∃ y, l[k - 1]? = some y := ⟨l[k - 1], by simp [show k - 1 < l.length from by omega]⟩
    refine onNat_mk (m := k - 1) (by rw [wr (by omega) (by omega)]; omega) ?_
    refine onSome_mk (itl_get hy) (onCons_cons (onIntK_iv (onCons_cons (onIntK_u8 (onCons_cons (onIntK_iv ?_))))))
    refine parts112 (fun n hn => onIntK_iv (ifB_mk (fun _ => bad) (fun hc => go' (fun _ y' hy' => ?_))))
    rw [hy] at hy'
    cases hy'
    exact hn (by have := of_decide_eq_false hc; omega)
  · have hk : k = l.length := by have := of_decide_eq_false hb; omega
    refine h true (fun _ => ⟨fun i x y hx hy => g2 i x y ?_ hx hy, fun x hx => ?_⟩)
    · have := (List.getElem?_eq_some_iff.1 hy).1; omega
    · obtain ⟨i, hi⟩ := List.getElem?_of_mem hx
      exact g3 i x (by have := (List.getElem?_eq_some_iff.1 hi).1; omega) hi
/-- A stock. -/
def Stk (l : List It) : Prop := l.length ≤ 30 ∧ Ord l ∧ (∀ x ∈ l, Okp x) ∧ ∀ x ∈ l, 1 ≤ x.2.2 ∧ x.2.2 ≤ 1000
theorem check26 {l : List It} {R : V → Prop} (h : ∀ n, (n = 0 → Stk l) → R (iv n)) : K0G Tryz.prog glX 26 [.lst 3 (itl l)] R := by
  refine K0_of_WY0 hmX hcM 3000 Tryz.func26 (see (p := ifB (decide ((↑(itl l).length : Int) > (30 : Int))) (R (iv (8 : Int))) (K0G Tryz.prog glX 72 [V.lst 3 (itl l), V.fn (Fn.func 73) [] []] fun v => onBool v fun b => ifB (!b) (R (iv (8 : Int))) (La 0 [(13 : Tmp), (14 : Tmp), (15 : Tmp)] (WY Tryz.prog cfM 2994 (Env.mk (Bs.mk 0 []) 0 none 24 26 0) (cdAt [1, 1, 0, 1, 0, 0] (bodyOf Tryz.f26))) (Qblk 0 (Qthen (WY Tryz.prog cfM 2997 (Env.mk (Bs.mk 0 []) 0 none 24 26 0) (cdAt [1, 1, 1] (bodyOf Tryz.f26)) (QendX Tryz.prog Tryz.f26 fun v h => R (frzW h v))) (QendX Tryz.prog Tryz.f26 fun v h => R (frzW h v)))) (St.mk (mkT [(13, V.lst 3 (itl l)), (14, iv (↑(itl l).length : Int)), (15, iv (0 : Int))]) (Hp.mk [] 0 []))))) (by kernel_rfl) ?_)
  have bad : R (iv 8) := h 8 (fun h => by cases h)
  rw [itl_length]
  refine ifB_mk (fun _ => bad) (fun hl => ?_)
  have hl : l.length ≤ 30 := by have := of_decide_eq_false hl; omega
  refine order72 (by omega) (fun b hb => onBool_bv (ifB_mk (fun _ => bad) (fun hbt => ?_)))
  obtain ⟨o1, o2⟩ := hb (by simpa using hbt)
  refine La.of (σ := Nat) (fun k => sh26 l k) (fun k => k ≤ l.length ∧ ∀ (i : Nat) (x : It), i < k → l[i]? = some x → 1 ≤ x.2.2 ∧ x.2.2 ≤ 1000) (fun k => l.length - k) 0 (by rw [← itl_length]; kernel_rfl) ⟨by simp, by simp⟩ ?_
  rintro k ⟨g1, g3⟩ J hJ
  refine see (p := ifB (decide ((↑k : Int) < (↑(itl l).length : Int))) (onSome (itl l)[k]? fun row => onCons (List.drop 0 row) fun u r => onIntK IntKind.i64 u fun n => onCons r fun u r => onIntK IntKind.u8 u fun n => onCons r fun u r => onIntK IntKind.i64 u fun n => ifB (decide ((1 : Int) ≤ n)) (ifB (!decide (n ≤ (1000 : Int))) (R (iv (8 : Int))) (J (St.mk (mkT [(13, V.lst 3 (itl l)), (14, iv (↑(itl l).length : Int)), (15, iv (IntKind.i64.wrap ((↑k : Int) + (1 : Int))))]) (Hp.mk [] 0 [])))) (R (iv (8 : Int)))) (R (iv (0 : Int)))) (by kernel_rfl) ?_
  simp only [itl_length]
  refine ifB_mk (fun hb => ?_) (fun hb => ?_)
  · have hlt : k < l.length := by have := of_decide_eq_true hb; omega
    obtain ⟨x, hx⟩ : ∃ x, l[k]? = some x := ⟨l[k], by simp [hlt]⟩
    refine onSome_mk (itl_get hx) (onCons_cons (onIntK_iv (onCons_cons (onIntK_u8 (onCons_cons (onIntK_iv ?_))))))
    refine ifB_mk (fun a1 => ifB_mk (fun _ => bad) (fun a2 => ?_)) (fun _ => bad)
    rw [wr1i hlt (by omega)]
    refine hJ' ?_ (hJ (k + 1) ⟨by omega, fun i y hi hy => ?_⟩ (by omega))
    · simp [sh26, itl_length]
    · rcases Nat.lt_succ_iff_lt_or_eq.1 hi with q | q
      · exact g3 i y q hy
      · rw [q, hx] at hy; cases hy; exact ⟨of_decide_eq_true a1, by simpa using a2⟩
  · have hk : k = l.length := by have := of_decide_eq_false hb; omega
    refine h 0 (fun _ => ⟨hl, o1, o2, fun x hx => ?_⟩)
    obtain ⟨i, hi⟩ := List.getElem?_of_mem hx
    exact g3 i x (by have := (List.getElem?_eq_some_iff.1 hi).1; omega) hi
theorem checkAll42 {p : List (List It)} {R : V → Prop} (hp : p.length ≤ 1000) (h : ∀ n, (n = 0 → ∀ l ∈ p, Stk l) → R (iv n)) : K0G Tryz.prog glX 42 [.lst 1 (pll p)] R := by
  refine K0_of_WY0 hmX hcM 3000 Tryz.func42 (see (p := La 0 [(6 : Tmp), (7 : Tmp), (8 : Tmp)] (WY Tryz.prog cfM 2995 (Env.mk (Bs.mk 0 []) 0 none 18 42 0) (cdAt [1, 0, 1, 0, 0] (bodyOf Tryz.f42))) (Qblk 0 (Qthen (WY Tryz.prog cfM 2998 (Env.mk (Bs.mk 0 []) 0 none 18 42 0) (cdAt [1, 1] (bodyOf Tryz.f42)) (QendX Tryz.prog Tryz.f42 fun v h => R (frzW h v))) (QendX Tryz.prog Tryz.f42 fun v h => R (frzW h v)))) (St.mk (mkT [(6, V.lst 1 (pll p)), (7, iv (↑(pll p).length : Int)), (8, iv (0 : Int))]) (Hp.mk [] 0 []))) (by kernel_rfl) ?_)
  refine La.of (σ := Nat) (fun k => sh42 p k) (fun k => k ≤ p.length ∧ ∀ (i : Nat) l, i < k → p[i]? = some l → Stk l) (fun k => p.length - k) 0 (by kernel_rfl) ⟨by simp, by simp⟩ ?_
  rintro k ⟨g1, g3⟩ J hJ
  refine see (p := ifB (decide ((↑k : Int) < (↑(pll p).length : Int))) (onSome (pll p)[k]? fun row => onSome row[0]? fun v => onLst v fun s es => K0G Tryz.prog glX 26 [V.lst s es] fun v => onIntK IntKind.i64 v fun n => ifB (n != (0 : Int)) (R (iv n)) (J (St.mk (mkT [(6, V.lst 1 (pll p)), (7, iv (↑(pll p).length : Int)), (8, iv (IntKind.i64.wrap ((↑k : Int) + (1 : Int))))]) (Hp.mk [] 0 [])))) (R (iv (0 : Int)))) (by kernel_rfl) ?_
  simp only [pll_length]
  refine ifB_mk (fun hb => ?_) (fun hb => ?_)
  · have hlt : k < p.length := by have := of_decide_eq_true hb; omega
    obtain ⟨l, hl⟩ : ∃ x, p[k]? = some x := ⟨p[k], by simp [hlt]⟩
    refine pll_get hl (check26 (fun n hn => onIntK_iv (ifB_mk (fun hc => h n (fun h0 => by subst h0; cases hc)) (fun hc => ?_))))
    rw [wr1i hlt (by omega)]
    refine hJ' ?_ (hJ (k + 1) ⟨by omega, fun i y hi hy => ?_⟩ (by omega))
    · simp [sh42, pll_length]
    · rcases Nat.lt_succ_iff_lt_or_eq.1 hi with q | q
      · exact g3 i y q hy
      · rw [q, hl] at hy; cases hy; exact hn (by simpa using hc)
  · have hk : k = p.length := by have := of_decide_eq_false hb; omega
    refine h 0 (fun _ x hx => ?_)
    obtain ⟨i, hi⟩ := List.getElem?_of_mem hx
    exact g3 i x (by have := (List.getElem?_eq_some_iff.1 hi).1; omega) hi
theorem checkPlans49 {p : List (List It)} {v : List Int} {R : V → Prop} (hv : v.length ≤ 1000) (h : ∀ n, (n = 0 → p.length ≤ 8 ∧ v.length = p.length ∧ ∀ x ∈ v, 0 ≤ x ∧ x ≤ 1000) → R (iv n)) : K0G Tryz.prog glX 49 [.lst 1 (pll p), .lst 1 (nl v)] R := by
  refine K0_of_WY0 hmX hcM 3000 Tryz.func49 (see (p := ifB (decide ((↑(pll p).length : Int) > (8 : Int))) (R (iv (4 : Int))) (ifB ((↑(nl v).length : Int) != (↑(pll p).length : Int)) (R (iv (2 : Int))) (La 0 [(15 : Tmp), (16 : Tmp), (17 : Tmp)] (WY Tryz.prog cfM 2993 (Env.mk (Bs.mk 0 []) 0 none 25 49 0) (cdAt [1, 1, 1, 0, 1, 0, 0] (bodyOf Tryz.f49))) (Qblk 0 (Qthen (WY Tryz.prog cfM 2996 (Env.mk (Bs.mk 0 []) 0 none 25 49 0) (cdAt [1, 1, 1, 1] (bodyOf Tryz.f49)) (QendX Tryz.prog Tryz.f49 fun v h => R (frzW h v))) (QendX Tryz.prog Tryz.f49 fun v h => R (frzW h v)))) (St.mk (mkT [(15, V.lst 1 (nl v)), (16, iv (↑(nl v).length : Int)), (17, iv (0 : Int))]) (Hp.mk [] 0 []))))) (by kernel_rfl) ?_)
  have nll : ∀ l : List Int, (nl l).length = l.length := fun l => by simp [nl]
  rw [pll_length, nll]
  refine ifB_mk (fun _ => h _ (fun h0 => by cases h0)) (fun h1 => ifB_mk (fun _ => h _ (fun h0 => by cases h0)) (fun h2 => ?_))
  have h1 : p.length ≤ 8 := by have := of_decide_eq_false h1; omega
  have h2 : v.length = p.length := by have : (v.length : Int) = p.length := by simpa using h2
                                      omega
  refine La.of (σ := Nat) (fun k => sh49 v k) (fun k => k ≤ v.length ∧ ∀ (i : Nat) x, i < k → v[i]? = some x → 0 ≤ x ∧ x ≤ 1000) (fun k => v.length - k) 0 (by rw [← nll]; kernel_rfl) ⟨by simp, by simp⟩ ?_
  rintro k ⟨g1, g3⟩ J hJ
  refine see (p := ifB (decide ((↑k : Int) < (↑(nl v).length : Int))) (onSome (nl v)[k]? fun row => onSome row[0]? fun v_1 => onIntK IntKind.i64 v_1 fun n => ifB (decide ((0 : Int) ≤ n)) (ifB (!decide (n ≤ (1000 : Int))) (R (iv (2 : Int))) (J (St.mk (mkT [(15, V.lst 1 (nl v)), (16, iv (↑(nl v).length : Int)), (17, iv (IntKind.i64.wrap ((↑k : Int) + (1 : Int))))]) (Hp.mk [] 0 [])))) (R (iv (2 : Int)))) (R (iv (0 : Int)))) (by kernel_rfl) ?_
  simp only [nll]
  have bad : R (iv 2) := h _ (fun h0 => by cases h0)
  refine ifB_mk (fun hb => ?_) (fun hb => ?_)
  · have hlt : k < v.length := by have := of_decide_eq_true hb; omega
    obtain ⟨x, hx⟩ : ∃ x, v[k]? = some x := ⟨v[k], by simp [hlt]⟩
    refine iel hx (ifB_mk (fun a1 => ifB_mk (fun _ => bad) (fun a2 => ?_)) (fun _ => bad))
    rw [wr1i hlt (by omega)]
    refine hJ' ?_ (hJ (k + 1) ⟨by omega, fun i y hi hy => ?_⟩ (by omega))
    · simp [sh49, nll]
    · rcases Nat.lt_succ_iff_lt_or_eq.1 hi with q | q
      · exact g3 i y q hy
      · rw [q, hx] at hy; cases hy; exact ⟨of_decide_eq_true a1, by simpa using a2⟩
  · have hk : k = v.length := by have := of_decide_eq_false hb; omega
    refine h 0 (fun _ => ⟨h1, h2, fun x hx => ?_⟩)
    obtain ⟨i, hi⟩ := List.getElem?_of_mem hx
    exact g3 i x (by have := (List.getElem?_eq_some_iff.1 hi).1; omega) hi
end Go.Proofs.YtmddjopahcbefaaGreat
