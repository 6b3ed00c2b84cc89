/- What the law asks of the reference. -/
import Derived.Test.YtmddjopahcbefaaGreatXNCG8
namespace Go.Proofs.YtmddjopahcbefaaGreat
open Go Go.Proofs.YtmddjopahcbefaaGreat.Clean
set_option linter.unusedVariables false
set_option linter.unusedSimpArgs false
set_option maxRecDepth 10000

theorem lots78 {l : List It} {R : V → Prop} (h : ∀ b, R (bv b)) : K0G Tryz.prog glX 78 [.lst 3 (itl l)] R := by
  refine K0_of_WY0 hmX hcM 3000 Tryz.func78 (see (p := ifB (decide ((↑(itl l).length : Int) > (40 : Int))) (R (bv true)) (La 0 [(0 : Tmp), (3 : Tmp), (4 : Tmp)] (WY Tryz.prog cfM 2993 (Env.mk (Bs.mk 0 []) 0 none 29 78 0) (cdAt [1, 1, 1, 0, 1, 0, 0] (bodyOf Tryz.f78))) (Qblk 0 (Qthen (WY Tryz.prog cfM 2996 (Env.mk (Bs.mk 0 []) 0 none 29 78 0) (cdAt [1, 1, 1, 1] (bodyOf Tryz.f78)) (QendX Tryz.prog Tryz.f78 fun v h => R (frzW h v))) (QendX Tryz.prog Tryz.f78 fun v h => R (frzW h v)))) (St.mk (mkT [(0, V.lst 3 (itl l)), (3, iv (0 : Int)), (4, iv (0 : Int))]) (Hp.mk [] 0 [])))) (by kernel_rfl) ?_)
  rw [itl_length]
  refine ifB_mk (fun _ => h _) (fun hl => ?_)
  have hl : l.length ≤ 40 := by have := of_decide_eq_false hl; omega
  refine La.of (σ := Int × Nat) (fun x => sh78 l x.1 x.2) (fun x => x.2 ≤ l.length) (fun x => l.length - x.2) (0, 0) (by kernel_rfl) (by simp) ?_
  rintro ⟨n, k⟩ g1 J hJ
  simp only at g1
  refine see (p := ifB (decide ((↑k : Int) < (↑(itl l).length : Int))) (onSome (itl l)[k]? fun row => onSome row[2]? fun v => onIntK IntKind.i64 v fun n_1 => ifB (decide (n_1 ≥ (0 : Int))) (ifB (decide (n_1 ≤ (1000 : Int))) (onSome (itl l)[k]? fun row => onSome row[2]? fun v => onIntK IntKind.i64 v fun n_2 => J (St.mk (mkT [(0, V.lst 3 (itl l)), (3, iv (IntKind.i64.wrap (n + n_2))), (4, iv (IntKind.i64.wrap ((↑k : Int) + (1 : Int))))]) (Hp.mk [] 0 []))) (J (St.mk (mkT [(0, V.lst 3 (itl l)), (3, iv n), (4, iv (IntKind.i64.wrap ((↑k : Int) + (1 : Int))))]) (Hp.mk [] 0 [])))) (J (St.mk (mkT [(0, V.lst 3 (itl l)), (3, iv n), (4, iv (IntKind.i64.wrap ((↑k : Int) + (1 : Int))))]) (Hp.mk [] 0 [])))) (R (bv (decide (n > (8000 : Int)))))) (by kernel_rfl) ?_
  rw [itl_length]
  refine ifB_mk (fun hb => ?_) (fun hb => h _)
  have hlt : k < l.length := by have := of_decide_eq_true hb; omega
  obtain ⟨x, hx⟩ : ∃ x, l[k]? = some x := ⟨l[k], by simp [hlt]⟩
  have go : ∀ m, J (sh78 l m (k + 1)) := fun m => hJ (m, k + 1) (by simp only; omega) (by simp only; omega)
  rw [wr1i hlt (by omega)]
  refine onSome_mk (itl_get hx) (onSome_mk (x := iv x.2.2) rfl (onIntK_iv ?_))
  refine ifB_mk (fun _ => ifB_mk (fun _ => onSome_mk (itl_get hx) (onSome_mk (x := iv x.2.2) rfl (onIntK_iv (go _)))) (fun _ => go _)) (fun _ => go _)
theorem lots28 {p : List (List It)} {R : V → Prop} (hp : p.length ≤ 6) (h : ∀ b, R (bv b)) : K0G Tryz.prog glX 28 [.lst 1 (pll p)] R := by
  refine K0_of_WY0 hmX hcM 3000 Tryz.func28 (see (p := La 0 [(5 : Tmp), (6 : Tmp), (7 : Tmp)] (WY Tryz.prog cfM 2995 (Env.mk (Bs.mk 0 []) 0 none 14 28 0) (cdAt [1, 0, 1, 0, 0] (bodyOf Tryz.f28))) (Qblk 0 (Qthen (WY Tryz.prog cfM 2998 (Env.mk (Bs.mk 0 []) 0 none 14 28 0) (cdAt [1, 1] (bodyOf Tryz.f28)) (QendX Tryz.prog Tryz.f28 fun v h => R (frzW h v))) (QendX Tryz.prog Tryz.f28 fun v h => R (frzW h v)))) (St.mk (mkT [(5, V.lst 1 (pll p)), (6, iv (↑(pll p).length : Int)), (7, iv (0 : Int))]) (Hp.mk [] 0 []))) (by kernel_rfl) ?_)
  refine La.of (σ := Nat) (fun k => sh28 p k) (fun k => k ≤ p.length) (fun k => p.length - k) 0 (by kernel_rfl) (by simp) ?_
  intro k g1 J hJ
  refine see (p := ifB (decide ((↑k : Int) < (↑(pll p).length : Int))) (onSome (pll p)[k]? fun row => onSome row[0]? fun v => onLst v fun s es => K0G Tryz.prog glX 78 [V.lst s es] fun v => onBool v fun b => ifB b (R (bv true)) (J (St.mk (mkT [(5, V.lst 1 (pll p)), (6, iv (↑(pll p).length : Int)), (7, iv (IntKind.i64.wrap ((↑k : Int) + (1 : Int))))]) (Hp.mk [] 0 [])))) (R (bv false))) (by kernel_rfl) ?_
  simp only [pll_length]
  refine ifB_mk (fun hb => ?_) (fun hb => h _)
  have hlt : k < p.length := by have := of_decide_eq_true hb; omega
  obtain ⟨l, hl⟩ : ∃ x, p[k]? = some x := ⟨p[k], by simp [hlt]⟩
  rw [wr1i hlt (by omega)]
  refine pll_get hl (lots78 (fun b => onBool_bv (ifB_mk (fun _ => h _) (fun _ => hJ' ?_ (hJ (k + 1) (by omega) (by omega))))))
  simp [sh28, pll_length]
theorem small37 {p : List (List It)} {v : List Int} {R : V → Prop} (h : ∀ b, (b = true → p.length ≤ 6 ∧ v.length ≤ 20) → R (bv b)) : K0G Tryz.prog glX 37 [.lst 1 (pll p), .lst 1 (nl v)] R := by
  refine K0_of_WY0 hmX hcM 3000 Tryz.func37 (see (p := ifB (decide ((↑(pll p).length : Int) ≤ (6 : Int))) (K0G Tryz.prog glX 28 [V.lst 1 (pll p)] fun v_1 => onBool v_1 fun b => ifB (!b) (R (bv (decide ((↑(nl v).length : Int) ≤ (20 : Int))))) (R (bv false))) (R (bv false))) (by kernel_rfl) ?_)
  rw [pll_length]
  have nll : (nl v).length = v.length := by simp [nl]
  rw [nll]
  refine ifB_mk (fun h1 => ?_) (fun _ => h _ (fun h => by cases h))
  have h1 : p.length ≤ 6 := by have := of_decide_eq_true h1; omega
  refine lots28 h1 (fun b => onBool_bv (ifB_mk (fun _ => h _ (fun h2 => ⟨h1, by have := of_decide_eq_true h2; omega⟩)) (fun _ => h _ (fun h => by cases h))))
/-- The plans that are marked with m can be built. -/
def Built (bx : List It) (p : List (List It)) (who : List Nat) (m : Nat) : Prop := ∀ (i : Nat) (l : List It), p[i]? = some l → who[i]? = some m → ∀ x ∈ l, sumF p who m x ≤ hasF bx x.1 x.2.1
theorem built39 {bx : List It} {p : List (List It)} {who : List Nat} {m : Nat} {R : V → Prop} (hbx : bx.length ≤ 30) (hp : p.length ≤ 8) (hw : who.length = p.length) (hs : ∀ l ∈ p, Stk l) (h : ∀ b, (b = true ↔ Built bx p who m) → R (bv b)) : K0G Tryz.prog glX 39 [.lst 3 (itl bx), .lst 1 (pll p), .lst 1 (ul who), sv m] R := by
  refine K0_of_WY0 hmX hcM 3000 Tryz.func39 (see (p := La 0 [(0 : Tmp), (1 : Tmp), (2 : Tmp), (3 : Tmp), (13 : Tmp), (14 : Tmp), (15 : Tmp)] (WY Tryz.prog cfM 2995 (Env.mk (Bs.mk 0 []) 0 none 48 39 0) (cdAt [1, 0, 1, 0, 0] (bodyOf Tryz.f39))) (Qblk 0 (Qthen (WY Tryz.prog cfM 2998 (Env.mk (Bs.mk 0 []) 0 none 48 39 0) (cdAt [1, 1] (bodyOf Tryz.f39)) (QendX Tryz.prog Tryz.f39 fun v h => R (frzW h v))) (QendX Tryz.prog Tryz.f39 fun v h => R (frzW h v)))) (St.mk (mkT [(0, V.lst 3 (itl bx)), (1, V.lst 1 (pll p)), (2, V.lst 1 (ul who)), (3, V.raw (Value.int IntKind.u8 (↑m : Int))), (13, V.lst 1 (pll p)), (14, iv (↑(pll p).length : Int)), (15, iv (0 : Int))]) (Hp.mk [] 0 []))) (by kernel_rfl) ?_)
  refine La.of (σ := Nat) (fun k => sh39 bx p who m k) (fun k => k ≤ p.length ∧ ∀ (i : Nat) (l : List It), i < k → p[i]? = some l → who[i]? = some m → ∀ x ∈ l, sumF p who m x ≤ hasF bx x.1 x.2.1) (fun k => p.length - k) 0 (by kernel_rfl) ⟨by simp, by simp⟩ ?_
  rintro k ⟨g1, g2⟩ J hJ
  refine see (p := ifB (decide ((↑k : Int) < (↑(pll p).length : Int))) (onSome (pll p)[k]? fun row => onSome row[0]? fun v => onLst v fun s es => La 0 [(0 : Tmp), (1 : Tmp), (2 : Tmp), (3 : Tmp), (9 : Tmp), (13 : Tmp), (14 : Tmp), (15 : Tmp), (20 : Tmp), (21 : Tmp), (22 : Tmp)] (WY Tryz.prog cfM 2987 (Env.mk (Bs.mk 0 []) 0 none 48 39 2) (cdAt [1, 0, 1, 0, 0, 1, 1, 0, 0, 1, 1, 0, 0] (bodyOf Tryz.f39))) (Qblk 2 (Qblk 1 (Qthen (WY Tryz.prog cfM 2992 (Env.mk (Bs.mk 0 []) 0 none 48 39 0) (cdAt [1, 0, 1, 0, 0, 1, 1, 1] (bodyOf Tryz.f39)) (Qla 0 [(0 : Tmp), (1 : Tmp), (2 : Tmp), (3 : Tmp), (13 : Tmp), (14 : Tmp), (15 : Tmp)] J (Qblk 0 (Qthen (WY Tryz.prog cfM 2998 (Env.mk (Bs.mk 0 []) 0 none 48 39 0) (cdAt [1, 1] (bodyOf Tryz.f39)) (QendX Tryz.prog Tryz.f39 fun v h => R (frzW h v))) (QendX Tryz.prog Tryz.f39 fun v h => R (frzW h v)))))) (Qla 0 [(0 : Tmp), (1 : Tmp), (2 : Tmp), (3 : Tmp), (13 : Tmp), (14 : Tmp), (15 : Tmp)] J (Qblk 0 (Qthen (WY Tryz.prog cfM 2998 (Env.mk (Bs.mk 0 []) 0 none 48 39 0) (cdAt [1, 1] (bodyOf Tryz.f39)) (QendX Tryz.prog Tryz.f39 fun v h => R (frzW h v))) (QendX Tryz.prog Tryz.f39 fun v h => R (frzW h v)))))))) (St.mk (mkT [(0, V.lst 3 (itl bx)), (1, V.lst 1 (pll p)), (2, V.lst 1 (ul who)), (3, V.raw (Value.int IntKind.u8 (↑m : Int))), (9, iv (↑k : Int)), (13, V.lst 1 (pll p)), (14, iv (↑(pll p).length : Int)), (15, iv (↑k : Int)), (20, V.lst s es), (21, iv (↑es.length : Int)), (22, iv (0 : Int))]) (Hp.mk [] 0 []))) (R (bv true))) (by kernel_rfl) ?_
  rw [pll_length]
  refine ifB_mk (fun hb => ?_) (fun hb => ?_)
  · have hlt : k < p.length := by have := of_decide_eq_true hb; omega
    obtain ⟨l, hl⟩ : ∃ x, p[k]? = some x := ⟨p[k], by simp [hlt]⟩
    obtain ⟨w, hw'⟩ : ∃ x, who[k]? = some x := ⟨who[k], by simp [hw, hlt]⟩
    have hk := hs l (List.mem_of_getElem? hl)
    refine pll_get hl ?_
    refine La.of (σ := Nat) (fun j => sh39b bx p who m k l j) (fun j => j ≤ l.length ∧ (w = m → ∀ (i : Nat) x, i < j → l[i]? = some x → sumF p who m x ≤ hasF bx x.1 x.2.1)) (fun j => l.length - j) 0 (by rw [← pll_length]; kernel_rfl) ⟨by simp, by simp⟩ ?_
    rintro j ⟨f1, f2⟩ J2 hJ2
    refine see (p := ifB (decide ((↑j : Int) < (↑(itl l).length : Int))) (onSome (itl l)[j]? fun row => onCons (List.drop 0 row) fun u r => onIntK IntKind.i64 u fun n => onCons r fun u r => onIntK IntKind.u8 u fun n_1 => onCons r fun u r => onIntK IntKind.i64 u fun n_2 => onSome (ul who)[k]? fun row => onSome row[0]? fun v => onIntK IntKind.u8 v fun n_3 => ifB (n_3 == (↑m : Int)) (K0G Tryz.prog glX 41 [V.lst 1 (pll p), V.lst 1 (ul who), V.raw (Value.int IntKind.u8 (↑m : Int)), V.agg [iv n, V.raw (Value.int IntKind.u8 n_1), iv n_2]] fun v => onIntK IntKind.i64 v fun n_4 => K0G Tryz.prog glX 40 [V.lst 3 (itl bx), iv n, V.raw (Value.int IntKind.u8 n_1)] fun v => onIntK IntKind.i64 v fun n => ifB (decide (n_4 > n)) (R (bv false)) (J2 (St.mk (mkT [(0, V.lst 3 (itl bx)), (1, V.lst 1 (pll p)), (2, V.lst 1 (ul who)), (3, V.raw (Value.int IntKind.u8 (↑m : Int))), (9, iv (↑k : Int)), (13, V.lst 1 (pll p)), (14, iv (↑(pll p).length : Int)), (15, iv (↑k : Int)), (20, V.lst 3 (itl l)), (21, iv (↑(itl l).length : Int)), (22, iv (IntKind.i64.wrap ((↑j : Int) + (1 : Int))))]) (Hp.mk [] 0 [])))) (J2 (St.mk (mkT [(0, V.lst 3 (itl bx)), (1, V.lst 1 (pll p)), (2, V.lst 1 (ul who)), (3, V.raw (Value.int IntKind.u8 (↑m : Int))), (9, iv (↑k : Int)), (13, V.lst 1 (pll p)), (14, iv (↑(pll p).length : Int)), (15, iv (↑k : Int)), (20, V.lst 3 (itl l)), (21, iv (↑(itl l).length : Int)), (22, iv (IntKind.i64.wrap ((↑j : Int) + (1 : Int))))]) (Hp.mk [] 0 [])))) (J (St.mk (mkT [(0, V.lst 3 (itl bx)), (1, V.lst 1 (pll p)), (2, V.lst 1 (ul who)), (3, V.raw (Value.int IntKind.u8 (↑m : Int))), (13, V.lst 1 (pll p)), (14, iv (↑(pll p).length : Int)), (15, iv (IntKind.i64.wrap ((↑k : Int) + (1 : Int))))]) (Hp.mk [] 0 [])))) (by kernel_rfl) ?_
    simp only [itl_length]
    refine ifB_mk (fun hc => ?_) (fun hc => ?_)
    · have hjl : j < l.length := by have := of_decide_eq_true hc; omega
      obtain ⟨x, hx⟩ : ∃ x, l[j]? = some x := ⟨l[j], by simp [hjl]⟩
      rw [wr1i hjl (by have := hk.1; omega)]
      have go : (w = m → sumF p who m x ≤ hasF bx x.1 x.2.1) → J2 (sh39b bx p who m k l (j + 1)) := fun hg => hJ2 (j + 1) ⟨by omega, fun e i y hi hy => by
        rcases Nat.lt_succ_iff_lt_or_eq.1 hi with q | q
        · exact f2 e i y q hy
        · rw [q, hx] at hy; cases hy; exact hg e⟩ (by omega)
      refine onSome_mk (itl_get hx) (onCons_cons (onIntK_iv (onCons_cons (onIntK_u8 (onCons_cons (onIntK_iv ?_))))))
      refine onSome_mk (ul_get hw') (onSome_mk (x := sv w) rfl (onIntK_u8 (ifB_mk (fun h1 => ?_) (fun h1 => ?_))))
      · have e : w = m := by have : (w : Int) = m := by simpa using h1
                             omega
        refine sum41 hp hw hs (onIntK_iv (has40 (by omega) (onIntK_iv (ifB_mk (fun h2 => ?_) (fun h2 => ?_)))))
        · refine h false ⟨(fun h => by cases h), fun hB => ?_⟩
          have := hB k l hl (by rw [hw', e]) x (List.mem_of_getElem? hx)
          have := of_decide_eq_true h2
          omega
        · exact hJ' (by simp [sh39b, itl_length, sv, u8v]) (go (fun _ => by have := of_decide_eq_false h2; omega))
      · have e : ¬ w = m := by rintro rfl; simp at h1
        exact hJ' (by simp [sh39b, itl_length, sv, u8v]) (go (fun e' => absurd e' e))
    · have hjl : j = l.length := by have := of_decide_eq_false hc; omega
      rw [wr1i hlt (by omega)]
      refine hJ' ?_ (hJ (k + 1) ⟨by omega, fun i y hi hy hm x hx => ?_⟩ (by omega))
      · simp [sh39, pll_length, sv, u8v]
      · rcases Nat.lt_succ_iff_lt_or_eq.1 hi with q | q
        · exact g2 i y q hy hm x hx
        · rw [q, hl] at hy
          cases hy
          rw [q, hw'] at hm
          cases hm
          obtain ⟨a, ha⟩ := List.getElem?_of_mem hx
          exact f2 rfl a x (by have := (List.getElem?_eq_some_iff.1 ha).1; omega) ha
  · have hk : k = p.length := by have := of_decide_eq_false hb; omega
    exact h true ⟨fun _ i l hl hm x hx => g2 i l (by have := (List.getElem?_eq_some_iff.1 hl).1; omega) hl hm x hx, fun _ => rfl⟩
theorem all31 {l : List It} {R : V → Prop} (hl : l.length ≤ 1000) (hn : ∀ x ∈ l, 0 ≤ x.2.2 ∧ x.2.2 ≤ 1000) (h : R (iv (allF l))) : K0G Tryz.prog glX 31 [.lst 3 (itl l)] R := by
  refine K0_of_WY0 hmX hcM 3000 Tryz.func31 (see (p := La 0 [(3 : Tmp), (6 : Tmp), (7 : Tmp), (8 : Tmp)] (WY Tryz.prog cfM 2994 (Env.mk (Bs.mk 0 []) 0 none 18 31 0) (cdAt [1, 1, 0, 1, 0, 0] (bodyOf Tryz.f31))) (Qblk 0 (Qthen (WY Tryz.prog cfM 2997 (Env.mk (Bs.mk 0 []) 0 none 18 31 0) (cdAt [1, 1, 1] (bodyOf Tryz.f31)) (QendX Tryz.prog Tryz.f31 fun v h => R (frzW h v))) (QendX Tryz.prog Tryz.f31 fun v h => R (frzW h v)))) (St.mk (mkT [(3, iv (0 : Int)), (6, V.lst 3 (itl l)), (7, iv (↑(itl l).length : Int)), (8, iv (0 : Int))]) (Hp.mk [] 0 []))) (by kernel_rfl) ?_)
  refine La.of (σ := Int × Nat) (fun x => sh31 l x.1 x.2) (fun x => x.2 ≤ l.length ∧ 0 ≤ x.1 ∧ x.1 ≤ (x.2 : Int) * 1000 ∧ allF l = x.1 + allF (l.drop x.2)) (fun x => l.length - x.2) (0, 0) (by kernel_rfl) ⟨by simp, by simp, by simp, by simp⟩ ?_
  rintro ⟨n, k⟩ ⟨g1, g2, g3, g4⟩ J hJ
  simp only at g1 g2 g3 g4
  refine see (p := ifB (decide ((↑k : Int) < (↑(itl l).length : Int))) (onSome (itl l)[k]? fun row => onCons (List.drop 0 row) fun u r => onIntK IntKind.i64 u fun n_1 => onCons r fun u r => onIntK IntKind.u8 u fun n_2 => onCons r fun u r => onIntK IntKind.i64 u fun n_3 => J (St.mk (mkT [(3, iv (IntKind.i64.wrap (n + n_3))), (6, V.lst 3 (itl l)), (7, iv (↑(itl l).length : Int)), (8, iv (IntKind.i64.wrap ((↑k : Int) + (1 : Int))))]) (Hp.mk [] 0 []))) (R (iv n))) (by kernel_rfl) ?_
  rw [itl_length]
  refine ifB_mk (fun hb => ?_) (fun hb => ?_)
  · have hlt : k < l.length := by have := of_decide_eq_true hb; omega
    obtain ⟨x, hx⟩ : ∃ x, l[k]? = some x := ⟨l[k], by simp [hlt]⟩
    have hd : l.drop k = x :: l.drop (k + 1) := by
      rw [List.drop_eq_getElem_cons hlt]; congr 1; simpa [hlt] using hx
    rw [hd] at g4
    simp only [allF, List.map_cons, List.sum_cons] at g4
    have hx' := hn x (List.mem_of_getElem? hx)
    refine onSome_mk (itl_get hx) (onCons_cons (onIntK_iv (onCons_cons (onIntK_u8 (onCons_cons (onIntK_iv ?_))))))
    rw [wr1i hlt (by omega), wr (by omega) (by omega)]
    refine hJ' ?_ (hJ (n + x.2.2, k + 1) ⟨by simp only; omega, by simp only; omega, by simp only; omega, by simp only [allF]; omega⟩ (by simp only; omega))
    simp [sh31, itl_length]
  · have hk : l.drop k = [] := List.drop_eq_nil_of_le (by have := of_decide_eq_false hb; omega)
    rw [hk] at g4
    rw [show allF l = n from by simp [allF] at g4 ⊢; omega] at h
    exact h
end Go.Proofs.YtmddjopahcbefaaGreat
