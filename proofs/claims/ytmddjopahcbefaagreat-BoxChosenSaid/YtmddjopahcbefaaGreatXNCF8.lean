/- Choose; the reference's sums. -/
import Derived.Test.YtmddjopahcbefaaGreatXNCE8
namespace Go.Proofs.YtmddjopahcbefaaGreat
open Go Go.Proofs.YtmddjopahcbefaaGreat.Clean
set_option linter.unusedVariables false
set_option linter.unusedSimpArgs false
set_option maxRecDepth 10000

theorem choS_mem {bx : List It} {p : List (List It)} {v : List Int} {N : Nat} {x : Nat × Int × List It} : x ∈ choS bx p v N ↔ x.1 < N ∧ choF p v (bl8 x.1) 0 bx = some (x.2.1, x.2.2) := by
  obtain ⟨s, val, l⟩ := x
  simp only [choS, List.mem_filterMap, List.mem_range, Option.map_eq_some_iff]
  constructor
  · rintro ⟨a, ha, ⟨q1, q2⟩, hq, he⟩
    simp only [Prod.mk.injEq] at he
    obtain ⟨rfl, rfl, rfl⟩ := he
    exact ⟨ha, hq⟩
  · rintro ⟨h1, h2⟩
    exact ⟨s, h1, _, h2, rfl⟩
theorem Stk.nok {l : List It} (h : Stk l) : ∀ x ∈ l, Nok x := fun x hx => ⟨by have := (h.2.2.2 x hx).1; omega, by have := (h.2.2.2 x hx).2; omega⟩
theorem choose38 {bx : List It} {p : List (List It)} {v : List Int} {R : V → Prop} (hp : p.length ≤ 1000) (hv : v.length ≤ 1000) (bad : ∀ n, n ≠ 0 → R (.tup [.agg [nilS, iv 0, nilS], iv n]))
    (h : Stk bx → (∀ l ∈ p, Stk l) → p.length ≤ 8 → v.length = p.length → (∀ x ∈ v, 0 ≤ x ∧ x ≤ 1000) → ∀ s val l d d1, s < 2 ^ p.length → choF p v (bl8 s) 0 bx = some (val, l) → (∀ s' val' l', s' < 2 ^ p.length → choF p v (bl8 s') 0 bx = some (val', l') → val' ≤ val) → (d1 = 1 ∨ bl8 s = []) → (d = 3 ∨ l = []) → R (.tup [.agg [.lst d1 (nn (bl8 s)), iv val, .lst d (itl l)], iv 0])) : K0G Tryz.prog glX 38 [.lst 3 (itl bx), .lst 1 (pll p), .lst 1 (nl v)] R := by
  refine K0_of_WY0 hmX hcM 3000 Tryz.func38 (see (p := K0G Tryz.prog glX 26 [V.lst 3 (itl bx)] fun v_1 => onIntK IntKind.i64 v_1 fun n => K0G Tryz.prog glX 42 [V.lst 1 (pll p)] fun v_2 => onIntK IntKind.i64 v_2 fun n_1 => K0G Tryz.prog glX 49 [V.lst 1 (pll p), V.lst 1 (nl v)] fun v_3 => onIntK IntKind.i64 v_3 fun n_2 => ifB (n != (0 : Int)) (ifB (n != (0 : Int)) (R (V.tup [V.agg [nilS, iv (0 : Int), nilS], iv n])) (K0G Tryz.prog glX 51 [V.lst 3 (itl bx), V.lst 1 (pll p), V.lst 1 (nl v)] fun v => onLst v fun s es => K0G Tryz.prog glX 88 [V.lst s es, V.fn (Fn.func 89) [] []] fun v => onAgg v fun cs => onCons cs fun u r => onIntK IntKind.u8 u fun n => onCons r fun u r => onIntK IntKind.i64 u fun n_3 => onCons r fun u r => onLst u fun s es => onNil r (K0G Tryz.prog glX 90 [V.raw (Value.int IntKind.u8 n)] fun v => onLst v fun s_1 es_1 => R (V.tup [V.agg [V.lst s_1 es_1, iv n_3, V.lst s es], iv (0 : Int)])))) (ifB (n_1 != (0 : Int)) (ifB (n_1 != (0 : Int)) (R (V.tup [V.agg [nilS, iv (0 : Int), nilS], iv n_1])) (K0G Tryz.prog glX 51 [V.lst 3 (itl bx), V.lst 1 (pll p), V.lst 1 (nl v)] fun v => onLst v fun s es => K0G Tryz.prog glX 88 [V.lst s es, V.fn (Fn.func 89) [] []] fun v => onAgg v fun cs => onCons cs fun u r => onIntK IntKind.u8 u fun n => onCons r fun u r => onIntK IntKind.i64 u fun n_3 => onCons r fun u r => onLst u fun s es => onNil r (K0G Tryz.prog glX 90 [V.raw (Value.int IntKind.u8 n)] fun v => onLst v fun s_1 es_1 => R (V.tup [V.agg [V.lst s_1 es_1, iv n_3, V.lst s es], iv (0 : Int)])))) (ifB (n_2 != (0 : Int)) (ifB (n_2 != (0 : Int)) (R (V.tup [V.agg [nilS, iv (0 : Int), nilS], iv n_2])) (K0G Tryz.prog glX 51 [V.lst 3 (itl bx), V.lst 1 (pll p), V.lst 1 (nl v)] fun v => onLst v fun s es => K0G Tryz.prog glX 88 [V.lst s es, V.fn (Fn.func 89) [] []] fun v => onAgg v fun cs => onCons cs fun u r => onIntK IntKind.u8 u fun n => onCons r fun u r => onIntK IntKind.i64 u fun n_3 => onCons r fun u r => onLst u fun s es => onNil r (K0G Tryz.prog glX 90 [V.raw (Value.int IntKind.u8 n)] fun v => onLst v fun s_1 es_1 => R (V.tup [V.agg [V.lst s_1 es_1, iv n_3, V.lst s es], iv (0 : Int)])))) (K0G Tryz.prog glX 51 [V.lst 3 (itl bx), V.lst 1 (pll p), V.lst 1 (nl v)] fun v => onLst v fun s es => K0G Tryz.prog glX 88 [V.lst s es, V.fn (Fn.func 89) [] []] fun v => onAgg v fun cs => onCons cs fun u r => onIntK IntKind.u8 u fun n => onCons r fun u r => onIntK IntKind.i64 u fun n_3 => onCons r fun u r => onLst u fun s es => onNil r (K0G Tryz.prog glX 90 [V.raw (Value.int IntKind.u8 n)] fun v => onLst v fun s_1 es_1 => R (V.tup [V.agg [V.lst s_1 es_1, iv n_3, V.lst s es], iv (0 : Int)])))))) (by kernel_rfl) ?_)
  refine check26 (fun n hn => onIntK_iv (checkAll42 hp (fun n1 hn1 => onIntK_iv (checkPlans49 hv (fun n2 hn2 => onIntK_iv ?_)))))
  have nz : ∀ n : Int, (n != 0) = true → n ≠ 0 := fun n h => by simpa using h
  refine ifB_mk (fun a => ifB_t a (bad n (nz _ a))) (fun a => ifB_mk (fun b => ifB_t b (bad n1 (nz _ b))) (fun b => ifB_mk (fun c => ifB_t c (bad n2 (nz _ c))) (fun c => ?_)))
  have k1 := hn (by simpa using a)
  have k2 := hn1 (by simpa using b)
  obtain ⟨k3, k4, k5⟩ := hn2 (by simpa using c)
  have h256 : 2 ^ p.length ≤ 256 := Nat.pow_le_pow_right (n := 2) (by omega) k3
  refine choices51 k1.nok (by have := k1.1; omega) (fun l hl => (k2 l hl).nok) (fun x hx => ⟨(k5 x hx).1, by have := (k5 x hx).2; omega⟩) k4 k3 (fun cs hcs hcd hne => onLst_lst ?_)
  have hlen : cs.length ≤ 1000 := by
    have e : cs.length = (choS bx p v (2 ^ p.length)).length := by rw [← hcs, List.length_map]
    have := List.length_filterMap_le (fun s => (choF p v (bl8 s) 0 bx).map fun q => (s, q.1, q.2)) (List.range (2 ^ p.length))
    simp only [List.length_range] at this
    rw [e]
    unfold choS
    omega
  have hmem : ∀ c ∈ cs, c.1 < 2 ^ p.length ∧ choF p v (bl8 c.1) 0 bx = some (c.2.1, c.2.2.1) := fun c hc => by
    have := (choS_mem (x := erC c)).1 (by rw [← hcs]; exact List.mem_map_of_mem hc)
    exact this
  refine min88 hne hlen (fun c hc => by have := (hmem c hc).1; omega) (fun c hc hbest => ?_)
  obtain ⟨m1, m2⟩ := hmem c hc
  refine onAgg_agg (onCons_cons (onIntK_u8 (onCons_cons (onIntK_iv (onCons_cons (onLst_lst (onNil_nil ?_)))))))
  obtain ⟨d1, hd1, hN1⟩ := lsN_isL (bl8 c.1)
  refine list90 (by omega) (onLst_isL hN1 ?_)
  refine h k1 k2 k3 k4 k5 c.1 c.2.1 c.2.2.1 c.2.2.2 d1 m1 m2 (fun s' val' l' hs' hc' => ?_) hd1 (hcd c hc)
  have hx : (s', val', l') ∈ cs.map erC := by rw [hcs]; exact choS_mem.2 ⟨hs', hc'⟩
  obtain ⟨c', h1, h2⟩ := List.mem_map.1 hx
  have := hbest c' h1
  simp only [erC, Prod.mk.injEq] at h2
  omega

def hasF : List It → Int → Int → Int
  | [], _, _ => 0
  | y :: r, a, b => if y.1 = a ∧ y.2.1 = b then y.2.2 else hasF r a b
theorem has40 {l : List It} {a b : Int} {R : V → Prop} (hl : l.length ≤ 1000) (h : R (iv (hasF l a b))) : K0G Tryz.prog glX 40 [.lst 3 (itl l), iv a, u8v b] R := by
  refine K0_of_WY0 hmX hcM 3000 Tryz.func40 (see (p := La 0 [(0 : Tmp), (1 : Tmp), (2 : Tmp), (7 : Tmp)] (WY Tryz.prog cfM 2995 (Env.mk (Bs.mk 0 []) 0 none 35 40 0) (cdAt [1, 0, 1, 0, 0] (bodyOf Tryz.f40))) (Qblk 0 (Qthen (WY Tryz.prog cfM 2998 (Env.mk (Bs.mk 0 []) 0 none 35 40 0) (cdAt [1, 1] (bodyOf Tryz.f40)) (QendX Tryz.prog Tryz.f40 fun v h => R (frzW h v))) (QendX Tryz.prog Tryz.f40 fun v h => R (frzW h v)))) (St.mk (mkT [(0, V.lst 3 (itl l)), (1, iv a), (2, V.raw (Value.int IntKind.u8 b)), (7, iv (0 : Int))]) (Hp.mk [] 0 []))) (by kernel_rfl) ?_)
  refine La.of (σ := Nat) (fun k => sh40 l a b k) (fun k => k ≤ l.length ∧ hasF l a b = hasF (l.drop k) a b) (fun k => l.length - k) 0 (by kernel_rfl) ⟨by simp, by simp⟩ ?_
  rintro k ⟨g1, g2⟩ J hJ
  refine see (p := ifB (decide ((↑k : Int) < (↑(itl l).length : Int))) (onSome (itl l)[k]? fun row => onSome row[0]? fun v => onIntK IntKind.i64 v fun n => ifB (n == a) (onSome (itl l)[k]? fun row => onSome row[1]? fun v => onIntK IntKind.u8 v fun n => ifB (n == b) (onSome (itl l)[k]? fun row => onSome row[2]? fun v => onIntK IntKind.i64 v fun n => R (iv n)) (J (St.mk (mkT [(0, V.lst 3 (itl l)), (1, iv a), (2, V.raw (Value.int IntKind.u8 b)), (7, iv (IntKind.i64.wrap ((↑k : Int) + (1 : Int))))]) (Hp.mk [] 0 [])))) (J (St.mk (mkT [(0, V.lst 3 (itl l)), (1, iv a), (2, V.raw (Value.int IntKind.u8 b)), (7, iv (IntKind.i64.wrap ((↑k : Int) + (1 : Int))))]) (Hp.mk [] 0 [])))) (R (iv (0 : Int)))) (by kernel_rfl) ?_
  rw [itl_length]
  refine ifB_mk (fun hb => ?_) (fun hb => ?_)
  · have hlt : k < l.length := by have := of_decide_eq_true hb; omega
    obtain ⟨x, hx⟩ : ∃ x, l[k]? = some x := ⟨l[k], by simp [hlt]⟩
    have hd : l.drop k = x :: l.drop (k + 1) := by
      rw [List.drop_eq_getElem_cons hlt]; congr 1; simpa [hlt] using hx
    rw [hd] at g2
    simp only [hasF] at g2
    rw [wr1i hlt (by omega)]
    have go : ¬ (x.1 = a ∧ x.2.1 = b) → J (sh40 l a b (k + 1)) := fun hn => hJ (k + 1) ⟨by omega, by rw [g2, if_neg hn]⟩ (by omega)
    refine onSome_mk (itl_get hx) (onSome_mk (x := iv x.1) rfl (onIntK_iv (ifB_mk (fun h1 => ?_) (fun h1 => go (fun e => by rw [e.1] at h1; simp at h1)))))
    refine onSome_mk (itl_get hx) (onSome_mk (x := u8v x.2.1) rfl (onIntK_u8 (ifB_mk (fun h2 => ?_) (fun h2 => go (fun e => by rw [e.2] at h2; simp at h2)))))
    refine onSome_mk (itl_get hx) (onSome_mk (x := iv x.2.2) rfl (onIntK_iv ?_))
    rw [if_pos ⟨by simpa using h1, by simpa using h2⟩] at g2
    rw [← g2]
    exact h
  · have hk : l.drop k = [] := List.drop_eq_nil_of_le (by have := of_decide_eq_false hb; omega)
    rw [hk] at g2
    simp only [hasF] at g2
    rw [g2] at h
    exact h
theorem hasF_ok {l : List It} (h : ∀ x ∈ l, 0 ≤ x.2.2 ∧ x.2.2 ≤ 1000) (a b : Int) : 0 ≤ hasF l a b ∧ hasF l a b ≤ 1000 := by
  induction l with
  | nil => simp [hasF]
  | cons y r ih =>
    simp only [hasF]
    split
    · exact h y (by simp)
    · exact ih (fun x hx => h x (by simp [hx]))
def sumF : List (List It) → List Nat → Nat → It → Int
  | l :: p, w :: who, m, x => (if w = m then hasF l x.1 x.2.1 else 0) + sumF p who m x
  | _, _, _, _ => 0
theorem ul_get {l : List Nat} {i n : Nat} (h : l[i]? = some n) : (ul l)[i]? = some [sv n] := by simp [ul, h]
theorem sum41 {p : List (List It)} {who : List Nat} {m : Nat} {x : It} {R : V → Prop} (hp : p.length ≤ 8) (hw : who.length = p.length) (hs : ∀ l ∈ p, Stk l) (h : R (iv (sumF p who m x))) : K0G Tryz.prog glX 41 [.lst 1 (pll p), .lst 1 (ul who), sv m, .agg (itm x)] R := by
  refine K0_of_WY0 hmX hcM 3000 Tryz.func41 (see (p := La 0 [(1 : Tmp), (2 : Tmp), (7 : Tmp), (9 : Tmp), (12 : Tmp), (13 : Tmp), (14 : Tmp)] (WY Tryz.prog cfM 2994 (Env.mk (Bs.mk 0 []) 0 none 35 41 0) (cdAt [1, 1, 0, 1, 0, 0] (bodyOf Tryz.f41))) (Qblk 0 (Qthen (WY Tryz.prog cfM 2997 (Env.mk (Bs.mk 0 []) 0 none 35 41 0) (cdAt [1, 1, 1] (bodyOf Tryz.f41)) (QendX Tryz.prog Tryz.f41 fun v h => R (frzW h v))) (QendX Tryz.prog Tryz.f41 fun v h => R (frzW h v)))) (St.mk (mkT [(1, V.lst 1 (ul who)), (2, V.raw (Value.int IntKind.u8 (↑m : Int))), (7, V.ptr (Id.p 0) 0 0), (9, iv (0 : Int)), (12, V.lst 1 (pll p)), (13, iv (↑(pll p).length : Int)), (14, iv (0 : Int))]) (Hp.mk [(0, O.rows 3 false [[iv x.1, V.raw (Value.int IntKind.u8 x.2.1), iv x.2.2]])] 1 []))) (by kernel_rfl) ?_)
  refine La.of (σ := Int × Nat) (fun k => sh41 p who m x k.1 k.2) (fun k => k.2 ≤ p.length ∧ 0 ≤ k.1 ∧ k.1 ≤ (k.2 : Int) * 1000 ∧ sumF p who m x = k.1 + sumF (p.drop k.2) (who.drop k.2) m x) (fun k => p.length - k.2) (0, 0) (by kernel_rfl) ⟨by simp, by simp, by simp, by simp⟩ ?_
  rintro ⟨n, k⟩ ⟨g1, g2, g3, g4⟩ J hJ
  simp only at g1 g2 g3 g4
  refine see (p := ifB (decide ((↑k : Int) < (↑(pll p).length : Int))) (onSome (pll p)[k]? fun row => onSome row[0]? fun v => onLst v fun s es => onSome (ul who)[k]? fun row => onSome row[0]? fun v => onIntK IntKind.u8 v fun n_1 => ifB (n_1 == (↑m : Int)) (K0G Tryz.prog glX 40 [V.lst s es, iv x.1, V.raw (Value.int IntKind.u8 x.2.1)] fun v => onIntK IntKind.i64 v fun n_2 => J (St.mk (mkT [(1, V.lst 1 (ul who)), (2, V.raw (Value.int IntKind.u8 (↑m : Int))), (7, V.ptr (Id.p 0) 0 0), (9, iv (IntKind.i64.wrap (n + n_2))), (12, V.lst 1 (pll p)), (13, iv (↑(pll p).length : Int)), (14, iv (IntKind.i64.wrap ((↑k : Int) + (1 : Int))))]) (Hp.mk [(0, O.rows 3 false [[iv x.1, V.raw (Value.int IntKind.u8 x.2.1), iv x.2.2]])] 1 []))) (J (St.mk (mkT [(1, V.lst 1 (ul who)), (2, V.raw (Value.int IntKind.u8 (↑m : Int))), (7, V.ptr (Id.p 0) 0 0), (9, iv n), (12, V.lst 1 (pll p)), (13, iv (↑(pll p).length : Int)), (14, iv (IntKind.i64.wrap ((↑k : Int) + (1 : Int))))]) (Hp.mk [(0, O.rows 3 false [[iv x.1, V.raw (Value.int IntKind.u8 x.2.1), iv x.2.2]])] 1 [])))) (R (iv n))) (by kernel_rfl) ?_
  rw [pll_length]
  refine ifB_mk (fun hb => ?_) (fun hb => ?_)
  · have hlt : k < p.length := by have := of_decide_eq_true hb; omega
    obtain ⟨l, hl⟩ : ∃ x, p[k]? = some x := ⟨p[k], by simp [hlt]⟩
    obtain ⟨w, hw'⟩ : ∃ x, who[k]? = some x := ⟨who[k], by simp [hw, hlt]⟩
    have hd : p.drop k = l :: p.drop (k + 1) := by
      rw [List.drop_eq_getElem_cons hlt]; congr 1; simpa [hlt] using hl
    have hd' : who.drop k = w :: who.drop (k + 1) := by
      rw [List.drop_eq_getElem_cons (by omega)]; congr 1; simpa [hw, hlt] using hw'
    rw [hd, hd'] at g4
    simp only [sumF] at g4
    rw [wr1i hlt (by omega)]
    refine pll_get hl (onSome_mk (ul_get hw') (onSome_mk (x := sv w) rfl (onIntK_u8 (ifB_mk (fun h1 => ?_) (fun h1 => ?_)))))
    · have e : w = m := by have : (w : Int) = m := by simpa using h1
                           omega
      rw [if_pos e] at g4
      have hk := hs l (List.mem_of_getElem? hl)
      have hh := hasF_ok (fun y hy => ⟨by have := (hk.2.2.2 y hy).1; omega, (hk.2.2.2 y hy).2⟩ : ∀ y ∈ l, 0 ≤ y.2.2 ∧ y.2.2 ≤ 1000) x.1 x.2.1
      refine has40 (by have := hk.1; omega) (onIntK_iv ?_)
      rw [wr (by omega) (by omega)]
      refine hJ' ?_ (hJ (n + hasF l x.1 x.2.1, k + 1) ⟨by simp only; omega, by simp only; omega, by simp only; omega, by simp only; omega⟩ (by simp only; omega))
      simp [sh41, pll_length, sv, u8v, itm]
    · have e : ¬ w = m := by rintro rfl; simp at h1
      rw [if_neg e] at g4
      refine hJ' ?_ (hJ (n, k + 1) ⟨by simp only; omega, by simp only; omega, by simp only; omega, by simp only; omega⟩ (by simp only; omega))
      simp [sh41, pll_length, sv, u8v, itm]
  · have hk : p.drop k = [] := List.drop_eq_nil_of_le (by have := of_decide_eq_false hb; omega)
    rw [hk] at g4
    simp only [sumF] at g4
    rw [show sumF p who m x = n from by omega] at h
    exact h
end Go.Proofs.YtmddjopahcbefaaGreat
