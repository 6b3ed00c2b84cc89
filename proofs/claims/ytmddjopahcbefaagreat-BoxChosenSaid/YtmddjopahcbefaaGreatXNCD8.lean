/- Checks; the best choice. -/
import Derived.Test.YtmddjopahcbefaaGreatXNCC8
namespace Go.Proofs.YtmddjopahcbefaaGreat
open Go Go.Proofs.YtmddjopahcbefaaGreat.Clean
set_option linter.unusedVariables false
set_option linter.unusedSimpArgs false
set_option maxRecDepth 10000

theorem cmp115 {a b : List Nat} {R : V → Prop} (ha : a.length ≤ 1000) (h : ∀ n, R (iv n)) : K0G Tryz.prog glX 115 [.lst 1 (nn a), .lst 1 (nn b)] R := by
  refine K0_of_WY0 hmX hcM 3000 Tryz.func115 (see (p := La 0 [(0 : Tmp), (1 : Tmp), (9 : Tmp), (10 : Tmp), (11 : Tmp)] (WY Tryz.prog cfM 2995 (Env.mk (Bs.mk 0 []) 0 none 36 115 0) (cdAt [1, 0, 1, 0, 0] (bodyOf Tryz.f115))) (Qblk 0 (Qthen (WY Tryz.prog cfM 2998 (Env.mk (Bs.mk 0 []) 0 none 36 115 0) (cdAt [1, 1] (bodyOf Tryz.f115)) (QendX Tryz.prog Tryz.f115 fun v h => R (frzW h v))) (QendX Tryz.prog Tryz.f115 fun v h => R (frzW h v)))) (St.mk (mkT [(0, V.lst 1 (nn a)), (1, V.lst 1 (nn b)), (9, V.lst 1 (nn a)), (10, iv (↑(nn a).length : Int)), (11, iv (0 : Int))]) (Hp.mk [] 0 []))) (by kernel_rfl) ?_)
  refine La.of (σ := Nat) (fun k => sh115 a b k) (fun k => k ≤ a.length) (fun k => a.length - k) 0 (by kernel_rfl) (by simp) ?_
  intro k h1 J hJ
  refine see (p := ifB (decide ((↑k : Int) < (↑(nn a).length : Int))) (onSome (nn a)[k]? fun row => onSome row[0]? fun v => onIntK IntKind.i64 v fun n => ifB (decide ((↑k : Int) ≥ (↑(nn b).length : Int))) (R (iv (1 : Int))) (onSome (nn b)[k]? fun row => onSome row[0]? fun v => onIntK IntKind.i64 v fun n_1 => ifB (n != n) (ifB (n_1 != n_1) (J (St.mk (mkT [(0, V.lst 1 (nn a)), (1, V.lst 1 (nn b)), (9, V.lst 1 (nn a)), (10, iv (↑(nn a).length : Int)), (11, iv (IntKind.i64.wrap ((↑k : Int) + (1 : Int))))]) (Hp.mk [] 0 []))) (R (iv (-1 : Int)))) (ifB (n_1 != n_1) (R (iv (1 : Int))) (ifB (decide (n < n_1)) (R (iv (-1 : Int))) (ifB (decide (n > n_1)) (R (iv (1 : Int))) (J (St.mk (mkT [(0, V.lst 1 (nn a)), (1, V.lst 1 (nn b)), (9, V.lst 1 (nn a)), (10, iv (↑(nn a).length : Int)), (11, iv (IntKind.i64.wrap ((↑k : Int) + (1 : Int))))]) (Hp.mk [] 0 [])))))))) (ifB (decide ((↑(nn a).length : Int) < (↑(nn b).length : Int))) (R (iv (-1 : Int))) (R (iv (0 : Int))))) (by kernel_rfl) ?_
  simp only [nn_length]
  refine ifB_mk (fun hb => ?_) (fun hb => ifB_mk (fun _ => h _) (fun _ => h _))
  have hlt : k < a.length := by have := of_decide_eq_true hb; omega
  have go : J (sh115 a b (k + 1)) := hJ (k + 1) (by omega) (by omega)
  rw [wr1i hlt (by omega)]
  have e1 : a[k]? = some (a.getD k 0) := by simp [List.getD, hlt]
  refine nel e1 ?_
  refine ifB_mk (fun hc => h _) (fun hc => ?_)
  have hkb : k < b.length := by have := of_decide_eq_false hc; omega
  have e2 : b[k]? = some (b.getD k 0) := by simp [List.getD, hkb]
  refine nel e2 ?_
  have go' := hJ' (s' := sh115 a b (k + 1)) (s := ⟨mkT [(0, V.lst 1 (nn a)), (1, V.lst 1 (nn b)), (9, V.lst 1 (nn a)), (10, iv (a.length : Int)), (11, iv ((k + 1 : Nat) : Int))], ⟨[], 0, []⟩⟩) (by simp [sh115, nn_length]) go
  refine ifB_mk (fun _ => ifB_mk (fun _ => go') (fun _ => h _)) (fun _ => ifB_mk (fun _ => h _) (fun _ => ifB_mk (fun _ => h _) (fun _ => ifB_mk (fun _ => h _) (fun _ => go'))))

/-- The better one of two choices does not have less value. -/
theorem better89 {s t : Nat} {v w : Int} {l m : List (List V)} {d e : Nat} {R : V → Prop} (hs : s < 256) (ht : t < 256) (h : ∀ n, (w < v → n < 0) → (v < w → 0 < n) → R (iv n)) : K0G Tryz.prog glX 89 [.agg [sv s, iv v, .lst d l], .agg [sv t, iv w, .lst e m]] R := by
  refine K0_of_WY0 hmX hcM 3000 Tryz.func89 (see (p := K0G Tryz.prog glX 90 [V.raw (Value.int IntKind.u8 (↑s : Int))] fun v_1 => onLst v_1 fun s es => K0G Tryz.prog glX 90 [V.raw (Value.int IntKind.u8 (↑t : Int))] fun v_2 => onLst v_2 fun s_1 es_1 => ifB (w != w) (ifB (v != v) (ifB ((↑es.length : Int) != (↑es.length : Int)) (ifB ((↑es_1.length : Int) != (↑es_1.length : Int)) (K0G Tryz.prog glX 115 [V.lst s es, V.lst s_1 es_1] fun v => onIntK IntKind.i64 v fun n => ifB (n != (0 : Int)) (R (iv n)) (R (iv (0 : Int)))) (K0G Tryz.prog glX 115 [V.lst s es, V.lst s_1 es_1] fun v => onIntK IntKind.i64 v fun n => R (iv (-1 : Int)))) (ifB ((↑es_1.length : Int) != (↑es_1.length : Int)) (K0G Tryz.prog glX 115 [V.lst s es, V.lst s_1 es_1] fun v => onIntK IntKind.i64 v fun n => R (iv (1 : Int))) (ifB (decide ((↑es.length : Int) < (↑es_1.length : Int))) (K0G Tryz.prog glX 115 [V.lst s es, V.lst s_1 es_1] fun v => onIntK IntKind.i64 v fun n => R (iv (-1 : Int))) (ifB (decide ((↑es.length : Int) > (↑es_1.length : Int))) (K0G Tryz.prog glX 115 [V.lst s es, V.lst s_1 es_1] fun v => onIntK IntKind.i64 v fun n => R (iv (1 : Int))) (K0G Tryz.prog glX 115 [V.lst s es, V.lst s_1 es_1] fun v => onIntK IntKind.i64 v fun n => ifB (n != (0 : Int)) (R (iv n)) (R (iv (0 : Int)))))))) (ifB ((↑es.length : Int) != (↑es.length : Int)) (ifB ((↑es_1.length : Int) != (↑es_1.length : Int)) (K0G Tryz.prog glX 115 [V.lst s es, V.lst s_1 es_1] fun v => onIntK IntKind.i64 v fun n => R (iv (-1 : Int))) (K0G Tryz.prog glX 115 [V.lst s es, V.lst s_1 es_1] fun v => onIntK IntKind.i64 v fun n => R (iv (-1 : Int)))) (ifB ((↑es_1.length : Int) != (↑es_1.length : Int)) (K0G Tryz.prog glX 115 [V.lst s es, V.lst s_1 es_1] fun v => onIntK IntKind.i64 v fun n => R (iv (-1 : Int))) (ifB (decide ((↑es.length : Int) < (↑es_1.length : Int))) (K0G Tryz.prog glX 115 [V.lst s es, V.lst s_1 es_1] fun v => onIntK IntKind.i64 v fun n => R (iv (-1 : Int))) (ifB (decide ((↑es.length : Int) > (↑es_1.length : Int))) (K0G Tryz.prog glX 115 [V.lst s es, V.lst s_1 es_1] fun v => onIntK IntKind.i64 v fun n => R (iv (-1 : Int))) (K0G Tryz.prog glX 115 [V.lst s es, V.lst s_1 es_1] fun v => onIntK IntKind.i64 v fun n => R (iv (-1 : Int)))))))) (ifB (v != v) (ifB ((↑es.length : Int) != (↑es.length : Int)) (ifB ((↑es_1.length : Int) != (↑es_1.length : Int)) (K0G Tryz.prog glX 115 [V.lst s es, V.lst s_1 es_1] fun v => onIntK IntKind.i64 v fun n => R (iv (1 : Int))) (K0G Tryz.prog glX 115 [V.lst s es, V.lst s_1 es_1] fun v => onIntK IntKind.i64 v fun n => R (iv (1 : Int)))) (ifB ((↑es_1.length : Int) != (↑es_1.length : Int)) (K0G Tryz.prog glX 115 [V.lst s es, V.lst s_1 es_1] fun v => onIntK IntKind.i64 v fun n => R (iv (1 : Int))) (ifB (decide ((↑es.length : Int) < (↑es_1.length : Int))) (K0G Tryz.prog glX 115 [V.lst s es, V.lst s_1 es_1] fun v => onIntK IntKind.i64 v fun n => R (iv (1 : Int))) (ifB (decide ((↑es.length : Int) > (↑es_1.length : Int))) (K0G Tryz.prog glX 115 [V.lst s es, V.lst s_1 es_1] fun v => onIntK IntKind.i64 v fun n => R (iv (1 : Int))) (K0G Tryz.prog glX 115 [V.lst s es, V.lst s_1 es_1] fun v => onIntK IntKind.i64 v fun n => R (iv (1 : Int))))))) (ifB (decide (w < v)) (ifB ((↑es.length : Int) != (↑es.length : Int)) (ifB ((↑es_1.length : Int) != (↑es_1.length : Int)) (K0G Tryz.prog glX 115 [V.lst s es, V.lst s_1 es_1] fun v => onIntK IntKind.i64 v fun n => R (iv (-1 : Int))) (K0G Tryz.prog glX 115 [V.lst s es, V.lst s_1 es_1] fun v => onIntK IntKind.i64 v fun n => R (iv (-1 : Int)))) (ifB ((↑es_1.length : Int) != (↑es_1.length : Int)) (K0G Tryz.prog glX 115 [V.lst s es, V.lst s_1 es_1] fun v => onIntK IntKind.i64 v fun n => R (iv (-1 : Int))) (ifB (decide ((↑es.length : Int) < (↑es_1.length : Int))) (K0G Tryz.prog glX 115 [V.lst s es, V.lst s_1 es_1] fun v => onIntK IntKind.i64 v fun n => R (iv (-1 : Int))) (ifB (decide ((↑es.length : Int) > (↑es_1.length : Int))) (K0G Tryz.prog glX 115 [V.lst s es, V.lst s_1 es_1] fun v => onIntK IntKind.i64 v fun n => R (iv (-1 : Int))) (K0G Tryz.prog glX 115 [V.lst s es, V.lst s_1 es_1] fun v => onIntK IntKind.i64 v fun n => R (iv (-1 : Int))))))) (ifB (decide (w > v)) (ifB ((↑es.length : Int) != (↑es.length : Int)) (ifB ((↑es_1.length : Int) != (↑es_1.length : Int)) (K0G Tryz.prog glX 115 [V.lst s es, V.lst s_1 es_1] fun v => onIntK IntKind.i64 v fun n => R (iv (1 : Int))) (K0G Tryz.prog glX 115 [V.lst s es, V.lst s_1 es_1] fun v => onIntK IntKind.i64 v fun n => R (iv (1 : Int)))) (ifB ((↑es_1.length : Int) != (↑es_1.length : Int)) (K0G Tryz.prog glX 115 [V.lst s es, V.lst s_1 es_1] fun v => onIntK IntKind.i64 v fun n => R (iv (1 : Int))) (ifB (decide ((↑es.length : Int) < (↑es_1.length : Int))) (K0G Tryz.prog glX 115 [V.lst s es, V.lst s_1 es_1] fun v => onIntK IntKind.i64 v fun n => R (iv (1 : Int))) (ifB (decide ((↑es.length : Int) > (↑es_1.length : Int))) (K0G Tryz.prog glX 115 [V.lst s es, V.lst s_1 es_1] fun v => onIntK IntKind.i64 v fun n => R (iv (1 : Int))) (K0G Tryz.prog glX 115 [V.lst s es, V.lst s_1 es_1] fun v => onIntK IntKind.i64 v fun n => R (iv (1 : Int))))))) (ifB ((↑es.length : Int) != (↑es.length : Int)) (ifB ((↑es_1.length : Int) != (↑es_1.length : Int)) (K0G Tryz.prog glX 115 [V.lst s es, V.lst s_1 es_1] fun v => onIntK IntKind.i64 v fun n => ifB (n != (0 : Int)) (R (iv n)) (R (iv (0 : Int)))) (K0G Tryz.prog glX 115 [V.lst s es, V.lst s_1 es_1] fun v => onIntK IntKind.i64 v fun n => R (iv (-1 : Int)))) (ifB ((↑es_1.length : Int) != (↑es_1.length : Int)) (K0G Tryz.prog glX 115 [V.lst s es, V.lst s_1 es_1] fun v => onIntK IntKind.i64 v fun n => R (iv (1 : Int))) (ifB (decide ((↑es.length : Int) < (↑es_1.length : Int))) (K0G Tryz.prog glX 115 [V.lst s es, V.lst s_1 es_1] fun v => onIntK IntKind.i64 v fun n => R (iv (-1 : Int))) (ifB (decide ((↑es.length : Int) > (↑es_1.length : Int))) (K0G Tryz.prog glX 115 [V.lst s es, V.lst s_1 es_1] fun v => onIntK IntKind.i64 v fun n => R (iv (1 : Int))) (K0G Tryz.prog glX 115 [V.lst s es, V.lst s_1 es_1] fun v => onIntK IntKind.i64 v fun n => ifB (n != (0 : Int)) (R (iv n)) (R (iv (0 : Int)))))))))))) (by kernel_rfl) ?_)
  obtain ⟨d1, hd1, hN1⟩ := lsN_isL (bl8 s)
  obtain ⟨d2, hd2, hN2⟩ := lsN_isL (bl8 t)
  refine list90 hs (onLst_isL hN1 (list90 ht (onLst_isL hN2 ?_)))
  have call : ∀ (Q : V → Prop), (∀ n, Q (iv n)) → K0G Tryz.prog glX 115 [V.lst d1 (nn (bl8 s)), V.lst d2 (nn (bl8 t))] Q := fun Q hq => K0_args (cmp115 (a := bl8 s) (b := bl8 t) (by have := bl8_len s; omega) hq) (fun F w xs hx => by
    have key : ∀ (d : Nat) (q : List Nat) (r : List V) (xs : List Value), (d = 1 ∨ q = []) → riL F w (.lst d (nn q) :: r) xs → riL F w (.lst 1 (nn q) :: r) xs := by
      rintro d q r xs (rfl | rfl) hx
      · exact hx
      · simpa [riL, ri, nn, riRows] using hx
    have hx1 := key _ _ _ _ hd1 hx
    rw [riL] at hx1 ⊢
    obtain ⟨x, ys, g1, g2, g3⟩ := hx1
    exact ⟨x, ys, g1, g2, key _ _ _ _ hd2 g3⟩)
  generalize nn (bl8 s) = p at call
  generalize nn (bl8 t) = q at call
  have hw : (w != w) = false := by simp
  have hv : (v != v) = false := by simp
  have hp : ((p.length : Int) != (p.length : Int)) = false := by simp
  have hq : ((q.length : Int) != (q.length : Int)) = false := by simp
  rw [hw, hv, hp, hq]
  refine ifB_f rfl (ifB_f rfl (ifB_mk (fun h1 => ?_) (fun h1 => ifB_mk (fun h2 => ?_) (fun h2 => ?_))))
  · have h1 := of_decide_eq_true h1
    refine ifB_f rfl (ifB_f rfl (ifB_mk (fun _ => ?_) (fun _ => ifB_mk (fun _ => ?_) (fun _ => ?_)))) <;> exact call _ (fun n => onIntK_iv (h _ (by omega) (by omega)))
  · have h2 := of_decide_eq_true h2
    refine ifB_f rfl (ifB_f rfl (ifB_mk (fun _ => ?_) (fun _ => ifB_mk (fun _ => ?_) (fun _ => ?_)))) <;> exact call _ (fun n => onIntK_iv (h _ (by omega) (by omega)))
  · have h1 := of_decide_eq_false h1
    have h2 := of_decide_eq_false h2
    refine ifB_f rfl (ifB_f rfl (ifB_mk (fun _ => ?_) (fun _ => ifB_mk (fun _ => ?_) (fun _ => ?_))))
    · exact call _ (fun n => onIntK_iv (h _ (by omega) (by omega)))
    · exact call _ (fun n => onIntK_iv (h _ (by omega) (by omega)))
    · exact call _ (fun n => onIntK_iv (ifB_mk (fun _ => h _ (by omega) (by omega)) (fun _ => h _ (by omega) (by omega))))

theorem min88 {cs : List Ch} {R : V → Prop} (hne : cs ≠ []) (hl : cs.length ≤ 1000) (h256 : ∀ c ∈ cs, c.1 < 256) (h : ∀ c ∈ cs, (∀ c' ∈ cs, c'.2.1 ≤ c.2.1) → R (.agg (chr c))) : K0G Tryz.prog glX 88 [.lst 3 (chl cs), .fn (.func 89) [] []] R := by
  refine K0_of_WY0 hmX hcM 3000 Tryz.func88 (see (p := ifB (decide ((↑(chl cs).length : Int) < (1 : Int))) False (onSome (chl cs)[0]? fun row => onCons (List.drop 0 row) fun u r => onIntK IntKind.u8 u fun n => onCons r fun u r => onIntK IntKind.i64 u fun n_1 => onCons r fun u r => onLst u fun s es => La 0 [(0 : Tmp), (1 : Tmp), (4 : Tmp), (5 : Tmp), (6 : Tmp)] (WY Tryz.prog cfM 2993 (Env.mk (Bs.mk 0 []) 0 none 33 88 0) (cdAt [1, 1, 1, 0, 1, 0, 0] (bodyOf Tryz.f88))) (Qblk 0 (Qthen (WY Tryz.prog cfM 2996 (Env.mk (Bs.mk 0 []) 0 none 33 88 0) (cdAt [1, 1, 1, 1] (bodyOf Tryz.f88)) (QendX Tryz.prog Tryz.f88 fun v h => R (frzW h v))) (QendX Tryz.prog Tryz.f88 fun v h => R (frzW h v)))) (St.mk (mkT [(0, V.lst 3 (chl cs)), (1, V.fn (Fn.func (89 : FuncId)) [] []), (4, V.ptr (Id.p 0) 0 0), (5, V.ptr (Id.p 1) 0 0), (6, iv (1 : Int))]) (Hp.mk [(0, O.rows 3 false [[V.raw (Value.int IntKind.u8 (0 : Int)), iv (0 : Int), nilS]]), (1, O.rows 3 false [[V.raw (Value.int IntKind.u8 n), iv n_1, V.lst s es]])] 2 [])))) (by kernel_rfl) ?_)
  obtain ⟨c0, cr, rfl⟩ : ∃ c r, cs = c :: r := by cases cs with | nil => exact (hne rfl).elim | cons c r => exact ⟨c, r, rfl⟩
  generalize hcs : c0 :: cr = cs at *
  have hl1 : 1 ≤ cs.length := by rw [← hcs]; simp
  rw [chl_length]
  refine ifB_f (by simp; omega) ?_
  refine onSome_mk (x := chr c0) (by rw [← hcs]; rfl) (onCons_cons (onIntK_u8 (onCons_cons (onIntK_iv (onCons_cons (onLst_lst ?_))))))
  refine La.of (σ := Ch × Nat) (fun x => sh88 cs x.1 x.2) (fun x => x.1 ∈ cs ∧ x.2 ≤ cs.length ∧ ∀ i c', i < x.2 → cs[i]? = some c' → c'.2.1 ≤ x.1.2.1) (fun x => cs.length - x.2) (c0, 1) (by kernel_rfl) ⟨by rw [← hcs]; simp, hl1, fun i c' hi hc' => by
    have : i = 0 := by simp only at hi; omega
    subst this
    rw [← hcs] at hc'
    simp only [List.getElem?_cons_zero, Option.some.injEq] at hc'
    subst hc'
    simp⟩ ?_
  rintro ⟨c, k⟩ ⟨g1, g2, g3⟩ J hJ
  simp only at g1 g2 g3
  refine see (p := ifB (decide ((↑k : Int) < (↑(chl cs).length : Int))) (onSome (chl cs)[k]? fun row => onCons (List.drop 0 row) fun u r => onIntK IntKind.u8 u fun n => onCons r fun u r => onIntK IntKind.i64 u fun n_1 => onCons r fun u r => onLst u fun s es => K0G Tryz.prog glX 89 [V.agg [V.raw (Value.int IntKind.u8 n), iv n_1, V.lst s es], V.agg [V.raw (Value.int IntKind.u8 (↑c.1 : Int)), iv c.2.1, V.lst c.2.2.2 (itl c.2.2.1)]] fun v => onIntK IntKind.i64 v fun n => ifB (decide (n < (0 : Int))) (onSome (chl cs)[k]? fun row => onCons (List.drop 0 row) fun u r => onIntK IntKind.u8 u fun n => onCons r fun u r => onIntK IntKind.i64 u fun n_2 => onCons r fun u r => onLst u fun s es => J (St.mk (mkT [(0, V.lst 3 (chl cs)), (1, V.fn (Fn.func (89 : FuncId)) [] []), (4, V.ptr (Id.p 0) 0 0), (5, V.ptr (Id.p 1) 0 0), (6, iv (IntKind.i64.wrap ((↑k : Int) + (1 : Int))))]) (Hp.mk [(0, O.rows 3 false [[V.raw (Value.int IntKind.u8 (0 : Int)), iv (0 : Int), nilS]]), (1, O.rows 3 false [[V.raw (Value.int IntKind.u8 n), iv n_2, V.lst s es]])] 2 []))) (J (St.mk (mkT [(0, V.lst 3 (chl cs)), (1, V.fn (Fn.func (89 : FuncId)) [] []), (4, V.ptr (Id.p 0) 0 0), (5, V.ptr (Id.p 1) 0 0), (6, iv (IntKind.i64.wrap ((↑k : Int) + (1 : Int))))]) (Hp.mk [(0, O.rows 3 false [[V.raw (Value.int IntKind.u8 (0 : Int)), iv (0 : Int), nilS]]), (1, O.rows 3 false [[V.raw (Value.int IntKind.u8 (↑c.1 : Int)), iv c.2.1, V.lst c.2.2.2 (itl c.2.2.1)]])] 2 [])))) (R (V.agg [V.raw (Value.int IntKind.u8 (↑c.1 : Int)), iv c.2.1, V.lst c.2.2.2 (itl c.2.2.1)]))) (by kernel_rfl) ?_
  rw [chl_length]
  refine ifB_mk (fun hb => ?_) (fun hb => ?_)
  · have hlt : k < cs.length := by have := of_decide_eq_true hb; omega
    obtain ⟨x, hx⟩ : ∃ x, cs[k]? = some x := ⟨cs[k], by simp [hlt]⟩
    have hxm := List.mem_of_getElem? hx
    have hrow : (chl cs)[k]? = some (chr x) := by simp [chl, hx]
    rw [wr1i hlt (by omega)]
    refine onSome_mk hrow (onCons_cons (onIntK_u8 (onCons_cons (onIntK_iv (onCons_cons (onLst_lst ?_))))))
    refine better89 (h256 x hxm) (h256 c g1) (fun n hn1 hn2 => onIntK_iv (ifB_mk (fun hn => ?_) (fun hn => ?_)))
    · refine onSome_mk hrow (onCons_cons (onIntK_u8 (onCons_cons (onIntK_iv (onCons_cons (onLst_lst ?_))))))
      have hge : c.2.1 ≤ x.2.1 := by have := of_decide_eq_true hn; omega
      refine hJ (x, k + 1) ⟨hxm, by simp only; omega, fun i c' hi hc' => ?_⟩ (by simp only; omega)
      simp only at hi ⊢
      rcases Nat.lt_succ_iff_lt_or_eq.1 hi with q | q
      · have := g3 i c' q hc'; omega
      · subst q; rw [hx] at hc'; cases hc'; omega
    · have hge : x.2.1 ≤ c.2.1 := by have := of_decide_eq_false hn; omega
      refine hJ (c, k + 1) ⟨g1, by simp only; omega, fun i c' hi hc' => ?_⟩ (by simp only; omega)
      simp only at hi ⊢
      rcases Nat.lt_succ_iff_lt_or_eq.1 hi with q | q
      · exact g3 i c' q hc'
      · subst q; rw [hx] at hc'; cases hc'; exact hge
  · have hk : k = cs.length := by have := of_decide_eq_false hb; omega
    refine h c g1 (fun c' hc' => ?_)
    obtain ⟨i, hi⟩ := List.getElem?_of_mem hc'
    exact g3 i c' (by rw [hk]; exact (List.getElem?_eq_some_iff.1 hi).1) hi
end Go.Proofs.YtmddjopahcbefaaGreat
