/- The law. -/
import Derived.Test.YtmddjopahcbefaaGreatXNCI8
namespace Go.Proofs.YtmddjopahcbefaaGreat
open Go Go.Proofs.YtmddjopahcbefaaGreat.Clean
set_option linter.unusedVariables false
set_option linter.unusedSimpArgs false
set_option maxRecDepth 10000

theorem wf_u8 {n : Int} (h : (Lit.int .u8 n).wf = true) : 0 ≤ n ∧ n < 256 := by
  simp [Lit.wf, IntKind.min, IntKind.max, IntKind.signed, IntKind.bits] at h
  omega
theorem ul_all {w : List Nat} {p : List (List It)} (h : w.length = p.length) : sub (ul w) 0 (pll p).length = ul w := by
  rw [pll_length, ← h, show w.length = (ul w).length from by simp [ul], sub_all]
theorem ul_drop (n : Nat) : ([sv n] : List V).drop 1 = [] := rfl
theorem mem_take {q : List Nat} {k m : Nat} (h : q[k]? = some m) (i : Nat) : i ∈ q.take (k + 1) ↔ i ∈ q.take k ∨ i = m := by
  rw [List.take_add_one, h]; simp
/-- The set's plans below k. -/
def bel (s k : Nat) : List Nat := (bl8 s).filter fun i => decide (i < k)
theorem bel_mem {s k i : Nat} : i ∈ bel s k ↔ i ∈ bl8 s ∧ i < k := by simp [bel, List.mem_filter]
theorem bel_sorted (s k : Nat) : (bel s k).Pairwise (· < ·) := List.Pairwise.filter _ (bl8_sorted s)
theorem bel_succ {s k : Nat} : bel s (k + 1) = bel s k ++ (if k ∈ bl8 s then [k] else []) := by
  refine sorted_ext (bel_sorted s (k + 1)) ?_ (fun i => ?_)
  · rw [List.pairwise_append]
    refine ⟨bel_sorted s k, ?_, fun a ha b hb => ?_⟩
    · split <;> simp
    · split at hb
      · simp only [List.mem_singleton] at hb; subst hb; exact (bel_mem.1 ha).2
      · cases hb
  · rw [List.mem_append, bel_mem, bel_mem]
    split
    · rename_i h
      simp only [List.mem_singleton]
      constructor
      · rintro ⟨h1, h2⟩; rcases Nat.lt_succ_iff_lt_or_eq.1 h2 with q | q; exact .inl ⟨h1, q⟩; exact .inr q
      · rintro (⟨h1, h2⟩ | rfl); exact ⟨h1, by omega⟩; exact ⟨h, by omega⟩
    · rename_i h
      simp only [List.not_mem_nil, or_false]
      constructor
      · rintro ⟨h1, h2⟩; rcases Nat.lt_succ_iff_lt_or_eq.1 h2 with q | q; exact ⟨h1, q⟩; exact absurd (q ▸ h1) h
      · rintro ⟨h1, h2⟩; exact ⟨h1, by omega⟩
theorem bel_mod {s n : Nat} : bel s n = bl8 (s % 2 ^ n) := by
  refine sorted_ext (bel_sorted s n) (bl8_sorted _) (fun i => ?_)
  rw [bel_mem, bl8_mem, bl8_mem, Nat.testBit_mod_two_pow]
  simp only [Bool.and_eq_true, decide_eq_true_eq]
  exact ⟨fun h => ⟨h.1.1, h.2, h.1.2⟩, fun h => ⟨⟨h.1, h.2.2⟩, h.2.1⟩⟩
theorem rest_len : ∀ {l o m q : List It}, restF l o = some (m, q) → m.length ≤ l.length
  | [], o, m, q, h => by simp only [restF, Option.some.injEq, Prod.mk.injEq] at h; obtain ⟨rfl, rfl⟩ := h; simp
  | x :: l, o, m, q, h => by
    simp only [restF] at h
    split at h
    · cases h
    · cases hr : restF l (takeF x o).2 with
      | none => rw [hr] at h; cases h
      | some y =>
        rw [hr] at h
        simp only [Option.map_some, Option.some.injEq, Prod.mk.injEq] at h
        obtain ⟨rfl, rfl⟩ := h
        have := rest_len (show restF l (takeF x o).2 = some (y.1, y.2) from hr)
        have : (keepF x (takeF x o).1).length ≤ 1 := by unfold keepF; split <;> simp
        simp only [List.length_append, List.length_cons]
        omega
theorem cho_len {p : List (List It)} {v : List Int} : ∀ {q : List Nat} {n w : Int} {l m : List It}, choF p v q n l = some (w, m) → m.length ≤ l.length
  | [], n, w, l, m, h => by simp only [choF, Option.some.injEq, Prod.mk.injEq] at h; obtain ⟨rfl, rfl⟩ := h; exact Nat.le_refl _
  | i :: q, n, w, l, m, h => by
    simp only [choF] at h
    split at h
    · rename_i l' hr
      have := rest_len hr
      have := cho_len h
      omega
    · cases h
theorem law9 {bx : List It} {p : List (List It)} {v : List Int} {s : Nat} {R : V → Prop} (hs : s < 256) (h : R (bv true)) : K0G Tryz.prog glX 9 [.lst 3 (itl bx), .lst 1 (pll p), .lst 1 (nl v), sv s] R := by
  refine K0_of_WY0 hmX hcM 3000 Tryz.func9 (see (p := K0G Tryz.prog glX 19 [] fun v_1 => onBool v_1 fun b => K0G Tryz.prog glX 28 [V.lst 1 [[V.lst 3 (itl bx)]]] fun v_2 => onBool v_2 fun b_1 => ifB b_1 (R (bv b)) (K0G Tryz.prog glX 37 [V.lst 1 (pll p), V.lst 1 (nl v)] fun v_3 => onBool v_3 fun b_2 => ifB (!b_2) (R (bv b)) (ifB (!b) (R (bv b)) (K0G Tryz.prog glX 38 [V.lst 3 (itl bx), V.lst 1 (pll p), V.lst 1 (nl v)] fun v_4 => onTup v_4 fun vs => onCons vs fun u r => onAgg u fun cs => onCons cs fun u r_1 => onLst u fun s_1 es => onCons r_1 fun u r_2 => onIntK IntKind.i64 u fun n => onCons r_2 fun u r_3 => onLst u fun s_2 es_1 => onNil r_3 (onCons r fun u r => onIntK IntKind.i64 u fun n_1 => onNil r (ifB (n_1 != (0 : Int)) (ifB b (ifB ((↑es.length : Int) == (0 : Int)) (R (bv (n == (0 : Int)))) (R (bv false))) (R (bv false))) (ifB ((↑(nl v).length : Int) != (↑(pll p).length : Int)) (R (bv false)) (need ((pll p).length ≤ (pll p).length) (need (1 * (pll p).length ≤ 140737488355328) (need ((pll p).length ≤ 9223372036854775807) (need ((pll p).length ≤ (pll p).length) (need (1 * (pll p).length ≤ 140737488355328) (need ((pll p).length ≤ 9223372036854775807) (need ((pll p).length ≤ (pll p).length) (need (1 * (pll p).length ≤ 140737488355328) (need ((pll p).length ≤ 9223372036854775807) (La 0 [(0 : Tmp), (1 : Tmp), (2 : Tmp), (3 : Tmp), (9 : Tmp), (10 : Tmp), (12 : Tmp), (13 : Tmp), (14 : Tmp), (15 : Tmp), (69 : Tmp), (70 : Tmp), (71 : Tmp)] (WY Tryz.prog cfM 2988 (Env.mk (Bs.mk 0 []) 0 none 182 9 0) (cdAt [1, 1, 1, 1, 1, 1, 1, 1, 0, 1, 0, 0] (bodyOf Tryz.f9))) (Qblk 0 (Qthen (WY Tryz.prog cfM 2991 (Env.mk (Bs.mk 0 []) 0 none 182 9 0) (cdAt [1, 1, 1, 1, 1, 1, 1, 1, 1] (bodyOf Tryz.f9)) (QendX Tryz.prog Tryz.f9 fun v h => R (frzW h v))) (QendX Tryz.prog Tryz.f9 fun v h => R (frzW h v)))) (St.mk (mkT [(0, V.lst 3 (itl bx)), (1, V.lst 1 (pll p)), (2, V.lst 1 (nl v)), (3, V.raw (Value.int IntKind.u8 (↑s : Int))), (9, bv b), (10, V.ptr (Id.p 0) 0 0), (12, V.sl (Id.p 1) 0 (pll p).length), (13, V.sl (Id.p 2) 0 (pll p).length), (14, iv (0 : Int)), (15, iv (0 : Int)), (69, V.lst s_1 es), (70, iv (↑es.length : Int)), (71, iv (0 : Int))]) (Hp.mk [(0, O.rows 3 false [[V.lst s_1 es, iv n, V.lst s_2 es_1]]), (1, O.rows 1 true (List.replicate (pll p).length [V.raw (Value.int IntKind.u8 (0 : Int))])), (2, O.rows 1 true (List.replicate (pll p).length [V.raw (Value.int IntKind.u8 (0 : Int))]))] 3 []))))))))))))))))))) (by kernel_rfl) ?_)
  refine use t5 (onBool_bv ?_)
  refine lots28 (p := [bx]) (by simp) (fun b1 => onBool_bv (ifB_mk (fun _ => h) (fun _ => ?_)))
  refine small37 (fun b2 hb2 => onBool_bv (ifB_mk (fun _ => h) (fun h2 => ?_)))
  obtain ⟨hp6, hv20⟩ := hb2 (by simpa using h2)
  refine ifB_f rfl ?_
  refine choose38 (by omega) (by omega) (fun n hn => ?_) (fun k1 k2 k3 k4 k5 c val l d d1 hc hch hbest hd1 hd => ?_)
  · exact onTup_tup (onCons_cons (onAgg_agg (onCons_cons (onLst_nil (onCons_cons (onIntK_iv (onCons_cons (onLst_nil (onNil_nil (onCons_cons (onIntK_iv (onNil_nil (ifB_t (by simpa using hn) (ifB_t rfl (ifB_t rfl h)))))))))))))))
  refine onTup_tup (onCons_cons (onAgg_agg (onCons_cons (onLst_lst (onCons_cons (onIntK_iv (onCons_cons (onLst_lst (onNil_nil (onCons_cons (onIntK_iv (onNil_nil (ifB_f rfl ?_)))))))))))))
  have nll : (nl v).length = v.length := by simp [nl]
  have hpl := pll_length p
  refine ifB_f (by rw [nll, hpl, k4]; simp) ?_
  refine need_mk ⟨Nat.le_refl _, need_mk ⟨by omega, need_mk ⟨by omega, need_mk ⟨Nat.le_refl _, need_mk ⟨by omega, need_mk ⟨by omega, need_mk ⟨Nat.le_refl _, need_mk ⟨by omega, need_mk ⟨by omega, ?_⟩⟩⟩⟩⟩⟩⟩⟩⟩
  -- what is known of the choice
  have gb := k1.g
  have gp : ∀ l ∈ p, G l := fun l hl => (k2 l hl).g
  obtain ⟨c1, c2, c3, c4⟩ := cho_some gp gb hch
  have hq8 := bl8_len c
  have hqs := bl8_sorted c
  have hqp : ∀ i ∈ bl8 c, i < p.length := fun i hi => bl8_lt hc hi
  have hval : sumV v (bl8 c) = val := by rw [c1]; simp [sumV]
  have hother : ∀ T, T.Pairwise (· < ·) → (∃ t, t < 2 ^ p.length ∧ bl8 t = T) → (∀ a b, needF p T a b ≤ hasF bx a b) → sumV v T ≤ val := by
    rintro T _ ⟨t, ht, rfl⟩ hn
    obtain ⟨m, hm⟩ := cho_all (v := v) (n := 0) gp gb hn
    have e := (cho_some gp gb (show choF p v (bl8 t) 0 bx = some (m.1, m.2) from hm)).1
    have := hbest t m.1 m.2 ht hm
    simp only [sumV]
    omega
  clear hbest c1
  generalize hq : bl8 c = q at *
  have zero : (List.replicate (pll p).length [V.raw (Value.int IntKind.u8 (0 : Int))]) = ul (whoF p.length []) := by
    rw [hpl]
    apply List.ext_getElem?
    intro i
    by_cases hi : i < p.length
    · rw [ul_get (whoF_get [] hi)]
      simp [hi, sv, u8v]
    · rw [List.getElem?_eq_none_iff.2 (by simp; omega), List.getElem?_eq_none_iff.2 (by simp [ul, whoF_len]; omega)]
  rw [zero]
  refine La.of (σ := Nat) (fun k => sh9a bx p v s (nn q) val (itl l) d1 d (whoF p.length (q.take k)) (whoF p.length []) (sumV v (q.take k)) 0 k) (fun k => k ≤ q.length) (fun k => q.length - k) 0 (by kernel_rfl) (by simp) ?_
  intro k g1 J hJ
  refine see (p := ifB (decide ((↑k : Int) < (↑(nn q).length : Int))) (need (d1 = 1) (onSome (nn q)[k]? fun row => onSome row[0]? fun v_1 => onIntK IntKind.i64 v_1 fun n => ifB (decide (n < (0 : Int))) (R (bv false)) (ifB (decide (n ≥ (↑(pll p).length : Int))) (R (bv false)) (ifB (decide ((↑k : Int) > (0 : Int))) (onNat (IntKind.i64.wrap ((↑k : Int) - (1 : Int))) fun m => need (d1 = 1) (onSome (nn q)[m]? fun row => onSome row[0]? fun v_2 => onIntK IntKind.i64 v_2 fun n_1 => ifB (decide (n ≤ n_1)) (R (bv false)) (onNat n fun m => need (m < (pll p).length) (onSome (ul (whoF p.length (List.take k q)))[0 + m]? fun row => guardB ((0 + 1).ble row.length) (onNat n fun m_1 => onSome (nl v)[m_1]? fun row_1 => onSome row_1[0]? fun v_3 => onIntK IntKind.i64 v_3 fun n => J (St.mk (mkT [(0, V.lst 3 (itl bx)), (1, V.lst 1 (pll p)), (2, V.lst 1 (nl v)), (3, V.raw (Value.int IntKind.u8 (↑s : Int))), (9, bv true), (10, V.ptr (Id.p 0) 0 0), (12, V.sl (Id.p 1) 0 (pll p).length), (13, V.sl (Id.p 2) 0 (pll p).length), (14, iv (IntKind.i64.wrap (sumV v (List.take k q) + n))), (15, iv (0 : Int)), (69, V.lst d1 (nn q)), (70, iv (↑(nn q).length : Int)), (71, iv (IntKind.i64.wrap ((↑k : Int) + (1 : Int))))]) (Hp.mk [(0, O.rows 3 false [[V.lst d1 (nn q), iv val, V.lst d (itl l)]]), (1, O.rows 1 true ((ul (whoF p.length (List.take k q))).set (0 + m) (V.raw (Value.int IntKind.u8 (1 : Int)) :: (List.append ([] : List V)) (List.drop 1 row)))), (2, O.rows 1 true (ul (whoF p.length [])))] 3 []))))))) (onNat n fun m => need (m < (pll p).length) (onSome (ul (whoF p.length (List.take k q)))[0 + m]? fun row => guardB ((0 + 1).ble row.length) (onNat n fun m_1 => onSome (nl v)[m_1]? fun row_1 => onSome row_1[0]? fun v_2 => onIntK IntKind.i64 v_2 fun n => J (St.mk (mkT [(0, V.lst 3 (itl bx)), (1, V.lst 1 (pll p)), (2, V.lst 1 (nl v)), (3, V.raw (Value.int IntKind.u8 (↑s : Int))), (9, bv true), (10, V.ptr (Id.p 0) 0 0), (12, V.sl (Id.p 1) 0 (pll p).length), (13, V.sl (Id.p 2) 0 (pll p).length), (14, iv (IntKind.i64.wrap (sumV v (List.take k q) + n))), (15, iv (0 : Int)), (69, V.lst d1 (nn q)), (70, iv (↑(nn q).length : Int)), (71, iv (IntKind.i64.wrap ((↑k : Int) + (1 : Int))))]) (Hp.mk [(0, O.rows 3 false [[V.lst d1 (nn q), iv val, V.lst d (itl l)]]), (1, O.rows 1 true ((ul (whoF p.length (List.take k q))).set (0 + m) (V.raw (Value.int IntKind.u8 (1 : Int)) :: (List.append ([] : List V)) (List.drop 1 row)))), (2, O.rows 1 true (ul (whoF p.length [])))] 3 []))))))))) (La 0 [(0 : Tmp), (1 : Tmp), (2 : Tmp), (3 : Tmp), (9 : Tmp), (10 : Tmp), (12 : Tmp), (13 : Tmp), (14 : Tmp), (15 : Tmp), (109 : Tmp), (110 : Tmp)] (WY Tryz.prog cfM 2987 (Env.mk (Bs.mk 0 []) 0 none 182 9 2) (cdAt [1, 1, 1, 1, 1, 1, 1, 1, 1, 0, 1, 0, 0] (bodyOf Tryz.f9))) (Qblk 2 (Qthen (WY Tryz.prog cfM 2990 (Env.mk (Bs.mk 0 []) 0 none 182 9 0) (cdAt [1, 1, 1, 1, 1, 1, 1, 1, 1, 1] (bodyOf Tryz.f9)) (QendX Tryz.prog Tryz.f9 fun v h => R (frzW h v))) (QendX Tryz.prog Tryz.f9 fun v h => R (frzW h v)))) (St.mk (mkT [(0, V.lst 3 (itl bx)), (1, V.lst 1 (pll p)), (2, V.lst 1 (nl v)), (3, V.raw (Value.int IntKind.u8 (↑s : Int))), (9, bv true), (10, V.ptr (Id.p 0) 0 0), (12, V.sl (Id.p 1) 0 (pll p).length), (13, V.sl (Id.p 2) 0 (pll p).length), (14, iv (sumV v (List.take k q))), (15, iv (0 : Int)), (109, iv (↑(pll p).length : Int)), (110, iv (0 : Int))]) (Hp.mk [(0, O.rows 3 false [[V.lst d1 (nn q), iv val, V.lst d (itl l)]]), (1, O.rows 1 true (ul (whoF p.length (List.take k q)))), (2, O.rows 1 true (ul (whoF p.length [])))] 3 [])))) (by kernel_rfl) ?_
  rw [nn_length]
  refine ifB_mk (fun hb => ?_) (fun hb => ?_)
  · have hlt : k < q.length := by have := of_decide_eq_true hb; omega
    obtain ⟨m, hm⟩ : ∃ m, q[k]? = some m := ⟨q[k], by simp [hlt]⟩
    have hmp : m < p.length := hqp m (List.mem_of_getElem? hm)
    have hd1' : d1 = 1 := hd1.resolve_right (by rintro rfl; simp at hlt)
    refine need_mk ⟨hd1', ?_⟩
    refine nel hm (ifB_f (by simp) (ifB_f (by rw [hpl]; simp; omega) ?_))
    have hso := sumV_ok k5 (q.take k)
    have htl : (q.take k).length ≤ 8 := by simp only [List.length_take]; omega
    have hvm : v[m]? = some (v.getD m 0) := getVa (by omega)
    have hvm' := k5 _ (List.mem_of_getElem? hvm)
    have st : ∀ row, (ul (whoF p.length (q.take k)))[0 + m]? = some row → row.drop 1 = [] := fun row hr => by
      rw [Nat.zero_add, ul_get (whoF_get _ hmp)] at hr
      cases hr; rfl
    have rw1 : (ul (whoF p.length (q.take k)))[0 + m]? = some [sv (if m ∈ q.take k then 1 else 0)] := by rw [Nat.zero_add]; exact ul_get (whoF_get _ hmp)
    have fin : ∀ n', n' = IntKind.i64.wrap (sumV v (q.take k) + v.getD m 0) → n' = sumV v (q.take (k + 1)) := by
      rintro n' rfl
      rw [List.take_add_one, hm, wr (by omega) (by omega)]
      exact (sumV_snoc _ _ _).symm
    have go := hJ (k + 1) (by omega) (by omega)
    have set1 := whoF_set (n := p.length) (mem_take hm)
    rw [wr1i hlt (by omega)]
    have step : onNat (m : Int) fun m => need (m < (pll p).length) (onSome (ul (whoF p.length (q.take k)))[0 + m]? fun row => guardB ((0 + 1).ble row.length) (onNat (m : Int) fun m_1 => onSome (nl v)[m_1]? fun row_1 => onSome row_1[0]? fun v_2 => onIntK IntKind.i64 v_2 fun n => J (St.mk (mkT [(0, V.lst 3 (itl bx)), (1, V.lst 1 (pll p)), (2, V.lst 1 (nl v)), (3, V.raw (Value.int IntKind.u8 (s : Int))), (9, bv true), (10, V.ptr (Id.p 0) 0 0), (12, V.sl (Id.p 1) 0 (pll p).length), (13, V.sl (Id.p 2) 0 (pll p).length), (14, iv (IntKind.i64.wrap (sumV v (q.take k) + n))), (15, iv 0), (69, V.lst d1 (nn q)), (70, iv (q.length : Int)), (71, iv ((k + 1 : Nat) : Int))]) (Hp.mk [(0, O.rows 3 false [[V.lst d1 (nn q), iv val, V.lst d (itl l)]]), (1, O.rows 1 true ((ul (whoF p.length (q.take k))).set (0 + m) (V.raw (Value.int IntKind.u8 (1 : Int)) :: (List.append ([] : List V)) (List.drop 1 row)))), (2, O.rows 1 true (ul (whoF p.length [])))] 3 [])))) := by
      refine onNat_c (need_mk ⟨by omega, onSome_mk rw1 (guardB_mk rfl (onNat_c (iel hvm ?_)))⟩)
      refine hJ' ?_ go
      rw [fin _ rfl, ul_set _ _ rfl, set1]
      simp [sh9a, mem9, nn_length, sv, u8v]
    refine ifB_mk (fun hk => ?_) (fun hk => ?_)
    · have hk0 : 0 < k := by have := of_decide_eq_true hk; omega
      obtain ⟨m', hm'⟩ : ∃ m, q[k - 1]? = some m := ⟨q[k - 1], by simp [show k - 1 < q.length from by omega]⟩
      have hlt' : m' < m := by
        have a1 := (List.getElem?_eq_some_iff.1 hm').2
        have a2 := (List.getElem?_eq_some_iff.1 hm).2
        have := List.pairwise_iff_getElem.1 hqs (k - 1) k (by omega) hlt (by omega)
        omega
      refine onNat_mk (m := k - 1) (by rw [wr (by omega) (by omega)]; omega) (need_mk ⟨hd1', ?_⟩)
      refine nel hm' (ifB_f (by simp; omega) step)
    · exact step
  · have hk : k = q.length := by have := of_decide_eq_false hb; omega
    subst hk
    have htk : q.take q.length = q := List.take_length
    rw [htk]
    rw [htk] at *
    refine La.of (σ := Nat) (fun k => sh9b bx p v s (nn q) val (itl l) d1 d (whoF p.length q) (whoF p.length (bel s k)) (sumV v q) (sumV v (bel s k)) k) (fun k => k ≤ p.length) (fun k => p.length - k) 0 (by rw [show bel s 0 = [] from by simp [bel]]; kernel_rfl) (by simp) ?_
    intro k g1 J2 hJ2
    refine see (p := ifB (decide ((↑k : Int) < (↑(pll p).length : Int))) (ifB (IntKind.u8.wrap (↑(BitVec.ofInt 8 ((↑s : Int).fdiv ((2 : Int) ^ min (↑k : Int).toNat 8)) &&& BitVec.ofInt 8 (1 : Int)).toNat : Int) == (1 : Int)) (need (k < (pll p).length) (onSome (ul (whoF p.length (bel s k)))[0 + k]? fun row => guardB ((0 + 1).ble row.length) (onSome (nl v)[k]? fun row_1 => onSome row_1[0]? fun v_1 => onIntK IntKind.i64 v_1 fun n => J2 (St.mk (mkT [(0, V.lst 3 (itl bx)), (1, V.lst 1 (pll p)), (2, V.lst 1 (nl v)), (3, V.raw (Value.int IntKind.u8 (↑s : Int))), (9, bv true), (10, V.ptr (Id.p 0) 0 0), (12, V.sl (Id.p 1) 0 (pll p).length), (13, V.sl (Id.p 2) 0 (pll p).length), (14, iv (sumV v q)), (15, iv (IntKind.i64.wrap (sumV v (bel s k) + n))), (109, iv (↑(pll p).length : Int)), (110, iv (IntKind.i64.wrap ((↑k : Int) + (1 : Int))))]) (Hp.mk [(0, O.rows 3 false [[V.lst d1 (nn q), iv val, V.lst d (itl l)]]), (1, O.rows 1 true (ul (whoF p.length q))), (2, O.rows 1 true ((ul (whoF p.length (bel s k))).set (0 + k) (V.raw (Value.int IntKind.u8 (1 : Int)) :: (List.append ([] : List V)) (List.drop 1 row))))] 3 []))))) (J2 (St.mk (mkT [(0, V.lst 3 (itl bx)), (1, V.lst 1 (pll p)), (2, V.lst 1 (nl v)), (3, V.raw (Value.int IntKind.u8 (↑s : Int))), (9, bv true), (10, V.ptr (Id.p 0) 0 0), (12, V.sl (Id.p 1) 0 (pll p).length), (13, V.sl (Id.p 2) 0 (pll p).length), (14, iv (sumV v q)), (15, iv (sumV v (bel s k))), (109, iv (↑(pll p).length : Int)), (110, iv (IntKind.i64.wrap ((↑k : Int) + (1 : Int))))]) (Hp.mk [(0, O.rows 3 false [[V.lst d1 (nn q), iv val, V.lst d (itl l)]]), (1, O.rows 1 true (ul (whoF p.length q))), (2, O.rows 1 true (ul (whoF p.length (bel s k))))] 3 [])))) (K0G Tryz.prog glX 39 [V.lst 3 (itl bx), V.lst 1 (pll p), V.lst 1 (sub (ul (whoF p.length q)) 0 (pll p).length), V.raw (Value.int IntKind.u8 (1 : Int))] fun v_1 => onBool v_1 fun b => ifB (!b) (R (bv false)) (ifB (sumV v q != val) (R (bv false)) (La 0 [(0 : Tmp), (1 : Tmp), (9 : Tmp), (10 : Tmp), (12 : Tmp), (13 : Tmp), (14 : Tmp), (15 : Tmp), (139 : Tmp), (140 : Tmp), (141 : Tmp)] (WY Tryz.prog cfM 2985 (Env.mk (Bs.mk 0 []) 0 none 182 9 4) (cdAt [1, 1, 1, 1, 1, 1, 1, 1, 1, 1, 1, 0, 1, 0, 0] (bodyOf Tryz.f9))) (Qblk 4 (Qthen (WY Tryz.prog cfM 2988 (Env.mk (Bs.mk 0 []) 0 none 182 9 0) (cdAt [1, 1, 1, 1, 1, 1, 1, 1, 1, 1, 1, 1] (bodyOf Tryz.f9)) (QendX Tryz.prog Tryz.f9 fun v h => R (frzW h v))) (QendX Tryz.prog Tryz.f9 fun v h => R (frzW h v)))) (St.mk (mkT [(0, V.lst 3 (itl bx)), (1, V.lst 1 (pll p)), (9, bv true), (10, V.ptr (Id.p 0) 0 0), (12, V.sl (Id.p 1) 0 (pll p).length), (13, V.sl (Id.p 2) 0 (pll p).length), (14, iv (sumV v q)), (15, iv (sumV v (bel s k))), (139, V.lst 3 (itl bx)), (140, iv (↑(itl bx).length : Int)), (141, iv (0 : Int))]) (Hp.mk [(0, O.rows 3 false [[V.lst d1 (nn q), iv val, V.lst d (itl l)]]), (1, O.rows 1 true (ul (whoF p.length q))), (2, O.rows 1 true (ul (whoF p.length (bel s k))))] 3 [])))))) (by kernel_rfl) ?_
    have e39 : sub (ul (whoF p.length q)) 0 (pll p).length = ul (whoF p.length q) := ul_all (whoF_len _ _)
    rw [e39]
    refine ifB_mk (fun hb => ?_) (fun hb => ?_)
    · have hlt : k < p.length := by have := of_decide_eq_true hb; omega
      have hso := sumV_ok k5 (bel s k)
      have hbl : (bel s k).length ≤ 8 := Nat.le_trans (List.length_filter_le _ _) (bl8_len s)
      have hvm := getVa (l := v) (i := k) (by omega)
      have hvm' := k5 _ (List.mem_of_getElem? hvm)
      have go := hJ2 (k + 1) (by omega) (by omega)
      rw [wr1i hlt (by omega), has_bits s hs k (by omega)]
      refine ifB_mk (fun hbit => ?_) (fun hbit => ?_)
      · have hin : k ∈ bl8 s := bl8_mem.2 ⟨by omega, hbit⟩
        have eb : bel s (k + 1) = bel s k ++ [k] := by rw [bel_succ, if_pos hin]
        refine need_mk ⟨by omega, onSome_mk (x := [sv (if k ∈ bel s k then 1 else 0)]) (by rw [Nat.zero_add]; exact ul_get (whoF_get _ hlt)) (guardB_mk rfl (iel hvm ?_))⟩
        rw [eb] at go
        refine hJ' ?_ go
        rw [wr (by omega) (by omega), ul_set _ _ rfl, whoF_set (T' := bel s k ++ [k]) (fun i => by simp)]
        simp [sh9b, mem9, sumV_snoc, sv, u8v]
      · have eb : bel s (k + 1) = bel s k := by rw [bel_succ, if_neg (fun h => by rw [(bl8_mem.1 h).2] at hbit; cases hbit), List.append_nil]
        rw [eb] at go
        exact hJ' (by simp [sh9b, mem9, sv, u8v]) go
    · have hk : k = p.length := by have := of_decide_eq_false hb; omega
      subst hk
      have hbx := k1.1
      refine built39 (m := 1) k1.1 k3 (whoF_len _ _) k2 (fun b hb39 => onBool_bv ?_)
      have hbt : b = true := hb39.2 ((built_need gb gp hqp hqs).2 (fun a b => by have := c4 a b; have := c2.pos a b; omega))
      rw [hbt]
      refine ifB_f rfl (ifB_f (by simp [hval]) ?_)
      refine La.of (σ := Nat) (fun k => sh9c bx p (nn q) val (itl l) d1 d (whoF p.length q) (whoF p.length (bel s p.length)) (sumV v q) (sumV v (bel s p.length)) k) (fun k => k ≤ bx.length) (fun k => bx.length - k) 0 (by kernel_rfl) (by simp) ?_
      intro k g1 J3 hJ3
      refine see (p := ifB (decide ((↑k : Int) < (↑(itl bx).length : Int))) (onSome (itl bx)[k]? fun row => onCons (List.drop 0 row) fun u r => onIntK IntKind.i64 u fun n => onCons r fun u r => onIntK IntKind.u8 u fun n_1 => onCons r fun u r => onIntK IntKind.i64 u fun n_2 => K0G Tryz.prog glX 40 [V.lst d (itl l), iv n, V.raw (Value.int IntKind.u8 n_1)] fun v_1 => onIntK IntKind.i64 v_1 fun n_3 => K0G Tryz.prog glX 41 [V.lst 1 (pll p), V.lst 1 (sub (ul (whoF p.length q)) 0 (pll p).length), V.raw (Value.int IntKind.u8 (1 : Int)), V.agg [iv n, V.raw (Value.int IntKind.u8 n_1), iv n_2]] fun v_2 => onIntK IntKind.i64 v_2 fun n => ifB (n_3 != IntKind.i64.wrap (n_2 - n)) (R (bv false)) (J3 (St.mk (mkT [(0, V.lst 3 (itl bx)), (1, V.lst 1 (pll p)), (9, bv true), (10, V.ptr (Id.p 0) 0 0), (12, V.sl (Id.p 1) 0 (pll p).length), (13, V.sl (Id.p 2) 0 (pll p).length), (14, iv (sumV v q)), (15, iv (sumV v (bel s p.length))), (139, V.lst 3 (itl bx)), (140, iv (↑(itl bx).length : Int)), (141, iv (IntKind.i64.wrap ((↑k : Int) + (1 : Int))))]) (Hp.mk [(0, O.rows 3 false [[V.lst d1 (nn q), iv val, V.lst d (itl l)]]), (1, O.rows 1 true (ul (whoF p.length q))), (2, O.rows 1 true (ul (whoF p.length (bel s p.length))))] 3 [])))) (K0G Tryz.prog glX 31 [V.lst d (itl l)] fun v_1 => onIntK IntKind.i64 v_1 fun n => K0G Tryz.prog glX 31 [V.lst 3 (itl bx)] fun v_2 => onIntK IntKind.i64 v_2 fun n_1 => ifB (decide (n ≤ n_1)) (K0G Tryz.prog glX 39 [V.lst 3 (itl bx), V.lst 1 (pll p), V.lst 1 (sub (ul (whoF p.length (bel s p.length))) 0 (pll p).length), V.raw (Value.int IntKind.u8 (1 : Int))] fun v_3 => onBool v_3 fun b => ifB (!b) (R (bv true)) (R (bv (decide (sumV v (bel s p.length) ≤ sumV v q))))) (R (bv false)))) (by kernel_rfl) ?_
      have hlen := cho_len hch
      rw [e39, itl_length, ul_all (whoF_len _ (bel s p.length))]
      refine ifB_mk (fun hb => ?_) (fun hb => ?_)
      · have hlt : k < bx.length := by have := of_decide_eq_true hb; omega
        obtain ⟨x, hx⟩ : ∃ x, bx[k]? = some x := ⟨bx[k], by simp [hlt]⟩
        have hxm := List.mem_of_getElem? hx
        have hxn := k1.2.2.2 x hxm
        refine onSome_mk (itl_get hx) (onCons_cons (onIntK_iv (onCons_cons (onIntK_u8 (onCons_cons (onIntK_iv ?_))))))
        refine K0_args (has40 (l := l) (by omega) (onIntK_iv ?_)) (fun F w xs hx => riL_d hd hx)
        refine sum41 (m := 1) (x := x) k3 (whoF_len _ _) k2 (onIntK_iv ?_)
        have e1 : hasF l x.1 x.2.1 = x.2.2 - sumF p (whoF p.length q) 1 x := by rw [c4, gb.has hxm, sumF_need x hqp hqs]
        have e2 := c2.pos x.1 x.2.1
        have e3 := needF_pos gp q x.1 x.2.1
        rw [← sumF_need x hqp hqs] at e3
        rw [wr (by omega) (by omega), wr1i hlt (by omega)]
        refine ifB_f (by rw [e1]; simp) ?_
        refine hJ' ?_ (hJ3 (k + 1) (by omega) (by omega))
        simp [sh9c, mem9, itl_length]
      · have hln : ∀ x ∈ l, 0 ≤ x.2.2 ∧ x.2.2 ≤ 1000 := fun x hx => by
          have a1 := c2.has hx
          have a2 := c2.2 x hx
          have a3 := c4 x.1 x.2.1
          have a4 := needF_pos gp q x.1 x.2.1
          have a5 := hasF_ok (fun y hy => ⟨by have := (k1.2.2.2 y hy).1; omega, (k1.2.2.2 y hy).2⟩ : ∀ y ∈ bx, 0 ≤ y.2.2 ∧ y.2.2 ≤ 1000) x.1 x.2.1
          omega
        refine K0_args (all31 (l := l) (by omega) hln ?_) (fun F w xs hx => riL_d hd hx)
        refine onIntK_iv ?_
        have hbn : ∀ y ∈ bx, 0 ≤ y.2.2 ∧ y.2.2 ≤ 1000 := fun y hy => by
          have := k1.2.2.2 y hy
          omega
        refine all31 (by omega) hbn ?_
        refine onIntK_iv ?_
        refine ifB_t (decide_eq_true c3) ?_
        refine built39 (m := 1) k1.1 k3 (whoF_len _ _) k2 (fun b hb => ?_)
        refine onBool_bv (ifB_mk (fun _ => h) (fun hb2 => ?_))
        have hle : sumV v (bel s p.length) ≤ val := hother _ (bel_sorted _ _) ⟨s % 2 ^ p.length, Nat.mod_lt _ (Nat.two_pow_pos _), bel_mod.symm⟩ ((built_need gb gp (fun i hi => (bel_mem.1 hi).2) (bel_sorted _ _)).1 (hb.1 (by simpa using hb2)))
        rw [show decide (sumV v (bel s p.length) ≤ sumV v q) = true from decide_eq_true (by omega)]
        exact h
theorem lawI9 {bx : List It} {p : List (List It)} {v : List Int} {t : Int} {R : V → Prop} (ht : 0 ≤ t ∧ t < 256) (h : R (bv true)) : K0G Tryz.prog glX 9 [.lst 3 (itl bx), .lst 1 (pll p), .lst 1 (nl v), u8v t] R := by
  obtain ⟨s, rfl⟩ : ∃ s : Nat, t = (s : Int) := ⟨t.toNat, by omega⟩
  exact law9 (by omega) h
end Go.Proofs.YtmddjopahcbefaaGreat
