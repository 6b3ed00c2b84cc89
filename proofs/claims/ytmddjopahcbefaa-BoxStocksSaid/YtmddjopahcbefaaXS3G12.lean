/- A part of the proof. -/
import Derived.Test.YtmddjopahcbefaaXS3G11
namespace Go.Proofs.Ytmddjopahcbefaa
open Go Go.Proofs.Ytmddjopahcbefaa.Clean
set_option linter.unusedVariables false
set_option linter.unusedSimpArgs false
set_option maxRecDepth 10000
theorem hcR : cfR.ok Try.prog := cfgG_ok rtS_ok
theorem hcT : cfT.ok Try.prog := cfgG_ok rtS_ok
theorem sub_tl {α : Type} (x : α) (l : List α) : sub (x :: l) 1 ((x :: l).length - 1) = l := by simp [sub]
theorem sh41_b {a o l : List It} {k : Nat} (h : l ≠ []) : sh41 a (o, l, k) = sh41b a o l k := by cases l with | nil => exact (h rfl).elim | cons x r => rfl
theorem eqP {x y : It} : (y.1 == x.1 && (fun b => y.2.1 == x.2.1 && b) true) = true ↔ y.1 = x.1 ∧ y.2.1 = x.2.1 := by simp
theorem rest41 {a b : List It} {R : V → Prop} (ha : ∀ x ∈ a, Nok x) (hb : ∀ x ∈ b, Nok x) (hla : a.length ≤ 1000000) (h : R (restV (restF a b))) : KB Try.prog glX 41 [.lst 3 (itl a), .lst 3 (itl b)] ⟨[], 0, []⟩ R := by
  refine KB_of_WYB hmX hcR 3000 Try.func41 rfl (see (p := La 0 [(1 : Tmp), (6 : Tmp), (9 : Tmp), (10 : Tmp), (11 : Tmp)] (WY Try.prog cfR 2994 (Env.mk (Bs.mk 0 []) 0 none 52 41 0) (cdAt [1, 1, 0, 1, 0, 0] (bodyOf Try.f41))) (Qblk 0 (Qthen (WY Try.prog cfR 2997 (Env.mk (Bs.mk 0 []) 0 none 52 41 0) (cdAt [1, 1, 1] (bodyOf Try.f41)) (QendX Try.prog Try.f41 fun v h' => dataT 0 (gcH 0 v h') v R)) (QendX Try.prog Try.f41 fun v h' => dataT 0 (gcH 0 v h') v R))) (St.mk (mkT [(1, V.lst 3 (itl b)), (6, nilS), (9, V.lst 3 (itl a)), (10, iv (↑(itl a).length : Int)), (11, iv (0 : Int))]) (Hp.mk [] 0 []))) (by kernel_rfl) ?_)
  refine La.of (σ := List It × List It × Nat) (fun s => sh41 a s) (fun s => (∀ y ∈ s.1, Nok y) ∧ s.2.1.length ≤ s.2.2 ∧ s.2.2 ≤ a.length ∧ restF a b = (restF (a.drop s.2.2) s.1).map fun p => (s.2.1 ++ p.1, p.2)) (fun s => a.length - s.2.2) (b, [], 0) (by kernel_rfl) ⟨hb, by simp, by simp, by simp⟩ ?_
  rintro ⟨o, l, k⟩ ⟨h1, h2, h3, h4⟩ J hJ
  simp only at h1 h2 h3 h4
  by_cases hlt : k < a.length
  · obtain ⟨x, hx⟩ : ∃ x, a[k]? = some x := ⟨a[k], by simp [hlt]⟩
    have hxm : Nok x := ha x (List.mem_of_getElem? hx)
    have hd : a.drop k = x :: a.drop (k + 1) := by
      have := List.drop_eq_getElem_cons hlt
      rw [this]; congr 1; simpa [hlt] using hx
    rw [hd] at h4
    simp only [restF] at h4
    have ⟨t1, t2, t3⟩ := takeF_ok hxm h1
    have bad : ∀ p : Int × List It, takeF x o = p → p.1 < 0 → R (.tup [nilS, bv false]) := by
      rintro p rfl hp
      rw [if_pos hp] at h4
      rw [h4] at h
      exact h
    have go : ∀ p : Int × List It, takeF x o = p → ¬ p.1 < 0 → J (sh41 a (p.2, l ++ keepF x p.1, k + 1)) := by
      rintro p rfl hp
      rw [if_neg hp] at h4
      refine hJ (_, _, k + 1) ⟨t3, ?_, (by simp only; omega), ?_⟩ (by simp only; omega)
      · have : (keepF x (takeF x o).1).length ≤ 1 := by unfold keepF; split <;> simp
        simp only [List.length_append]
        omega
      · simp only
        rw [h4, Option.map_map]
        congr 1
        funext q
        simp [List.append_assoc]
    have hw : IntKind.i64.wrap ((k : Int) + 1) = ((k + 1 : Nat) : Int) := wr1i hlt (by omega)
    by_cases hl : l = []
    · subst hl
      refine see (p := ifB (decide ((↑k : Int) < (↑(itl a).length : Int))) (onSome (itl a)[k]? fun row => onCons (List.drop 0 row) fun u r => onIntK IntKind.i64 u fun n => onCons r fun u r => onIntK IntKind.u8 u fun n_1 => onCons r fun u r => onIntK IntKind.i64 u fun n_2 => ifB (decide ((↑(itl o).length : Int) > (0 : Int))) (onSome (itl o)[0]? fun row => onCons (List.drop 0 row) fun u r => onIntK IntKind.i64 u fun n_3 => onCons r fun u r => onIntK IntKind.u8 u fun n_4 => onCons r fun u r => onIntK IntKind.i64 u fun n_5 => ifB (n_3 == n && (fun b => n_4 == n_1 && b) true) (onSome (itl o)[0]? fun row => onSome row[2]? fun v => onIntK IntKind.i64 v fun n_6 => need ((itl o).length ≤ (itl o).length) (need (1 ≤ (itl o).length) (ifB (decide (IntKind.i64.wrap (n_2 - n_6) < (0 : Int))) (R (V.tup [nilS, bv false])) (ifB (decide (IntKind.i64.wrap (n_2 - n_6) > (0 : Int))) (J (St.mk (mkT [(1, V.lst 3 (sub (itl o) 1 ((itl o).length - 1))), (6, V.sl (Id.p 0) 0 1), (9, V.lst 3 (itl a)), (10, iv (↑(itl a).length : Int)), (11, iv (IntKind.i64.wrap ((↑k : Int) + (1 : Int))))]) (Hp.mk [(0, O.rows 3 true [[iv n, V.raw (Value.int IntKind.u8 n_1), iv (IntKind.i64.wrap (n_2 - n_6))]])] 1 []))) (J (St.mk (mkT [(1, V.lst 3 (sub (itl o) 1 ((itl o).length - 1))), (6, nilS), (9, V.lst 3 (itl a)), (10, iv (↑(itl a).length : Int)), (11, iv (IntKind.i64.wrap ((↑k : Int) + (1 : Int))))]) (Hp.mk [] 0 []))))))) (ifB (decide (n_2 < (0 : Int))) (R (V.tup [nilS, bv false])) (ifB (decide (n_2 > (0 : Int))) (J (St.mk (mkT [(1, V.lst 3 (itl o)), (6, V.sl (Id.p 0) 0 1), (9, V.lst 3 (itl a)), (10, iv (↑(itl a).length : Int)), (11, iv (IntKind.i64.wrap ((↑k : Int) + (1 : Int))))]) (Hp.mk [(0, O.rows 3 true [[iv n, V.raw (Value.int IntKind.u8 n_1), iv n_2]])] 1 []))) (J (St.mk (mkT [(1, V.lst 3 (itl o)), (6, nilS), (9, V.lst 3 (itl a)), (10, iv (↑(itl a).length : Int)), (11, iv (IntKind.i64.wrap ((↑k : Int) + (1 : Int))))]) (Hp.mk [] 0 [])))))) (ifB (decide (n_2 < (0 : Int))) (R (V.tup [nilS, bv false])) (ifB (decide (n_2 > (0 : Int))) (J (St.mk (mkT [(1, V.lst 3 (itl o)), (6, V.sl (Id.p 0) 0 1), (9, V.lst 3 (itl a)), (10, iv (↑(itl a).length : Int)), (11, iv (IntKind.i64.wrap ((↑k : Int) + (1 : Int))))]) (Hp.mk [(0, O.rows 3 true [[iv n, V.raw (Value.int IntKind.u8 n_1), iv n_2]])] 1 []))) (J (St.mk (mkT [(1, V.lst 3 (itl o)), (6, nilS), (9, V.lst 3 (itl a)), (10, iv (↑(itl a).length : Int)), (11, iv (IntKind.i64.wrap ((↑k : Int) + (1 : Int))))]) (Hp.mk [] 0 [])))))) (R (V.tup [nilS, bv ((↑(itl o).length : Int) == (0 : Int))]))) (by kernel_rfl) ?_
      rw [itl_length, itl_length, hw]
      refine ifB_t (by simpa using hlt) ?_
      refine onSome_mk (x := itm x) (by simp [itl, hx]) (onCons_cons (onIntK_iv (onCons_cons (onIntK_u8 (onCons_cons (onIntK_iv ?_))))))
      have fin : ∀ p : Int × List It, takeF x o = p → ∀ (m : Int) (o' : List (List V)), m = p.1 → o' = itl p.2 → ifB (decide (m < 0)) (R (V.tup [nilS, bv false])) (ifB (decide (m > 0)) (J (St.mk (mkT [(1, V.lst 3 o'), (6, V.sl (Id.p 0) 0 1), (9, V.lst 3 (itl a)), (10, iv (a.length : Int)), (11, iv ((k + 1 : Nat) : Int))]) (Hp.mk [(0, O.rows 3 true [[iv x.1, V.raw (Value.int IntKind.u8 x.2.1), iv m]])] 1 []))) (J (St.mk (mkT [(1, V.lst 3 o'), (6, nilS), (9, V.lst 3 (itl a)), (10, iv (a.length : Int)), (11, iv ((k + 1 : Nat) : Int))]) (Hp.mk [] 0 [])))) := by
        rintro p hp m o' rfl rfl
        refine ifB_mk (fun hc => bad p hp (of_decide_eq_true hc)) (fun hc => ?_)
        have g := go p hp (of_decide_eq_false hc)
        refine ifB_mk (fun hd => ?_) (fun hd => ?_)
        · rw [show keepF x p.1 = [(x.1, x.2.1, p.1)] from if_pos (of_decide_eq_true hd)] at g
          exact hJ' (by simp [sh41, sh41b, itl, itm, u8v]) g
        · rw [show keepF x p.1 = [] from if_neg (of_decide_eq_false hd)] at g
          exact hJ' (by simp [sh41, sh41a, itl_length]) g
      refine ifB_mk (fun ho => ?_) (fun ho => ?_)
      · obtain ⟨y, t, rfl⟩ : ∃ y t, o = y :: t := by cases o with | nil => simp at ho | cons y t => exact ⟨y, t, rfl⟩
        refine onSome_mk (x := itm y) (by simp [itl]) (onCons_cons (onIntK_iv (onCons_cons (onIntK_u8 (onCons_cons (onIntK_iv ?_))))))
        refine ifB_mk (fun he => ?_) (fun he => ?_)
        · refine onSome_mk (x := itm y) (by simp [itl]) (onSome_mk (x := iv y.2.2) rfl (onIntK_iv (need_mk ⟨Nat.le_refl _, need_mk ⟨by simp, ?_⟩⟩)))
          have hy := h1 y (by simp)
          rw [wr (by have := hxm.1; have := hy.2; omega) (by have := hxm.2; have := hy.1; omega)]
          exact fin (x.2.2 - y.2.2, t) (if_pos (eqP.1 he)) _ _ rfl (by rw [show itl (y :: t) = itm y :: itl t from rfl, ← itl_length (y :: t)]; exact sub_tl _ _)
        · exact fin (x.2.2, y :: t) (if_neg (fun e => by rw [eqP.2 e] at he; cases he)) _ _ rfl rfl
      · obtain rfl : o = [] := by cases o with | nil => rfl | cons y t => simp at ho
        exact fin (x.2.2, []) rfl _ _ rfl rfl
    · rw [sh41_b hl]
      refine see (p := ifB (decide ((↑k : Int) < (↑(itl a).length : Int))) (onSome (itl a)[k]? fun row => onCons (List.drop 0 row) fun u r => onIntK IntKind.i64 u fun n => onCons r fun u r => onIntK IntKind.u8 u fun n_1 => onCons r fun u r => onIntK IntKind.i64 u fun n_2 => ifB (decide ((↑(itl o).length : Int) > (0 : Int))) (onSome (itl o)[0]? fun row => onCons (List.drop 0 row) fun u r => onIntK IntKind.i64 u fun n_3 => onCons r fun u r => onIntK IntKind.u8 u fun n_4 => onCons r fun u r => onIntK IntKind.i64 u fun n_5 => ifB (n_3 == n && (fun b => n_4 == n_1 && b) true) (onSome (itl o)[0]? fun row => onSome row[2]? fun v => onIntK IntKind.i64 v fun n_6 => need ((itl o).length ≤ (itl o).length) (need (1 ≤ (itl o).length) (ifB (decide (IntKind.i64.wrap (n_2 - n_6) < (0 : Int))) (R (V.tup [nilS, bv false])) (ifB (decide (IntKind.i64.wrap (n_2 - n_6) > (0 : Int))) (need ((l.length + 1) * 24 ≤ 140737488355328) (J (St.mk (mkT [(1, V.lst 3 (sub (itl o) 1 ((itl o).length - 1))), (6, V.sl (Id.p 0) 0 (l.length + 1)), (9, V.lst 3 (itl a)), (10, iv (↑(itl a).length : Int)), (11, iv (IntKind.i64.wrap ((↑k : Int) + (1 : Int))))]) (Hp.mk [(0, O.rows 3 true (List.take l.length (itl l) ++ [[iv n, V.raw (Value.int IntKind.u8 n_1), iv (IntKind.i64.wrap (n_2 - n_6))]]))] 1 [])))) (J (St.mk (mkT [(1, V.lst 3 (sub (itl o) 1 ((itl o).length - 1))), (6, V.sl (Id.p 0) 0 l.length), (9, V.lst 3 (itl a)), (10, iv (↑(itl a).length : Int)), (11, iv (IntKind.i64.wrap ((↑k : Int) + (1 : Int))))]) (Hp.mk [(0, O.rows 3 true (itl l))] 1 []))))))) (ifB (decide (n_2 < (0 : Int))) (R (V.tup [nilS, bv false])) (ifB (decide (n_2 > (0 : Int))) (need ((l.length + 1) * 24 ≤ 140737488355328) (J (St.mk (mkT [(1, V.lst 3 (itl o)), (6, V.sl (Id.p 0) 0 (l.length + 1)), (9, V.lst 3 (itl a)), (10, iv (↑(itl a).length : Int)), (11, iv (IntKind.i64.wrap ((↑k : Int) + (1 : Int))))]) (Hp.mk [(0, O.rows 3 true (List.take l.length (itl l) ++ [[iv n, V.raw (Value.int IntKind.u8 n_1), iv n_2]]))] 1 [])))) (J (St.mk (mkT [(1, V.lst 3 (itl o)), (6, V.sl (Id.p 0) 0 l.length), (9, V.lst 3 (itl a)), (10, iv (↑(itl a).length : Int)), (11, iv (IntKind.i64.wrap ((↑k : Int) + (1 : Int))))]) (Hp.mk [(0, O.rows 3 true (itl l))] 1 [])))))) (ifB (decide (n_2 < (0 : Int))) (R (V.tup [nilS, bv false])) (ifB (decide (n_2 > (0 : Int))) (need ((l.length + 1) * 24 ≤ 140737488355328) (J (St.mk (mkT [(1, V.lst 3 (itl o)), (6, V.sl (Id.p 0) 0 (l.length + 1)), (9, V.lst 3 (itl a)), (10, iv (↑(itl a).length : Int)), (11, iv (IntKind.i64.wrap ((↑k : Int) + (1 : Int))))]) (Hp.mk [(0, O.rows 3 true (List.take l.length (itl l) ++ [[iv n, V.raw (Value.int IntKind.u8 n_1), iv n_2]]))] 1 [])))) (J (St.mk (mkT [(1, V.lst 3 (itl o)), (6, V.sl (Id.p 0) 0 l.length), (9, V.lst 3 (itl a)), (10, iv (↑(itl a).length : Int)), (11, iv (IntKind.i64.wrap ((↑k : Int) + (1 : Int))))]) (Hp.mk [(0, O.rows 3 true (itl l))] 1 [])))))) (R (V.tup [V.lst 3 (sub (itl l) 0 l.length), bv ((↑(itl o).length : Int) == (0 : Int))]))) (by kernel_rfl) ?_
      rw [itl_length, itl_length, itl_take, hw]
      refine ifB_t (by simpa using hlt) ?_
      refine onSome_mk (x := itm x) (by simp [itl, hx]) (onCons_cons (onIntK_iv (onCons_cons (onIntK_u8 (onCons_cons (onIntK_iv ?_))))))
      have fin : ∀ p : Int × List It, takeF x o = p → ∀ (m : Int) (o' : List (List V)), m = p.1 → o' = itl p.2 → ifB (decide (m < 0)) (R (V.tup [nilS, bv false])) (ifB (decide (m > 0)) (need ((l.length + 1) * 24 ≤ 140737488355328) (J (St.mk (mkT [(1, V.lst 3 o'), (6, V.sl (Id.p 0) 0 (l.length + 1)), (9, V.lst 3 (itl a)), (10, iv (a.length : Int)), (11, iv ((k + 1 : Nat) : Int))]) (Hp.mk [(0, O.rows 3 true (itl l ++ [[iv x.1, V.raw (Value.int IntKind.u8 x.2.1), iv m]]))] 1 [])))) (J (St.mk (mkT [(1, V.lst 3 o'), (6, V.sl (Id.p 0) 0 l.length), (9, V.lst 3 (itl a)), (10, iv (a.length : Int)), (11, iv ((k + 1 : Nat) : Int))]) (Hp.mk [(0, O.rows 3 true (itl l))] 1 [])))) := by
        rintro p hp m o' rfl rfl
        refine ifB_mk (fun hc => bad p hp (of_decide_eq_true hc)) (fun hc => ?_)
        have g := go p hp (of_decide_eq_false hc)
        refine ifB_mk (fun hd => need_mk ⟨by omega, ?_⟩) (fun hd => ?_)
        · rw [show keepF x p.1 = [(x.1, x.2.1, p.1)] from if_pos (of_decide_eq_true hd), sh41_b (by simp)] at g
          exact hJ' (by simp [sh41b, itl, itm, u8v]) g
        · rw [show keepF x p.1 = [] from if_neg (of_decide_eq_false hd), List.append_nil, sh41_b hl] at g
          exact hJ' (by simp [sh41b, itl_length]) g
      refine ifB_mk (fun ho => ?_) (fun ho => ?_)
      · obtain ⟨y, t, rfl⟩ : ∃ y t, o = y :: t := by cases o with | nil => simp at ho | cons y t => exact ⟨y, t, rfl⟩
        refine onSome_mk (x := itm y) (by simp [itl]) (onCons_cons (onIntK_iv (onCons_cons (onIntK_u8 (onCons_cons (onIntK_iv ?_))))))
        refine ifB_mk (fun he => ?_) (fun he => ?_)
        · refine onSome_mk (x := itm y) (by simp [itl]) (onSome_mk (x := iv y.2.2) rfl (onIntK_iv (need_mk ⟨Nat.le_refl _, need_mk ⟨by simp, ?_⟩⟩)))
          have hy := h1 y (by simp)
          rw [wr (by have := hxm.1; have := hy.2; omega) (by have := hxm.2; have := hy.1; omega)]
          exact fin (x.2.2 - y.2.2, t) (if_pos (eqP.1 he)) _ _ rfl (by rw [show itl (y :: t) = itm y :: itl t from rfl, ← itl_length (y :: t)]; exact sub_tl _ _)
        · exact fin (x.2.2, y :: t) (if_neg (fun e => by rw [eqP.2 e] at he; cases he)) _ _ rfl rfl
      · obtain rfl : o = [] := by cases o with | nil => rfl | cons y t => simp at ho
        exact fin (x.2.2, []) rfl _ _ rfl rfl
  · have hd : a.drop k = [] := List.drop_eq_nil_of_le (by omega)
    rw [hd] at h4
    simp only [restF, Option.map_some, List.append_nil] at h4
    rw [h4] at h
    by_cases hl : l = []
    · subst hl
      refine see (p := ifB (decide ((↑k : Int) < (↑(itl a).length : Int))) (onSome (itl a)[k]? fun row => onCons (List.drop 0 row) fun u r => onIntK IntKind.i64 u fun n => onCons r fun u r => onIntK IntKind.u8 u fun n_1 => onCons r fun u r => onIntK IntKind.i64 u fun n_2 => ifB (decide ((↑(itl o).length : Int) > (0 : Int))) (onSome (itl o)[0]? fun row => onCons (List.drop 0 row) fun u r => onIntK IntKind.i64 u fun n_3 => onCons r fun u r => onIntK IntKind.u8 u fun n_4 => onCons r fun u r => onIntK IntKind.i64 u fun n_5 => ifB (n_3 == n && (fun b => n_4 == n_1 && b) true) (onSome (itl o)[0]? fun row => onSome row[2]? fun v => onIntK IntKind.i64 v fun n_6 => need ((itl o).length ≤ (itl o).length) (need (1 ≤ (itl o).length) (ifB (decide (IntKind.i64.wrap (n_2 - n_6) < (0 : Int))) (R (V.tup [nilS, bv false])) (ifB (decide (IntKind.i64.wrap (n_2 - n_6) > (0 : Int))) (J (St.mk (mkT [(1, V.lst 3 (sub (itl o) 1 ((itl o).length - 1))), (6, V.sl (Id.p 0) 0 1), (9, V.lst 3 (itl a)), (10, iv (↑(itl a).length : Int)), (11, iv (IntKind.i64.wrap ((↑k : Int) + (1 : Int))))]) (Hp.mk [(0, O.rows 3 true [[iv n, V.raw (Value.int IntKind.u8 n_1), iv (IntKind.i64.wrap (n_2 - n_6))]])] 1 []))) (J (St.mk (mkT [(1, V.lst 3 (sub (itl o) 1 ((itl o).length - 1))), (6, nilS), (9, V.lst 3 (itl a)), (10, iv (↑(itl a).length : Int)), (11, iv (IntKind.i64.wrap ((↑k : Int) + (1 : Int))))]) (Hp.mk [] 0 []))))))) (ifB (decide (n_2 < (0 : Int))) (R (V.tup [nilS, bv false])) (ifB (decide (n_2 > (0 : Int))) (J (St.mk (mkT [(1, V.lst 3 (itl o)), (6, V.sl (Id.p 0) 0 1), (9, V.lst 3 (itl a)), (10, iv (↑(itl a).length : Int)), (11, iv (IntKind.i64.wrap ((↑k : Int) + (1 : Int))))]) (Hp.mk [(0, O.rows 3 true [[iv n, V.raw (Value.int IntKind.u8 n_1), iv n_2]])] 1 []))) (J (St.mk (mkT [(1, V.lst 3 (itl o)), (6, nilS), (9, V.lst 3 (itl a)), (10, iv (↑(itl a).length : Int)), (11, iv (IntKind.i64.wrap ((↑k : Int) + (1 : Int))))]) (Hp.mk [] 0 [])))))) (ifB (decide (n_2 < (0 : Int))) (R (V.tup [nilS, bv false])) (ifB (decide (n_2 > (0 : Int))) (J (St.mk (mkT [(1, V.lst 3 (itl o)), (6, V.sl (Id.p 0) 0 1), (9, V.lst 3 (itl a)), (10, iv (↑(itl a).length : Int)), (11, iv (IntKind.i64.wrap ((↑k : Int) + (1 : Int))))]) (Hp.mk [(0, O.rows 3 true [[iv n, V.raw (Value.int IntKind.u8 n_1), iv n_2]])] 1 []))) (J (St.mk (mkT [(1, V.lst 3 (itl o)), (6, nilS), (9, V.lst 3 (itl a)), (10, iv (↑(itl a).length : Int)), (11, iv (IntKind.i64.wrap ((↑k : Int) + (1 : Int))))]) (Hp.mk [] 0 [])))))) (R (V.tup [nilS, bv ((↑(itl o).length : Int) == (0 : Int))]))) (by kernel_rfl) ?_
      rw [itl_length, itl_length]
      refine ifB_f (by simpa using hlt) ?_
      have : ((o.length : Int) == 0) = o.isEmpty := by cases o <;> simp; omega
      rw [this]; exact h
    · rw [sh41_b hl]
      refine see (p := ifB (decide ((↑k : Int) < (↑(itl a).length : Int))) (onSome (itl a)[k]? fun row => onCons (List.drop 0 row) fun u r => onIntK IntKind.i64 u fun n => onCons r fun u r => onIntK IntKind.u8 u fun n_1 => onCons r fun u r => onIntK IntKind.i64 u fun n_2 => ifB (decide ((↑(itl o).length : Int) > (0 : Int))) (onSome (itl o)[0]? fun row => onCons (List.drop 0 row) fun u r => onIntK IntKind.i64 u fun n_3 => onCons r fun u r => onIntK IntKind.u8 u fun n_4 => onCons r fun u r => onIntK IntKind.i64 u fun n_5 => ifB (n_3 == n && (fun b => n_4 == n_1 && b) true) (onSome (itl o)[0]? fun row => onSome row[2]? fun v => onIntK IntKind.i64 v fun n_6 => need ((itl o).length ≤ (itl o).length) (need (1 ≤ (itl o).length) (ifB (decide (IntKind.i64.wrap (n_2 - n_6) < (0 : Int))) (R (V.tup [nilS, bv false])) (ifB (decide (IntKind.i64.wrap (n_2 - n_6) > (0 : Int))) (need ((l.length + 1) * 24 ≤ 140737488355328) (J (St.mk (mkT [(1, V.lst 3 (sub (itl o) 1 ((itl o).length - 1))), (6, V.sl (Id.p 0) 0 (l.length + 1)), (9, V.lst 3 (itl a)), (10, iv (↑(itl a).length : Int)), (11, iv (IntKind.i64.wrap ((↑k : Int) + (1 : Int))))]) (Hp.mk [(0, O.rows 3 true (List.take l.length (itl l) ++ [[iv n, V.raw (Value.int IntKind.u8 n_1), iv (IntKind.i64.wrap (n_2 - n_6))]]))] 1 [])))) (J (St.mk (mkT [(1, V.lst 3 (sub (itl o) 1 ((itl o).length - 1))), (6, V.sl (Id.p 0) 0 l.length), (9, V.lst 3 (itl a)), (10, iv (↑(itl a).length : Int)), (11, iv (IntKind.i64.wrap ((↑k : Int) + (1 : Int))))]) (Hp.mk [(0, O.rows 3 true (itl l))] 1 []))))))) (ifB (decide (n_2 < (0 : Int))) (R (V.tup [nilS, bv false])) (ifB (decide (n_2 > (0 : Int))) (need ((l.length + 1) * 24 ≤ 140737488355328) (J (St.mk (mkT [(1, V.lst 3 (itl o)), (6, V.sl (Id.p 0) 0 (l.length + 1)), (9, V.lst 3 (itl a)), (10, iv (↑(itl a).length : Int)), (11, iv (IntKind.i64.wrap ((↑k : Int) + (1 : Int))))]) (Hp.mk [(0, O.rows 3 true (List.take l.length (itl l) ++ [[iv n, V.raw (Value.int IntKind.u8 n_1), iv n_2]]))] 1 [])))) (J (St.mk (mkT [(1, V.lst 3 (itl o)), (6, V.sl (Id.p 0) 0 l.length), (9, V.lst 3 (itl a)), (10, iv (↑(itl a).length : Int)), (11, iv (IntKind.i64.wrap ((↑k : Int) + (1 : Int))))]) (Hp.mk [(0, O.rows 3 true (itl l))] 1 [])))))) (ifB (decide (n_2 < (0 : Int))) (R (V.tup [nilS, bv false])) (ifB (decide (n_2 > (0 : Int))) (need ((l.length + 1) * 24 ≤ 140737488355328) (J (St.mk (mkT [(1, V.lst 3 (itl o)), (6, V.sl (Id.p 0) 0 (l.length + 1)), (9, V.lst 3 (itl a)), (10, iv (↑(itl a).length : Int)), (11, iv (IntKind.i64.wrap ((↑k : Int) + (1 : Int))))]) (Hp.mk [(0, O.rows 3 true (List.take l.length (itl l) ++ [[iv n, V.raw (Value.int IntKind.u8 n_1), iv n_2]]))] 1 [])))) (J (St.mk (mkT [(1, V.lst 3 (itl o)), (6, V.sl (Id.p 0) 0 l.length), (9, V.lst 3 (itl a)), (10, iv (↑(itl a).length : Int)), (11, iv (IntKind.i64.wrap ((↑k : Int) + (1 : Int))))]) (Hp.mk [(0, O.rows 3 true (itl l))] 1 [])))))) (R (V.tup [V.lst 3 (sub (itl l) 0 l.length), bv ((↑(itl o).length : Int) == (0 : Int))]))) (by kernel_rfl) ?_
      rw [itl_length, itl_length]
      refine ifB_f (by simpa using hlt) ?_
      have : ((o.length : Int) == 0) = o.isEmpty := by cases o <;> simp; omega
      rw [this, ← itl_length l, sub_all, ← lsI_b hl]; exact h
theorem Stk.nok {l : List It} (h : Stk l) : ∀ x ∈ l, Nok x := fun x hx => ⟨by have := (h.2.2.2 x hx).1; omega, by have := (h.2.2.2 x hx).2; omega⟩
theorem lsI_l {l : List It} {k : Nat → List (List V) → Prop} (h : ∀ d, (d = 3 ∨ (l = [] ∧ d = 0)) → k d (itl l)) : onLst (lsI l) k := by
  cases l with
  | nil => exact h 0 (.inr ⟨rfl, rfl⟩)
  | cons x r => exact h 3 (.inl rfl)
def takeV (a b : List It) : V := match restF a b with
  | some (l, []) => .tup [.lst 3 (itl l), iv 0]
  | _ => .tup [nilS, iv 6]
theorem take11 {a b : List It} {R : V → Prop} (hla : a.length ≤ 1000) (h8 : ¬ (Stk a ∧ Stk b) → R (.tup [nilS, iv 8])) (h : Stk a → Stk b → R (takeV a b)) : KB Try.prog glX 11 [.lst 3 (itl a), .lst 3 (itl b)] ⟨[], 0, []⟩ R := by
  refine KB_of_WYB hmX hcT 3000 Try.func11 rfl (see (p := K0G Try.prog glX 13 [V.lst 3 (itl a)] fun v => onIntK IntKind.i64 v fun n => ifB (n != (0 : Int)) (ifB (n != (0 : Int)) (R (V.tup [nilS, iv n])) (KB Try.prog glX 41 [V.lst 3 (itl a), V.lst 3 (itl b)] (Hp.mk [] 0 []) fun v => onTup v fun vs => onCons vs fun u r => onLst u fun s es => guardB (s.beq 3 || s.beq 0) (onCons r fun u r => onBool u fun b => onNil r (ifB (!b) (R (V.tup [nilS, iv (6 : Int)])) (R (V.tup [V.lst 3 (sub es 0 es.length), iv (0 : Int)])))))) (K0G Try.prog glX 13 [V.lst 3 (itl b)] fun v => onIntK IntKind.i64 v fun n => ifB (n != (0 : Int)) (ifB (n != (0 : Int)) (R (V.tup [nilS, iv n])) (KB Try.prog glX 41 [V.lst 3 (itl a), V.lst 3 (itl b)] (Hp.mk [] 0 []) fun v => onTup v fun vs => onCons vs fun u r => onLst u fun s es => guardB (s.beq 3 || s.beq 0) (onCons r fun u r => onBool u fun b => onNil r (ifB (!b) (R (V.tup [nilS, iv (6 : Int)])) (R (V.tup [V.lst 3 (sub es 0 es.length), iv (0 : Int)])))))) (KB Try.prog glX 41 [V.lst 3 (itl a), V.lst 3 (itl b)] (Hp.mk [] 0 []) fun v => onTup v fun vs => onCons vs fun u r => onLst u fun s es => guardB (s.beq 3 || s.beq 0) (onCons r fun u r => onBool u fun b => onNil r (ifB (!b) (R (V.tup [nilS, iv (6 : Int)])) (R (V.tup [V.lst 3 (sub es 0 es.length), iv (0 : Int)]))))))) (by kernel_rfl) ?_)
  have hX : Stk a → Stk b → (KB Try.prog glX 41 [V.lst 3 (itl a), V.lst 3 (itl b)] (Hp.mk [] 0 []) fun v => onTup v fun vs => onCons vs fun u r => onLst u fun s es => guardB (s.beq 3 || s.beq 0) (onCons r fun u r => onBool u fun b => onNil r (ifB (!b) (R (V.tup [nilS, iv (6 : Int)])) (R (V.tup [V.lst 3 (sub es 0 es.length), iv (0 : Int)])))) : Prop) := by
    intro sa sb
    have h := h sa sb
    refine rest41 sa.nok sb.nok (by omega) ?_
    unfold takeV at h
    cases hr : restF a b with
    | none =>
      rw [hr] at h
      exact onTup_tup (onCons_cons (onLst_nil (guardB_mk rfl (onCons_cons (onBool_bv (onNil_nil (ifB_t rfl h)))))))
    | some p =>
      obtain ⟨l, o⟩ := p
      rw [hr] at h
      refine onTup_tup (onCons_cons (lsI_l (fun d hd => guardB_mk (by rcases hd with rfl | ⟨_, rfl⟩ <;> rfl) ?_)))
      cases o with
      | nil =>
        refine onCons_cons (onBool_bv (onNil_nil (ifB_f rfl ?_)))
        rw [sub_all]
        exact h
      | cons y o => exact onCons_cons (onBool_bv (onNil_nil (ifB_t rfl h)))
  refine check13 (onIntK_iv ?_)
  by_cases sa : Stk a
  · rw [stkE, if_pos (dc_t sa)]
    refine ifB_f rfl (check13 (onIntK_iv ?_))
    by_cases sb : Stk b
    · rw [stkE, if_pos (dc_t sb)]
      exact ifB_f rfl (hX sa sb)
    · rw [stkE, if_neg (by rw [dc_f sb]; simp)]
      exact ifB_t rfl (ifB_t rfl (h8 (fun q => sb q.2)))
  · rw [stkE, if_neg (by rw [dc_f sa]; simp)]
    exact ifB_t rfl (ifB_t rfl (h8 (fun q => sa q.1)))
end Go.Proofs.Ytmddjopahcbefaa
namespace Go.Proofs.Ytmddjopahcbefaa
open Go Go.Proofs.Ytmddjopahcbefaa.Clean
set_option linter.unusedVariables false
set_option linter.unusedSimpArgs false
set_option maxRecDepth 10000
def nS (a b : List It) (t p q : Int) : Int := hasF a p q + t * hasF b p q
def Rng (p q : Int) : Prop := 0 ≤ p ∧ p ≤ 15 ∧ 0 ≤ q ∧ q ≤ 15
def lexL (p q k j : Int) : Prop := p < k ∨ p = k ∧ q < j
structure SI (a b : List It) (t : Int) (m : List It) (e f : Bool) (k j : Int) : Prop where
  pw : m.Pairwise Bef
  old : ∀ y ∈ m, Rng y.1 y.2.1 ∧ lexL y.1 y.2.1 k j ∧ y.2.2 = nS a b t y.1 y.2.1 ∧ y.2.2 ≠ 0
  all : ∀ p q, Rng p q → lexL p q k j → nS a b t p q ≠ 0 → (p, q, nS a b t p q) ∈ m
  e : e = true ↔ ∀ p q, Rng p q → lexL p q k j → 0 ≤ nS a b t p q
  f : f = true ↔ ∀ p q, Rng p q → lexL p q k j → nS a b t p q ≤ 1000
  len : (m.length : Int) ≤ 16 * k + j
theorem lex_step {p q k j : Int} : lexL p q k (j + 1) ↔ lexL p q k j ∨ (p = k ∧ q = j) := by unfold lexL; omega
theorem SI.step {a b : List It} {t : Int} {m : List It} {e f : Bool} {k j : Int} (h : SI a b t m e f k j) (hr : Rng k j) {N : Int} (hN : N = nS a b t k j) :
    SI a b t (if N ≠ 0 then m ++ [(k, j, N)] else m) (e && decide (N ≥ 0)) (f && decide (N ≤ 1000)) k (j + 1) := by
  refine ⟨?_, ?_, ?_, ?_, ?_, ?_⟩
  · split
    · refine List.pairwise_append.2 ⟨h.pw, by simp, fun y hy z hz => ?_⟩
      have hz : z = (k, j, N) := by simpa using hz
      subst hz
      exact (h.old y hy).2.1
    · exact h.pw
  · have old : ∀ y ∈ m, Rng y.1 y.2.1 ∧ lexL y.1 y.2.1 k (j + 1) ∧ y.2.2 = nS a b t y.1 y.2.1 ∧ y.2.2 ≠ 0 := fun y hy => by
      obtain ⟨q1, q2, q3⟩ := h.old y hy
      exact ⟨q1, lex_step.2 (.inl q2), q3⟩
    split
    · rename_i hn
      intro y hy
      rcases List.mem_append.1 hy with hy | hy
      · exact old y hy
      · have hy : y = (k, j, N) := by simpa using hy
        subst hy
        exact ⟨hr, lex_step.2 (.inr ⟨rfl, rfl⟩), hN, hn⟩
    · exact old
  · intro p q hpq hl hn
    rcases lex_step.1 hl with hl | ⟨rfl, rfl⟩
    · have := h.all p q hpq hl hn
      split
      · exact List.mem_append_left _ this
      · exact this
    · rw [← hN] at hn ⊢
      rw [if_pos hn]
      simp
  · rw [Bool.and_eq_true, h.e, decide_eq_true_iff]
    constructor
    · rintro ⟨h1, h2⟩ p q hpq hl
      rcases lex_step.1 hl with hl | ⟨rfl, rfl⟩
      · exact h1 p q hpq hl
      · omega
    · intro h1
      exact ⟨fun p q hpq hl => h1 p q hpq (lex_step.2 (.inl hl)), by rw [hN]; exact h1 k j hr (lex_step.2 (.inr ⟨rfl, rfl⟩))⟩
  · rw [Bool.and_eq_true, h.f, decide_eq_true_iff]
    constructor
    · rintro ⟨h1, h2⟩ p q hpq hl
      rcases lex_step.1 hl with hl | ⟨rfl, rfl⟩
      · exact h1 p q hpq hl
      · omega
    · intro h1
      exact ⟨fun p q hpq hl => h1 p q hpq (lex_step.2 (.inl hl)), by rw [hN]; exact h1 k j hr (lex_step.2 (.inr ⟨rfl, rfl⟩))⟩
  · have := h.len
    split
    · simp only [List.length_append, List.length_singleton]
      omega
    · omega
theorem lex_row {p q k : Int} (h : Rng p q) : lexL p q k 16 ↔ lexL p q (k + 1) 0 := by unfold lexL Rng at *; omega
theorem SI.row {a b : List It} {t : Int} {m : List It} {e f : Bool} {k : Int} (h : SI a b t m e f k 16) : SI a b t m e f (k + 1) 0 :=
  ⟨h.pw, fun y hy => by obtain ⟨q1, q2, q3⟩ := h.old y hy; exact ⟨q1, (lex_row q1).1 q2, q3⟩, fun p q hpq hl => h.all p q hpq ((lex_row hpq).2 hl),
   h.e.trans ⟨fun h1 p q hpq hl => h1 p q hpq ((lex_row hpq).2 hl), fun h1 p q hpq hl => h1 p q hpq ((lex_row hpq).1 hl)⟩,
   h.f.trans ⟨fun h1 p q hpq hl => h1 p q hpq ((lex_row hpq).2 hl), fun h1 p q hpq hl => h1 p q hpq ((lex_row hpq).1 hl)⟩, by have := h.len; omega⟩
theorem has_bnd : ∀ {l : List It}, (∀ x ∈ l, 1 ≤ x.2.2 ∧ x.2.2 ≤ 1000) → ∀ p q : Int, 0 ≤ hasF l p q ∧ hasF l p q ≤ 1000
  | [], _, _, _ => by simp [hasF]
  | x :: l, h, p, q => by
    simp only [hasF]
    split
    · have := h x (by simp); omega
    · exact has_bnd (fun y hy => h y (by simp [hy])) p q
theorem hasF_ok {l : List It} (h : Stk l) (p q : Int) : 0 ≤ hasF l p q ∧ hasF l p q ≤ 1000 := has_bnd h.2.2.2 p q
theorem o_b {m : List It} (h : m ≠ []) : oV m = .sl (.p 0) 0 m.length ∧ hO m = ⟨[(0, O.rows 3 true (itl m))], 1, []⟩ := by cases m with | nil => exact (h rfl).elim | cons x r => exact ⟨rfl, rfl⟩
theorem sum40 {a b : List It} {t : Int} {R : V → Prop} (sa : Stk a) (sb : Stk b) (ht : t = 1 ∨ t = -1) (h : ∀ m e f, SI a b t m e f 16 0 → R (.tup [lsI m, bv e, bv (f && decide (m.length ≤ 30))])) : K0G Try.prog glX 40 [.lst 3 (itl a), .lst 3 (itl b), iv t] R := by
  refine K0_of_WY0 hmX hcD 3000 Try.func40 (see (p := La 0 [(0 : Tmp), (1 : Tmp), (2 : Tmp), (9 : Tmp), (10 : Tmp), (11 : Tmp), (12 : Tmp)] (WY Try.prog cfD 2993 (Env.mk (Bs.mk 0 []) 0 none 61 40 0) (cdAt [1, 1, 1, 0, 1, 0, 0] (bodyOf Try.f40))) (Qblk 0 (Qthen (WY Try.prog cfD 2996 (Env.mk (Bs.mk 0 []) 0 none 61 40 0) (cdAt [1, 1, 1, 1] (bodyOf Try.f40)) (QendX Try.prog Try.f40 fun v h => R (frzW h v))) (QendX Try.prog Try.f40 fun v h => R (frzW h v)))) (St.mk (mkT [(0, V.lst 3 (itl a)), (1, V.lst 3 (itl b)), (2, iv t), (9, nilS), (10, bv true), (11, bv true), (12, iv (0 : Int))]) (Hp.mk [] 0 []))) (by kernel_rfl) ?_)
  refine La.of (σ := List It × Bool × Bool × Nat) (fun s => sh40o a b t (oV s.1) s.2.1 s.2.2.1 (s.2.2.2 : Int) (hO s.1)) (fun s => s.2.2.2 ≤ 16 ∧ SI a b t s.1 s.2.1 s.2.2.1 (s.2.2.2 : Int) 0) (fun s => 16 - s.2.2.2) ([], true, true, 0) (by kernel_rfl)
    ⟨by simp, ⟨.nil, by simp, fun p q hpq hl => by unfold lexL Rng at *; simp at hl; omega, by simp; intro p q hpq hl; unfold lexL Rng at *; omega, by simp; intro p q hpq hl; unfold lexL Rng at *; omega, by simp⟩⟩ ?_
  rintro ⟨m, e, f, k⟩ ⟨g1, g2⟩ J hJ
  simp only at g1 g2
  have hml : m.length ≤ 256 := by have := g2.len; omega
  by_cases hm : m = []
  · subst hm
    refine see (p := ifB (decide ((↑k : Int) ≤ (15 : Int))) (La 0 [(0 : Tmp), (1 : Tmp), (2 : Tmp), (9 : Tmp), (10 : Tmp), (11 : Tmp), (12 : Tmp), (13 : Tmp)] (WY Try.prog cfD 2987 (Env.mk (Bs.mk 0 []) 0 none 61 40 2) (cdAt [1, 1, 1, 0, 1, 0, 0, 1, 0, 0, 1, 0, 0] (bodyOf Try.f40))) (Qblk 2 (Qblk 1 (Qthen (WY Try.prog cfD 2991 (Env.mk (Bs.mk 0 []) 0 none 61 40 0) (cdAt [1, 1, 1, 0, 1, 0, 0, 1, 1] (bodyOf Try.f40)) (Qla 0 [(0 : Tmp), (1 : Tmp), (2 : Tmp), (9 : Tmp), (10 : Tmp), (11 : Tmp), (12 : Tmp)] J (Qblk 0 (Qthen (WY Try.prog cfD 2996 (Env.mk (Bs.mk 0 []) 0 none 61 40 0) (cdAt [1, 1, 1, 1] (bodyOf Try.f40)) (QendX Try.prog Try.f40 fun v h => R (frzW h v))) (QendX Try.prog Try.f40 fun v h => R (frzW h v)))))) (Qla 0 [(0 : Tmp), (1 : Tmp), (2 : Tmp), (9 : Tmp), (10 : Tmp), (11 : Tmp), (12 : Tmp)] J (Qblk 0 (Qthen (WY Try.prog cfD 2996 (Env.mk (Bs.mk 0 []) 0 none 61 40 0) (cdAt [1, 1, 1, 1] (bodyOf Try.f40)) (QendX Try.prog Try.f40 fun v h => R (frzW h v))) (QendX Try.prog Try.f40 fun v h => R (frzW h v)))))))) (St.mk (mkT [(0, V.lst 3 (itl a)), (1, V.lst 3 (itl b)), (2, iv t), (9, nilS), (10, bv e), (11, bv f), (12, iv (↑k : Int)), (13, V.raw (Value.int IntKind.u8 (0 : Int)))]) (Hp.mk [] 0 []))) (ifB f (R (V.tup [nilS, bv e, bv true])) (R (V.tup [nilS, bv e, bv false])))) (by kernel_rfl) ?_
    refine ifB_mk (fun c => ?_) (fun c => ?_)
    · have hk : k ≤ 15 := by have := of_decide_eq_true c; omega
      refine La.of (σ := List It × Bool × Bool × Nat) (fun s => sh40i a b t (oV s.1) s.2.1 s.2.2.1 (k : Int) (s.2.2.2 : Int) (hO s.1)) (fun s => s.2.2.2 ≤ 16 ∧ SI a b t s.1 s.2.1 s.2.2.1 (k : Int) (s.2.2.2 : Int)) (fun s => 16 - s.2.2.2) ([], e, f, 0) (by kernel_rfl) ⟨by simp, g2⟩ ?_
      rintro ⟨n, e1, f1, j⟩ ⟨i1, i2⟩ K hK
      simp only at i1 i2
      have hnl : n.length ≤ 300 := by have := i2.len; omega
      obtain ⟨N, hN⟩ : ∃ N, N = nS a b t (k : Int) (j : Int) := ⟨_, rfl⟩
      have ha := hasF_ok sa (k : Int) (j : Int)
      have hb := hasF_ok sb (k : Int) (j : Int)
      have hw : IntKind.i64.wrap (hasF a (k : Int) (j : Int) + IntKind.i64.wrap (t * hasF b (k : Int) (j : Int))) = N := by
        rw [hN]
        unfold nS
        rcases ht with rfl | rfl
        · rw [wr (n := 1 * hasF b (k : Int) (j : Int)) (by omega) (by omega), wr (by omega) (by omega)]
        · rw [wr (n := -1 * hasF b (k : Int) (j : Int)) (by omega) (by omega), wr (by omega) (by omega)]
      have go : j ≤ 15 → K (sh40i a b t (oV (if N ≠ 0 then n ++ [((k : Int), (j : Int), N)] else n)) (e1 && decide (N ≥ 0)) (f1 && decide (N ≤ 1000)) (k : Int) ((j : Int) + 1) (hO (if N ≠ 0 then n ++ [((k : Int), (j : Int), N)] else n))) := fun hj => by
        have := hK (_, _, _, j + 1) ⟨by show j + 1 ≤ 16; omega, i2.step ⟨by omega, by omega, by omega, by omega⟩ hN⟩ (by show 16 - (j + 1) < 16 - j; omega)
        exact this
      have out : ¬ j ≤ 15 → J (sh40o a b t (oV n) e1 f1 ((k : Int) + 1) (hO n)) := fun hj => by
        have h16 : j = 16 := by omega
        subst h16
        have := hJ (n, e1, f1, k + 1) ⟨by show k + 1 ≤ 16; omega, i2.row⟩ (by show 16 - (k + 1) < 16 - k; omega)
        exact this
      have hkw : IntKind.i64.wrap ((k : Int) + 1) = (k : Int) + 1 := wr (by omega) (by omega)
      clear hJ hK
      by_cases hn : n = []
      · subst hn
        refine see (p := ifB (decide ((↑j : Int) ≤ (15 : Int))) (K0G Try.prog glX 96 [V.lst 3 (itl a), iv (↑k : Int), V.raw (Value.int IntKind.u8 (↑j : Int))] fun v => onIntK IntKind.i64 v fun n => K0G Try.prog glX 96 [V.lst 3 (itl b), iv (↑k : Int), V.raw (Value.int IntKind.u8 (↑j : Int))] fun v => onIntK IntKind.i64 v fun n_1 => ifB e1 (ifB f1 (ifB (IntKind.i64.wrap (n + IntKind.i64.wrap (t * n_1)) != (0 : Int)) (K (St.mk (mkT [(0, V.lst 3 (itl a)), (1, V.lst 3 (itl b)), (2, iv t), (9, V.sl (Id.p 0) 0 1), (10, bv (decide (IntKind.i64.wrap (n + IntKind.i64.wrap (t * n_1)) ≥ (0 : Int)))), (11, bv (decide (IntKind.i64.wrap (n + IntKind.i64.wrap (t * n_1)) ≤ (1000 : Int)))), (12, iv (↑k : Int)), (13, V.raw (Value.int IntKind.u8 (IntKind.u8.wrap ((↑j : Int) + (1 : Int)))))]) (Hp.mk [(0, O.rows 3 true [[iv (↑k : Int), V.raw (Value.int IntKind.u8 (↑j : Int)), iv (IntKind.i64.wrap (n + IntKind.i64.wrap (t * n_1)))]])] 1 []))) (K (St.mk (mkT [(0, V.lst 3 (itl a)), (1, V.lst 3 (itl b)), (2, iv t), (9, nilS), (10, bv (decide (IntKind.i64.wrap (n + IntKind.i64.wrap (t * n_1)) ≥ (0 : Int)))), (11, bv (decide (IntKind.i64.wrap (n + IntKind.i64.wrap (t * n_1)) ≤ (1000 : Int)))), (12, iv (↑k : Int)), (13, V.raw (Value.int IntKind.u8 (IntKind.u8.wrap ((↑j : Int) + (1 : Int)))))]) (Hp.mk [] 0 [])))) (ifB (IntKind.i64.wrap (n + IntKind.i64.wrap (t * n_1)) != (0 : Int)) (K (St.mk (mkT [(0, V.lst 3 (itl a)), (1, V.lst 3 (itl b)), (2, iv t), (9, V.sl (Id.p 0) 0 1), (10, bv (decide (IntKind.i64.wrap (n + IntKind.i64.wrap (t * n_1)) ≥ (0 : Int)))), (11, bv false), (12, iv (↑k : Int)), (13, V.raw (Value.int IntKind.u8 (IntKind.u8.wrap ((↑j : Int) + (1 : Int)))))]) (Hp.mk [(0, O.rows 3 true [[iv (↑k : Int), V.raw (Value.int IntKind.u8 (↑j : Int)), iv (IntKind.i64.wrap (n + IntKind.i64.wrap (t * n_1)))]])] 1 []))) (K (St.mk (mkT [(0, V.lst 3 (itl a)), (1, V.lst 3 (itl b)), (2, iv t), (9, nilS), (10, bv (decide (IntKind.i64.wrap (n + IntKind.i64.wrap (t * n_1)) ≥ (0 : Int)))), (11, bv false), (12, iv (↑k : Int)), (13, V.raw (Value.int IntKind.u8 (IntKind.u8.wrap ((↑j : Int) + (1 : Int)))))]) (Hp.mk [] 0 []))))) (ifB f1 (ifB (IntKind.i64.wrap (n + IntKind.i64.wrap (t * n_1)) != (0 : Int)) (K (St.mk (mkT [(0, V.lst 3 (itl a)), (1, V.lst 3 (itl b)), (2, iv t), (9, V.sl (Id.p 0) 0 1), (10, bv false), (11, bv (decide (IntKind.i64.wrap (n + IntKind.i64.wrap (t * n_1)) ≤ (1000 : Int)))), (12, iv (↑k : Int)), (13, V.raw (Value.int IntKind.u8 (IntKind.u8.wrap ((↑j : Int) + (1 : Int)))))]) (Hp.mk [(0, O.rows 3 true [[iv (↑k : Int), V.raw (Value.int IntKind.u8 (↑j : Int)), iv (IntKind.i64.wrap (n + IntKind.i64.wrap (t * n_1)))]])] 1 []))) (K (St.mk (mkT [(0, V.lst 3 (itl a)), (1, V.lst 3 (itl b)), (2, iv t), (9, nilS), (10, bv false), (11, bv (decide (IntKind.i64.wrap (n + IntKind.i64.wrap (t * n_1)) ≤ (1000 : Int)))), (12, iv (↑k : Int)), (13, V.raw (Value.int IntKind.u8 (IntKind.u8.wrap ((↑j : Int) + (1 : Int)))))]) (Hp.mk [] 0 [])))) (ifB (IntKind.i64.wrap (n + IntKind.i64.wrap (t * n_1)) != (0 : Int)) (K (St.mk (mkT [(0, V.lst 3 (itl a)), (1, V.lst 3 (itl b)), (2, iv t), (9, V.sl (Id.p 0) 0 1), (10, bv false), (11, bv false), (12, iv (↑k : Int)), (13, V.raw (Value.int IntKind.u8 (IntKind.u8.wrap ((↑j : Int) + (1 : Int)))))]) (Hp.mk [(0, O.rows 3 true [[iv (↑k : Int), V.raw (Value.int IntKind.u8 (↑j : Int)), iv (IntKind.i64.wrap (n + IntKind.i64.wrap (t * n_1)))]])] 1 []))) (K (St.mk (mkT [(0, V.lst 3 (itl a)), (1, V.lst 3 (itl b)), (2, iv t), (9, nilS), (10, bv false), (11, bv false), (12, iv (↑k : Int)), (13, V.raw (Value.int IntKind.u8 (IntKind.u8.wrap ((↑j : Int) + (1 : Int)))))]) (Hp.mk [] 0 [])))))) (J (St.mk (mkT [(0, V.lst 3 (itl a)), (1, V.lst 3 (itl b)), (2, iv t), (9, nilS), (10, bv e1), (11, bv f1), (12, iv (IntKind.i64.wrap ((↑k : Int) + (1 : Int))))]) (Hp.mk [] 0 [])))) (by kernel_rfl) ?_
        refine ifB_mk (fun cj => ?_) (fun cj => by rw [hkw]; exact out (by have := of_decide_eq_false cj; omega))
        have hj : j ≤ 15 := by have := of_decide_eq_true cj; omega
        have hjw : IntKind.u8.wrap ((j : Int) + 1) = (j : Int) + 1 := by simp [IntKind.wrap, IntKind.bits, IntKind.signed]; omega
        refine has96 (by have := sa.1; omega) (onIntK_iv (has96 (by have := sb.1; omega) (onIntK_iv ?_)))
        have g := go hj
        rw [hw, hjw]
        by_cases h0 : N = 0
        · rw [if_neg (fun q => q h0)] at g
          cases e1 <;> cases f1
          · exact ifB_f rfl (ifB_f rfl (ifB_f (by simp [h0]) g))
          · exact ifB_f rfl (ifB_t rfl (ifB_f (by simp [h0]) g))
          · exact ifB_t rfl (ifB_f rfl (ifB_f (by simp [h0]) g))
          · exact ifB_t rfl (ifB_t rfl (ifB_f (by simp [h0]) g))
        · rw [if_pos h0] at g
          cases e1 <;> cases f1
          · exact ifB_f rfl (ifB_f rfl (ifB_t (by simp [h0]) g))
          · exact ifB_f rfl (ifB_t rfl (ifB_t (by simp [h0]) g))
          · exact ifB_t rfl (ifB_f rfl (ifB_t (by simp [h0]) g))
          · exact ifB_t rfl (ifB_t rfl (ifB_t (by simp [h0]) g))
      · rw [(o_b hn).1, (o_b hn).2] at *
        refine see (p := ifB (decide ((↑j : Int) ≤ (15 : Int))) (K0G Try.prog glX 96 [V.lst 3 (itl a), iv (↑k : Int), V.raw (Value.int IntKind.u8 (↑j : Int))] fun v => onIntK IntKind.i64 v fun n_1 => K0G Try.prog glX 96 [V.lst 3 (itl b), iv (↑k : Int), V.raw (Value.int IntKind.u8 (↑j : Int))] fun v => onIntK IntKind.i64 v fun n_2 => ifB e1 (ifB f1 (ifB (IntKind.i64.wrap (n_1 + IntKind.i64.wrap (t * n_2)) != (0 : Int)) (need ((n.length + 1) * 24 ≤ 140737488355328) (K (St.mk (mkT [(0, V.lst 3 (itl a)), (1, V.lst 3 (itl b)), (2, iv t), (9, V.sl (Id.p 0) 0 (n.length + 1)), (10, bv (decide (IntKind.i64.wrap (n_1 + IntKind.i64.wrap (t * n_2)) ≥ (0 : Int)))), (11, bv (decide (IntKind.i64.wrap (n_1 + IntKind.i64.wrap (t * n_2)) ≤ (1000 : Int)))), (12, iv (↑k : Int)), (13, V.raw (Value.int IntKind.u8 (IntKind.u8.wrap ((↑j : Int) + (1 : Int)))))]) (Hp.mk [(0, O.rows 3 true (List.take n.length (itl n) ++ [[iv (↑k : Int), V.raw (Value.int IntKind.u8 (↑j : Int)), iv (IntKind.i64.wrap (n_1 + IntKind.i64.wrap (t * n_2)))]]))] 1 [])))) (K (St.mk (mkT [(0, V.lst 3 (itl a)), (1, V.lst 3 (itl b)), (2, iv t), (9, V.sl (Id.p 0) 0 n.length), (10, bv (decide (IntKind.i64.wrap (n_1 + IntKind.i64.wrap (t * n_2)) ≥ (0 : Int)))), (11, bv (decide (IntKind.i64.wrap (n_1 + IntKind.i64.wrap (t * n_2)) ≤ (1000 : Int)))), (12, iv (↑k : Int)), (13, V.raw (Value.int IntKind.u8 (IntKind.u8.wrap ((↑j : Int) + (1 : Int)))))]) (Hp.mk [(0, O.rows 3 true (itl n))] 1 [])))) (ifB (IntKind.i64.wrap (n_1 + IntKind.i64.wrap (t * n_2)) != (0 : Int)) (need ((n.length + 1) * 24 ≤ 140737488355328) (K (St.mk (mkT [(0, V.lst 3 (itl a)), (1, V.lst 3 (itl b)), (2, iv t), (9, V.sl (Id.p 0) 0 (n.length + 1)), (10, bv (decide (IntKind.i64.wrap (n_1 + IntKind.i64.wrap (t * n_2)) ≥ (0 : Int)))), (11, bv false), (12, iv (↑k : Int)), (13, V.raw (Value.int IntKind.u8 (IntKind.u8.wrap ((↑j : Int) + (1 : Int)))))]) (Hp.mk [(0, O.rows 3 true (List.take n.length (itl n) ++ [[iv (↑k : Int), V.raw (Value.int IntKind.u8 (↑j : Int)), iv (IntKind.i64.wrap (n_1 + IntKind.i64.wrap (t * n_2)))]]))] 1 [])))) (K (St.mk (mkT [(0, V.lst 3 (itl a)), (1, V.lst 3 (itl b)), (2, iv t), (9, V.sl (Id.p 0) 0 n.length), (10, bv (decide (IntKind.i64.wrap (n_1 + IntKind.i64.wrap (t * n_2)) ≥ (0 : Int)))), (11, bv false), (12, iv (↑k : Int)), (13, V.raw (Value.int IntKind.u8 (IntKind.u8.wrap ((↑j : Int) + (1 : Int)))))]) (Hp.mk [(0, O.rows 3 true (itl n))] 1 []))))) (ifB f1 (ifB (IntKind.i64.wrap (n_1 + IntKind.i64.wrap (t * n_2)) != (0 : Int)) (need ((n.length + 1) * 24 ≤ 140737488355328) (K (St.mk (mkT [(0, V.lst 3 (itl a)), (1, V.lst 3 (itl b)), (2, iv t), (9, V.sl (Id.p 0) 0 (n.length + 1)), (10, bv false), (11, bv (decide (IntKind.i64.wrap (n_1 + IntKind.i64.wrap (t * n_2)) ≤ (1000 : Int)))), (12, iv (↑k : Int)), (13, V.raw (Value.int IntKind.u8 (IntKind.u8.wrap ((↑j : Int) + (1 : Int)))))]) (Hp.mk [(0, O.rows 3 true (List.take n.length (itl n) ++ [[iv (↑k : Int), V.raw (Value.int IntKind.u8 (↑j : Int)), iv (IntKind.i64.wrap (n_1 + IntKind.i64.wrap (t * n_2)))]]))] 1 [])))) (K (St.mk (mkT [(0, V.lst 3 (itl a)), (1, V.lst 3 (itl b)), (2, iv t), (9, V.sl (Id.p 0) 0 n.length), (10, bv false), (11, bv (decide (IntKind.i64.wrap (n_1 + IntKind.i64.wrap (t * n_2)) ≤ (1000 : Int)))), (12, iv (↑k : Int)), (13, V.raw (Value.int IntKind.u8 (IntKind.u8.wrap ((↑j : Int) + (1 : Int)))))]) (Hp.mk [(0, O.rows 3 true (itl n))] 1 [])))) (ifB (IntKind.i64.wrap (n_1 + IntKind.i64.wrap (t * n_2)) != (0 : Int)) (need ((n.length + 1) * 24 ≤ 140737488355328) (K (St.mk (mkT [(0, V.lst 3 (itl a)), (1, V.lst 3 (itl b)), (2, iv t), (9, V.sl (Id.p 0) 0 (n.length + 1)), (10, bv false), (11, bv false), (12, iv (↑k : Int)), (13, V.raw (Value.int IntKind.u8 (IntKind.u8.wrap ((↑j : Int) + (1 : Int)))))]) (Hp.mk [(0, O.rows 3 true (List.take n.length (itl n) ++ [[iv (↑k : Int), V.raw (Value.int IntKind.u8 (↑j : Int)), iv (IntKind.i64.wrap (n_1 + IntKind.i64.wrap (t * n_2)))]]))] 1 [])))) (K (St.mk (mkT [(0, V.lst 3 (itl a)), (1, V.lst 3 (itl b)), (2, iv t), (9, V.sl (Id.p 0) 0 n.length), (10, bv false), (11, bv false), (12, iv (↑k : Int)), (13, V.raw (Value.int IntKind.u8 (IntKind.u8.wrap ((↑j : Int) + (1 : Int)))))]) (Hp.mk [(0, O.rows 3 true (itl n))] 1 [])))))) (J (St.mk (mkT [(0, V.lst 3 (itl a)), (1, V.lst 3 (itl b)), (2, iv t), (9, V.sl (Id.p 0) 0 n.length), (10, bv e1), (11, bv f1), (12, iv (IntKind.i64.wrap ((↑k : Int) + (1 : Int))))]) (Hp.mk [(0, O.rows 3 true (itl n))] 1 [])))) (by kernel_rfl) ?_
        refine ifB_mk (fun cj => ?_) (fun cj => by rw [hkw]; exact out (by have := of_decide_eq_false cj; omega))
        have hj : j ≤ 15 := by have := of_decide_eq_true cj; omega
        have hjw : IntKind.u8.wrap ((j : Int) + 1) = (j : Int) + 1 := by simp [IntKind.wrap, IntKind.bits, IntKind.signed]; omega
        refine has96 (by have := sa.1; omega) (onIntK_iv (has96 (by have := sb.1; omega) (onIntK_iv ?_)))
        have g := go hj
        rw [hw, hjw, itl_take]
        by_cases h0 : N = 0
        · rw [if_neg (fun q => q h0), (o_b hn).1, (o_b hn).2] at g
          cases e1 <;> cases f1
          · exact ifB_f rfl (ifB_f rfl (ifB_f (by simp [h0]) g))
          · exact ifB_f rfl (ifB_t rfl (ifB_f (by simp [h0]) g))
          · exact ifB_t rfl (ifB_f rfl (ifB_f (by simp [h0]) g))
          · exact ifB_t rfl (ifB_t rfl (ifB_f (by simp [h0]) g))
        · rw [if_pos h0, (o_b (m := n ++ [((k : Int), (j : Int), N)]) (by simp)).1, (o_b (m := n ++ [((k : Int), (j : Int), N)]) (by simp)).2, itl_app, List.length_append, List.length_singleton] at g
          cases e1 <;> cases f1
          · exact ifB_f rfl (ifB_f rfl (ifB_t (by simp [h0]) (need_mk ⟨by omega, g⟩)))
          · exact ifB_f rfl (ifB_t rfl (ifB_t (by simp [h0]) (need_mk ⟨by omega, g⟩)))
          · exact ifB_t rfl (ifB_f rfl (ifB_t (by simp [h0]) (need_mk ⟨by omega, g⟩)))
          · exact ifB_t rfl (ifB_t rfl (ifB_t (by simp [h0]) (need_mk ⟨by omega, g⟩)))
    · have hk : k = 16 := by have := of_decide_eq_false c; omega
      subst hk
      have hf := h [] e f g2
      cases f
      · exact ifB_f rfl hf
      · exact ifB_t rfl hf
  · rw [(o_b hm).1, (o_b hm).2]
    refine see (p := ifB (decide ((↑k : Int) ≤ (15 : Int))) (La 0 [(0 : Tmp), (1 : Tmp), (2 : Tmp), (9 : Tmp), (10 : Tmp), (11 : Tmp), (12 : Tmp), (13 : Tmp)] (WY Try.prog cfD 2987 (Env.mk (Bs.mk 0 []) 0 none 61 40 2) (cdAt [1, 1, 1, 0, 1, 0, 0, 1, 0, 0, 1, 0, 0] (bodyOf Try.f40))) (Qblk 2 (Qblk 1 (Qthen (WY Try.prog cfD 2991 (Env.mk (Bs.mk 0 []) 0 none 61 40 0) (cdAt [1, 1, 1, 0, 1, 0, 0, 1, 1] (bodyOf Try.f40)) (Qla 0 [(0 : Tmp), (1 : Tmp), (2 : Tmp), (9 : Tmp), (10 : Tmp), (11 : Tmp), (12 : Tmp)] J (Qblk 0 (Qthen (WY Try.prog cfD 2996 (Env.mk (Bs.mk 0 []) 0 none 61 40 0) (cdAt [1, 1, 1, 1] (bodyOf Try.f40)) (QendX Try.prog Try.f40 fun v h => R (frzW h v))) (QendX Try.prog Try.f40 fun v h => R (frzW h v)))))) (Qla 0 [(0 : Tmp), (1 : Tmp), (2 : Tmp), (9 : Tmp), (10 : Tmp), (11 : Tmp), (12 : Tmp)] J (Qblk 0 (Qthen (WY Try.prog cfD 2996 (Env.mk (Bs.mk 0 []) 0 none 61 40 0) (cdAt [1, 1, 1, 1] (bodyOf Try.f40)) (QendX Try.prog Try.f40 fun v h => R (frzW h v))) (QendX Try.prog Try.f40 fun v h => R (frzW h v)))))))) (St.mk (mkT [(0, V.lst 3 (itl a)), (1, V.lst 3 (itl b)), (2, iv t), (9, V.sl (Id.p 0) 0 m.length), (10, bv e), (11, bv f), (12, iv (↑k : Int)), (13, V.raw (Value.int IntKind.u8 (0 : Int)))]) (Hp.mk [(0, O.rows 3 true (itl m))] 1 []))) (ifB f (R (V.tup [V.lst 3 (sub (itl m) 0 m.length), bv e, bv (decide ((↑m.length : Int) ≤ (30 : Int)))])) (R (V.tup [V.lst 3 (sub (itl m) 0 m.length), bv e, bv false])))) (by kernel_rfl) ?_
    refine ifB_mk (fun c => ?_) (fun c => ?_)
    · have hk : k ≤ 15 := by have := of_decide_eq_true c; omega
      refine La.of (σ := List It × Bool × Bool × Nat) (fun s => sh40i a b t (oV s.1) s.2.1 s.2.2.1 (k : Int) (s.2.2.2 : Int) (hO s.1)) (fun s => s.2.2.2 ≤ 16 ∧ SI a b t s.1 s.2.1 s.2.2.1 (k : Int) (s.2.2.2 : Int)) (fun s => 16 - s.2.2.2) (m, e, f, 0) (by rw [(o_b hm).1, (o_b hm).2]; kernel_rfl) ⟨by simp, g2⟩ ?_
      rintro ⟨n, e1, f1, j⟩ ⟨i1, i2⟩ K hK
      simp only at i1 i2
      have hnl : n.length ≤ 300 := by have := i2.len; omega
      obtain ⟨N, hN⟩ : ∃ N, N = nS a b t (k : Int) (j : Int) := ⟨_, rfl⟩
      have ha := hasF_ok sa (k : Int) (j : Int)
      have hb := hasF_ok sb (k : Int) (j : Int)
      have hw : IntKind.i64.wrap (hasF a (k : Int) (j : Int) + IntKind.i64.wrap (t * hasF b (k : Int) (j : Int))) = N := by
        rw [hN]
        unfold nS
        rcases ht with rfl | rfl
        · rw [wr (n := 1 * hasF b (k : Int) (j : Int)) (by omega) (by omega), wr (by omega) (by omega)]
        · rw [wr (n := -1 * hasF b (k : Int) (j : Int)) (by omega) (by omega), wr (by omega) (by omega)]
      have go : j ≤ 15 → K (sh40i a b t (oV (if N ≠ 0 then n ++ [((k : Int), (j : Int), N)] else n)) (e1 && decide (N ≥ 0)) (f1 && decide (N ≤ 1000)) (k : Int) ((j : Int) + 1) (hO (if N ≠ 0 then n ++ [((k : Int), (j : Int), N)] else n))) := fun hj => by
        have := hK (_, _, _, j + 1) ⟨by show j + 1 ≤ 16; omega, i2.step ⟨by omega, by omega, by omega, by omega⟩ hN⟩ (by show 16 - (j + 1) < 16 - j; omega)
        exact this
      have out : ¬ j ≤ 15 → J (sh40o a b t (oV n) e1 f1 ((k : Int) + 1) (hO n)) := fun hj => by
        have h16 : j = 16 := by omega
        subst h16
        have := hJ (n, e1, f1, k + 1) ⟨by show k + 1 ≤ 16; omega, i2.row⟩ (by show 16 - (k + 1) < 16 - k; omega)
        exact this
      have hkw : IntKind.i64.wrap ((k : Int) + 1) = (k : Int) + 1 := wr (by omega) (by omega)
      clear hJ hK
      by_cases hn : n = []
      · subst hn
        refine see (p := ifB (decide ((↑j : Int) ≤ (15 : Int))) (K0G Try.prog glX 96 [V.lst 3 (itl a), iv (↑k : Int), V.raw (Value.int IntKind.u8 (↑j : Int))] fun v => onIntK IntKind.i64 v fun n => K0G Try.prog glX 96 [V.lst 3 (itl b), iv (↑k : Int), V.raw (Value.int IntKind.u8 (↑j : Int))] fun v => onIntK IntKind.i64 v fun n_1 => ifB e1 (ifB f1 (ifB (IntKind.i64.wrap (n + IntKind.i64.wrap (t * n_1)) != (0 : Int)) (K (St.mk (mkT [(0, V.lst 3 (itl a)), (1, V.lst 3 (itl b)), (2, iv t), (9, V.sl (Id.p 0) 0 1), (10, bv (decide (IntKind.i64.wrap (n + IntKind.i64.wrap (t * n_1)) ≥ (0 : Int)))), (11, bv (decide (IntKind.i64.wrap (n + IntKind.i64.wrap (t * n_1)) ≤ (1000 : Int)))), (12, iv (↑k : Int)), (13, V.raw (Value.int IntKind.u8 (IntKind.u8.wrap ((↑j : Int) + (1 : Int)))))]) (Hp.mk [(0, O.rows 3 true [[iv (↑k : Int), V.raw (Value.int IntKind.u8 (↑j : Int)), iv (IntKind.i64.wrap (n + IntKind.i64.wrap (t * n_1)))]])] 1 []))) (K (St.mk (mkT [(0, V.lst 3 (itl a)), (1, V.lst 3 (itl b)), (2, iv t), (9, nilS), (10, bv (decide (IntKind.i64.wrap (n + IntKind.i64.wrap (t * n_1)) ≥ (0 : Int)))), (11, bv (decide (IntKind.i64.wrap (n + IntKind.i64.wrap (t * n_1)) ≤ (1000 : Int)))), (12, iv (↑k : Int)), (13, V.raw (Value.int IntKind.u8 (IntKind.u8.wrap ((↑j : Int) + (1 : Int)))))]) (Hp.mk [] 0 [])))) (ifB (IntKind.i64.wrap (n + IntKind.i64.wrap (t * n_1)) != (0 : Int)) (K (St.mk (mkT [(0, V.lst 3 (itl a)), (1, V.lst 3 (itl b)), (2, iv t), (9, V.sl (Id.p 0) 0 1), (10, bv (decide (IntKind.i64.wrap (n + IntKind.i64.wrap (t * n_1)) ≥ (0 : Int)))), (11, bv false), (12, iv (↑k : Int)), (13, V.raw (Value.int IntKind.u8 (IntKind.u8.wrap ((↑j : Int) + (1 : Int)))))]) (Hp.mk [(0, O.rows 3 true [[iv (↑k : Int), V.raw (Value.int IntKind.u8 (↑j : Int)), iv (IntKind.i64.wrap (n + IntKind.i64.wrap (t * n_1)))]])] 1 []))) (K (St.mk (mkT [(0, V.lst 3 (itl a)), (1, V.lst 3 (itl b)), (2, iv t), (9, nilS), (10, bv (decide (IntKind.i64.wrap (n + IntKind.i64.wrap (t * n_1)) ≥ (0 : Int)))), (11, bv false), (12, iv (↑k : Int)), (13, V.raw (Value.int IntKind.u8 (IntKind.u8.wrap ((↑j : Int) + (1 : Int)))))]) (Hp.mk [] 0 []))))) (ifB f1 (ifB (IntKind.i64.wrap (n + IntKind.i64.wrap (t * n_1)) != (0 : Int)) (K (St.mk (mkT [(0, V.lst 3 (itl a)), (1, V.lst 3 (itl b)), (2, iv t), (9, V.sl (Id.p 0) 0 1), (10, bv false), (11, bv (decide (IntKind.i64.wrap (n + IntKind.i64.wrap (t * n_1)) ≤ (1000 : Int)))), (12, iv (↑k : Int)), (13, V.raw (Value.int IntKind.u8 (IntKind.u8.wrap ((↑j : Int) + (1 : Int)))))]) (Hp.mk [(0, O.rows 3 true [[iv (↑k : Int), V.raw (Value.int IntKind.u8 (↑j : Int)), iv (IntKind.i64.wrap (n + IntKind.i64.wrap (t * n_1)))]])] 1 []))) (K (St.mk (mkT [(0, V.lst 3 (itl a)), (1, V.lst 3 (itl b)), (2, iv t), (9, nilS), (10, bv false), (11, bv (decide (IntKind.i64.wrap (n + IntKind.i64.wrap (t * n_1)) ≤ (1000 : Int)))), (12, iv (↑k : Int)), (13, V.raw (Value.int IntKind.u8 (IntKind.u8.wrap ((↑j : Int) + (1 : Int)))))]) (Hp.mk [] 0 [])))) (ifB (IntKind.i64.wrap (n + IntKind.i64.wrap (t * n_1)) != (0 : Int)) (K (St.mk (mkT [(0, V.lst 3 (itl a)), (1, V.lst 3 (itl b)), (2, iv t), (9, V.sl (Id.p 0) 0 1), (10, bv false), (11, bv false), (12, iv (↑k : Int)), (13, V.raw (Value.int IntKind.u8 (IntKind.u8.wrap ((↑j : Int) + (1 : Int)))))]) (Hp.mk [(0, O.rows 3 true [[iv (↑k : Int), V.raw (Value.int IntKind.u8 (↑j : Int)), iv (IntKind.i64.wrap (n + IntKind.i64.wrap (t * n_1)))]])] 1 []))) (K (St.mk (mkT [(0, V.lst 3 (itl a)), (1, V.lst 3 (itl b)), (2, iv t), (9, nilS), (10, bv false), (11, bv false), (12, iv (↑k : Int)), (13, V.raw (Value.int IntKind.u8 (IntKind.u8.wrap ((↑j : Int) + (1 : Int)))))]) (Hp.mk [] 0 [])))))) (J (St.mk (mkT [(0, V.lst 3 (itl a)), (1, V.lst 3 (itl b)), (2, iv t), (9, nilS), (10, bv e1), (11, bv f1), (12, iv (IntKind.i64.wrap ((↑k : Int) + (1 : Int))))]) (Hp.mk [] 0 [])))) (by kernel_rfl) ?_
        refine ifB_mk (fun cj => ?_) (fun cj => by rw [hkw]; exact out (by have := of_decide_eq_false cj; omega))
        have hj : j ≤ 15 := by have := of_decide_eq_true cj; omega
        have hjw : IntKind.u8.wrap ((j : Int) + 1) = (j : Int) + 1 := by simp [IntKind.wrap, IntKind.bits, IntKind.signed]; omega
        refine has96 (by have := sa.1; omega) (onIntK_iv (has96 (by have := sb.1; omega) (onIntK_iv ?_)))
        have g := go hj
        rw [hw, hjw]
        by_cases h0 : N = 0
        · rw [if_neg (fun q => q h0)] at g
          cases e1 <;> cases f1
          · exact ifB_f rfl (ifB_f rfl (ifB_f (by simp [h0]) g))
          · exact ifB_f rfl (ifB_t rfl (ifB_f (by simp [h0]) g))
          · exact ifB_t rfl (ifB_f rfl (ifB_f (by simp [h0]) g))
          · exact ifB_t rfl (ifB_t rfl (ifB_f (by simp [h0]) g))
        · rw [if_pos h0] at g
          cases e1 <;> cases f1
          · exact ifB_f rfl (ifB_f rfl (ifB_t (by simp [h0]) g))
          · exact ifB_f rfl (ifB_t rfl (ifB_t (by simp [h0]) g))
          · exact ifB_t rfl (ifB_f rfl (ifB_t (by simp [h0]) g))
          · exact ifB_t rfl (ifB_t rfl (ifB_t (by simp [h0]) g))
      · rw [(o_b hn).1, (o_b hn).2] at *
        refine see (p := ifB (decide ((↑j : Int) ≤ (15 : Int))) (K0G Try.prog glX 96 [V.lst 3 (itl a), iv (↑k : Int), V.raw (Value.int IntKind.u8 (↑j : Int))] fun v => onIntK IntKind.i64 v fun n_1 => K0G Try.prog glX 96 [V.lst 3 (itl b), iv (↑k : Int), V.raw (Value.int IntKind.u8 (↑j : Int))] fun v => onIntK IntKind.i64 v fun n_2 => ifB e1 (ifB f1 (ifB (IntKind.i64.wrap (n_1 + IntKind.i64.wrap (t * n_2)) != (0 : Int)) (need ((n.length + 1) * 24 ≤ 140737488355328) (K (St.mk (mkT [(0, V.lst 3 (itl a)), (1, V.lst 3 (itl b)), (2, iv t), (9, V.sl (Id.p 0) 0 (n.length + 1)), (10, bv (decide (IntKind.i64.wrap (n_1 + IntKind.i64.wrap (t * n_2)) ≥ (0 : Int)))), (11, bv (decide (IntKind.i64.wrap (n_1 + IntKind.i64.wrap (t * n_2)) ≤ (1000 : Int)))), (12, iv (↑k : Int)), (13, V.raw (Value.int IntKind.u8 (IntKind.u8.wrap ((↑j : Int) + (1 : Int)))))]) (Hp.mk [(0, O.rows 3 true (List.take n.length (itl n) ++ [[iv (↑k : Int), V.raw (Value.int IntKind.u8 (↑j : Int)), iv (IntKind.i64.wrap (n_1 + IntKind.i64.wrap (t * n_2)))]]))] 1 [])))) (K (St.mk (mkT [(0, V.lst 3 (itl a)), (1, V.lst 3 (itl b)), (2, iv t), (9, V.sl (Id.p 0) 0 n.length), (10, bv (decide (IntKind.i64.wrap (n_1 + IntKind.i64.wrap (t * n_2)) ≥ (0 : Int)))), (11, bv (decide (IntKind.i64.wrap (n_1 + IntKind.i64.wrap (t * n_2)) ≤ (1000 : Int)))), (12, iv (↑k : Int)), (13, V.raw (Value.int IntKind.u8 (IntKind.u8.wrap ((↑j : Int) + (1 : Int)))))]) (Hp.mk [(0, O.rows 3 true (itl n))] 1 [])))) (ifB (IntKind.i64.wrap (n_1 + IntKind.i64.wrap (t * n_2)) != (0 : Int)) (need ((n.length + 1) * 24 ≤ 140737488355328) (K (St.mk (mkT [(0, V.lst 3 (itl a)), (1, V.lst 3 (itl b)), (2, iv t), (9, V.sl (Id.p 0) 0 (n.length + 1)), (10, bv (decide (IntKind.i64.wrap (n_1 + IntKind.i64.wrap (t * n_2)) ≥ (0 : Int)))), (11, bv false), (12, iv (↑k : Int)), (13, V.raw (Value.int IntKind.u8 (IntKind.u8.wrap ((↑j : Int) + (1 : Int)))))]) (Hp.mk [(0, O.rows 3 true (List.take n.length (itl n) ++ [[iv (↑k : Int), V.raw (Value.int IntKind.u8 (↑j : Int)), iv (IntKind.i64.wrap (n_1 + IntKind.i64.wrap (t * n_2)))]]))] 1 [])))) (K (St.mk (mkT [(0, V.lst 3 (itl a)), (1, V.lst 3 (itl b)), (2, iv t), (9, V.sl (Id.p 0) 0 n.length), (10, bv (decide (IntKind.i64.wrap (n_1 + IntKind.i64.wrap (t * n_2)) ≥ (0 : Int)))), (11, bv false), (12, iv (↑k : Int)), (13, V.raw (Value.int IntKind.u8 (IntKind.u8.wrap ((↑j : Int) + (1 : Int)))))]) (Hp.mk [(0, O.rows 3 true (itl n))] 1 []))))) (ifB f1 (ifB (IntKind.i64.wrap (n_1 + IntKind.i64.wrap (t * n_2)) != (0 : Int)) (need ((n.length + 1) * 24 ≤ 140737488355328) (K (St.mk (mkT [(0, V.lst 3 (itl a)), (1, V.lst 3 (itl b)), (2, iv t), (9, V.sl (Id.p 0) 0 (n.length + 1)), (10, bv false), (11, bv (decide (IntKind.i64.wrap (n_1 + IntKind.i64.wrap (t * n_2)) ≤ (1000 : Int)))), (12, iv (↑k : Int)), (13, V.raw (Value.int IntKind.u8 (IntKind.u8.wrap ((↑j : Int) + (1 : Int)))))]) (Hp.mk [(0, O.rows 3 true (List.take n.length (itl n) ++ [[iv (↑k : Int), V.raw (Value.int IntKind.u8 (↑j : Int)), iv (IntKind.i64.wrap (n_1 + IntKind.i64.wrap (t * n_2)))]]))] 1 [])))) (K (St.mk (mkT [(0, V.lst 3 (itl a)), (1, V.lst 3 (itl b)), (2, iv t), (9, V.sl (Id.p 0) 0 n.length), (10, bv false), (11, bv (decide (IntKind.i64.wrap (n_1 + IntKind.i64.wrap (t * n_2)) ≤ (1000 : Int)))), (12, iv (↑k : Int)), (13, V.raw (Value.int IntKind.u8 (IntKind.u8.wrap ((↑j : Int) + (1 : Int)))))]) (Hp.mk [(0, O.rows 3 true (itl n))] 1 [])))) (ifB (IntKind.i64.wrap (n_1 + IntKind.i64.wrap (t * n_2)) != (0 : Int)) (need ((n.length + 1) * 24 ≤ 140737488355328) (K (St.mk (mkT [(0, V.lst 3 (itl a)), (1, V.lst 3 (itl b)), (2, iv t), (9, V.sl (Id.p 0) 0 (n.length + 1)), (10, bv false), (11, bv false), (12, iv (↑k : Int)), (13, V.raw (Value.int IntKind.u8 (IntKind.u8.wrap ((↑j : Int) + (1 : Int)))))]) (Hp.mk [(0, O.rows 3 true (List.take n.length (itl n) ++ [[iv (↑k : Int), V.raw (Value.int IntKind.u8 (↑j : Int)), iv (IntKind.i64.wrap (n_1 + IntKind.i64.wrap (t * n_2)))]]))] 1 [])))) (K (St.mk (mkT [(0, V.lst 3 (itl a)), (1, V.lst 3 (itl b)), (2, iv t), (9, V.sl (Id.p 0) 0 n.length), (10, bv false), (11, bv false), (12, iv (↑k : Int)), (13, V.raw (Value.int IntKind.u8 (IntKind.u8.wrap ((↑j : Int) + (1 : Int)))))]) (Hp.mk [(0, O.rows 3 true (itl n))] 1 [])))))) (J (St.mk (mkT [(0, V.lst 3 (itl a)), (1, V.lst 3 (itl b)), (2, iv t), (9, V.sl (Id.p 0) 0 n.length), (10, bv e1), (11, bv f1), (12, iv (IntKind.i64.wrap ((↑k : Int) + (1 : Int))))]) (Hp.mk [(0, O.rows 3 true (itl n))] 1 [])))) (by kernel_rfl) ?_
        refine ifB_mk (fun cj => ?_) (fun cj => by rw [hkw]; exact out (by have := of_decide_eq_false cj; omega))
        have hj : j ≤ 15 := by have := of_decide_eq_true cj; omega
        have hjw : IntKind.u8.wrap ((j : Int) + 1) = (j : Int) + 1 := by simp [IntKind.wrap, IntKind.bits, IntKind.signed]; omega
        refine has96 (by have := sa.1; omega) (onIntK_iv (has96 (by have := sb.1; omega) (onIntK_iv ?_)))
        have g := go hj
        rw [hw, hjw, itl_take]
        by_cases h0 : N = 0
        · rw [if_neg (fun q => q h0), (o_b hn).1, (o_b hn).2] at g
          cases e1 <;> cases f1
          · exact ifB_f rfl (ifB_f rfl (ifB_f (by simp [h0]) g))
          · exact ifB_f rfl (ifB_t rfl (ifB_f (by simp [h0]) g))
          · exact ifB_t rfl (ifB_f rfl (ifB_f (by simp [h0]) g))
          · exact ifB_t rfl (ifB_t rfl (ifB_f (by simp [h0]) g))
        · rw [if_pos h0, (o_b (m := n ++ [((k : Int), (j : Int), N)]) (by simp)).1, (o_b (m := n ++ [((k : Int), (j : Int), N)]) (by simp)).2, itl_app, List.length_append, List.length_singleton] at g
          cases e1 <;> cases f1
          · exact ifB_f rfl (ifB_f rfl (ifB_t (by simp [h0]) (need_mk ⟨by omega, g⟩)))
          · exact ifB_f rfl (ifB_t rfl (ifB_t (by simp [h0]) (need_mk ⟨by omega, g⟩)))
          · exact ifB_t rfl (ifB_f rfl (ifB_t (by simp [h0]) (need_mk ⟨by omega, g⟩)))
          · exact ifB_t rfl (ifB_t rfl (ifB_t (by simp [h0]) (need_mk ⟨by omega, g⟩)))
    · have hk : k = 16 := by have := of_decide_eq_false c; omega
      subst hk
      have hf := h m e f g2
      have e1 : sub (itl m) 0 m.length = itl m := by rw [← itl_length m]; exact sub_all _
      rw [e1]
      rw [lsI_b hm] at hf
      have hdl : decide ((m.length : Int) ≤ 30) = decide (m.length ≤ 30) := by by_cases q : m.length ≤ 30 <;> simp [q] <;> omega
      cases f
      · exact ifB_f rfl hf
      · rw [hdl]; exact ifB_t rfl hf
end Go.Proofs.Ytmddjopahcbefaa
namespace Go.Proofs.Ytmddjopahcbefaa
open Go Go.Proofs.Ytmddjopahcbefaa.Clean
set_option linter.unusedVariables false
set_option linter.unusedSimpArgs false
set_option maxRecDepth 10000
def Col (l : List It) : Prop := ∀ x ∈ l, 0 ≤ x.2.1
theorem has_out {l : List It} (hs : Stk l) (hc : Col l) {p q : Int} (h : ¬ Rng p q) : hasF l p q = 0 := has_none fun y hy e => by
  have h1 := hs.2.2.1 y hy
  have h2 := hc y hy
  unfold Rng at h
  unfold Okp at h1
  omega
theorem SI.end {a b m : List It} {t : Int} {e f : Bool} (sa : Stk a) (sb : Stk b) (ca : Col a) (cb : Col b) (h : SI a b t m e f 16 0) :
    (∀ p q, hasF m p q = nS a b t p q) ∧ (∀ y ∈ m, Okp y) ∧ (e = true ↔ ∀ p q, 0 ≤ nS a b t p q) ∧ (f = true ↔ ∀ p q, nS a b t p q ≤ 1000) := by
  have lx : ∀ p q, Rng p q → lexL p q 16 0 := fun p q h => by unfold Rng at h; unfold lexL; omega
  have out : ∀ p q, ¬ Rng p q → nS a b t p q = 0 := fun p q h => by unfold nS; rw [has_out sa ca h, has_out sb cb h]; omega
  refine ⟨fun p q => ?_, fun y hy => ?_, h.e.trans ⟨fun h1 p q => ?_, fun h1 p q _ _ => h1 p q⟩, h.f.trans ⟨fun h1 p q => ?_, fun h1 p q _ _ => h1 p q⟩⟩
  · by_cases hr : Rng p q
    · by_cases h0 : nS a b t p q = 0
      · rw [h0]
        refine has_none fun y hy e => ?_
        obtain ⟨_, _, q3, q4⟩ := h.old y hy
        rw [e.1, e.2] at q3
        exact q4 (q3.trans h0)
      · have hm := h.all p q hr (lx p q hr) h0
        have key : ∀ {l : List It}, l.Pairwise Bef → ∀ {x : It}, x ∈ l → hasF l x.1 x.2.1 = x.2.2 := by
          intro l hl x hx
          induction l with
          | nil => cases hx
          | cons y r ih =>
            simp only [hasF]
            rcases List.mem_cons.1 hx with rfl | hx'
            · rw [if_pos ⟨rfl, rfl⟩]
            · rw [if_neg (fun e => ((List.pairwise_cons.1 hl).1 x hx').ne ⟨e.1.symm, e.2.symm⟩)]
              exact ih (List.pairwise_cons.1 hl).2 hx'
        exact key h.pw hm
    · rw [out p q hr]
      refine has_none fun y hy e => ?_
      have := (h.old y hy).1
      rw [e.1, e.2] at this
      exact hr this
  · have := (h.old y hy).1
    unfold Rng at this
    unfold Okp
    omega
  · by_cases hr : Rng p q
    · exact h1 p q hr (lx p q hr)
    · rw [out p q hr]; exact Int.le_refl _
  · by_cases hr : Rng p q
    · exact h1 p q hr (lx p q hr)
    · rw [out p q hr]; decide
def AddR (a b x : List It) (e : Int) : Prop := (¬ (Stk a ∧ Stk b) ∧ x = [] ∧ e = 8) ∨ (Stk a ∧ Stk b ∧ ∃ m, G m ∧ (∀ p q, hasF m p q = hasF a p q + hasF b p q) ∧ ((Stk m ∧ x = m ∧ e = 0) ∨ (¬ Stk m ∧ x = [] ∧ e = 4)))
theorem AddR.uniq {a b x y : List It} {e f : Int} (h : AddR a b x e) (g : AddR a b y f) : x = y ∧ e = f := by
  rcases h with ⟨h1, rfl, rfl⟩ | ⟨h1, h2, m, h3, h4, h5⟩ <;> rcases g with ⟨g1, rfl, rfl⟩ | ⟨g1, g2, n, g3, g4, g5⟩
  · exact ⟨rfl, rfl⟩
  · exact (h1 ⟨g1, g2⟩).elim
  · exact (g1 ⟨h1, h2⟩).elim
  · have : m = n := g_ext h3 g3 (fun p q => (h4 p q).trans (g4 p q).symm)
    subst this
    rcases h5 with ⟨q1, rfl, rfl⟩ | ⟨q1, rfl, rfl⟩ <;> rcases g5 with ⟨r1, rfl, rfl⟩ | ⟨r1, rfl, rfl⟩
    · exact ⟨rfl, rfl⟩
    · exact (r1 q1).elim
    · exact (q1 r1).elim
    · exact ⟨rfl, rfl⟩
def TakR (a b x : List It) (e : Int) : Prop := (¬ (Stk a ∧ Stk b) ∧ x = [] ∧ e = 8) ∨ (Stk a ∧ Stk b ∧ (((∀ p q, hasF b p q ≤ hasF a p q) ∧ G x ∧ (∀ p q, hasF x p q = hasF a p q - hasF b p q) ∧ e = 0) ∨ (¬ (∀ p q, hasF b p q ≤ hasF a p q) ∧ x = [] ∧ e = 6)))
theorem TakR.uniq {a b x y : List It} {e f : Int} (h : TakR a b x e) (g : TakR a b y f) : x = y ∧ e = f := by
  rcases h with ⟨h1, rfl, rfl⟩ | ⟨h1, h2, h5⟩ <;> rcases g with ⟨g1, rfl, rfl⟩ | ⟨g1, g2, g5⟩
  · exact ⟨rfl, rfl⟩
  · exact (h1 ⟨g1, g2⟩).elim
  · exact (g1 ⟨h1, h2⟩).elim
  · rcases h5 with ⟨q1, q2, q3, rfl⟩ | ⟨q1, rfl, rfl⟩ <;> rcases g5 with ⟨r1, r2, r3, rfl⟩ | ⟨r1, rfl, rfl⟩
    · exact ⟨g_ext q2 r2 (fun p q => (q3 p q).trans (r3 p q).symm), rfl⟩
    · exact (r1 q1).elim
    · exact (q1 r1).elim
    · exact ⟨rfl, rfl⟩
def isX (X : V) (x : List It) : Prop := X = lsI x ∨ ∃ d, (d = 3 ∨ (x = [] ∧ d = 0)) ∧ X = .lst d (itl x)
theorem onLst_isX {X : V} {x : List It} {k : Nat → List (List V) → Prop} (hX : isX X x) (h : ∀ d, (d = 3 ∨ (x = [] ∧ d = 0)) → k d (itl x)) : onLst X k := by
  rcases hX with rfl | ⟨d, hd, rfl⟩
  · exact lsI_l h
  · exact h d hd
theorem add9r {a b : List It} {R : V → Prop} (hla : a.length ≤ 1000) (hlb : b.length ≤ 1000) (h : ∀ x e X, AddR a b x e → isX X x → R (.tup [X, iv e])) : KB Try.prog glX 9 [.lst 3 (itl a), .lst 3 (itl b)] ⟨[], 0, []⟩ R := by
  refine add9 hla hlb (fun hn => h [] 8 _ (.inl ⟨hn, rfl, rfl⟩) (.inl rfl)) (fun sa sb m hG hO hs => ?_)
  unfold addR
  by_cases hst : Stk m
  · rw [if_pos (dc_t hst)]
    exact h m 0 _ (.inr ⟨sa, sb, m, hG, hs, .inl ⟨hst, rfl, rfl⟩⟩) (.inl rfl)
  · rw [if_neg (by rw [dc_f hst]; simp)]
    exact h [] 4 _ (.inr ⟨sa, sb, m, hG, hs, .inr ⟨hst, rfl, rfl⟩⟩) (.inl rfl)
theorem rest_len : ∀ {l o m p : List It}, restF l o = some (m, p) → m.length ≤ l.length
  | [], o, m, p, h => by simp only [restF, Option.some.injEq, Prod.mk.injEq] at h; obtain ⟨rfl, rfl⟩ := h; simp
  | x :: l, o, m, p, h => by
    simp only [restF] at h
    split at h
    · cases h
    · cases hr : restF l (takeF x o).2 with
      | none => rw [hr] at h; cases h
      | some q =>
        rw [hr] at h
        simp only [Option.map_some, Option.some.injEq, Prod.mk.injEq] at h
        obtain ⟨rfl, rfl⟩ := h
        have := rest_len (show restF l (takeF x o).2 = some (q.1, q.2) from hr)
        have hk : (keepF x (takeF x o).1).length ≤ 1 := by unfold keepF; split <;> simp
        rw [List.length_append, List.length_cons]
        omega
theorem take11r {a b : List It} {R : V → Prop} (hla : a.length ≤ 1000) (h : ∀ x e X, TakR a b x e → isX X x → x.length ≤ 1000 → R (.tup [X, iv e])) : KB Try.prog glX 11 [.lst 3 (itl a), .lst 3 (itl b)] ⟨[], 0, []⟩ R := by
  refine take11 hla (fun hn => h [] 8 _ (.inl ⟨hn, rfl, rfl⟩) (.inl rfl) (by simp)) (fun sa sb => ?_)
  have no : (¬ ∃ l, restF a b = some (l, [])) → R (.tup [nilS, iv 6]) := fun hn => h [] 6 _ (.inr ⟨sa, sb, .inr ⟨fun hle => hn (rest_all sa.g sb.g hle), rfl, rfl⟩⟩) (.inl rfl) (by simp)
  unfold takeV
  cases hr : restF a b with
  | none => exact no (fun ⟨l, hl⟩ => by rw [hr] at hl; cases hl)
  | some p =>
    obtain ⟨l, o⟩ := p
    cases o with
    | cons y o => exact no (fun ⟨l', hl⟩ => by rw [hr] at hl; cases hl)
    | nil =>
      have hg := (rest_G sa.g sb.g hr).1
      have hsb := rest_sub sa.g sb.g hr
      refine h l 0 _ (.inr ⟨sa, sb, .inl ⟨fun p q => ?_, hg, hsb, rfl⟩⟩) (.inr ⟨3, .inl rfl, rfl⟩) (Nat.le_trans (rest_len hr) hla)
      have := hsb p q
      have := hg.pos p q
      omega
theorem refAdd10 {a b : List It} {R : V → Prop} (ca : Col a) (cb : Col b) (h : ∀ x e X, AddR a b x e → isX X x → R (.tup [X, iv e])) : K0G Try.prog glX 10 [.lst 3 (itl a), .lst 3 (itl b)] R := by
  refine K0_of_WY0 hmX hcD 3000 Try.func10 (see (p := K0G Try.prog glX 39 [V.lst 3 (itl a)] fun v => onBool v fun b_1 => ifB (!b_1) (R (V.tup [nilS, iv (8 : Int)])) (K0G Try.prog glX 39 [V.lst 3 (itl b)] fun v => onBool v fun b_2 => ifB (!b_2) (R (V.tup [nilS, iv (8 : Int)])) (K0G Try.prog glX 40 [V.lst 3 (itl a), V.lst 3 (itl b), iv (1 : Int)] fun v => onTup v fun vs => onCons vs fun u r => onLst u fun s es => onCons r fun u r => onBool u fun b => onCons r fun u r => onBool u fun b => onNil r (ifB (!b) (R (V.tup [nilS, iv (4 : Int)])) (R (V.tup [V.lst s es, iv (0 : Int)])))))) (by kernel_rfl) ?_)
  refine stock39 (onBool_bv (ifB_mk (fun c => ?_) (fun c => ?_)))
  · exact h [] 8 _ (.inl ⟨fun q => (by rw [dc_t q.1] at c; cases c), rfl, rfl⟩) (.inl rfl)
  have sa : Stk a := by cases hq : dc (Stk a) with | true => exact dc_true hq | false => rw [hq] at c; cases c
  refine stock39 (onBool_bv (ifB_mk (fun c => ?_) (fun c => ?_)))
  · exact h [] 8 _ (.inl ⟨fun q => (by rw [dc_t q.2] at c; cases c), rfl, rfl⟩) (.inl rfl)
  have sb : Stk b := by cases hq : dc (Stk b) with | true => exact dc_true hq | false => rw [hq] at c; cases c
  refine sum40 sa sb (.inl rfl) (fun m e f hS => ?_)
  obtain ⟨h1, h2, h3, h4⟩ := hS.end sa sb ca cb
  have hn : ∀ p q, nS a b 1 p q = hasF a p q + hasF b p q := fun p q => by unfold nS; omega
  have hG : G m := ⟨hS.pw, fun x hx => by
    obtain ⟨_, _, q3, q4⟩ := hS.old x hx
    have := (hasF_ok sa x.1 x.2.1).1
    have := (hasF_ok sb x.1 x.2.1).1
    have := hn x.1 x.2.1
    omega⟩
  have hst : (f && decide (m.length ≤ 30)) = true ↔ Stk m := by
    rw [Bool.and_eq_true, h4, decide_eq_true_iff]
    constructor
    · rintro ⟨q1, q2⟩
      refine ⟨q2, fun i x y hx hy => ?_, h2, fun x hx => ⟨hG.2 x hx, ?_⟩⟩
      · have := List.pairwise_iff_getElem.1 hS.pw i (i + 1) (List.getElem?_eq_some_iff.1 hx).1 (List.getElem?_eq_some_iff.1 hy).1 (by omega)
        rw [(List.getElem?_eq_some_iff.1 hx).2, (List.getElem?_eq_some_iff.1 hy).2] at this
        exact this
      · rw [← hG.has hx, h1]; exact q1 _ _
    · intro hs
      refine ⟨fun p q => ?_, hs.1⟩
      rw [← h1]
      exact (hasF_ok hs p q).2
  refine onTup_tup (onCons_cons (lsI_l (fun d hd => onCons_cons (onBool_bv (onCons_cons (onBool_bv (onNil_nil (ifB_mk (fun c => ?_) (fun c => ?_)))))))))
  · refine h [] 4 _ (.inr ⟨sa, sb, m, hG, fun p q => (h1 p q).trans (hn p q), .inr ⟨fun hs => ?_, rfl, rfl⟩⟩) (.inl rfl)
    rw [hst.2 hs] at c; cases c
  · have hs : Stk m := hst.1 (by cases hq : (f && decide (m.length ≤ 30)) with | true => rfl | false => rw [hq] at c; cases c)
    exact h m 0 _ (.inr ⟨sa, sb, m, hG, fun p q => (h1 p q).trans (hn p q), .inl ⟨hs, rfl, rfl⟩⟩) (.inr ⟨d, hd, rfl⟩)
theorem refTake12 {a b : List It} {R : V → Prop} (ca : Col a) (cb : Col b) (h : ∀ x e X, TakR a b x e → isX X x → R (.tup [X, iv e])) : K0G Try.prog glX 12 [.lst 3 (itl a), .lst 3 (itl b)] R := by
  refine K0_of_WY0 hmX hcD 3000 Try.func12 (see (p := K0G Try.prog glX 39 [V.lst 3 (itl a)] fun v => onBool v fun b_1 => ifB (!b_1) (R (V.tup [nilS, iv (8 : Int)])) (K0G Try.prog glX 39 [V.lst 3 (itl b)] fun v => onBool v fun b_2 => ifB (!b_2) (R (V.tup [nilS, iv (8 : Int)])) (K0G Try.prog glX 40 [V.lst 3 (itl a), V.lst 3 (itl b), iv (-1 : Int)] fun v => onTup v fun vs => onCons vs fun u r => onLst u fun s es => onCons r fun u r => onBool u fun b => onCons r fun u r => onBool u fun b_3 => onNil r (ifB (!b) (R (V.tup [nilS, iv (6 : Int)])) (R (V.tup [V.lst s es, iv (0 : Int)])))))) (by kernel_rfl) ?_)
  refine stock39 (onBool_bv (ifB_mk (fun c => ?_) (fun c => ?_)))
  · exact h [] 8 _ (.inl ⟨fun q => (by rw [dc_t q.1] at c; cases c), rfl, rfl⟩) (.inl rfl)
  have sa : Stk a := by cases hq : dc (Stk a) with | true => exact dc_true hq | false => rw [hq] at c; cases c
  refine stock39 (onBool_bv (ifB_mk (fun c => ?_) (fun c => ?_)))
  · exact h [] 8 _ (.inl ⟨fun q => (by rw [dc_t q.2] at c; cases c), rfl, rfl⟩) (.inl rfl)
  have sb : Stk b := by cases hq : dc (Stk b) with | true => exact dc_true hq | false => rw [hq] at c; cases c
  refine sum40 sa sb (.inr rfl) (fun m e f hS => ?_)
  obtain ⟨h1, h2, h3, h4⟩ := hS.end sa sb ca cb
  have hn : ∀ p q, nS a b (-1) p q = hasF a p q - hasF b p q := fun p q => by unfold nS; omega
  have he : e = true ↔ ∀ p q, hasF b p q ≤ hasF a p q := h3.trans ⟨fun h p q => by have := h p q; have := hn p q; omega, fun h p q => by have := h p q; have := hn p q; omega⟩
  refine onTup_tup (onCons_cons (lsI_l (fun d hd => onCons_cons (onBool_bv (onCons_cons (onBool_bv (onNil_nil (ifB_mk (fun c => ?_) (fun c => ?_)))))))))
  · refine h [] 6 _ (.inr ⟨sa, sb, .inr ⟨fun hs => ?_, rfl, rfl⟩⟩) (.inl rfl)
    rw [he.2 hs] at c; cases c
  · have hs : ∀ p q, hasF b p q ≤ hasF a p q := he.1 (by cases e with | true => rfl | false => cases c)
    have hG : G m := ⟨hS.pw, fun x hx => by
      obtain ⟨_, _, q3, q4⟩ := hS.old x hx
      have := hs x.1 x.2.1
      have := hn x.1 x.2.1
      omega⟩
    exact h m 0 _ (.inr ⟨sa, sb, .inl ⟨hs, hG, fun p q => (h1 p q).trans (hn p q), rfl⟩⟩) (.inr ⟨d, hd, rfl⟩)
theorem check14 {l : List It} {R : V → Prop} (h : R (iv (stkE l))) : K0G Try.prog glX 14 [.lst 3 (itl l)] R := by
  refine K0_of_WY0 hmX hcD 3000 Try.func14 (see (p := K0G Try.prog glX 39 [V.lst 3 (itl l)] fun v => onBool v fun b => ifB (!b) (R (iv (8 : Int))) (R (iv (0 : Int)))) (by kernel_rfl) ?_)
  refine stock39 (onBool_bv ?_)
  by_cases hs : Stk l
  · rw [dc_t hs]; exact ifB_f rfl (stk0 h hs)
  · rw [dc_f hs]; exact ifB_t rfl (stk8 h hs)
theorem hcV : cfV.ok Try.prog := cfgG_ok rtS_ok
theorem hcL : cfL.ok Try.prog := by
  have h : (cfgG Try.prog glX moL postS rtS (inN [8]) (fun _ _ => none)).ok Try.prog := cfgG_ok rtS_ok
  exact ⟨h.1, h.2⟩
theorem spoil16 {l : List It} {args : List V} {Q : V → Us → Prop} (hl : l.length ≤ 100000) (h : ∀ us, Q (.tup []) us) : KM Try.prog glX 16 [.sl (.p 0) 0 (itl l).length] ⟨[(0, O.rows 3 true (itl l))], 1, []⟩ (postS 16 args) Q := by
  refine KM_of_WYKp hmX hcV 3000 Try.func16 (fun R hR => ?_)
  have key : ∀ (es : List (List V)) (n : Nat), n = es.length → n ≤ 100000 → (∀ row ∈ es, row.length = 3) → WYK Try.prog cfV 3000 16 Try.f16 [.sl (.p 0) 0 n] ⟨[(0, O.rows 3 true es)], 1, []⟩ R := by
    intro es n hn hn1 hes
    refine see (p := La 1 [(0 : Tmp), (4 : Tmp), (5 : Tmp)] (WY Try.prog cfV 2997 (Env.mk (Bs.mk 0 []) 1 none 13 16 0) (cdAt [1, 0, 0] (bodyOf Try.f16))) (Qblk 0 (QendX Try.prog Try.f16 R)) (St.mk (mkT [(0, V.sl (Id.p 0) 0 n), (4, iv (↑n : Int)), (5, iv (0 : Int))]) (Hp.mk [(0, O.rows 3 true es)] 1 []))) (by kernel_rfl) ?_
    refine La.of (σ := List (List V) × Nat) (fun s => sh16 s.1 n s.2) (fun s => s.1.length = n ∧ s.2 ≤ n ∧ ∀ row ∈ s.1, row.length = 3) (fun s => n - s.2) (es, 0) (by kernel_rfl) ⟨hn.symm, Nat.zero_le _, hes⟩ ?_
    rintro ⟨es, k⟩ ⟨g1, g2, g3⟩ J hJ
    refine see (p := ifB (decide ((↑k : Int) < (↑n : Int))) (need (k < n) (onSome es[0 + k]? fun row => guardB ((2 + 1).ble row.length) (J (St.mk (mkT [(0, V.sl (Id.p 0) 0 n), (4, iv (↑n : Int)), (5, iv (IntKind.i64.wrap ((↑k : Int) + (1 : Int))))]) (Hp.mk [(0, O.rows 3 true (es.set (0 + k) (List.take 2 row ++ [iv (-7 : Int)] ++ List.drop 3 row)))] 1 []))))) (R (V.tup []) (Hp.mk [(0, O.rows 3 true es)] 1 []))) (by kernel_rfl) ?_
    simp only at g1 g2 g3
    refine ifB_mk (fun c => ?_) (fun c => ?_)
    · have hlt : k < n := by have := of_decide_eq_true c; omega
      obtain ⟨row, hrow⟩ := getI (l := es) (k := k) (by omega)
      have hr3 := g3 row (List.mem_of_getElem? hrow)
      rw [wr1i hlt (by omega), Nat.zero_add]
      refine need_mk ⟨hlt, onSome_mk hrow (guardB_mk (by rw [hr3]; rfl) (hJ (_, k + 1) ⟨by simp [g1], hlt, fun r hr => ?_⟩ (by show n - (k + 1) < n - k; omega)))⟩
      rcases List.mem_or_eq_of_mem_set hr with hr | hr
      · exact g3 r hr
      · rw [hr]; simp [hr3]
    · exact hR _ [es] (h _)
  exact key (itl l) _ rfl (by rw [itl_length]; exact hl) (fun row hr => by
    unfold itl at hr
    rw [List.mem_map] at hr
    obtain ⟨x, _, rfl⟩ := hr
    rfl)
theorem eq3 (a b : List It) (R : V → Prop) : (K0G Try.prog glX 35 [V.lst 3 (itl a)] fun v => onBool v fun b_1 => ifB b_1 (R (bv true)) (K0G Try.prog glX 35 [V.lst 3 (itl b)] fun v => onBool v fun b_2 => ifB b_2 (R (bv true)) (need ((0 + (itl a).length) * 24 ≤ 140737488355328) (need ((0 + (itl b).length) * 24 ≤ 140737488355328) (KB Try.prog glX 9 [V.lst 3 (sub ([] ++ itl a) 0 (0 + (itl a).length)), V.lst 3 (sub ([] ++ itl b) 0 (0 + (itl b).length))] (Hp.mk [] 0 []) fun v => onTup v fun vs => onCons vs fun u r => onLst u fun s es => guardB (s.beq 3 || s.beq 0) (onCons r fun u r => onIntK IntKind.i64 u fun n => onNil r (K0G Try.prog glX 10 [V.lst 3 (itl a), V.lst 3 (itl b)] fun v => onTup v fun vs => onCons vs fun u r => onLst u fun s es_1 => onCons r fun u r => onIntK IntKind.i64 u fun n_1 => onNil r (KB Try.prog glX 11 [V.lst 3 (sub ([] ++ itl a) 0 (0 + (itl a).length)), V.lst 3 (sub ([] ++ itl b) 0 (0 + (itl b).length))] (Hp.mk [] 0 []) fun v => onTup v fun vs => onCons vs fun u r => onLst u fun s_1 es_2 => guardB (s_1.beq 3 || s_1.beq 0) (onCons r fun u r => onIntK IntKind.i64 u fun n_2 => onNil r (K0G Try.prog glX 12 [V.lst 3 (itl a), V.lst 3 (itl b)] fun v => onTup v fun vs => onCons vs fun u r => onLst u fun s_2 es_3 => onCons r fun u r => onIntK IntKind.i64 u fun n_3 => onNil r (K0G Try.prog glX 13 [V.lst 3 (sub ([] ++ itl a) 0 (0 + (itl a).length))] fun v => onIntK IntKind.i64 v fun n_4 => K0G Try.prog glX 14 [V.lst 3 (itl a)] fun v => onIntK IntKind.i64 v fun n_5 => ifB (n_4 == n_5) (K0G Try.prog glX 15 [V.lst 3 (sub es 0 es.length), V.lst s es_1] fun v => onBool v fun b_3 => ifB b_3 (ifB (n == n_1) (K0G Try.prog glX 15 [V.lst 3 (sub es_2 0 es_2.length), V.lst s_2 es_3] fun v => onBool v fun b_4 => ifB b_4 (KM Try.prog glX 16 [V.sl (Id.p 0) 0 es.length] (Hp.mk [(0, O.rows 3 true es)] 1 []) (postS 16 [V.sl (Id.p 5) 0 es.length]) fun v us => onTup v fun vs => onNil vs (KM Try.prog glX 16 [V.sl (Id.p 0) 0 es_2.length] (Hp.mk [(0, O.rows 3 true es_2)] 1 []) (postS 16 [V.sl (Id.p 6) 0 es_2.length]) fun v us => onTup v fun vs => onNil vs (ifB (n_2 == n_3) (K0G Try.prog glX 15 [V.lst 3 (sub ([] ++ itl a) 0 (0 + (itl a).length)), V.lst 3 (itl a)] fun v => onBool v fun b_5 => ifB b_5 (K0G Try.prog glX 15 [V.lst 3 (sub ([] ++ itl b) 0 (0 + (itl b).length)), V.lst 3 (itl b)] fun v => onBool v fun b => R (bv b)) (R (bv false))) (R (bv false))))) (KM Try.prog glX 16 [V.sl (Id.p 0) 0 es.length] (Hp.mk [(0, O.rows 3 true es)] 1 []) (postS 16 [V.sl (Id.p 5) 0 es.length]) fun v us => onTup v fun vs => onNil vs (KM Try.prog glX 16 [V.sl (Id.p 0) 0 es_2.length] (Hp.mk [(0, O.rows 3 true es_2)] 1 []) (postS 16 [V.sl (Id.p 6) 0 es_2.length]) fun v us => onTup v fun vs => onNil vs (R (bv false))))) (KM Try.prog glX 16 [V.sl (Id.p 0) 0 es.length] (Hp.mk [(0, O.rows 3 true es)] 1 []) (postS 16 [V.sl (Id.p 5) 0 es.length]) fun v us => onTup v fun vs => onNil vs (KM Try.prog glX 16 [V.sl (Id.p 0) 0 es_2.length] (Hp.mk [(0, O.rows 3 true es_2)] 1 []) (postS 16 [V.sl (Id.p 6) 0 es_2.length]) fun v us => onTup v fun vs => onNil vs (R (bv false))))) (KM Try.prog glX 16 [V.sl (Id.p 0) 0 es.length] (Hp.mk [(0, O.rows 3 true es)] 1 []) (postS 16 [V.sl (Id.p 5) 0 es.length]) fun v us => onTup v fun vs => onNil vs (KM Try.prog glX 16 [V.sl (Id.p 0) 0 es_2.length] (Hp.mk [(0, O.rows 3 true es_2)] 1 []) (postS 16 [V.sl (Id.p 6) 0 es_2.length]) fun v us => onTup v fun vs => onNil vs (R (bv false))))) (KM Try.prog glX 16 [V.sl (Id.p 0) 0 es.length] (Hp.mk [(0, O.rows 3 true es)] 1 []) (postS 16 [V.sl (Id.p 5) 0 es.length]) fun v us => onTup v fun vs => onNil vs (KM Try.prog glX 16 [V.sl (Id.p 0) 0 es_2.length] (Hp.mk [(0, O.rows 3 true es_2)] 1 []) (postS 16 [V.sl (Id.p 6) 0 es_2.length]) fun v us => onTup v fun vs => onNil vs (R (bv false))))))))))))))) = WY0 Try.prog cfL 3000 3 Try.f3 [.lst 3 (itl a), .lst 3 (itl b)] R := by kernel_rfl
theorem law3 {a b : List It} {R : V → Prop} (ca : Col a) (cb : Col b) (h : R (bv true)) : K0G Try.prog glX 3 [.lst 3 (itl a), .lst 3 (itl b)] R := by
  refine K0_by hmX hcL 3000 Try.func3 (eq3 a b R) ?_
  refine lots35 (fun p hp => onBool_bv (ifB_mk (fun _ => h) (fun c => lots35 (fun q hq => onBool_bv (ifB_mk (fun _ => h) (fun c' => ?_))))))
  have la : a.length ≤ 40 := hp c
  have lb : b.length ≤ 40 := hq c'
  have e1 : ∀ l : List It, sub ([] ++ itl l) 0 (0 + (itl l).length) = itl l := fun l => by rw [List.nil_append, Nat.zero_add]; exact sub_all _
  rw [e1, e1]
  refine need_mk ⟨by rw [itl_length]; omega, need_mk ⟨by rw [itl_length]; omega, ?_⟩⟩
  have d3 : ∀ {l : List It} {d : Nat}, (d = 3 ∨ (l = [] ∧ d = 0)) → (d.beq 3 || d.beq 0) = true := fun h => by rcases h with rfl | ⟨_, rfl⟩ <;> rfl
  have o3 : ∀ {l : List It} {d : Nat}, (d = 3 ∨ (l = [] ∧ d = 0)) → l = [] ∨ d = 3 := fun h => h.elim .inr (fun h => .inl h.1)
  refine add9r (by omega) (by omega) (fun x e X hx iX => ?_)
  refine onTup_tup (onCons_cons (onLst_isX iX (fun d hd => guardB_mk (d3 hd) (onCons_cons (onIntK_iv (onNil_nil ?_))))))
  refine refAdd10 ca cb (fun y f Y hy iY => onTup_tup (onCons_cons (onLst_isX iY (fun d' hd' => onCons_cons (onIntK_iv (onNil_nil ?_))))))
  refine take11r (by omega) (fun u g U hu iU ul => onTup_tup (onCons_cons (onLst_isX iU (fun d'' hd'' => guardB_mk (d3 hd'') (onCons_cons (onIntK_iv (onNil_nil ?_)))))))
  refine refTake12 ca cb (fun w k W hw iW => onTup_tup (onCons_cons (onLst_isX iW (fun d4 hd4 => onCons_cons (onIntK_iv (onNil_nil ?_))))))
  obtain ⟨rfl, rfl⟩ := hx.uniq hy
  obtain ⟨rfl, rfl⟩ := hu.uniq hw
  have xl : x.length ≤ 30 := by
    rcases hx with ⟨_, rfl, _⟩ | ⟨_, _, m, _, _, ⟨hs, rfl, _⟩ | ⟨_, rfl, _⟩⟩
    · simp
    · exact hs.1
    · simp
  refine check13 (onIntK_iv (check14 (onIntK_iv (ifB_t (by simp) ?_))))
  rw [sub_all, sub_all]
  refine same15 (.inr rfl) (o3 hd') (by omega) (onBool_bv (ifB_t (dc_t rfl) (ifB_t (by simp) ?_)))
  refine same15 (.inr rfl) (o3 hd4) (by omega) (onBool_bv (ifB_t (dc_t rfl) ?_))
  refine spoil16 (by omega) (fun us => onTup_tup (onNil_nil (spoil16 (by omega) (fun us => onTup_tup (onNil_nil (ifB_t (by simp) ?_))))))
  refine same15 (.inr rfl) (.inr rfl) (by omega) (onBool_bv (ifB_t (dc_t rfl) ?_))
  refine same15 (.inr rfl) (.inr rfl) (by omega) (onBool_bv ?_)
  rw [dc_t rfl]
  exact h
theorem wf_u8 {n : Int} (h : (Lit.int .u8 n).wf = true) : 0 ≤ n ∧ n < 256 := by
  simp [Lit.wf, IntKind.min, IntKind.max, IntKind.signed, IntKind.bits] at h
  omega
end Go.Proofs.Ytmddjopahcbefaa
