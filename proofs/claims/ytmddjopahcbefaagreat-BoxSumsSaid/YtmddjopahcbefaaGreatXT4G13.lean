/- A part of the proof. -/
import Derived.Test.YtmddjopahcbefaaGreatProg
import Derived.Test.YtmddjopahcbefaaGreatXT4G10
import Derived.Test.YtmddjopahcbefaaGreatXT4G11
import Derived.Test.YtmddjopahcbefaaGreatXT4G12
namespace Go.Proofs.YtmddjopahcbefaaGreat
open Go Go.Proofs.YtmddjopahcbefaaGreat.Clean
set_option linter.unusedVariables false
set_option linter.unusedSimpArgs false
set_option maxRecDepth 10000
theorem hcR : cfR.ok Tryz.prog := cfgG_ok rtS_ok
theorem hcT : cfT.ok Tryz.prog := cfgG_ok rtS_ok
theorem sub_tl {α : Type} (x : α) (l : List α) : sub (x :: l) 1 ((x :: l).length - 1) = l := by simp [sub]
theorem sh41_b {a o l : List It} {k : Nat} (h : l ≠ []) : sh41 a (o, l, k) = sh41b a o l k := by cases l with | nil => exact (h rfl).elim | cons x r => rfl
theorem eqP {x y : It} : (y.1 == x.1 && (fun b => y.2.1 == x.2.1 && b) true) = true ↔ y.1 = x.1 ∧ y.2.1 = x.2.1 := by simp
theorem rest41 {a b : List It} {R : V → Prop} (ha : ∀ x ∈ a, Nok x) (hb : ∀ x ∈ b, Nok x) (hla : a.length ≤ 1000000) (h : R (restV (restF a b))) : KB Tryz.prog glX 43 [.lst 3 (itl a), .lst 3 (itl b)] ⟨[], 0, []⟩ R := by
  refine KB_of_WYB hmX hcR 3000 Tryz.func43 rfl (see (p := La 0 [(1 : Tmp), (6 : Tmp), (9 : Tmp), (10 : Tmp), (11 : Tmp)] (WY Tryz.prog cfR 2994 (Env.mk (Bs.mk 0 []) 0 none 52 43 0) (cdAt [1, 1, 0, 1, 0, 0] (bodyOf Tryz.f43))) (Qblk 0 (Qthen (WY Tryz.prog cfR 2997 (Env.mk (Bs.mk 0 []) 0 none 52 43 0) (cdAt [1, 1, 1] (bodyOf Tryz.f43)) (QendX Tryz.prog Tryz.f43 fun v h' => dataT 0 (gcH 0 v h') v R)) (QendX Tryz.prog Tryz.f43 fun v h' => dataT 0 (gcH 0 v h') v R))) (St.mk (mkT [(1, V.lst 3 (itl b)), (6, nilS), (9, V.lst 3 (itl a)), (10, iv (↑(itl a).length : Int)), (11, iv (0 : Int))]) (Hp.mk [] 0 []))) (by kernel_rfl) ?_)
  refine La.of (σ := List It × List It × Nat) (fun s => sh41 a s) (fun s => (∀ y ∈ s.1, Nok y) ∧ s.2.1.length ≤ s.2.2 ∧ s.2.2 ≤ a.length ∧ restF a b = (restF (a.drop s.2.2) s.1).map fun p => (s.2.1 ++ p.1, p.2)) (fun s => a.length - s.2.2) (b, [], 0) (by kernel_rfl) ⟨hb, by simp, by simp, by simp⟩ ?_
  rintro ⟨o, l, k⟩ ⟨h1, h2, h3, h4⟩ J hJ
  simp only at h1 h2 h3 h4
  by_cases hlt : k < a.length
  · obtain ⟨x, hx⟩ : ∃ x, a[k]? = some x := ⟨a[k], by simp [hlt]⟩
    have hxm : Nok x := ha x (List.mem_of_getElem? hx)
    have hd : a.drop k = x :: a.drop (k + 1) := by
      have := List.drop_eq_getElem_cons hlt
      rw [this]; congr 1; simpa [hlt] using hx
    rw [hd] at h4
    simp only [restF] at h4
    have ⟨t1, t2, t3⟩ := takeF_ok hxm h1
    have bad : ∀ p : Int × List It, takeF x o = p → p.1 < 0 → R (.tup [nilS, bv false]) := by
      rintro p rfl hp
      rw [if_pos hp] at h4
      rw [h4] at h
      exact h
    have go : ∀ p : Int × List It, takeF x o = p → ¬ p.1 < 0 → J (sh41 a (p.2, l ++ keepF x p.1, k + 1)) := by
      rintro p rfl hp
      rw [if_neg hp] at h4
      refine hJ (_, _, k + 1) ⟨t3, ?_, (by simp only; omega), ?_⟩ (by simp only; omega)
      · have : (keepF x (takeF x o).1).length ≤ 1 := by unfold keepF; split <;> simp
        simp only [List.length_append]
        omega
      · simp only
        rw [h4, Option.map_map]
        congr 1
        funext q
        simp [List.append_assoc]
    have hw : IntKind.i64.wrap ((k : Int) + 1) = ((k + 1 : Nat) : Int) := wr1i hlt (by omega)
    by_cases hl : l = []
    · subst hl
      refine see (p := ifB (decide ((↑k : Int) < (↑(itl a).length : Int))) (onSome (itl a)[k]? fun row => onCons (List.drop 0 row) fun u r => onIntK IntKind.i64 u fun n => onCons r fun u r => onIntK IntKind.u8 u fun n_1 => onCons r fun u r => onIntK IntKind.i64 u fun n_2 => ifB (decide ((↑(itl o).length : Int) > (0 : Int))) (onSome (itl o)[0]? fun row => onCons (List.drop 0 row) fun u r => onIntK IntKind.i64 u fun n_3 => onCons r fun u r => onIntK IntKind.u8 u fun n_4 => onCons r fun u r => onIntK IntKind.i64 u fun n_5 => ifB (n_3 == n && (fun b => n_4 == n_1 && b) true) (onSome (itl o)[0]? fun row => onSome row[2]? fun v => onIntK IntKind.i64 v fun n_6 => need ((itl o).length ≤ (itl o).length) (need (1 ≤ (itl o).length) (ifB (decide (IntKind.i64.wrap (n_2 - n_6) < (0 : Int))) (R (V.tup [nilS, bv false])) (ifB (decide (IntKind.i64.wrap (n_2 - n_6) > (0 : Int))) (J (St.mk (mkT [(1, V.lst 3 (sub (itl o) 1 ((itl o).length - 1))), (6, V.sl (Id.p 0) 0 1), (9, V.lst 3 (itl a)), (10, iv (↑(itl a).length : Int)), (11, iv (IntKind.i64.wrap ((↑k : Int) + (1 : Int))))]) (Hp.mk [(0, O.rows 3 true [[iv n, V.raw (Value.int IntKind.u8 n_1), iv (IntKind.i64.wrap (n_2 - n_6))]])] 1 []))) (J (St.mk (mkT [(1, V.lst 3 (sub (itl o) 1 ((itl o).length - 1))), (6, nilS), (9, V.lst 3 (itl a)), (10, iv (↑(itl a).length : Int)), (11, iv (IntKind.i64.wrap ((↑k : Int) + (1 : Int))))]) (Hp.mk [] 0 []))))))) (ifB (decide (n_2 < (0 : Int))) (R (V.tup [nilS, bv false])) (ifB (decide (n_2 > (0 : Int))) (J (St.mk (mkT [(1, V.lst 3 (itl o)), (6, V.sl (Id.p 0) 0 1), (9, V.lst 3 (itl a)), (10, iv (↑(itl a).length : Int)), (11, iv (IntKind.i64.wrap ((↑k : Int) + (1 : Int))))]) (Hp.mk [(0, O.rows 3 true [[iv n, V.raw (Value.int IntKind.u8 n_1), iv n_2]])] 1 []))) (J (St.mk (mkT [(1, V.lst 3 (itl o)), (6, nilS), (9, V.lst 3 (itl a)), (10, iv (↑(itl a).length : Int)), (11, iv (IntKind.i64.wrap ((↑k : Int) + (1 : Int))))]) (Hp.mk [] 0 [])))))) (ifB (decide (n_2 < (0 : Int))) (R (V.tup [nilS, bv false])) (ifB (decide (n_2 > (0 : Int))) (J (St.mk (mkT [(1, V.lst 3 (itl o)), (6, V.sl (Id.p 0) 0 1), (9, V.lst 3 (itl a)), (10, iv (↑(itl a).length : Int)), (11, iv (IntKind.i64.wrap ((↑k : Int) + (1 : Int))))]) (Hp.mk [(0, O.rows 3 true [[iv n, V.raw (Value.int IntKind.u8 n_1), iv n_2]])] 1 []))) (J (St.mk (mkT [(1, V.lst 3 (itl o)), (6, nilS), (9, V.lst 3 (itl a)), (10, iv (↑(itl a).length : Int)), (11, iv (IntKind.i64.wrap ((↑k : Int) + (1 : Int))))]) (Hp.mk [] 0 [])))))) (R (V.tup [nilS, bv ((↑(itl o).length : Int) == (0 : Int))]))) (by kernel_rfl) ?_
      rw [itl_length, itl_length, hw]
      refine ifB_t (by simpa using hlt) ?_
      refine onSome_mk (x := itm x) (by simp [itl, hx]) (onCons_cons (onIntK_iv (onCons_cons (onIntK_u8 (onCons_cons (onIntK_iv ?_))))))
      have fin : ∀ p : Int × List It, takeF x o = p → ∀ (m : Int) (o' : List (List V)), m = p.1 → o' = itl p.2 → ifB (decide (m < 0)) (R (V.tup [nilS, bv false])) (ifB (decide (m > 0)) (J (St.mk (mkT [(1, V.lst 3 o'), (6, V.sl (Id.p 0) 0 1), (9, V.lst 3 (itl a)), (10, iv (a.length : Int)), (11, iv ((k + 1 : Nat) : Int))]) (Hp.mk [(0, O.rows 3 true [[iv x.1, V.raw (Value.int IntKind.u8 x.2.1), iv m]])] 1 []))) (J (St.mk (mkT [(1, V.lst 3 o'), (6, nilS), (9, V.lst 3 (itl a)), (10, iv (a.length : Int)), (11, iv ((k + 1 : Nat) : Int))]) (Hp.mk [] 0 [])))) := by
        rintro p hp m o' rfl rfl
        refine ifB_mk (fun hc => bad p hp (of_decide_eq_true hc)) (fun hc => ?_)
        have g := go p hp (of_decide_eq_false hc)
        refine ifB_mk (fun hd => ?_) (fun hd => ?_)
        · rw [show keepF x p.1 = [(x.1, x.2.1, p.1)] from if_pos (of_decide_eq_true hd)] at g
          exact hJ' (by simp [sh41, sh41b, itl, itm, u8v]) g
        · rw [show keepF x p.1 = [] from if_neg (of_decide_eq_false hd)] at g
          exact hJ' (by simp [sh41, sh41a, itl_length]) g
      refine ifB_mk (fun ho => ?_) (fun ho => ?_)
      · obtain ⟨y, t, rfl⟩ : ∃ y t, o = y :: t := by cases o with | nil => simp at ho | cons y t => exact ⟨y, t, rfl⟩
        refine onSome_mk (x := itm y) (by simp [itl]) (onCons_cons (onIntK_iv (onCons_cons (onIntK_u8 (onCons_cons (onIntK_iv ?_))))))
        refine ifB_mk (fun he => ?_) (fun he => ?_)
        · refine onSome_mk (x := itm y) (by simp [itl]) (onSome_mk (x := iv y.2.2) rfl (onIntK_iv (need_mk ⟨Nat.le_refl _, need_mk ⟨by simp, ?_⟩⟩)))
          have hy := h1 y (by simp)
          rw [wr (by have := hxm.1; have := hy.2; omega) (by have := hxm.2; have := hy.1; omega)]
          exact fin (x.2.2 - y.2.2, t) (if_pos (eqP.1 he)) _ _ rfl (by rw [show itl (y :: t) = itm y :: itl t from rfl, ← itl_length (y :: t)]; exact sub_tl _ _)
        · exact fin (x.2.2, y :: t) (if_neg (fun e => by rw [eqP.2 e] at he; cases he)) _ _ rfl rfl
      · obtain rfl : o = [] := by cases o with | nil => rfl | cons y t => simp at ho
        exact fin (x.2.2, []) rfl _ _ rfl rfl
    · rw [sh41_b hl]
      refine see (p := ifB (decide ((↑k : Int) < (↑(itl a).length : Int))) (onSome (itl a)[k]? fun row => onCons (List.drop 0 row) fun u r => onIntK IntKind.i64 u fun n => onCons r fun u r => onIntK IntKind.u8 u fun n_1 => onCons r fun u r => onIntK IntKind.i64 u fun n_2 => ifB (decide ((↑(itl o).length : Int) > (0 : Int))) (onSome (itl o)[0]? fun row => onCons (List.drop 0 row) fun u r => onIntK IntKind.i64 u fun n_3 => onCons r fun u r => onIntK IntKind.u8 u fun n_4 => onCons r fun u r => onIntK IntKind.i64 u fun n_5 => ifB (n_3 == n && (fun b => n_4 == n_1 && b) true) (onSome (itl o)[0]? fun row => onSome row[2]? fun v => onIntK IntKind.i64 v fun n_6 => need ((itl o).length ≤ (itl o).length) (need (1 ≤ (itl o).length) (ifB (decide (IntKind.i64.wrap (n_2 - n_6) < (0 : Int))) (R (V.tup [nilS, bv false])) (ifB (decide (IntKind.i64.wrap (n_2 - n_6) > (0 : Int))) (need ((l.length + 1) * 24 ≤ 140737488355328) (J (St.mk (mkT [(1, V.lst 3 (sub (itl o) 1 ((itl o).length - 1))), (6, V.sl (Id.p 0) 0 (l.length + 1)), (9, V.lst 3 (itl a)), (10, iv (↑(itl a).length : Int)), (11, iv (IntKind.i64.wrap ((↑k : Int) + (1 : Int))))]) (Hp.mk [(0, O.rows 3 true (List.take l.length (itl l) ++ [[iv n, V.raw (Value.int IntKind.u8 n_1), iv (IntKind.i64.wrap (n_2 - n_6))]]))] 1 [])))) (J (St.mk (mkT [(1, V.lst 3 (sub (itl o) 1 ((itl o).length - 1))), (6, V.sl (Id.p 0) 0 l.length), (9, V.lst 3 (itl a)), (10, iv (↑(itl a).length : Int)), (11, iv (IntKind.i64.wrap ((↑k : Int) + (1 : Int))))]) (Hp.mk [(0, O.rows 3 true (itl l))] 1 []))))))) (ifB (decide (n_2 < (0 : Int))) (R (V.tup [nilS, bv false])) (ifB (decide (n_2 > (0 : Int))) (need ((l.length + 1) * 24 ≤ 140737488355328) (J (St.mk (mkT [(1, V.lst 3 (itl o)), (6, V.sl (Id.p 0) 0 (l.length + 1)), (9, V.lst 3 (itl a)), (10, iv (↑(itl a).length : Int)), (11, iv (IntKind.i64.wrap ((↑k : Int) + (1 : Int))))]) (Hp.mk [(0, O.rows 3 true (List.take l.length (itl l) ++ [[iv n, V.raw (Value.int IntKind.u8 n_1), iv n_2]]))] 1 [])))) (J (St.mk (mkT [(1, V.lst 3 (itl o)), (6, V.sl (Id.p 0) 0 l.length), (9, V.lst 3 (itl a)), (10, iv (↑(itl a).length : Int)), (11, iv (IntKind.i64.wrap ((↑k : Int) + (1 : Int))))]) (Hp.mk [(0, O.rows 3 true (itl l))] 1 [])))))) (ifB (decide (n_2 < (0 : Int))) (R (V.tup [nilS, bv false])) (ifB (decide (n_2 > (0 : Int))) (need ((l.length + 1) * 24 ≤ 140737488355328) (J (St.mk (mkT [(1, V.lst 3 (itl o)), (6, V.sl (Id.p 0) 0 (l.length + 1)), (9, V.lst 3 (itl a)), (10, iv (↑(itl a).length : Int)), (11, iv (IntKind.i64.wrap ((↑k : Int) + (1 : Int))))]) (Hp.mk [(0, O.rows 3 true (List.take l.length (itl l) ++ [[iv n, V.raw (Value.int IntKind.u8 n_1), iv n_2]]))] 1 [])))) (J (St.mk (mkT [(1, V.lst 3 (itl o)), (6, V.sl (Id.p 0) 0 l.length), (9, V.lst 3 (itl a)), (10, iv (↑(itl a).length : Int)), (11, iv (IntKind.i64.wrap ((↑k : Int) + (1 : Int))))]) (Hp.mk [(0, O.rows 3 true (itl l))] 1 [])))))) (R (V.tup [V.lst 3 (sub (itl l) 0 l.length), bv ((↑(itl o).length : Int) == (0 : Int))]))) (by kernel_rfl) ?_
      rw [itl_length, itl_length, itl_take, hw]
      refine ifB_t (by simpa using hlt) ?_
      refine onSome_mk (x := itm x) (by simp [itl, hx]) (onCons_cons (onIntK_iv (onCons_cons (onIntK_u8 (onCons_cons (onIntK_iv ?_))))))
      have fin : ∀ p : Int × List It, takeF x o = p → ∀ (m : Int) (o' : List (List V)), m = p.1 → o' = itl p.2 → ifB (decide (m < 0)) (R (V.tup [nilS, bv false])) (ifB (decide (m > 0)) (need ((l.length + 1) * 24 ≤ 140737488355328) (J (St.mk (mkT [(1, V.lst 3 o'), (6, V.sl (Id.p 0) 0 (l.length + 1)), (9, V.lst 3 (itl a)), (10, iv (a.length : Int)), (11, iv ((k + 1 : Nat) : Int))]) (Hp.mk [(0, O.rows 3 true (itl l ++ [[iv x.1, V.raw (Value.int IntKind.u8 x.2.1), iv m]]))] 1 [])))) (J (St.mk (mkT [(1, V.lst 3 o'), (6, V.sl (Id.p 0) 0 l.length), (9, V.lst 3 (itl a)), (10, iv (a.length : Int)), (11, iv ((k + 1 : Nat) : Int))]) (Hp.mk [(0, O.rows 3 true (itl l))] 1 [])))) := by
        rintro p hp m o' rfl rfl
        refine ifB_mk (fun hc => bad p hp (of_decide_eq_true hc)) (fun hc => ?_)
        have g := go p hp (of_decide_eq_false hc)
        refine ifB_mk (fun hd => need_mk ⟨by omega, ?_⟩) (fun hd => ?_)
        · rw [show keepF x p.1 = [(x.1, x.2.1, p.1)] from if_pos (of_decide_eq_true hd), sh41_b (by simp)] at g
          exact hJ' (by simp [sh41b, itl, itm, u8v]) g
        · rw [show keepF x p.1 = [] from if_neg (of_decide_eq_false hd), List.append_nil, sh41_b hl] at g
          exact hJ' (by simp [sh41b, itl_length]) g
      refine ifB_mk (fun ho => ?_) (fun ho => ?_)
      · obtain ⟨y, t, rfl⟩ : ∃ y t, o = y :: t := by cases o with | nil => simp at ho | cons y t => exact ⟨y, t, rfl⟩
        refine onSome_mk (x := itm y) (by simp [itl]) (onCons_cons (onIntK_iv (onCons_cons (onIntK_u8 (onCons_cons (onIntK_iv ?_))))))
        refine ifB_mk (fun he => ?_) (fun he => ?_)
        · refine onSome_mk (x := itm y) (by simp [itl]) (onSome_mk (x := iv y.2.2) rfl (onIntK_iv (need_mk ⟨Nat.le_refl _, need_mk ⟨by simp, ?_⟩⟩)))
          have hy := h1 y (by simp)
          rw [wr (by have := hxm.1; have := hy.2; omega) (by have := hxm.2; have := hy.1; omega)]
          exact fin (x.2.2 - y.2.2, t) (if_pos (eqP.1 he)) _ _ rfl (by rw [show itl (y :: t) = itm y :: itl t from rfl, ← itl_length (y :: t)]; exact sub_tl _ _)
        · exact fin (x.2.2, y :: t) (if_neg (fun e => by rw [eqP.2 e] at he; cases he)) _ _ rfl rfl
      · obtain rfl : o = [] := by cases o with | nil => rfl | cons y t => simp at ho
        exact fin (x.2.2, []) rfl _ _ rfl rfl
  · have hd : a.drop k = [] := List.drop_eq_nil_of_le (by omega)
    rw [hd] at h4
    simp only [restF, Option.map_some, List.append_nil] at h4
    rw [h4] at h
    by_cases hl : l = []
    · subst hl
      refine see (p := ifB (decide ((↑k : Int) < (↑(itl a).length : Int))) (onSome (itl a)[k]? fun row => onCons (List.drop 0 row) fun u r => onIntK IntKind.i64 u fun n => onCons r fun u r => onIntK IntKind.u8 u fun n_1 => onCons r fun u r => onIntK IntKind.i64 u fun n_2 => ifB (decide ((↑(itl o).length : Int) > (0 : Int))) (onSome (itl o)[0]? fun row => onCons (List.drop 0 row) fun u r => onIntK IntKind.i64 u fun n_3 => onCons r fun u r => onIntK IntKind.u8 u fun n_4 => onCons r fun u r => onIntK IntKind.i64 u fun n_5 => ifB (n_3 == n && (fun b => n_4 == n_1 && b) true) (onSome (itl o)[0]? fun row => onSome row[2]? fun v => onIntK IntKind.i64 v fun n_6 => need ((itl o).length ≤ (itl o).length) (need (1 ≤ (itl o).length) (ifB (decide (IntKind.i64.wrap (n_2 - n_6) < (0 : Int))) (R (V.tup [nilS, bv false])) (ifB (decide (IntKind.i64.wrap (n_2 - n_6) > (0 : Int))) (J (St.mk (mkT [(1, V.lst 3 (sub (itl o) 1 ((itl o).length - 1))), (6, V.sl (Id.p 0) 0 1), (9, V.lst 3 (itl a)), (10, iv (↑(itl a).length : Int)), (11, iv (IntKind.i64.wrap ((↑k : Int) + (1 : Int))))]) (Hp.mk [(0, O.rows 3 true [[iv n, V.raw (Value.int IntKind.u8 n_1), iv (IntKind.i64.wrap (n_2 - n_6))]])] 1 []))) (J (St.mk (mkT [(1, V.lst 3 (sub (itl o) 1 ((itl o).length - 1))), (6, nilS), (9, V.lst 3 (itl a)), (10, iv (↑(itl a).length : Int)), (11, iv (IntKind.i64.wrap ((↑k : Int) + (1 : Int))))]) (Hp.mk [] 0 []))))))) (ifB (decide (n_2 < (0 : Int))) (R (V.tup [nilS, bv false])) (ifB (decide (n_2 > (0 : Int))) (J (St.mk (mkT [(1, V.lst 3 (itl o)), (6, V.sl (Id.p 0) 0 1), (9, V.lst 3 (itl a)), (10, iv (↑(itl a).length : Int)), (11, iv (IntKind.i64.wrap ((↑k : Int) + (1 : Int))))]) (Hp.mk [(0, O.rows 3 true [[iv n, V.raw (Value.int IntKind.u8 n_1), iv n_2]])] 1 []))) (J (St.mk (mkT [(1, V.lst 3 (itl o)), (6, nilS), (9, V.lst 3 (itl a)), (10, iv (↑(itl a).length : Int)), (11, iv (IntKind.i64.wrap ((↑k : Int) + (1 : Int))))]) (Hp.mk [] 0 [])))))) (ifB (decide (n_2 < (0 : Int))) (R (V.tup [nilS, bv false])) (ifB (decide (n_2 > (0 : Int))) (J (St.mk (mkT [(1, V.lst 3 (itl o)), (6, V.sl (Id.p 0) 0 1), (9, V.lst 3 (itl a)), (10, iv (↑(itl a).length : Int)), (11, iv (IntKind.i64.wrap ((↑k : Int) + (1 : Int))))]) (Hp.mk [(0, O.rows 3 true [[iv n, V.raw (Value.int IntKind.u8 n_1), iv n_2]])] 1 []))) (J (St.mk (mkT [(1, V.lst 3 (itl o)), (6, nilS), (9, V.lst 3 (itl a)), (10, iv (↑(itl a).length : Int)), (11, iv (IntKind.i64.wrap ((↑k : Int) + (1 : Int))))]) (Hp.mk [] 0 [])))))) (R (V.tup [nilS, bv ((↑(itl o).length : Int) == (0 : Int))]))) (by kernel_rfl) ?_
      rw [itl_length, itl_length]
      refine ifB_f (by simpa using hlt) ?_
      have : ((o.length : Int) == 0) = o.isEmpty := by cases o <;> simp; omega
      rw [this]; exact h
    · rw [sh41_b hl]
      refine see (p := ifB (decide ((↑k : Int) < (↑(itl a).length : Int))) (onSome (itl a)[k]? fun row => onCons (List.drop 0 row) fun u r => onIntK IntKind.i64 u fun n => onCons r fun u r => onIntK IntKind.u8 u fun n_1 => onCons r fun u r => onIntK IntKind.i64 u fun n_2 => ifB (decide ((↑(itl o).length : Int) > (0 : Int))) (onSome (itl o)[0]? fun row => onCons (List.drop 0 row) fun u r => onIntK IntKind.i64 u fun n_3 => onCons r fun u r => onIntK IntKind.u8 u fun n_4 => onCons r fun u r => onIntK IntKind.i64 u fun n_5 => ifB (n_3 == n && (fun b => n_4 == n_1 && b) true) (onSome (itl o)[0]? fun row => onSome row[2]? fun v => onIntK IntKind.i64 v fun n_6 => need ((itl o).length ≤ (itl o).length) (need (1 ≤ (itl o).length) (ifB (decide (IntKind.i64.wrap (n_2 - n_6) < (0 : Int))) (R (V.tup [nilS, bv false])) (ifB (decide (IntKind.i64.wrap (n_2 - n_6) > (0 : Int))) (need ((l.length + 1) * 24 ≤ 140737488355328) (J (St.mk (mkT [(1, V.lst 3 (sub (itl o) 1 ((itl o).length - 1))), (6, V.sl (Id.p 0) 0 (l.length + 1)), (9, V.lst 3 (itl a)), (10, iv (↑(itl a).length : Int)), (11, iv (IntKind.i64.wrap ((↑k : Int) + (1 : Int))))]) (Hp.mk [(0, O.rows 3 true (List.take l.length (itl l) ++ [[iv n, V.raw (Value.int IntKind.u8 n_1), iv (IntKind.i64.wrap (n_2 - n_6))]]))] 1 [])))) (J (St.mk (mkT [(1, V.lst 3 (sub (itl o) 1 ((itl o).length - 1))), (6, V.sl (Id.p 0) 0 l.length), (9, V.lst 3 (itl a)), (10, iv (↑(itl a).length : Int)), (11, iv (IntKind.i64.wrap ((↑k : Int) + (1 : Int))))]) (Hp.mk [(0, O.rows 3 true (itl l))] 1 []))))))) (ifB (decide (n_2 < (0 : Int))) (R (V.tup [nilS, bv false])) (ifB (decide (n_2 > (0 : Int))) (need ((l.length + 1) * 24 ≤ 140737488355328) (J (St.mk (mkT [(1, V.lst 3 (itl o)), (6, V.sl (Id.p 0) 0 (l.length + 1)), (9, V.lst 3 (itl a)), (10, iv (↑(itl a).length : Int)), (11, iv (IntKind.i64.wrap ((↑k : Int) + (1 : Int))))]) (Hp.mk [(0, O.rows 3 true (List.take l.length (itl l) ++ [[iv n, V.raw (Value.int IntKind.u8 n_1), iv n_2]]))] 1 [])))) (J (St.mk (mkT [(1, V.lst 3 (itl o)), (6, V.sl (Id.p 0) 0 l.length), (9, V.lst 3 (itl a)), (10, iv (↑(itl a).length : Int)), (11, iv (IntKind.i64.wrap ((↑k : Int) + (1 : Int))))]) (Hp.mk [(0, O.rows 3 true (itl l))] 1 [])))))) (ifB (decide (n_2 < (0 : Int))) (R (V.tup [nilS, bv false])) (ifB (decide (n_2 > (0 : Int))) (need ((l.length + 1) * 24 ≤ 140737488355328) (J (St.mk (mkT [(1, V.lst 3 (itl o)), (6, V.sl (Id.p 0) 0 (l.length + 1)), (9, V.lst 3 (itl a)), (10, iv (↑(itl a).length : Int)), (11, iv (IntKind.i64.wrap ((↑k : Int) + (1 : Int))))]) (Hp.mk [(0, O.rows 3 true (List.take l.length (itl l) ++ [[iv n, V.raw (Value.int IntKind.u8 n_1), iv n_2]]))] 1 [])))) (J (St.mk (mkT [(1, V.lst 3 (itl o)), (6, V.sl (Id.p 0) 0 l.length), (9, V.lst 3 (itl a)), (10, iv (↑(itl a).length : Int)), (11, iv (IntKind.i64.wrap ((↑k : Int) + (1 : Int))))]) (Hp.mk [(0, O.rows 3 true (itl l))] 1 [])))))) (R (V.tup [V.lst 3 (sub (itl l) 0 l.length), bv ((↑(itl o).length : Int) == (0 : Int))]))) (by kernel_rfl) ?_
      rw [itl_length, itl_length]
      refine ifB_f (by simpa using hlt) ?_
      have : ((o.length : Int) == 0) = o.isEmpty := by cases o <;> simp; omega
      rw [this, ← itl_length l, sub_all, ← lsI_b hl]; exact h
theorem Stk.nok {l : List It} (h : Stk l) : ∀ x ∈ l, Nok x := fun x hx => ⟨by have := (h.2.2.2 x hx).1; omega, by have := (h.2.2.2 x hx).2; omega⟩
theorem lsI_l {l : List It} {k : Nat → List (List V) → Prop} (h : ∀ d, (d = 3 ∨ (l = [] ∧ d = 0)) → k d (itl l)) : onLst (lsI l) k := by
  cases l with
  | nil => exact h 0 (.inr ⟨rfl, rfl⟩)
  | cons x r => exact h 3 (.inl rfl)
def takeV (a b : List It) : V := match restF a b with
  | some (l, []) => .tup [.lst 3 (itl l), iv 0]
  | _ => .tup [nilS, iv 6]
theorem take11 {a b : List It} {R : V → Prop} (hla : a.length ≤ 1000) (h8 : ¬ (Stk a ∧ Stk b) → R (.tup [nilS, iv 8])) (h : Stk a → Stk b → R (takeV a b)) : KB Tryz.prog glX 10 [.lst 3 (itl a), .lst 3 (itl b)] ⟨[], 0, []⟩ R := by
  refine KB_of_WYB hmX hcT 3000 Tryz.func10 rfl (see (p := K0G Tryz.prog glX 26 [V.lst 3 (itl a)] fun v => onIntK IntKind.i64 v fun n => ifB (n != (0 : Int)) (ifB (n != (0 : Int)) (R (V.tup [nilS, iv n])) (KB Tryz.prog glX 43 [V.lst 3 (itl a), V.lst 3 (itl b)] (Hp.mk [] 0 []) fun v => onTup v fun vs => onCons vs fun u r => onLst u fun s es => guardB (s.beq 3 || s.beq 0) (onCons r fun u r => onBool u fun b => onNil r (ifB (!b) (R (V.tup [nilS, iv (6 : Int)])) (R (V.tup [V.lst 3 (sub es 0 es.length), iv (0 : Int)])))))) (K0G Tryz.prog glX 26 [V.lst 3 (itl b)] fun v => onIntK IntKind.i64 v fun n => ifB (n != (0 : Int)) (ifB (n != (0 : Int)) (R (V.tup [nilS, iv n])) (KB Tryz.prog glX 43 [V.lst 3 (itl a), V.lst 3 (itl b)] (Hp.mk [] 0 []) fun v => onTup v fun vs => onCons vs fun u r => onLst u fun s es => guardB (s.beq 3 || s.beq 0) (onCons r fun u r => onBool u fun b => onNil r (ifB (!b) (R (V.tup [nilS, iv (6 : Int)])) (R (V.tup [V.lst 3 (sub es 0 es.length), iv (0 : Int)])))))) (KB Tryz.prog glX 43 [V.lst 3 (itl a), V.lst 3 (itl b)] (Hp.mk [] 0 []) fun v => onTup v fun vs => onCons vs fun u r => onLst u fun s es => guardB (s.beq 3 || s.beq 0) (onCons r fun u r => onBool u fun b => onNil r (ifB (!b) (R (V.tup [nilS, iv (6 : Int)])) (R (V.tup [V.lst 3 (sub es 0 es.length), iv (0 : Int)]))))))) (by kernel_rfl) ?_)
  have hX : Stk a → Stk b → (KB Tryz.prog glX 43 [V.lst 3 (itl a), V.lst 3 (itl b)] (Hp.mk [] 0 []) fun v => onTup v fun vs => onCons vs fun u r => onLst u fun s es => guardB (s.beq 3 || s.beq 0) (onCons r fun u r => onBool u fun b => onNil r (ifB (!b) (R (V.tup [nilS, iv (6 : Int)])) (R (V.tup [V.lst 3 (sub es 0 es.length), iv (0 : Int)])))) : Prop) := by
    intro sa sb
    have h := h sa sb
    refine rest41 sa.nok sb.nok (by omega) ?_
    unfold takeV at h
    cases hr : restF a b with
    | none =>
      rw [hr] at h
      exact onTup_tup (onCons_cons (onLst_nil (guardB_mk rfl (onCons_cons (onBool_bv (onNil_nil (ifB_t rfl h)))))))
    | some p =>
      obtain ⟨l, o⟩ := p
      rw [hr] at h
      refine onTup_tup (onCons_cons (lsI_l (fun d hd => guardB_mk (by rcases hd with rfl | ⟨_, rfl⟩ <;> rfl) ?_)))
      cases o with
      | nil =>
        refine onCons_cons (onBool_bv (onNil_nil (ifB_f rfl ?_)))
        rw [sub_all]
        exact h
      | cons y o => exact onCons_cons (onBool_bv (onNil_nil (ifB_t rfl h)))
  refine check13 (onIntK_iv ?_)
  by_cases sa : Stk a
  · rw [stkE, if_pos (dc_t sa)]
    refine ifB_f rfl (check13 (onIntK_iv ?_))
    by_cases sb : Stk b
    · rw [stkE, if_pos (dc_t sb)]
      exact ifB_f rfl (hX sa sb)
    · rw [stkE, if_neg (by rw [dc_f sb]; simp)]
      exact ifB_t rfl (ifB_t rfl (h8 (fun q => sb q.2)))
  · rw [stkE, if_neg (by rw [dc_f sa]; simp)]
    exact ifB_t rfl (ifB_t rfl (h8 (fun q => sa q.1)))
end Go.Proofs.YtmddjopahcbefaaGreat
namespace Go.Proofs.YtmddjopahcbefaaGreat
open Go Go.Proofs.YtmddjopahcbefaaGreat.Clean
set_option linter.unusedVariables false
set_option linter.unusedSimpArgs false
set_option maxRecDepth 10000
def AddR (a b x : List It) (e : Int) : Prop := (¬ (Stk a ∧ Stk b) ∧ x = [] ∧ e = 8) ∨ (Stk a ∧ Stk b ∧ ∃ m, G m ∧ (∀ p q, hasF m p q = hasF a p q + hasF b p q) ∧ ((Stk m ∧ x = m ∧ e = 0) ∨ (¬ Stk m ∧ x = [] ∧ e = 4)))
theorem AddR.uniq {a b x y : List It} {e f : Int} (h : AddR a b x e) (g : AddR a b y f) : x = y ∧ e = f := by
  rcases h with ⟨h1, rfl, rfl⟩ | ⟨h1, h2, m, h3, h4, h5⟩ <;> rcases g with ⟨g1, rfl, rfl⟩ | ⟨g1, g2, n, g3, g4, g5⟩
  · exact ⟨rfl, rfl⟩
  · exact (h1 ⟨g1, g2⟩).elim
  · exact (g1 ⟨h1, h2⟩).elim
  · have : m = n := g_ext h3 g3 (fun p q => (h4 p q).trans (g4 p q).symm)
    subst this
    rcases h5 with ⟨q1, rfl, rfl⟩ | ⟨q1, rfl, rfl⟩ <;> rcases g5 with ⟨r1, rfl, rfl⟩ | ⟨r1, rfl, rfl⟩
    · exact ⟨rfl, rfl⟩
    · exact (r1 q1).elim
    · exact (q1 r1).elim
    · exact ⟨rfl, rfl⟩
def TakR (a b x : List It) (e : Int) : Prop := (¬ (Stk a ∧ Stk b) ∧ x = [] ∧ e = 8) ∨ (Stk a ∧ Stk b ∧ (((∀ p q, hasF b p q ≤ hasF a p q) ∧ G x ∧ (∀ p q, hasF x p q = hasF a p q - hasF b p q) ∧ e = 0) ∨ (¬ (∀ p q, hasF b p q ≤ hasF a p q) ∧ x = [] ∧ e = 6)))
theorem TakR.uniq {a b x y : List It} {e f : Int} (h : TakR a b x e) (g : TakR a b y f) : x = y ∧ e = f := by
  rcases h with ⟨h1, rfl, rfl⟩ | ⟨h1, h2, h5⟩ <;> rcases g with ⟨g1, rfl, rfl⟩ | ⟨g1, g2, g5⟩
  · exact ⟨rfl, rfl⟩
  · exact (h1 ⟨g1, g2⟩).elim
  · exact (g1 ⟨h1, h2⟩).elim
  · rcases h5 with ⟨q1, q2, q3, rfl⟩ | ⟨q1, rfl, rfl⟩ <;> rcases g5 with ⟨r1, r2, r3, rfl⟩ | ⟨r1, rfl, rfl⟩
    · exact ⟨g_ext q2 r2 (fun p q => (q3 p q).trans (r3 p q).symm), rfl⟩
    · exact (r1 q1).elim
    · exact (q1 r1).elim
    · exact ⟨rfl, rfl⟩
def isX (X : V) (x : List It) : Prop := X = lsI x ∨ ∃ d, (d = 3 ∨ (x = [] ∧ d = 0)) ∧ X = .lst d (itl x)
theorem onLst_isX {X : V} {x : List It} {k : Nat → List (List V) → Prop} (hX : isX X x) (h : ∀ d, (d = 3 ∨ (x = [] ∧ d = 0)) → k d (itl x)) : onLst X k := by
  rcases hX with rfl | ⟨d, hd, rfl⟩
  · exact lsI_l h
  · exact h d hd
theorem add9r {a b : List It} {R : V → Prop} (hla : a.length ≤ 1000) (hlb : b.length ≤ 1000) (h : ∀ x e X, AddR a b x e → isX X x → R (.tup [X, iv e])) : KB Tryz.prog glX 18 [.lst 3 (itl a), .lst 3 (itl b)] ⟨[], 0, []⟩ R := by
  refine add9 hla hlb (fun hn => h [] 8 _ (.inl ⟨hn, rfl, rfl⟩) (.inl rfl)) (fun sa sb m hG hO hs => ?_)
  unfold addR
  by_cases hst : Stk m
  · rw [if_pos (dc_t hst)]
    exact h m 0 _ (.inr ⟨sa, sb, m, hG, hs, .inl ⟨hst, rfl, rfl⟩⟩) (.inl rfl)
  · rw [if_neg (by rw [dc_f hst]; simp)]
    exact h [] 4 _ (.inr ⟨sa, sb, m, hG, hs, .inr ⟨hst, rfl, rfl⟩⟩) (.inl rfl)
theorem rest_len : ∀ {l o m p : List It}, restF l o = some (m, p) → m.length ≤ l.length
  | [], o, m, p, h => by simp only [restF, Option.some.injEq, Prod.mk.injEq] at h; obtain ⟨rfl, rfl⟩ := h; simp
  | x :: l, o, m, p, h => by
    simp only [restF] at h
    split at h
    · cases h
    · cases hr : restF l (takeF x o).2 with
      | none => rw [hr] at h; cases h
      | some q =>
        rw [hr] at h
        simp only [Option.map_some, Option.some.injEq, Prod.mk.injEq] at h
        obtain ⟨rfl, rfl⟩ := h
        have := rest_len (show restF l (takeF x o).2 = some (q.1, q.2) from hr)
        have hk : (keepF x (takeF x o).1).length ≤ 1 := by unfold keepF; split <;> simp
        rw [List.length_append, List.length_cons]
        omega
end Go.Proofs.YtmddjopahcbefaaGreat
namespace Go.Proofs.YtmddjopahcbefaaGreat
open Go Go.Proofs.YtmddjopahcbefaaGreat.Clean
set_option linter.unusedVariables false
set_option maxRecDepth 100000
def clX (g : FuncId) : Bool := !(inN [45, 93, 120, 94, 61, 58, 106, 116, 118, 121, 107, 126, 129, 104, 125, 132, 133, 134, 136, 137, 138, 139, 140, 141, 142, 143, 144, 145, 148, 149, 150, 151, 152, 153, 154, 155, 156, 157, 159, 160, 161, 162, 163, 164, 165, 166] g)
abbrev KFX (f : Fact) : Prop := K0G Tryz.prog glX f.g f.args fun v => v = f.r
def moS (f : FuncId) : Nat := bif inN [18, 10] f then 1 else 0
noncomputable def cfS : Cfg := { cfgG Tryz.prog glX moS postS rtS (inN [28]) (fun _ _ => none) with fz := fun f t => inN [4] f && inN [6, 8, 10, 12, 14] t }
end Go.Proofs.YtmddjopahcbefaaGreat
