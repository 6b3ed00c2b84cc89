/- What is left of a stock without another one; the list of a set. -/
import Derived.Test.YtmddjopahcbefaaGreatXNCA8
namespace Go.Proofs.YtmddjopahcbefaaGreat
open Go Go.Proofs.YtmddjopahcbefaaGreat.Clean
set_option linter.unusedVariables false
set_option linter.unusedSimpArgs false
set_option maxRecDepth 10000

theorem hJ' {J : St → Prop} {s s' : St} (he : s = s') (h : J s') : J s := he ▸ h
theorem itl_length (l : List It) : (itl l).length = l.length := by simp [itl]
theorem wr1i {i n : Nat} (h : i < n) (hn : (n : Int) ≤ 9223372036854775807) : IntKind.i64.wrap ((i : Int) + 1) = ((i + 1 : Nat) : Int) := by rw [wr (by omega) (by omega)]; simp
/-- An item's number is not great. -/
def Nok (x : It) : Prop := 0 ≤ x.2.2 ∧ x.2.2 ≤ 1000000
/-- How many of an item are left, and what is to be taken still. -/
def takeF (x : It) : List It → Int × List It
  | [] => (x.2.2, [])
  | y :: o => if y.1 = x.1 ∧ y.2.1 = x.2.1 then (x.2.2 - y.2.2, o) else (x.2.2, y :: o)
def keepF (x : It) (n : Int) : List It := if 0 < n then [(x.1, x.2.1, n)] else []
def restF : List It → List It → Option (List It × List It)
  | [], o => some ([], o)
  | x :: a, o => if (takeF x o).1 < 0 then none else (restF a (takeF x o).2).map fun p => (keepF x (takeF x o).1 ++ p.1, p.2)
def restV : Option (List It × List It) → V
  | none => .tup [nilS, bv false]
  | some (l, o) => .tup [lsI l, bv o.isEmpty]
theorem takeF_ok {x : It} {o : List It} (hx : Nok x) (ho : ∀ y ∈ o, Nok y) : -1000000 ≤ (takeF x o).1 ∧ (takeF x o).1 ≤ 1000000 ∧ ∀ y ∈ (takeF x o).2, Nok y := by
  cases o with
  | nil => exact ⟨by have := hx.1; show _ ≤ x.2.2; omega, hx.2, fun y h => by cases h⟩
  | cons y o =>
    have h1 := ho y (by simp)
    by_cases hc : y.1 = x.1 ∧ y.2.1 = x.2.1
    · rw [show takeF x (y :: o) = (x.2.2 - y.2.2, o) from if_pos hc]
      exact ⟨by have := hx.1; have := h1.2; show _ ≤ x.2.2 - y.2.2; omega, by have := hx.2; have := h1.1; show x.2.2 - y.2.2 ≤ _; omega, fun z hz => ho z (by simp [show z ∈ o from hz])⟩
    · rw [show takeF x (y :: o) = (x.2.2, y :: o) from if_neg hc]
      exact ⟨by have := hx.1; show _ ≤ x.2.2; omega, hx.2, ho⟩
theorem sub_all {α : Type} (l : List α) : sub l 0 l.length = l := by simp [sub]
theorem sub_tl {α : Type} (x : α) (l : List α) : sub (x :: l) 1 ((x :: l).length - 1) = l := by simp [sub]
theorem itl_take (l : List It) : List.take l.length (itl l) = itl l := by rw [← itl_length]; exact List.take_length
theorem sh43_b {a o l : List It} {k : Nat} (h : l ≠ []) : sh43 a (o, l, k) = sh43b a o l k := by cases l with | nil => exact (h rfl).elim | cons x r => rfl
theorem lsI_b {l : List It} (h : l ≠ []) : lsI l = .lst 3 (itl l) := by cases l with | nil => exact (h rfl).elim | cons x r => rfl
theorem eqP {x y : It} : (y.1 == x.1 && (fun b => y.2.1 == x.2.1 && b) true) = true ↔ y.1 = x.1 ∧ y.2.1 = x.2.1 := by simp
theorem rest43 {a b : List It} {R : V → Prop} (ha : ∀ x ∈ a, Nok x) (hb : ∀ x ∈ b, Nok x) (hla : a.length ≤ 1000000) (h : R (restV (restF a b))) : K0G Tryz.prog glX 43 [.lst 3 (itl a), .lst 3 (itl b)] R := by
  refine K0_of_WY0 hmX hcM 3000 Tryz.func43 (see (p := La 0 [(1 : Tmp), (6 : Tmp), (9 : Tmp), (10 : Tmp), (11 : Tmp)] (WY Tryz.prog cfM 2994 (Env.mk (Bs.mk 0 []) 0 none 52 43 0) (cdAt [1, 1, 0, 1, 0, 0] (bodyOf Tryz.f43))) (Qblk 0 (Qthen (WY Tryz.prog cfM 2997 (Env.mk (Bs.mk 0 []) 0 none 52 43 0) (cdAt [1, 1, 1] (bodyOf Tryz.f43)) (QendX Tryz.prog Tryz.f43 fun v h => R (frzW h v))) (QendX Tryz.prog Tryz.f43 fun v h => R (frzW h v)))) (St.mk (mkT [(1, V.lst 3 (itl b)), (6, nilS), (9, V.lst 3 (itl a)), (10, iv (↑(itl a).length : Int)), (11, iv (0 : Int))]) (Hp.mk [] 0 []))) (by kernel_rfl) ?_)
  refine La.of (σ := List It × List It × Nat) (fun s => sh43 a s) (fun s => (∀ y ∈ s.1, Nok y) ∧ s.2.1.length ≤ s.2.2 ∧ s.2.2 ≤ a.length ∧ restF a b = (restF (a.drop s.2.2) s.1).map fun p => (s.2.1 ++ p.1, p.2)) (fun s => a.length - s.2.2) (b, [], 0) (by kernel_rfl) ⟨hb, by simp, by simp, by simp⟩ ?_
  rintro ⟨o, l, k⟩ ⟨h1, h2, h3, h4⟩ J hJ
  simp only at h1 h2 h3 h4
  by_cases hlt : k < a.length
  · obtain ⟨x, hx⟩ : ∃ x, a[k]? = some x := ⟨a[k], by simp [hlt]⟩
    have hxm : Nok x := ha x (List.mem_of_getElem? hx)
    have hd : a.drop k = x :: a.drop (k + 1) := by
      have := List.drop_eq_getElem_cons hlt
      rw [this]; congr 1; simpa [hlt] using hx
    rw [hd] at h4
    simp only [restF] at h4
    have ⟨t1, t2, t3⟩ := takeF_ok hxm h1
    have bad : ∀ p : Int × List It, takeF x o = p → p.1 < 0 → R (.tup [nilS, bv false]) := by
      rintro p rfl hp
      rw [if_pos hp] at h4
      rw [h4] at h
      exact h
    have go : ∀ p : Int × List It, takeF x o = p → ¬ p.1 < 0 → J (sh43 a (p.2, l ++ keepF x p.1, k + 1)) := by
      rintro p rfl hp
      rw [if_neg hp] at h4
      refine hJ (_, _, k + 1) ⟨t3, ?_, (by simp only; omega), ?_⟩ (by simp only; omega)
      · have : (keepF x (takeF x o).1).length ≤ 1 := by unfold keepF; split <;> simp
        simp only [List.length_append]
        omega
      · simp only
        rw [h4, Option.map_map]
        congr 1
        funext q
        simp [List.append_assoc]
    have hw : IntKind.i64.wrap ((k : Int) + 1) = ((k + 1 : Nat) : Int) := wr1i hlt (by omega)
    by_cases hl : l = []
    · subst hl
      refine see (p := ifB (decide ((↑k : Int) < (↑(itl a).length : Int))) (onSome (itl a)[k]? fun row => onCons (List.drop 0 row) fun u r => onIntK IntKind.i64 u fun n => onCons r fun u r => onIntK IntKind.u8 u fun n_1 => onCons r fun u r => onIntK IntKind.i64 u fun n_2 => ifB (decide ((↑(itl o).length : Int) > (0 : Int))) (onSome (itl o)[0]? fun row => onCons (List.drop 0 row) fun u r => onIntK IntKind.i64 u fun n_3 => onCons r fun u r => onIntK IntKind.u8 u fun n_4 => onCons r fun u r => onIntK IntKind.i64 u fun n_5 => ifB (n_3 == n && (fun b => n_4 == n_1 && b) true) (onSome (itl o)[0]? fun row => onSome row[2]? fun v => onIntK IntKind.i64 v fun n_6 => need ((itl o).length ≤ (itl o).length) (need (1 ≤ (itl o).length) (ifB (decide (IntKind.i64.wrap (n_2 - n_6) < (0 : Int))) (R (V.tup [nilS, bv false])) (ifB (decide (IntKind.i64.wrap (n_2 - n_6) > (0 : Int))) (J (St.mk (mkT [(1, V.lst 3 (sub (itl o) 1 ((itl o).length - 1))), (6, V.sl (Id.p 0) 0 1), (9, V.lst 3 (itl a)), (10, iv (↑(itl a).length : Int)), (11, iv (IntKind.i64.wrap ((↑k : Int) + (1 : Int))))]) (Hp.mk [(0, O.rows 3 true [[iv n, V.raw (Value.int IntKind.u8 n_1), iv (IntKind.i64.wrap (n_2 - n_6))]])] 1 []))) (J (St.mk (mkT [(1, V.lst 3 (sub (itl o) 1 ((itl o).length - 1))), (6, nilS), (9, V.lst 3 (itl a)), (10, iv (↑(itl a).length : Int)), (11, iv (IntKind.i64.wrap ((↑k : Int) + (1 : Int))))]) (Hp.mk [] 0 []))))))) (ifB (decide (n_2 < (0 : Int))) (R (V.tup [nilS, bv false])) (ifB (decide (n_2 > (0 : Int))) (J (St.mk (mkT [(1, V.lst 3 (itl o)), (6, V.sl (Id.p 0) 0 1), (9, V.lst 3 (itl a)), (10, iv (↑(itl a).length : Int)), (11, iv (IntKind.i64.wrap ((↑k : Int) + (1 : Int))))]) (Hp.mk [(0, O.rows 3 true [[iv n, V.raw (Value.int IntKind.u8 n_1), iv n_2]])] 1 []))) (J (St.mk (mkT [(1, V.lst 3 (itl o)), (6, nilS), (9, V.lst 3 (itl a)), (10, iv (↑(itl a).length : Int)), (11, iv (IntKind.i64.wrap ((↑k : Int) + (1 : Int))))]) (Hp.mk [] 0 [])))))) (ifB (decide (n_2 < (0 : Int))) (R (V.tup [nilS, bv false])) (ifB (decide (n_2 > (0 : Int))) (J (St.mk (mkT [(1, V.lst 3 (itl o)), (6, V.sl (Id.p 0) 0 1), (9, V.lst 3 (itl a)), (10, iv (↑(itl a).length : Int)), (11, iv (IntKind.i64.wrap ((↑k : Int) + (1 : Int))))]) (Hp.mk [(0, O.rows 3 true [[iv n, V.raw (Value.int IntKind.u8 n_1), iv n_2]])] 1 []))) (J (St.mk (mkT [(1, V.lst 3 (itl o)), (6, nilS), (9, V.lst 3 (itl a)), (10, iv (↑(itl a).length : Int)), (11, iv (IntKind.i64.wrap ((↑k : Int) + (1 : Int))))]) (Hp.mk [] 0 [])))))) (R (V.tup [nilS, bv ((↑(itl o).length : Int) == (0 : Int))]))) (by kernel_rfl) ?_
      rw [itl_length, itl_length, hw]
      refine ifB_t (by simpa using hlt) ?_
      refine onSome_mk (x := itm x) (by simp [itl, hx]) (onCons_cons (onIntK_iv (onCons_cons (onIntK_u8 (onCons_cons (onIntK_iv ?_))))))
      have fin : ∀ p : Int × List It, takeF x o = p → ∀ (m : Int) (o' : List (List V)), m = p.1 → o' = itl p.2 → ifB (decide (m < 0)) (R (V.tup [nilS, bv false])) (ifB (decide (m > 0)) (J (St.mk (mkT [(1, V.lst 3 o'), (6, V.sl (Id.p 0) 0 1), (9, V.lst 3 (itl a)), (10, iv (a.length : Int)), (11, iv ((k + 1 : Nat) : Int))]) (Hp.mk [(0, O.rows 3 true [[iv x.1, V.raw (Value.int IntKind.u8 x.2.1), iv m]])] 1 []))) (J (St.mk (mkT [(1, V.lst 3 o'), (6, nilS), (9, V.lst 3 (itl a)), (10, iv (a.length : Int)), (11, iv ((k + 1 : Nat) : Int))]) (Hp.mk [] 0 [])))) := by
        rintro p hp m o' rfl rfl
        refine ifB_mk (fun hc => bad p hp (of_decide_eq_true hc)) (fun hc => ?_)
        have g := go p hp (of_decide_eq_false hc)
        refine ifB_mk (fun hd => ?_) (fun hd => ?_)
        · rw [show keepF x p.1 = [(x.1, x.2.1, p.1)] from if_pos (of_decide_eq_true hd)] at g
          exact hJ' (by simp [sh43, sh43b, itl, itm, u8v]) g
        · rw [show keepF x p.1 = [] from if_neg (of_decide_eq_false hd)] at g
          exact hJ' (by simp [sh43, sh43a, itl_length]) g
      refine ifB_mk (fun ho => ?_) (fun ho => ?_)
      · obtain ⟨y, t, rfl⟩ : ∃ y t, o = y :: t := by cases o with | nil => simp at ho | cons y t => exact ⟨y, t, rfl⟩
        refine onSome_mk (x := itm y) (by simp [itl]) (onCons_cons (onIntK_iv (onCons_cons (onIntK_u8 (onCons_cons (onIntK_iv ?_))))))
        refine ifB_mk (fun he => ?_) (fun he => ?_)
        · refine onSome_mk (x := itm y) (by simp [itl]) (onSome_mk (x := iv y.2.2) rfl (onIntK_iv (need_mk ⟨Nat.le_refl _, need_mk ⟨by simp, ?_⟩⟩)))
          have hy := h1 y (by simp)
          rw [wr (by have := hxm.1; have := hy.2; omega) (by have := hxm.2; have := hy.1; omega)]
          exact fin (x.2.2 - y.2.2, t) (if_pos (eqP.1 he)) _ _ rfl (by rw [show itl (y :: t) = itm y :: itl t from rfl, ← itl_length (y :: t)]; exact sub_tl _ _)
        · exact fin (x.2.2, y :: t) (if_neg (fun e => by rw [eqP.2 e] at he; cases he)) _ _ rfl rfl
      · obtain rfl : o = [] := by cases o with | nil => rfl | cons y t => simp at ho
        exact fin (x.2.2, []) rfl _ _ rfl rfl
    · rw [sh43_b hl]
      refine see (p := ifB (decide ((↑k : Int) < (↑(itl a).length : Int))) (onSome (itl a)[k]? fun row => onCons (List.drop 0 row) fun u r => onIntK IntKind.i64 u fun n => onCons r fun u r => onIntK IntKind.u8 u fun n_1 => onCons r fun u r => onIntK IntKind.i64 u fun n_2 => ifB (decide ((↑(itl o).length : Int) > (0 : Int))) (onSome (itl o)[0]? fun row => onCons (List.drop 0 row) fun u r => onIntK IntKind.i64 u fun n_3 => onCons r fun u r => onIntK IntKind.u8 u fun n_4 => onCons r fun u r => onIntK IntKind.i64 u fun n_5 => ifB (n_3 == n && (fun b => n_4 == n_1 && b) true) (onSome (itl o)[0]? fun row => onSome row[2]? fun v => onIntK IntKind.i64 v fun n_6 => need ((itl o).length ≤ (itl o).length) (need (1 ≤ (itl o).length) (ifB (decide (IntKind.i64.wrap (n_2 - n_6) < (0 : Int))) (R (V.tup [nilS, bv false])) (ifB (decide (IntKind.i64.wrap (n_2 - n_6) > (0 : Int))) (need ((l.length + 1) * 24 ≤ 140737488355328) (J (St.mk (mkT [(1, V.lst 3 (sub (itl o) 1 ((itl o).length - 1))), (6, V.sl (Id.p 0) 0 (l.length + 1)), (9, V.lst 3 (itl a)), (10, iv (↑(itl a).length : Int)), (11, iv (IntKind.i64.wrap ((↑k : Int) + (1 : Int))))]) (Hp.mk [(0, O.rows 3 true (List.take l.length (itl l) ++ [[iv n, V.raw (Value.int IntKind.u8 n_1), iv (IntKind.i64.wrap (n_2 - n_6))]]))] 1 [])))) (J (St.mk (mkT [(1, V.lst 3 (sub (itl o) 1 ((itl o).length - 1))), (6, V.sl (Id.p 0) 0 l.length), (9, V.lst 3 (itl a)), (10, iv (↑(itl a).length : Int)), (11, iv (IntKind.i64.wrap ((↑k : Int) + (1 : Int))))]) (Hp.mk [(0, O.rows 3 true (itl l))] 1 []))))))) (ifB (decide (n_2 < (0 : Int))) (R (V.tup [nilS, bv false])) (ifB (decide (n_2 > (0 : Int))) (need ((l.length + 1) * 24 ≤ 140737488355328) (J (St.mk (mkT [(1, V.lst 3 (itl o)), (6, V.sl (Id.p 0) 0 (l.length + 1)), (9, V.lst 3 (itl a)), (10, iv (↑(itl a).length : Int)), (11, iv (IntKind.i64.wrap ((↑k : Int) + (1 : Int))))]) (Hp.mk [(0, O.rows 3 true (List.take l.length (itl l) ++ [[iv n, V.raw (Value.int IntKind.u8 n_1), iv n_2]]))] 1 [])))) (J (St.mk (mkT [(1, V.lst 3 (itl o)), (6, V.sl (Id.p 0) 0 l.length), (9, V.lst 3 (itl a)), (10, iv (↑(itl a).length : Int)), (11, iv (IntKind.i64.wrap ((↑k : Int) + (1 : Int))))]) (Hp.mk [(0, O.rows 3 true (itl l))] 1 [])))))) (ifB (decide (n_2 < (0 : Int))) (R (V.tup [nilS, bv false])) (ifB (decide (n_2 > (0 : Int))) (need ((l.length + 1) * 24 ≤ 140737488355328) (J (St.mk (mkT [(1, V.lst 3 (itl o)), (6, V.sl (Id.p 0) 0 (l.length + 1)), (9, V.lst 3 (itl a)), (10, iv (↑(itl a).length : Int)), (11, iv (IntKind.i64.wrap ((↑k : Int) + (1 : Int))))]) (Hp.mk [(0, O.rows 3 true (List.take l.length (itl l) ++ [[iv n, V.raw (Value.int IntKind.u8 n_1), iv n_2]]))] 1 [])))) (J (St.mk (mkT [(1, V.lst 3 (itl o)), (6, V.sl (Id.p 0) 0 l.length), (9, V.lst 3 (itl a)), (10, iv (↑(itl a).length : Int)), (11, iv (IntKind.i64.wrap ((↑k : Int) + (1 : Int))))]) (Hp.mk [(0, O.rows 3 true (itl l))] 1 [])))))) (R (V.tup [V.lst 3 (sub (itl l) 0 l.length), bv ((↑(itl o).length : Int) == (0 : Int))]))) (by kernel_rfl) ?_
      rw [itl_length, itl_length, itl_take, hw]
      refine ifB_t (by simpa using hlt) ?_
      refine onSome_mk (x := itm x) (by simp [itl, hx]) (onCons_cons (onIntK_iv (onCons_cons (onIntK_u8 (onCons_cons (onIntK_iv ?_))))))
      have fin : ∀ p : Int × List It, takeF x o = p → ∀ (m : Int) (o' : List (List V)), m = p.1 → o' = itl p.2 → ifB (decide (m < 0)) (R (V.tup [nilS, bv false])) (ifB (decide (m > 0)) (need ((l.length + 1) * 24 ≤ 140737488355328) (J (St.mk (mkT [(1, V.lst 3 o'), (6, V.sl (Id.p 0) 0 (l.length + 1)), (9, V.lst 3 (itl a)), (10, iv (a.length : Int)), (11, iv ((k + 1 : Nat) : Int))]) (Hp.mk [(0, O.rows 3 true (itl l ++ [[iv x.1, V.raw (Value.int IntKind.u8 x.2.1), iv m]]))] 1 [])))) (J (St.mk (mkT [(1, V.lst 3 o'), (6, V.sl (Id.p 0) 0 l.length), (9, V.lst 3 (itl a)), (10, iv (a.length : Int)), (11, iv ((k + 1 : Nat) : Int))]) (Hp.mk [(0, O.rows 3 true (itl l))] 1 [])))) := by
        rintro p hp m o' rfl rfl
        refine ifB_mk (fun hc => bad p hp (of_decide_eq_true hc)) (fun hc => ?_)
        have g := go p hp (of_decide_eq_false hc)
        refine ifB_mk (fun hd => need_mk ⟨by omega, ?_⟩) (fun hd => ?_)
        · rw [show keepF x p.1 = [(x.1, x.2.1, p.1)] from if_pos (of_decide_eq_true hd), sh43_b (by simp)] at g
          exact hJ' (by simp [sh43b, itl, itm, u8v]) g
        · rw [show keepF x p.1 = [] from if_neg (of_decide_eq_false hd), List.append_nil, sh43_b hl] at g
          exact hJ' (by simp [sh43b, itl_length]) g
      refine ifB_mk (fun ho => ?_) (fun ho => ?_)
      · obtain ⟨y, t, rfl⟩ : ∃ y t, o = y :: t := by cases o with | nil => simp at ho | cons y t => exact ⟨y, t, rfl⟩
        refine onSome_mk (x := itm y) (by simp [itl]) (onCons_cons (onIntK_iv (onCons_cons (onIntK_u8 (onCons_cons (onIntK_iv ?_))))))
        refine ifB_mk (fun he => ?_) (fun he => ?_)
        · refine onSome_mk (x := itm y) (by simp [itl]) (onSome_mk (x := iv y.2.2) rfl (onIntK_iv (need_mk ⟨Nat.le_refl _, need_mk ⟨by simp, ?_⟩⟩)))
          have hy := h1 y (by simp)
          rw [wr (by have := hxm.1; have := hy.2; omega) (by have := hxm.2; have := hy.1; omega)]
          exact fin (x.2.2 - y.2.2, t) (if_pos (eqP.1 he)) _ _ rfl (by rw [show itl (y :: t) = itm y :: itl t from rfl, ← itl_length (y :: t)]; exact sub_tl _ _)
        · exact fin (x.2.2, y :: t) (if_neg (fun e => by rw [eqP.2 e] at he; cases he)) _ _ rfl rfl
      · obtain rfl : o = [] := by cases o with | nil => rfl | cons y t => simp at ho
        exact fin (x.2.2, []) rfl _ _ rfl rfl
  · have hd : a.drop k = [] := List.drop_eq_nil_of_le (by omega)
    rw [hd] at h4
    simp only [restF, Option.map_some, List.append_nil] at h4
    rw [h4] at h
    by_cases hl : l = []
    · subst hl
      refine see (p := ifB (decide ((↑k : Int) < (↑(itl a).length : Int))) (onSome (itl a)[k]? fun row => onCons (List.drop 0 row) fun u r => onIntK IntKind.i64 u fun n => onCons r fun u r => onIntK IntKind.u8 u fun n_1 => onCons r fun u r => onIntK IntKind.i64 u fun n_2 => ifB (decide ((↑(itl o).length : Int) > (0 : Int))) (onSome (itl o)[0]? fun row => onCons (List.drop 0 row) fun u r => onIntK IntKind.i64 u fun n_3 => onCons r fun u r => onIntK IntKind.u8 u fun n_4 => onCons r fun u r => onIntK IntKind.i64 u fun n_5 => ifB (n_3 == n && (fun b => n_4 == n_1 && b) true) (onSome (itl o)[0]? fun row => onSome row[2]? fun v => onIntK IntKind.i64 v fun n_6 => need ((itl o).length ≤ (itl o).length) (need (1 ≤ (itl o).length) (ifB (decide (IntKind.i64.wrap (n_2 - n_6) < (0 : Int))) (R (V.tup [nilS, bv false])) (ifB (decide (IntKind.i64.wrap (n_2 - n_6) > (0 : Int))) (J (St.mk (mkT [(1, V.lst 3 (sub (itl o) 1 ((itl o).length - 1))), (6, V.sl (Id.p 0) 0 1), (9, V.lst 3 (itl a)), (10, iv (↑(itl a).length : Int)), (11, iv (IntKind.i64.wrap ((↑k : Int) + (1 : Int))))]) (Hp.mk [(0, O.rows 3 true [[iv n, V.raw (Value.int IntKind.u8 n_1), iv (IntKind.i64.wrap (n_2 - n_6))]])] 1 []))) (J (St.mk (mkT [(1, V.lst 3 (sub (itl o) 1 ((itl o).length - 1))), (6, nilS), (9, V.lst 3 (itl a)), (10, iv (↑(itl a).length : Int)), (11, iv (IntKind.i64.wrap ((↑k : Int) + (1 : Int))))]) (Hp.mk [] 0 []))))))) (ifB (decide (n_2 < (0 : Int))) (R (V.tup [nilS, bv false])) (ifB (decide (n_2 > (0 : Int))) (J (St.mk (mkT [(1, V.lst 3 (itl o)), (6, V.sl (Id.p 0) 0 1), (9, V.lst 3 (itl a)), (10, iv (↑(itl a).length : Int)), (11, iv (IntKind.i64.wrap ((↑k : Int) + (1 : Int))))]) (Hp.mk [(0, O.rows 3 true [[iv n, V.raw (Value.int IntKind.u8 n_1), iv n_2]])] 1 []))) (J (St.mk (mkT [(1, V.lst 3 (itl o)), (6, nilS), (9, V.lst 3 (itl a)), (10, iv (↑(itl a).length : Int)), (11, iv (IntKind.i64.wrap ((↑k : Int) + (1 : Int))))]) (Hp.mk [] 0 [])))))) (ifB (decide (n_2 < (0 : Int))) (R (V.tup [nilS, bv false])) (ifB (decide (n_2 > (0 : Int))) (J (St.mk (mkT [(1, V.lst 3 (itl o)), (6, V.sl (Id.p 0) 0 1), (9, V.lst 3 (itl a)), (10, iv (↑(itl a).length : Int)), (11, iv (IntKind.i64.wrap ((↑k : Int) + (1 : Int))))]) (Hp.mk [(0, O.rows 3 true [[iv n, V.raw (Value.int IntKind.u8 n_1), iv n_2]])] 1 []))) (J (St.mk (mkT [(1, V.lst 3 (itl o)), (6, nilS), (9, V.lst 3 (itl a)), (10, iv (↑(itl a).length : Int)), (11, iv (IntKind.i64.wrap ((↑k : Int) + (1 : Int))))]) (Hp.mk [] 0 [])))))) (R (V.tup [nilS, bv ((↑(itl o).length : Int) == (0 : Int))]))) (by kernel_rfl) ?_
      rw [itl_length, itl_length]
      refine ifB_f (by simpa using hlt) ?_
      have : ((o.length : Int) == 0) = o.isEmpty := by cases o <;> simp; omega
      rw [this]; exact h
    · rw [sh43_b hl]
      refine see (p := ifB (decide ((↑k : Int) < (↑(itl a).length : Int))) (onSome (itl a)[k]? fun row => onCons (List.drop 0 row) fun u r => onIntK IntKind.i64 u fun n => onCons r fun u r => onIntK IntKind.u8 u fun n_1 => onCons r fun u r => onIntK IntKind.i64 u fun n_2 => ifB (decide ((↑(itl o).length : Int) > (0 : Int))) (onSome (itl o)[0]? fun row => onCons (List.drop 0 row) fun u r => onIntK IntKind.i64 u fun n_3 => onCons r fun u r => onIntK IntKind.u8 u fun n_4 => onCons r fun u r => onIntK IntKind.i64 u fun n_5 => ifB (n_3 == n && (fun b => n_4 == n_1 && b) true) (onSome (itl o)[0]? fun row => onSome row[2]? fun v => onIntK IntKind.i64 v fun n_6 => need ((itl o).length ≤ (itl o).length) (need (1 ≤ (itl o).length) (ifB (decide (IntKind.i64.wrap (n_2 - n_6) < (0 : Int))) (R (V.tup [nilS, bv false])) (ifB (decide (IntKind.i64.wrap (n_2 - n_6) > (0 : Int))) (need ((l.length + 1) * 24 ≤ 140737488355328) (J (St.mk (mkT [(1, V.lst 3 (sub (itl o) 1 ((itl o).length - 1))), (6, V.sl (Id.p 0) 0 (l.length + 1)), (9, V.lst 3 (itl a)), (10, iv (↑(itl a).length : Int)), (11, iv (IntKind.i64.wrap ((↑k : Int) + (1 : Int))))]) (Hp.mk [(0, O.rows 3 true (List.take l.length (itl l) ++ [[iv n, V.raw (Value.int IntKind.u8 n_1), iv (IntKind.i64.wrap (n_2 - n_6))]]))] 1 [])))) (J (St.mk (mkT [(1, V.lst 3 (sub (itl o) 1 ((itl o).length - 1))), (6, V.sl (Id.p 0) 0 l.length), (9, V.lst 3 (itl a)), (10, iv (↑(itl a).length : Int)), (11, iv (IntKind.i64.wrap ((↑k : Int) + (1 : Int))))]) (Hp.mk [(0, O.rows 3 true (itl l))] 1 []))))))) (ifB (decide (n_2 < (0 : Int))) (R (V.tup [nilS, bv false])) (ifB (decide (n_2 > (0 : Int))) (need ((l.length + 1) * 24 ≤ 140737488355328) (J (St.mk (mkT [(1, V.lst 3 (itl o)), (6, V.sl (Id.p 0) 0 (l.length + 1)), (9, V.lst 3 (itl a)), (10, iv (↑(itl a).length : Int)), (11, iv (IntKind.i64.wrap ((↑k : Int) + (1 : Int))))]) (Hp.mk [(0, O.rows 3 true (List.take l.length (itl l) ++ [[iv n, V.raw (Value.int IntKind.u8 n_1), iv n_2]]))] 1 [])))) (J (St.mk (mkT [(1, V.lst 3 (itl o)), (6, V.sl (Id.p 0) 0 l.length), (9, V.lst 3 (itl a)), (10, iv (↑(itl a).length : Int)), (11, iv (IntKind.i64.wrap ((↑k : Int) + (1 : Int))))]) (Hp.mk [(0, O.rows 3 true (itl l))] 1 [])))))) (ifB (decide (n_2 < (0 : Int))) (R (V.tup [nilS, bv false])) (ifB (decide (n_2 > (0 : Int))) (need ((l.length + 1) * 24 ≤ 140737488355328) (J (St.mk (mkT [(1, V.lst 3 (itl o)), (6, V.sl (Id.p 0) 0 (l.length + 1)), (9, V.lst 3 (itl a)), (10, iv (↑(itl a).length : Int)), (11, iv (IntKind.i64.wrap ((↑k : Int) + (1 : Int))))]) (Hp.mk [(0, O.rows 3 true (List.take l.length (itl l) ++ [[iv n, V.raw (Value.int IntKind.u8 n_1), iv n_2]]))] 1 [])))) (J (St.mk (mkT [(1, V.lst 3 (itl o)), (6, V.sl (Id.p 0) 0 l.length), (9, V.lst 3 (itl a)), (10, iv (↑(itl a).length : Int)), (11, iv (IntKind.i64.wrap ((↑k : Int) + (1 : Int))))]) (Hp.mk [(0, O.rows 3 true (itl l))] 1 [])))))) (R (V.tup [V.lst 3 (sub (itl l) 0 l.length), bv ((↑(itl o).length : Int) == (0 : Int))]))) (by kernel_rfl) ?_
      rw [itl_length, itl_length]
      refine ifB_f (by simpa using hlt) ?_
      have : ((o.length : Int) == 0) = o.isEmpty := by cases o <;> simp; omega
      rw [this, ← itl_length l, sub_all, ← lsI_b hl]; exact h

/-- What is in a set, in order. -/
def bl8 (s : Nat) : List Nat := (List.range 8).filter fun i => s.testBit i
theorem bl8_step : ∀ s, s < 256 → s ≠ 0 → bl8 s = fi s :: bl8 (wo s (fi s)) := by decide +kernel
theorem wo_256 {s n : Nat} (h : s < 256) : wo s n < 256 := by have := wo_le s n; omega
theorem nn_length (l : List Nat) : (nn l).length = l.length := by simp [nn]
theorem nn_take (l : List Nat) : List.take l.length (nn l) = nn l := by rw [← nn_length]; exact List.take_length
theorem sh90_b {s : Nat} {l : List Nat} (h : l ≠ []) : sh90 (s, l) = sh90b s l := by cases l with | nil => exact (h rfl).elim | cons x r => rfl
theorem lsN_b {l : List Nat} (h : l ≠ []) : lsN l = .lst 1 (nn l) := by cases l with | nil => exact (h rfl).elim | cons x r => rfl
theorem list90 {s : Nat} {R : V → Prop} (hs : s < 256) (h : R (lsN (bl8 s))) : K0G Tryz.prog glX 90 [sv s] R := by
  refine K0_of_WY0 hmX hcM 300 Tryz.func90 (see (p := La 0 [(0 : Tmp), (3 : Tmp)] (WY Tryz.prog cfM 295 (Env.mk (Bs.mk 0 []) 0 none 16 90 0) (cdAt [1, 1, 0, 0, 0] (bodyOf Tryz.f90))) (Qblk 0 (Qthen (WY Tryz.prog cfM 297 (Env.mk (Bs.mk 0 []) 0 none 16 90 0) (cdAt [1, 1, 1] (bodyOf Tryz.f90)) (QendX Tryz.prog Tryz.f90 fun v h => R (frzW h v))) (QendX Tryz.prog Tryz.f90 fun v h => R (frzW h v)))) (St.mk (mkT [(0, V.raw (Value.int IntKind.u8 (↑s : Int))), (3, nilS)]) (Hp.mk [] 0 []))) (by kernel_rfl) ?_)
  refine La.of (σ := Nat × List Nat) sh90 (fun s' => s'.1 < 256 ∧ bl8 s = s'.2 ++ bl8 s'.1) (fun s' => s'.1) (s, []) (by kernel_rfl) ⟨hs, by simp⟩ ?_
  rintro ⟨t, l⟩ ⟨h1, h2⟩ J hJ
  simp only at h1 h2
  have hll : l.length ≤ 8 := by
    have e : (bl8 s).length ≤ 8 := by have := List.length_filter_le (fun i => s.testBit i) (List.range 8); simpa [bl8] using this
    rw [h2, List.length_append] at e
    omega
  have hz : t = 0 → R (lsN l) := by
    rintro rfl
    have : bl8 0 = [] := by decide
    rw [this, List.append_nil] at h2
    rw [← h2]; exact h
  have go : t ≠ 0 → J (sh90 (wo t (fi t), l ++ [fi t])) := fun ht => hJ (_, _) ⟨wo_256 h1, by simp only; rw [h2, bl8_step t h1 ht, List.append_assoc]; rfl⟩ (wo_lt (fi_bit t h1 ht).2)
  by_cases hl : l = []
  · subst hl
    refine see (p := ifB ((↑t : Int) != (0 : Int)) (K0G Tryz.prog glX 68 [V.raw (Value.int IntKind.u8 (↑t : Int))] fun v => onIntK IntKind.i64 v fun n => K0G Tryz.prog glX 68 [V.raw (Value.int IntKind.u8 (↑t : Int))] fun v => onIntK IntKind.i64 v fun n_1 => K0G Tryz.prog glX 110 [V.raw (Value.int IntKind.u8 (↑t : Int)), iv n_1] fun v => onIntK IntKind.u8 v fun n_2 => J (St.mk (mkT [(0, V.raw (Value.int IntKind.u8 n_2)), (3, V.sl (Id.p 0) 0 1)]) (Hp.mk [(0, O.rows 1 true [[iv n]])] 1 []))) (R nilS)) (by kernel_rfl) ?_
    refine ifB_mk (fun hc => ?_) (fun hc => hz (by simpa using hc))
    have ht : t ≠ 0 := by simpa using hc
    refine first45 h1 (onIntK_iv (first45 h1 (onIntK_iv (without70 h1 (fi_bit t h1 ht).1 (onIntK_u8 ?_)))))
    exact hJ' (by simp [sh90, sh90b, nn, sv, u8v]) (go ht)
  · rw [sh90_b hl]
    refine see (p := ifB ((↑t : Int) != (0 : Int)) (K0G Tryz.prog glX 68 [V.raw (Value.int IntKind.u8 (↑t : Int))] fun v => onIntK IntKind.i64 v fun n => need ((l.length + 1) * 8 ≤ 140737488355328) (K0G Tryz.prog glX 68 [V.raw (Value.int IntKind.u8 (↑t : Int))] fun v => onIntK IntKind.i64 v fun n_1 => K0G Tryz.prog glX 110 [V.raw (Value.int IntKind.u8 (↑t : Int)), iv n_1] fun v => onIntK IntKind.u8 v fun n_2 => J (St.mk (mkT [(0, V.raw (Value.int IntKind.u8 n_2)), (3, V.sl (Id.p 0) 0 (l.length + 1))]) (Hp.mk [(0, O.rows 1 true (List.take l.length (nn l) ++ [[iv n]]))] 1 [])))) (R (V.lst 1 (sub (nn l) 0 l.length)))) (by kernel_rfl) ?_
    rw [nn_take]
    refine ifB_mk (fun hc => ?_) (fun hc => ?_)
    · have ht : t ≠ 0 := by simpa using hc
      refine first45 h1 (onIntK_iv (need_mk ⟨by omega, first45 h1 (onIntK_iv (without70 h1 (fi_bit t h1 ht).1 (onIntK_u8 ?_)))⟩))
      have g := go ht
      rw [sh90_b (by simp)] at g
      exact hJ' (by simp [sh90b, nn, sv, u8v]) g
    · have := hz (by simpa using hc)
      rw [← nn_length l, sub_all, ← lsN_b hl]; exact this
end Go.Proofs.YtmddjopahcbefaaGreat
