/- A set of plans as a choice; all choices that there are. -/
import Derived.Test.YtmddjopahcbefaaGreatXNCB8
namespace Go.Proofs.YtmddjopahcbefaaGreat
open Go Go.Proofs.YtmddjopahcbefaaGreat.Clean
set_option linter.unusedVariables false
set_option linter.unusedSimpArgs false
set_option maxRecDepth 10000

theorem hcI : cfI.ok Tryz.prog := ⟨hcM.c0, hcM.known⟩
theorem K0_args {P : Program} {G : Nat → Option (List V)} {f : FuncId} {args args' : List V} {R : V → Prop} (h : K0G P G f args R) (hr : ∀ F w xs, riL F w args' xs → riL F w args xs) : K0G P G f args' R := fun F w xs g1 g2 g3 => h F w xs g1 g2 (hr F w xs g3)
theorem riL_d {F : Nat → Prop} {w : World} {d : Nat} {l : List It} {r : List V} {xs : List Value} (h : d = 3 ∨ l = []) (hx : riL F w (.lst d (itl l) :: r) xs) : riL F w (.lst 3 (itl l) :: r) xs := by
  rcases h with rfl | rfl
  · exact hx
  · simpa [riL, ri, itl, riRows] using hx
theorem pll_get {w : List (List It)} {i : Nat} {l : List It} {k : Nat → List (List V) → Prop} (h : w[i]? = some l) (hk : k 3 (itl l)) : onSome (pll w)[i]? fun row => onSome row[0]? fun v => onLst v fun s es => k s es := onSome_mk (by simp [pll, h] : (pll w)[i]? = some [.lst 3 (itl l)]) hk
theorem iel {l : List Int} {i : Nat} {x : Int} {k : Int → Prop} (h : l[i]? = some x) (hk : k x) : onSome (nl l)[i]? fun row => onSome row[0]? fun v => onIntK IntKind.i64 v fun n => k n := onSome_mk (by simp [nl, h] : (nl l)[i]? = some [iv x]) hk
theorem nel {l : List Nat} {i : Nat} {x : Nat} {k : Int → Prop} (h : l[i]? = some x) (hk : k x) : onSome (nn l)[i]? fun row => onSome row[0]? fun v => onIntK IntKind.i64 v fun n => k n := onSome_mk (by simp [nn, h] : (nn l)[i]? = some [iv (x : Int)]) hk
theorem onNat_c {m : Nat} {k : Nat → Prop} (h : k m) : onNat (m : Int) k := onNat_mk rfl h

/-- A slice whose data are known, nil or not. -/
def isL (v : V) (d : Nat) (es : List (List V)) : Prop := (v = nilS ∧ d = 0 ∧ es = []) ∨ v = .lst d es
theorem onLst_isL {v : V} {d : Nat} {es : List (List V)} {k : Nat → List (List V) → Prop} (h : isL v d es) (hk : k d es) : onLst v k := by
  rcases h with ⟨rfl, rfl, rfl⟩ | rfl
  · exact onLst_nil hk
  · exact onLst_lst hk
theorem lsN_isL (l : List Nat) : ∃ d, (d = 1 ∨ l = []) ∧ isL (lsN l) d (nn l) := by cases l with | nil => exact ⟨0, .inr rfl, .inl ⟨rfl, rfl, rfl⟩⟩ | cons x r => exact ⟨1, .inl rfl, .inr rfl⟩
theorem lsI_isL (l : List It) : ∃ d, (d = 3 ∨ l = []) ∧ isL (lsI l) d (itl l) := by cases l with | nil => exact ⟨0, .inr rfl, .inl ⟨rfl, rfl, rfl⟩⟩ | cons x r => exact ⟨3, .inl rfl, .inr rfl⟩
theorem clone122 {bx : List It} {R : V → Prop} (hl : bx.length ≤ 1000000) (h : ∀ v d, isL v d (itl bx) → (d = 3 ∨ bx = []) → R v) : K0G Tryz.prog glX 122 [.lst 3 (itl bx)] R := by
  refine K0_of_WY0 hmX hcM 300 Tryz.func122 (see (p := nilN (itl bx).length fun b => ifB b (R nilS) (need ((0 + (itl bx).length) * 24 ≤ 140737488355328) (R (V.lst 3 (sub ([] ++ itl bx) 0 (0 + (itl bx).length)))))) (by kernel_rfl) ?_)
  have hR : R (V.lst 3 (sub ([] ++ itl bx) 0 (0 + (itl bx).length))) := by rw [List.nil_append, Nat.zero_add, sub_all]; exact h _ 3 (.inr rfl) (.inl rfl)
  have hn : (0 + (itl bx).length) * 24 ≤ 140737488355328 := by rw [itl_length]; omega
  refine nilN_mk (fun hz => ifB_mk (fun _ => ?_) (fun hb => by cases hb)) (ifB_mk (fun hb => by cases hb) (fun _ => need_mk ⟨hn, hR⟩))
  have hb : bx = [] := by rw [itl_length] at hz; exact List.eq_nil_of_length_eq_zero hz
  exact h _ 0 (.inl ⟨rfl, rfl, by rw [hb]; rfl⟩) (.inr hb)

def choF (plans : List (List It)) (vals : List Int) : List Nat → Int → List It → Option (Int × List It)
  | [], v, l => some (v, l)
  | i :: q, v, l => match restF l (plans.getD i []) with
    | some (m, []) => choF plans vals q (v + vals.getD i 0) m
    | _ => none
def choV (s : Nat) (d : Nat) : Option (Int × List It) → V
  | none => .tup [.agg [sv 0, iv 0, nilS], bv false]
  | some (v, l) => .tup [.agg [sv s, iv v, .lst d (itl l)], bv true]
def Plok (plans : List (List It)) : Prop := ∀ p ∈ plans, ∀ x ∈ p, Nok x
def Vaok (vals : List Int) : Prop := ∀ v ∈ vals, 0 ≤ v ∧ v ≤ 1000000
theorem keepF_ok {x : It} {n : Int} (h : n ≤ 1000000) : ∀ y ∈ keepF x n, Nok y := by
  unfold keepF
  split
  · intro y hy
    simp only [List.mem_singleton] at hy
    subst hy
    exact ⟨by simp only; omega, h⟩
  · intro y hy; cases hy
theorem restF_ok : ∀ {a o l p : List It}, (∀ x ∈ a, Nok x) → (∀ x ∈ o, Nok x) → restF a o = some (l, p) → (∀ x ∈ l, Nok x) ∧ l.length ≤ a.length
  | [], o, l, p, ha, ho, h => by simp only [restF, Option.some.injEq, Prod.mk.injEq] at h; obtain ⟨rfl, rfl⟩ := h; simp
  | x :: a, o, l, p, ha, ho, h => by
    simp only [restF] at h
    have hx := takeF_ok (ha x (by simp)) ho
    split at h
    · cases h
    · cases hr : restF a (takeF x o).2 with
      | none => rw [hr] at h; cases h
      | some q =>
        rw [hr] at h
        simp only [Option.map_some, Option.some.injEq, Prod.mk.injEq] at h
        obtain ⟨rfl, rfl⟩ := h
        obtain ⟨g1, g2⟩ := restF_ok (fun y hy => ha y (by simp [hy])) hx.2.2 (show restF a (takeF x o).2 = some (q.1, q.2) from hr)
        refine ⟨fun y hy => ?_, ?_⟩
        · rcases List.mem_append.1 hy with hy | hy
          · exact keepF_ok hx.2.1 y hy
          · exact g1 y hy
        · have : (keepF x (takeF x o).1).length ≤ 1 := by unfold keepF; split <;> simp
          simp only [List.length_append, List.length_cons]
          omega
theorem getPl {plans : List (List It)} {i : Nat} (h : i < plans.length) : plans[i]? = some (plans.getD i []) := by simp [List.getD, h]
theorem getVa {l : List Int} {i : Nat} (h : i < l.length) : l[i]? = some (l.getD i 0) := by simp [List.getD, h]
theorem bl8_len (s : Nat) : (bl8 s).length ≤ 8 := by
  have := List.length_filter_le (fun i => s.testBit i) (List.range 8)
  simpa [bl8] using this
theorem choose98 {bx : List It} {plans : List (List It)} {vals : List Int} {s : Nat} {R : V → Prop} (hs : s < 256) (hbx : ∀ x ∈ bx, Nok x) (hlb : bx.length ≤ 1000000) (hp : Plok plans) (hva : Vaok vals) (hlv : vals.length = plans.length) (hin : ∀ i ∈ bl8 s, i < plans.length)
    (h : ∀ d, (d = 3 ∨ ∃ v, choF plans vals (bl8 s) 0 bx = some (v, [])) → R (choV s d (choF plans vals (bl8 s) 0 bx))) : K0G Tryz.prog glX 98 [.lst 3 (itl bx), .lst 1 (pll plans), .lst 1 (nl vals), sv s] R := by
  refine K0_of_WY0 hmX hcM 3000 Tryz.func98 (see (p := K0G Tryz.prog glX 122 [V.lst 3 (itl bx)] fun v => onLst v fun s_1 es => K0G Tryz.prog glX 90 [V.raw (Value.int IntKind.u8 (↑s : Int))] fun v => onLst v fun s_2 es_1 => La 0 [(1 : Tmp), (2 : Tmp), (8 : Tmp), (10 : Tmp), (20 : Tmp), (21 : Tmp), (22 : Tmp)] (WY Tryz.prog cfM 2994 (Env.mk (Bs.mk 0 []) 0 none 51 98 0) (cdAt [1, 1, 0, 1, 0, 0] (bodyOf Tryz.f98))) (Qblk 0 (Qthen (WY Tryz.prog cfM 2997 (Env.mk (Bs.mk 0 []) 0 none 51 98 0) (cdAt [1, 1, 1] (bodyOf Tryz.f98)) (QendX Tryz.prog Tryz.f98 fun v h => R (frzW h v))) (QendX Tryz.prog Tryz.f98 fun v h => R (frzW h v)))) (St.mk (mkT [(1, V.lst 1 (pll plans)), (2, V.lst 1 (nl vals)), (8, V.ptr (Id.p 0) 0 0), (10, V.ptr (Id.p 1) 0 0), (20, V.lst s_2 es_1), (21, iv (↑es_1.length : Int)), (22, iv (0 : Int))]) (Hp.mk [(0, O.rows 3 false [[V.raw (Value.int IntKind.u8 (0 : Int)), iv (0 : Int), nilS]]), (1, O.rows 3 false [[V.raw (Value.int IntKind.u8 (↑s : Int)), iv (0 : Int), V.lst s_1 es]])] 2 []))) (by kernel_rfl) ?_)
  refine clone122 hlb (fun v0 d0 hv0 hd0 => onLst_isL hv0 ?_)
  obtain ⟨d1, hd1, hN⟩ := lsN_isL (bl8 s)
  refine list90 hs (onLst_isL hN ?_)
  have hq8 := bl8_len s
  generalize hq : bl8 s = q at h hin hq8 hd1
  refine La.of (σ := Int × List It × Nat × Nat) (fun x => sh98 plans vals d1 (nn q) s x.1 (itl x.2.1) x.2.2.1 x.2.2.2) (fun x => (∀ y ∈ x.2.1, Nok y) ∧ x.2.1.length ≤ 1000000 ∧ (x.2.2.1 = 3 ∨ x.2.1 = []) ∧ x.2.2.2 ≤ q.length ∧ 0 ≤ x.1 ∧ x.1 ≤ (x.2.2.2 : Int) * 1000000 ∧ choF plans vals q 0 bx = choF plans vals (q.drop x.2.2.2) x.1 x.2.1) (fun x => q.length - x.2.2.2) (0, bx, d0, 0) (by kernel_rfl) ⟨hbx, hlb, hd0, by simp, by simp, by simp, by simp⟩ ?_
  rintro ⟨v, l, d, k⟩ ⟨h1, h2, h3, h4, h5, h6, h7⟩ J hJ
  simp only at h1 h2 h3 h4 h5 h6 h7
  refine see (p := ifB (decide ((↑k : Int) < (↑(nn q).length : Int))) (need (d1 = 1) (onSome (nn q)[k]? fun row => onSome row[0]? fun v_1 => onIntK IntKind.i64 v_1 fun n => onNat n fun m => onSome (pll plans)[m]? fun row => onSome row[0]? fun v_2 => onLst v_2 fun s_2 es => K0G Tryz.prog glX 43 [V.lst d (itl l), V.lst s_2 es] fun v_3 => onTup v_3 fun vs => onCons vs fun u r => onLst u fun s_3 es => onCons r fun u r => onBool u fun b => onNil r (ifB (!b) (R (V.tup [V.agg [V.raw (Value.int IntKind.u8 (0 : Int)), iv (0 : Int), nilS], bv false])) (onNat n fun m => onSome (nl vals)[m]? fun row => onSome row[0]? fun v_4 => onIntK IntKind.i64 v_4 fun n => J (St.mk (mkT [(1, V.lst 1 (pll plans)), (2, V.lst 1 (nl vals)), (8, V.ptr (Id.p 0) 0 0), (10, V.ptr (Id.p 1) 0 0), (20, V.lst d1 (nn q)), (21, iv (↑(nn q).length : Int)), (22, iv (IntKind.i64.wrap ((↑k : Int) + (1 : Int))))]) (Hp.mk [(0, O.rows 3 false [[V.raw (Value.int IntKind.u8 (0 : Int)), iv (0 : Int), nilS]]), (1, O.rows 3 false [[V.raw (Value.int IntKind.u8 (↑s : Int)), iv (IntKind.i64.wrap (v + n)), V.lst s_3 es]])] 2 [])))))) (R (V.tup [V.agg [V.raw (Value.int IntKind.u8 (↑s : Int)), iv v, V.lst d (itl l)], bv true]))) (by kernel_rfl) ?_
  rw [nn_length]
  refine ifB_mk (fun hb => ?_) (fun hb => ?_)
  · have hlt : k < q.length := by have := of_decide_eq_true hb; omega
    obtain ⟨i, hi⟩ : ∃ i, q[k]? = some i := ⟨q[k], by simp [hlt]⟩
    have hip : i < plans.length := hin i (List.mem_of_getElem? hi)
    have hd : q.drop k = i :: q.drop (k + 1) := by
      rw [List.drop_eq_getElem_cons hlt]; congr 1; simpa [hlt] using hi
    rw [hd] at h7
    simp only [choF] at h7
    refine need_mk ⟨hd1.resolve_right (by rintro rfl; simp at hlt), ?_⟩
    refine nel hi ?_
    refine onNat_c (pll_get (getPl hip) ?_)
    have hpi : ∀ x ∈ plans.getD i [], Nok x := hp _ (List.mem_of_getElem? (getPl hip))
    refine K0_args (rest43 h1 hpi h2 ?_) (fun F w xs hx => riL_d h3 hx)
    cases hr : restF l (plans.getD i []) with
    | none =>
      rw [hr] at h7
      have g := h 3 (.inl rfl)
      rw [h7] at g
      exact onTup_tup (onCons_cons (onLst_nil (onCons_cons (onBool_bv (onNil_nil (ifB_t rfl g))))))
    | some p =>
      obtain ⟨m, o⟩ := p
      rw [hr] at h7
      obtain ⟨d', hd', hN'⟩ := lsI_isL m
      refine onTup_tup (onCons_cons (onLst_isL hN' (onCons_cons (onBool_bv (onNil_nil ?_)))))
      cases o with
      | cons y o =>
        simp only at h7
        have g := h 3 (.inl rfl)
        rw [h7] at g
        exact ifB_t rfl g
      | nil =>
        simp only at h7
        refine ifB_f rfl (onNat_c (iel (getVa (by omega)) ?_))
        obtain ⟨m1, m2⟩ := restF_ok h1 hpi hr
        have hv := hva _ (List.mem_of_getElem? (getVa (l := vals) (i := i) (by omega)))
        rw [wr1i hlt (by omega), wr (by omega) (by omega)]
        refine hJ' ?_ (hJ (v + vals.getD i 0, m, d', k + 1) ⟨m1, by simp only; omega, hd', by simp only; omega, by simp only; omega, by simp only; omega, h7⟩ (by simp only; omega))
        simp [sh98, nn_length, sv, u8v]
  · have hk : q.drop k = [] := List.drop_eq_nil_of_le (by have := of_decide_eq_false hb; omega)
    rw [hk] at h7
    simp only [choF] at h7
    have g := h d (by rw [h7]; rcases h3 with h3 | rfl; exact .inl h3; exact .inr ⟨v, rfl⟩)
    rw [h7] at g
    exact g

def erC (c : Ch) : Nat × Int × List It := (c.1, c.2.1, c.2.2.1)
/-- All choices among the sets below N. -/
def choS (bx : List It) (plans : List (List It)) (vals : List Int) (N : Nat) : List (Nat × Int × List It) := (List.range N).filterMap fun s => (choF plans vals (bl8 s) 0 bx).map fun p => (s, p.1, p.2)
theorem choS_succ (bx : List It) (plans : List (List It)) (vals : List Int) (N : Nat) : choS bx plans vals (N + 1) = choS bx plans vals N ++ ((choF plans vals (bl8 N) 0 bx).map fun p => (N, p.1, p.2)).toList := by
  unfold choS
  rw [List.range_succ, List.filterMap_append]
  congr 1
theorem u8w : ∀ s, s < 256 → IntKind.u8.wrap ((s : Nat) : Int) = ((s : Nat) : Int) := by decide +kernel
theorem pow64 : ∀ n, n < 9 → IntKind.i64.wrap ((1 : Int) * (2 : Int) ^ min ((n : Nat) : Int).toNat 64) = ((2 ^ n : Nat) : Int) := by decide +kernel
theorem pll_length (w : List (List It)) : (pll w).length = w.length := by simp [pll]
theorem chl_length (l : List Ch) : (chl l).length = l.length := by simp [chl]
theorem chl_take (l : List Ch) : List.take l.length (chl l) = chl l := by rw [← chl_length]; exact List.take_length
theorem sh51_b {bx : List It} {plans : List (List It)} {vals : List Int} {N i : Nat} {cs : List Ch} (h : cs ≠ []) : sh51 bx plans vals N (i, cs) = sh51b bx plans vals N i cs := by cases cs with | nil => exact (h rfl).elim | cons x r => rfl
theorem bl8_lt {s n i : Nat} (hs : s < 2 ^ n) (h : i ∈ bl8 s) : i < n := by
  simp only [bl8, List.mem_filter] at h
  have := Nat.ge_two_pow_of_testBit h.2
  exact (Nat.pow_lt_pow_iff_right (a := 2) (by omega)).1 (by omega)
theorem eq51 (bx : List It) (plans : List (List It)) (vals : List Int) (R : V → Prop) : (La 6 [(0 : Tmp), (5 : Tmp), (6 : Tmp)] (WY Tryz.prog cfI 2991 (Env.mk (Bs.mk 0 (spared [] [V.yl (Id.p 5), V.ptr (Id.p 4) 0 0] ++ [])) 6 none 15 121 0) (cdAt [1, 0, 0] (bodyOf Tryz.f121))) (Qblk 0 (QendX Tryz.prog Tryz.f121 fun v h' => kontY (WY Tryz.prog cfI 2994) (Env.mk (Bs.mk 0 []) 0 none 29 51 0) (Qblk 0 (Qthen (WY Tryz.prog cfI 2997 (Env.mk (Bs.mk 0 []) 0 none 29 51 0) (cdAt [1, 1, 1] (bodyOf Tryz.f51)) (QendX Tryz.prog Tryz.f51 fun v h => R (frzW h v))) (QendX Tryz.prog Tryz.f51 fun v h => R (frzW h v)))) (mkT [(0, V.lst 3 (itl bx)), (1, V.lst 1 (pll plans)), (2, V.lst 1 (nl vals)), (3, V.ptr (Id.p 0) 0 0), (4, V.ptr (Id.p 1) 0 0), (5, V.ptr (Id.p 2) 0 0), (6, nilS), (7, V.ptr (Id.p 3) 0 0), (11, V.lst 1 (pll plans)), (12, iv (↑(pll plans).length : Int)), (13, V.fn (Fn.func 121) [] [V.ptr (Id.p 4) 0 0])]) 5 v (bif cfI.clean 121 then gcH 6 v h' else h'))) (St.mk (mkT [(0, V.yl (Id.p 5)), (5, iv (IntKind.i64.wrap ((1 : Int) * (2 : Int) ^ min (↑(pll plans).length : Int).toNat 64))), (6, iv (0 : Int))]) (Hp.mk [(5, O.lp (Lr.mk LoopState.ready none (mkT [(0, V.lst 3 (itl bx)), (1, V.lst 1 (pll plans)), (2, V.lst 1 (nl vals)), (3, V.ptr (Id.p 0) 0 0), (4, V.ptr (Id.p 1) 0 0), (5, V.ptr (Id.p 2) 0 0), (6, nilS), (7, V.ptr (Id.p 3) 0 0), (11, V.lst 1 (pll plans)), (12, iv (↑(pll plans).length : Int)), (13, V.fn (Fn.func 121) [] [V.ptr (Id.p 4) 0 0])]) 29 (Array.mk [14]) (rfA (cdAt [1, 1, 0, 1, 0] (bodyOf Tryz.f51))) (rfB (cdAt [1, 1, 0, 1, 0] (bodyOf Tryz.f51))) 51)), (4, O.rows 1 false [[iv (↑(pll plans).length : Int)]]), (3, O.rows 1 false [[nilS]]), (2, O.rows 1 false [[V.lst 1 (nl vals)]]), (1, O.rows 1 false [[V.lst 1 (pll plans)]]), (0, O.rows 1 false [[V.lst 3 (itl bx)]])] 6 []))) = WY0 Tryz.prog cfI 3000 51 Tryz.f51 [.lst 3 (itl bx), .lst 1 (pll plans), .lst 1 (nl vals)] R := by kernel_rfl
theorem choices51 {bx : List It} {plans : List (List It)} {vals : List Int} {R : V → Prop} (hbx : ∀ x ∈ bx, Nok x) (hlb : bx.length ≤ 1000000) (hp : Plok plans) (hva : Vaok vals) (hlv : vals.length = plans.length) (h8 : plans.length ≤ 8)
    (h : ∀ cs : List Ch, cs.map erC = choS bx plans vals (2 ^ plans.length) → (∀ c ∈ cs, c.2.2.2 = 3 ∨ c.2.2.1 = []) → cs ≠ [] → R (.lst 3 (chl cs))) : K0G Tryz.prog glX 51 [.lst 3 (itl bx), .lst 1 (pll plans), .lst 1 (nl vals)] R := by
  refine K0_by hmX hcI 3000 Tryz.func51 (eq51 bx plans vals R) ?_
  have hN : IntKind.i64.wrap ((1 : Int) * (2 : Int) ^ min ((pll plans).length : Int).toNat 64) = ((2 ^ plans.length : Nat) : Int) := by rw [pll_length]; exact pow64 _ (by omega)
  rw [hN]
  have h256 : 2 ^ plans.length ≤ 256 := Nat.pow_le_pow_right (n := 2) (by omega) h8
  have h1p : 1 ≤ 2 ^ plans.length := Nat.one_le_two_pow
  generalize hNN : 2 ^ plans.length = N at h h256 h1p
  refine La.of (σ := Nat × List Ch) (fun x => sh51 bx plans vals N x) (fun x => x.1 ≤ N ∧ x.2.length ≤ x.1 ∧ x.2.map erC = choS bx plans vals x.1 ∧ ∀ c ∈ x.2, c.2.2.2 = 3 ∨ c.2.2.1 = []) (fun x => N - x.1) (0, []) (by kernel_rfl) ⟨by simp, by simp, by simp [choS], by simp⟩ ?_
  rintro ⟨i, cs⟩ ⟨g1, g2, g3, g4⟩ J hJ
  simp only at g1 g2 g3 g4
  have e0 : choS bx plans vals 1 = [(0, 0, bx)] := by simp [choS, show bl8 0 = [] by decide, choF, List.range_succ]
  have call : ∀ (Q : V → Prop), i < N → (∀ d, (d = 3 ∨ ∃ v, choF plans vals (bl8 i) 0 bx = some (v, [])) → Q (choV i d (choF plans vals (bl8 i) 0 bx))) → K0G Tryz.prog glX 98 [V.lst 3 (itl bx), V.lst 1 (pll plans), V.lst 1 (nl vals), V.raw (Value.int IntKind.u8 (IntKind.u8.wrap (i : Int)))] Q := by
    intro Q hi hq
    rw [u8w i (by omega)]
    exact choose98 (by omega) hbx hlb hp hva hlv (fun j hj => bl8_lt (by rw [hNN]; exact hi) hj) hq
  have none' : i < N → choF plans vals (bl8 i) 0 bx = none → J (sh51 bx plans vals N (i + 1, cs)) := fun hi hn => hJ (i + 1, cs) ⟨by simp only; omega, by simp only; omega, by simp only; rw [g3, choS_succ, hn]; simp, g4⟩ (by simp only; omega)
  have some' : i < N → ∀ v l d, choF plans vals (bl8 i) 0 bx = some (v, l) → (d = 3 ∨ l = []) → J (sh51 bx plans vals N (i + 1, cs ++ [(i, v, l, d)])) := fun hi v l d hn hd => hJ (i + 1, cs ++ [(i, v, l, d)]) ⟨by simp only; omega, by simp only [List.length_append, List.length_singleton]; omega, by simp only; rw [List.map_append, g3, choS_succ, hn]; simp [erC], fun c hc => by
    rcases List.mem_append.1 hc with hc | hc
    · exact g4 c hc
    · simp only [List.mem_singleton] at hc; subst hc; exact hd⟩ (by simp only; omega)
  by_cases hc : cs = []
  · subst hc
    refine see (p := ifB (decide ((↑i : Int) < (↑N : Int))) (K0G Tryz.prog glX 98 [V.lst 3 (itl bx), V.lst 1 (pll plans), V.lst 1 (nl vals), V.raw (Value.int IntKind.u8 (IntKind.u8.wrap (↑i : Int)))] fun v => onTup v fun vs => onCons vs fun u r => onAgg u fun cs => onCons cs fun u r_1 => onIntK IntKind.u8 u fun n => onCons r_1 fun u r_2 => onIntK IntKind.i64 u fun n_1 => onCons r_2 fun u r_3 => onLst u fun s es => onNil r_3 (onCons r fun u r => onBool u fun b => onNil r (ifB b (J (St.mk (mkT [(0, V.yl (Id.p 5)), (5, iv (↑N : Int)), (6, iv (IntKind.i64.wrap ((↑i : Int) + (1 : Int))))]) (Hp.mk [(5, O.lp (Lr.mk LoopState.ready none (mkT [(0, V.lst 3 (itl bx)), (1, V.lst 1 (pll plans)), (2, V.lst 1 (nl vals)), (3, V.ptr (Id.p 0) 0 0), (4, V.ptr (Id.p 1) 0 0), (5, V.ptr (Id.p 2) 0 0), (6, nilS), (7, V.ptr (Id.p 3) 0 0), (11, V.lst 1 (pll plans)), (12, iv (↑(pll plans).length : Int)), (13, V.fn (Fn.func (121 : FuncId)) [] [V.ptr (Id.p 4) 0 0])]) 29 (Array.mk [14]) (rfA (cdAt [1, 1, 0, 1, 0] (bodyOf Tryz.f51))) (rfB (cdAt [1, 1, 0, 1, 0] (bodyOf Tryz.f51))) 51)), (3, O.rows 1 false [[V.sl (Id.p 6) 0 1]]), (4, O.rows 1 false [[iv (↑(pll plans).length : Int)]]), (2, O.rows 1 false [[V.lst 1 (nl vals)]]), (1, O.rows 1 false [[V.lst 1 (pll plans)]]), (0, O.rows 1 false [[V.lst 3 (itl bx)]]), (6, O.rows 3 true [[V.raw (Value.int IntKind.u8 n), iv n_1, V.lst s es]])] 7 []))) (J (St.mk (mkT [(0, V.yl (Id.p 5)), (5, iv (↑N : Int)), (6, iv (IntKind.i64.wrap ((↑i : Int) + (1 : Int))))]) (Hp.mk [(5, O.lp (Lr.mk LoopState.ready none (mkT [(0, V.lst 3 (itl bx)), (1, V.lst 1 (pll plans)), (2, V.lst 1 (nl vals)), (3, V.ptr (Id.p 0) 0 0), (4, V.ptr (Id.p 1) 0 0), (5, V.ptr (Id.p 2) 0 0), (6, nilS), (7, V.ptr (Id.p 3) 0 0), (11, V.lst 1 (pll plans)), (12, iv (↑(pll plans).length : Int)), (13, V.fn (Fn.func (121 : FuncId)) [] [V.ptr (Id.p 4) 0 0])]) 29 (Array.mk [14]) (rfA (cdAt [1, 1, 0, 1, 0] (bodyOf Tryz.f51))) (rfB (cdAt [1, 1, 0, 1, 0] (bodyOf Tryz.f51))) 51)), (4, O.rows 1 false [[iv (↑(pll plans).length : Int)]]), (3, O.rows 1 false [[nilS]]), (2, O.rows 1 false [[V.lst 1 (nl vals)]]), (1, O.rows 1 false [[V.lst 1 (pll plans)]]), (0, O.rows 1 false [[V.lst 3 (itl bx)]])] 6 [])))))) (R nilS)) (by kernel_rfl) ?_
    refine ifB_mk (fun hb => ?_) (fun hb => ?_)
    · have hi : i < N := by have := of_decide_eq_true hb; omega
      refine call _ hi (fun d hd => ?_)
      rw [wr1i hi (by omega)]
      cases ho : choF plans vals (bl8 i) 0 bx with
      | none =>
        refine onTup_tup (onCons_cons (onAgg_agg (onCons_cons (onIntK_u8 (onCons_cons (onIntK_iv (onCons_cons (onLst_nil (onNil_nil (onCons_cons (onBool_bv (onNil_nil (ifB_f rfl ?_)))))))))))))
        exact hJ' (by simp [sh51, sh51a, rec51]) (none' hi ho)
      | some p =>
        obtain ⟨v, l⟩ := p
        refine onTup_tup (onCons_cons (onAgg_agg (onCons_cons (onIntK_u8 (onCons_cons (onIntK_iv (onCons_cons (onLst_lst (onNil_nil (onCons_cons (onBool_bv (onNil_nil (ifB_t rfl ?_)))))))))))))
        have hd' : d = 3 ∨ l = [] := by rcases hd with hd | ⟨v', hv'⟩; exact .inl hd; rw [ho] at hv'; simp at hv'; exact .inr hv'.2
        exact hJ' (by simp [sh51, sh51b, rec51, chl, chr, sv, u8v]) (some' hi v l d ho hd')
    · have hi : i = N := by have := of_decide_eq_false hb; omega
      subst hi
      exfalso
      have : (choS bx plans vals i).length = 0 := by rw [← g3]; rfl
      obtain ⟨m, rfl⟩ : ∃ m, i = 1 + m := ⟨i - 1, by omega⟩
      have hmem : (0, 0, bx) ∈ choS bx plans vals (1 + m) := by
        simp only [choS, List.mem_filterMap, List.mem_range]
        exact ⟨0, by omega, by simp [show bl8 0 = [] by decide, choF]⟩
      rw [List.eq_nil_of_length_eq_zero this] at hmem
      cases hmem
  · rw [sh51_b hc]
    refine see (p := ifB (decide ((↑i : Int) < (↑N : Int))) (K0G Tryz.prog glX 98 [V.lst 3 (itl bx), V.lst 1 (pll plans), V.lst 1 (nl vals), V.raw (Value.int IntKind.u8 (IntKind.u8.wrap (↑i : Int)))] fun v => onTup v fun vs => onCons vs fun u r => onAgg u fun cs_1 => onCons cs_1 fun u r_1 => onIntK IntKind.u8 u fun n => onCons r_1 fun u r_2 => onIntK IntKind.i64 u fun n_1 => onCons r_2 fun u r_3 => onLst u fun s es => onNil r_3 (onCons r fun u r => onBool u fun b => onNil r (ifB b (need ((cs.length + 1) * 40 ≤ 140737488355328) (J (St.mk (mkT [(0, V.yl (Id.p 5)), (5, iv (↑N : Int)), (6, iv (IntKind.i64.wrap ((↑i : Int) + (1 : Int))))]) (Hp.mk [(5, O.lp (Lr.mk LoopState.ready none (mkT [(0, V.lst 3 (itl bx)), (1, V.lst 1 (pll plans)), (2, V.lst 1 (nl vals)), (3, V.ptr (Id.p 0) 0 0), (4, V.ptr (Id.p 1) 0 0), (5, V.ptr (Id.p 2) 0 0), (6, nilS), (7, V.ptr (Id.p 3) 0 0), (11, V.lst 1 (pll plans)), (12, iv (↑(pll plans).length : Int)), (13, V.fn (Fn.func (121 : FuncId)) [] [V.ptr (Id.p 4) 0 0])]) 29 (Array.mk [14]) (rfA (cdAt [1, 1, 0, 1, 0] (bodyOf Tryz.f51))) (rfB (cdAt [1, 1, 0, 1, 0] (bodyOf Tryz.f51))) 51)), (3, O.rows 1 false [[V.sl (Id.p 6) 0 (cs.length + 1)]]), (4, O.rows 1 false [[iv (↑(pll plans).length : Int)]]), (2, O.rows 1 false [[V.lst 1 (nl vals)]]), (1, O.rows 1 false [[V.lst 1 (pll plans)]]), (0, O.rows 1 false [[V.lst 3 (itl bx)]]), (6, O.rows 3 true (List.take cs.length (chl cs) ++ [[V.raw (Value.int IntKind.u8 n), iv n_1, V.lst s es]]))] 7 [])))) (J (St.mk (mkT [(0, V.yl (Id.p 5)), (5, iv (↑N : Int)), (6, iv (IntKind.i64.wrap ((↑i : Int) + (1 : Int))))]) (Hp.mk [(5, O.lp (Lr.mk LoopState.ready none (mkT [(0, V.lst 3 (itl bx)), (1, V.lst 1 (pll plans)), (2, V.lst 1 (nl vals)), (3, V.ptr (Id.p 0) 0 0), (4, V.ptr (Id.p 1) 0 0), (5, V.ptr (Id.p 2) 0 0), (6, nilS), (7, V.ptr (Id.p 3) 0 0), (11, V.lst 1 (pll plans)), (12, iv (↑(pll plans).length : Int)), (13, V.fn (Fn.func (121 : FuncId)) [] [V.ptr (Id.p 4) 0 0])]) 29 (Array.mk [14]) (rfA (cdAt [1, 1, 0, 1, 0] (bodyOf Tryz.f51))) (rfB (cdAt [1, 1, 0, 1, 0] (bodyOf Tryz.f51))) 51)), (3, O.rows 1 false [[V.sl (Id.p 6) 0 cs.length]]), (4, O.rows 1 false [[iv (↑(pll plans).length : Int)]]), (2, O.rows 1 false [[V.lst 1 (nl vals)]]), (1, O.rows 1 false [[V.lst 1 (pll plans)]]), (0, O.rows 1 false [[V.lst 3 (itl bx)]]), (6, O.rows 3 true (chl cs))] 7 [])))))) (R (V.lst 3 (sub (chl cs) 0 cs.length)))) (by kernel_rfl) ?_
    rw [chl_take]
    refine ifB_mk (fun hb => ?_) (fun hb => ?_)
    · have hi : i < N := by have := of_decide_eq_true hb; omega
      refine call _ hi (fun d hd => ?_)
      rw [wr1i hi (by omega)]
      cases ho : choF plans vals (bl8 i) 0 bx with
      | none =>
        refine onTup_tup (onCons_cons (onAgg_agg (onCons_cons (onIntK_u8 (onCons_cons (onIntK_iv (onCons_cons (onLst_nil (onNil_nil (onCons_cons (onBool_bv (onNil_nil (ifB_f rfl ?_)))))))))))))
        have g := none' hi ho
        rw [sh51_b hc] at g
        exact hJ' (by simp [sh51b, rec51]) g
      | some p =>
        obtain ⟨v, l⟩ := p
        refine onTup_tup (onCons_cons (onAgg_agg (onCons_cons (onIntK_u8 (onCons_cons (onIntK_iv (onCons_cons (onLst_lst (onNil_nil (onCons_cons (onBool_bv (onNil_nil (ifB_t rfl (need_mk ⟨by omega, ?_⟩))))))))))))))
        have hd' : d = 3 ∨ l = [] := by rcases hd with hd | ⟨v', hv'⟩; exact .inl hd; rw [ho] at hv'; simp at hv'; exact .inr hv'.2
        have g := some' hi v l d ho hd'
        rw [sh51_b (by simp)] at g
        exact hJ' (by simp [sh51b, rec51, chl, chr, sv, u8v]) g
    · have hi : i = N := by have := of_decide_eq_false hb; omega
      subst hi
      rw [← chl_length cs, sub_all]
      exact h cs g3 g4 hc
end Go.Proofs.YtmddjopahcbefaaGreat
