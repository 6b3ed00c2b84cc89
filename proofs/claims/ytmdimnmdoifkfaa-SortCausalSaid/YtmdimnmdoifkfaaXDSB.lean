/- As what a part is read. -/
import Derived.Test.YtmdimnmdoifkfaaXDSA
namespace Go.Proofs.Ytmdimnmdoifkfaa
open Go Go.Proofs.Ytmdimnmdoifkfaa.Clean
set_option linter.unusedVariables false
set_option linter.unusedSimpArgs false
set_option maxRecDepth 10000

def cnt (l : List Int) (k : Nat) : Int := (l.count (k : Int) : Int)
/-- How many readings say each kind. -/
def cts (l : List Int) : List Int := (List.range 16).map (cnt l)
def mstep (s : Int × Int) (k : Nat) (n : Int) : Int × Int := if n > s.2 then ((k : Int), n) else if n = s.2 then (-1, s.2) else s
def mgo : List Int → Nat → Int × Int → Int × Int
  | [], _, s => s
  | n :: c, k, s => mgo c (k + 1) (mstep s k n)
/-- The kind that most say. -/
def mostF (c : List Int) : Int := (mgo c 0 (-1, 0)).1
def kindOf (l : List Int) : Int := mostF (cts l)
theorem mgo_step {c : List Int} {k : Nat} {x : Int} {s : Int × Int} (h : c[k]? = some x) : mgo (c.drop k) k s = mgo (c.drop (k + 1)) (k + 1) (mstep s k x) := by
  have hk : k < c.length := (List.getElem?_eq_some_iff.1 h).1
  have hx : c[k] = x := (List.getElem?_eq_some_iff.1 h).2
  rw [List.drop_eq_getElem_cons hk, hx]
  rfl
theorem mgo_end {c : List Int} {k : Nat} {s : Int × Int} (h : c.length ≤ k) : mgo (c.drop k) k s = s := by rw [List.drop_of_length_le h]; rfl
theorem ivs_get {c : List Int} {k : Nat} {x : Int} (h : c[k]? = some x) : (ivs c)[0 + k * 1]? = some (iv x) := by rw [Nat.zero_add, Nat.mul_one]; simp [ivs, h]
theorem most88 {c : List Int} {Q : V → Us → Prop} (hc : c.length = 16) (h : Q (iv (mostF c)) []) : KM Try.prog glX 88 [.sla (.p 0) 0 0 16] ⟨[(0, O.rows 16 true [ivs c])], 1, []⟩ (sameP 88) Q := by
  refine KM_of_WYK hmX hcM 100 Try.func88 (fun R hR => see (p := La 1 [(3 : Tmp), (4 : Tmp), (7 : Tmp), (8 : Tmp), (9 : Tmp)] (WY Try.prog cfM 94 (Env.mk (Bs.mk 0 []) 1 none 24 88 0) (cdAt [1, 1, 0, 1, 0, 0] (bodyOf Try.f88))) (Qblk 0 (Qthen (WY Try.prog cfM 97 (Env.mk (Bs.mk 0 []) 1 none 24 88 0) (cdAt [1, 1, 1] (bodyOf Try.f88)) (QendX Try.prog Try.f88 R)) (QendX Try.prog Try.f88 R))) (St.mk (mkT [(3, iv (-1 : Int)), (4, iv (0 : Int)), (7, V.sla (Id.p 0) 0 0 16), (8, iv (16 : Int)), (9, iv (0 : Int))]) (Hp.mk [(0, O.rows 16 true [ivs c])] 1 []))) (by kernel_rfl) ?_)
  refine La.of (σ := (Int × Int) × Nat) (fun s => sh88 c s.1.1 s.1.2 s.2) (fun s => s.2 ≤ 16 ∧ mgo (c.drop s.2) s.2 s.1 = mgo c 0 (-1, 0)) (fun s => 16 - s.2) ((-1, 0), 0) (by kernel_rfl) ⟨by simp, rfl⟩ ?_
  rintro ⟨⟨a, b⟩, k⟩ ⟨g1, g2⟩ J hJ
  simp only at g1 g2
  refine see (p := ifB (decide ((↑k : Int) < (16 : Int))) (need (k < 16) (onSome (ivs c)[0 + k * 1]? fun v => onIntK IntKind.i64 v fun n => ifB (decide (n > b)) (J (St.mk (mkT [(3, iv (↑k : Int)), (4, iv n), (7, V.sla (Id.p 0) 0 0 16), (8, iv (16 : Int)), (9, iv (IntKind.i64.wrap ((↑k : Int) + (1 : Int))))]) (Hp.mk [(0, O.rows 16 true [ivs c])] 1 []))) (ifB (n == b) (J (St.mk (mkT [(3, iv (-1 : Int)), (4, iv b), (7, V.sla (Id.p 0) 0 0 16), (8, iv (16 : Int)), (9, iv (IntKind.i64.wrap ((↑k : Int) + (1 : Int))))]) (Hp.mk [(0, O.rows 16 true [ivs c])] 1 []))) (J (St.mk (mkT [(3, iv a), (4, iv b), (7, V.sla (Id.p 0) 0 0 16), (8, iv (16 : Int)), (9, iv (IntKind.i64.wrap ((↑k : Int) + (1 : Int))))]) (Hp.mk [(0, O.rows 16 true [ivs c])] 1 [])))))) (R (iv a) (Hp.mk [(0, O.rows 16 true [ivs c])] 1 []))) (by kernel_rfl) ?_
  refine ifB_mk (fun hb => ?_) (fun hb => ?_)
  · have hlt : k < 16 := by have := of_decide_eq_true hb; omega
    obtain ⟨x, hx⟩ := getI (l := c) (k := k) (by omega)
    rw [mgo_step hx] at g2
    refine need_mk ⟨hlt, onSome_mk (ivs_get hx) (onIntK_iv ?_)⟩
    rw [wr1i hlt (by omega)]
    refine ifB_mk (fun c1 => ?_) (fun c1 => ifB_mk (fun c2 => ?_) (fun c2 => ?_))
    · refine hJ ((k, x), k + 1) ⟨by simp only; omega, ?_⟩ (by simp only; omega)
      rw [show mstep (a, b) k x = ((k : Int), x) from if_pos (of_decide_eq_true c1)] at g2
      exact g2
    · refine hJ ((-1, b), k + 1) ⟨by simp only; omega, ?_⟩ (by simp only; omega)
      rw [show mstep (a, b) k x = (-1, b) from (if_neg (of_decide_eq_false c1)).trans (if_pos (by simpa using c2))] at g2
      exact g2
    · refine hJ ((a, b), k + 1) ⟨by simp only; omega, ?_⟩ (by simp only; omega)
      rw [show mstep (a, b) k x = (a, b) from (if_neg (of_decide_eq_false c1)).trans (if_neg (by simpa using c2))] at g2
      exact g2
  · have hk : c.length ≤ k := by have := of_decide_eq_false hb; omega
    rw [mgo_end hk] at g2
    refine hR _ ?_
    rw [mostF, ← g2] at h
    exact h
theorem cts_length (l : List Int) : (cts l).length = 16 := by simp [cts]
theorem cts_get {l : List Int} {k : Nat} (h : k < 16) : (cts l)[k]? = some (cnt l k) := by simp [cts, h]
theorem cnt_nil (k : Nat) : cnt [] k = 0 := rfl
theorem cnt_app (l : List Int) (x : Int) (k : Nat) : cnt (l ++ [x]) k = cnt l k + if x = k then 1 else 0 := by
  unfold cnt
  rw [List.count_append]
  by_cases h : x = k
  · subst h; simp
  · rw [if_neg h]; simp [h]
theorem cnt_le (l : List Int) (k : Nat) : 0 ≤ cnt l k ∧ cnt l k ≤ l.length := by unfold cnt; have := List.count_le_length (a := (k : Int)) (l := l); omega
theorem cts_none {l : List Int} {x : Int} (h : x = -1) : cts (l ++ [x]) = cts l := by
  unfold cts
  refine List.map_congr_left (fun k _ => ?_)
  rw [cnt_app, if_neg (by omega)]; omega
theorem cts_put {l : List Int} {m : Nat} (h : m < 16) : List.take (0 + m * 1) (ivs (cts l)) ++ [iv (cnt l m + 1)] ++ List.drop (0 + m * 1 + 1) (ivs (cts l)) = ivs (cts (l ++ [(m : Int)])) := by
  rw [Nat.zero_add, Nat.mul_one]
  refine List.ext_getElem? (fun i => ?_)
  have hl : (List.take m (ivs (cts l)) ++ [iv (cnt l m + 1)]).length = m + 1 := by simp [ivs, cts]; omega
  have hr : ∀ (l : List Int) i, i < 16 → (ivs (cts l))[i]? = some (iv (cnt l i)) := fun l i hi => by simp [ivs, cts, hi]
  by_cases h16 : i < 16
  · rw [hr _ _ h16, cnt_app]
    by_cases hi : i < m
    · rw [List.getElem?_append_left (by omega), List.getElem?_append_left (by simp [ivs, cts]; omega), List.getElem?_take_of_lt hi, hr _ _ h16, if_neg (by omega), Int.add_zero]
    · by_cases hm : i = m
      · subst hm
        rw [List.getElem?_append_left (by omega), List.getElem?_append_right (by simp [ivs, cts]; omega)]
        simp [ivs, cts, Nat.min_eq_left (Nat.le_of_lt h)]
      · rw [List.getElem?_append_right (by omega), hl, List.getElem?_drop, show m + 1 + (i - (m + 1)) = i from by omega, hr _ _ h16, if_neg (by omega), Int.add_zero]
  · rw [List.getElem?_eq_none (by simp [ivs, cts]; omega), List.getElem?_eq_none (by simp [ivs, cts]; omega)]
theorem readAs51 {l : List Int} {R : V → Prop} (hl : l.length ≤ 1000) (hr : ∀ x ∈ l, Inn (-1) 15 x) (h : R (iv (kindOf l))) : K0G Try.prog glX 51 [.lst 1 (nl l)] R := by
  refine K0_of_WY0 hmX hcM 3000 Try.func51 (see (p := La 0 [(3 : Tmp), (6 : Tmp), (7 : Tmp), (8 : Tmp)] (WY Try.prog cfM 2994 (Env.mk (Bs.mk 0 []) 0 none 22 51 0) (cdAt [1, 1, 0, 1, 0, 0] (bodyOf Try.f51))) (Qblk 0 (Qthen (WY Try.prog cfM 2997 (Env.mk (Bs.mk 0 []) 0 none 22 51 0) (cdAt [1, 1, 1] (bodyOf Try.f51)) (QendX Try.prog Try.f51 fun v h => R (frzW h v))) (QendX Try.prog Try.f51 fun v h => R (frzW h v)))) (St.mk (mkT [(3, V.ptr (Id.p 0) 0 0), (6, V.lst 1 (nl l)), (7, iv (↑(nl l).length : Int)), (8, iv (0 : Int))]) (Hp.mk [(0, O.rows 16 true [[iv (0 : Int), iv (0 : Int), iv (0 : Int), iv (0 : Int), iv (0 : Int), iv (0 : Int), iv (0 : Int), iv (0 : Int), iv (0 : Int), iv (0 : Int), iv (0 : Int), iv (0 : Int), iv (0 : Int), iv (0 : Int), iv (0 : Int), iv (0 : Int)]])] 1 []))) (by kernel_rfl) ?_)
  refine La.of (σ := Nat) (fun k => sh51 l (cts (l.take k)) k) (fun k => k ≤ l.length) (fun k => l.length - k) 0 (by kernel_rfl) (by omega) ?_
  rintro k g1 J hJ
  generalize hc : cts (l.take k) = c
  have hc16 : c.length = 16 := by rw [← hc]; exact cts_length _
  refine see (p := ifB (decide ((↑k : Int) < (↑(nl l).length : Int))) (onSome (nl l)[k]? fun row => onSome row[0]? fun v => onIntK IntKind.i64 v fun n => ifB (n != (-1 : Int)) (onNat n fun m => need (m < 16) (onSome (ivs c)[0 + m * 1]? fun v => onIntK IntKind.i64 v fun n_1 => onNat n fun m => need (m < 16) (guardB ((0 + m * 1 + 1).ble (ivs c).length) (J (St.mk (mkT [(3, V.ptr (Id.p 0) 0 0), (6, V.lst 1 (nl l)), (7, iv (↑(nl l).length : Int)), (8, iv (IntKind.i64.wrap ((↑k : Int) + (1 : Int))))]) (Hp.mk [(0, O.rows 16 true [List.take (0 + m * 1) (ivs c) ++ [iv (IntKind.i64.wrap (n_1 + (1 : Int)))] ++ List.drop (0 + m * 1 + 1) (ivs c)])] 1 [])))))) (J (St.mk (mkT [(3, V.ptr (Id.p 0) 0 0), (6, V.lst 1 (nl l)), (7, iv (↑(nl l).length : Int)), (8, iv (IntKind.i64.wrap ((↑k : Int) + (1 : Int))))]) (Hp.mk [(0, O.rows 16 true [ivs c])] 1 [])))) (KM Try.prog glX 88 [V.sla (Id.p 0) 0 0 16] (Hp.mk [(0, O.rows 16 true [ivs c])] 1 []) (fun h x => h) fun v us => onIntK IntKind.i64 v fun n => R (iv n))) (by kernel_rfl) ?_
  refine ifB_mk (fun hb => ?_) (fun hb => ?_)
  · have hlt : k < l.length := by rw [nl_length] at hb; have := of_decide_eq_true hb; omega
    obtain ⟨x, hx⟩ := getI hlt
    have hi := hr x (mem_at hx)
    have hts := take_succ' hx
    rw [wr1i hlt hl]
    refine iel hx (ifB_mk (fun c1 => ?_) (fun c1 => ?_))
    · have hx0 : 0 ≤ x := by have := hi.1; have : x ≠ -1 := by simpa using c1
                             omega
      obtain ⟨m, rfl⟩ : ∃ m : Nat, x = m := ⟨x.toNat, by omega⟩
      have hm : m < 16 := by have := hi.2; omega
      subst hc
      refine onNat_mk rfl (need_mk ⟨hm, onSome_mk (ivs_get (cts_get hm)) (onIntK_iv (onNat_mk rfl (need_mk ⟨hm, guardB_mk (by rw [ivs_length, hc16]; exact Nat.ble_eq_true_of_le (by omega)) ?_⟩)))⟩)
      have hle := cnt_le (l.take k) m
      rw [List.length_take] at hle
      rw [wr (by omega) (by omega), cts_put hm, ← hts]
      exact hJ (k + 1) hlt (by omega)
    · subst hc
      have := hJ (k + 1) hlt (by omega)
      simp only [hts, cts_none (show x = -1 by simpa using c1)] at this
      exact this
  · have hk : l.length ≤ k := by rw [nl_length] at hb; have := of_decide_eq_false hb; omega
    refine most88 hc16 (onIntK_iv ?_)
    rw [← hc, List.take_of_length_le hk]
    exact h
theorem votes89 {l : List Int} {m : Nat} {R : V → Prop} (hl : l.length ≤ 1000) (h : R (iv (cnt l m))) : K0G Try.prog glX 89 [.lst 1 (nl l), iv (m : Int)] R := by
  refine K0_of_WY0 hmX hcM 3000 Try.func89 (see (p := La 0 [(0 : Tmp), (1 : Tmp), (5 : Tmp), (6 : Tmp)] (WY Try.prog cfM 2994 (Env.mk (Bs.mk 0 []) 0 none 22 89 0) (cdAt [1, 1, 0, 1, 0, 0] (bodyOf Try.f89))) (Qblk 0 (Qthen (WY Try.prog cfM 2997 (Env.mk (Bs.mk 0 []) 0 none 22 89 0) (cdAt [1, 1, 1] (bodyOf Try.f89)) (QendX Try.prog Try.f89 fun v h => R (frzW h v))) (QendX Try.prog Try.f89 fun v h => R (frzW h v)))) (St.mk (mkT [(0, V.lst 1 (nl l)), (1, iv (↑m : Int)), (5, iv (0 : Int)), (6, iv (0 : Int))]) (Hp.mk [] 0 []))) (by kernel_rfl) ?_)
  refine La.of (σ := Nat) (fun k => sh89 l m (cnt (l.take k) m) k) (fun k => k ≤ l.length) (fun k => l.length - k) 0 (by kernel_rfl) (by omega) ?_
  rintro k g1 J hJ
  generalize hc : cnt (l.take k) m = c
  refine see (p := ifB (decide ((↑k : Int) < (↑(nl l).length : Int))) (onSome (nl l)[k]? fun row => onSome row[0]? fun v => onIntK IntKind.i64 v fun n => ifB (n == (↑m : Int)) (J (St.mk (mkT [(0, V.lst 1 (nl l)), (1, iv (↑m : Int)), (5, iv (IntKind.i64.wrap (c + (1 : Int)))), (6, iv (IntKind.i64.wrap ((↑k : Int) + (1 : Int))))]) (Hp.mk [] 0 []))) (J (St.mk (mkT [(0, V.lst 1 (nl l)), (1, iv (↑m : Int)), (5, iv c), (6, iv (IntKind.i64.wrap ((↑k : Int) + (1 : Int))))]) (Hp.mk [] 0 [])))) (R (iv c))) (by kernel_rfl) ?_
  refine ifB_mk (fun hb => ?_) (fun hb => ?_)
  · have hlt : k < l.length := by rw [nl_length] at hb; have := of_decide_eq_true hb; omega
    obtain ⟨x, hx⟩ := getI hlt
    have hle := cnt_le (l.take k) m
    rw [List.length_take] at hle
    have g := hJ (k + 1) hlt (by omega)
    simp only [take_succ' hx, cnt_app, hc] at g
    rw [wr1i hlt hl]
    refine iel hx (ifB_mk (fun c1 => ?_) (fun c1 => ?_))
    · rw [if_pos (by simpa using c1)] at g
      rw [wr (by omega) (by omega)]
      exact g
    · rw [if_neg (by simpa using c1), Int.add_zero] at g
      exact g
  · have hk : l.length ≤ k := by rw [nl_length] at hb; have := of_decide_eq_false hb; omega
    rw [← hc, List.take_of_length_le hk]
    exact h
theorem seen53 {l : List Int} {R : V → Prop} (hl : l.length ≤ 1000) (h : R (iv (kindOf l))) : K0G Try.prog glX 53 [.lst 1 (nl l)] R := by
  refine K0_of_WY0 hmX hcM 3000 Try.func53 (see (p := La 0 [(0 : Tmp), (3 : Tmp), (4 : Tmp), (5 : Tmp), (6 : Tmp)] (WY Try.prog cfM 2994 (Env.mk (Bs.mk 0 []) 0 none 29 53 0) (cdAt [1, 1, 0, 1, 0, 0] (bodyOf Try.f53))) (Qblk 0 (Qthen (WY Try.prog cfM 2997 (Env.mk (Bs.mk 0 []) 0 none 29 53 0) (cdAt [1, 1, 1] (bodyOf Try.f53)) (QendX Try.prog Try.f53 fun v h => R (frzW h v))) (QendX Try.prog Try.f53 fun v h => R (frzW h v)))) (St.mk (mkT [(0, V.lst 1 (nl l)), (3, iv (-1 : Int)), (4, iv (0 : Int)), (5, bv false), (6, iv (0 : Int))]) (Hp.mk [] 0 []))) (by kernel_rfl) ?_)
  refine La.of (σ := (Int × Int × Bool) × Nat) (fun s => sh53 l s.1.1 s.1.2.1 s.1.2.2 s.2) (fun s => s.2 ≤ 16 ∧ 0 ≤ s.1.2.1 ∧ mgo ((cts l).drop s.2) s.2 (if s.1.2.1 = 0 ∨ s.1.2.2 = true then -1 else s.1.1, s.1.2.1) = mgo (cts l) 0 (-1, 0)) (fun s => 16 - s.2) ((-1, 0, false), 0) (by kernel_rfl) ⟨by simp, by simp, rfl⟩ ?_
  rintro ⟨⟨a, b, e⟩, k⟩ ⟨g1, g0, g2⟩ J hJ
  simp only at g1 g0 g2
  refine see (p := ifB (decide ((↑k : Int) < (16 : Int))) (K0G Try.prog glX 89 [V.lst 1 (nl l), iv (↑k : Int)] fun v => onIntK IntKind.i64 v fun n => ifB (decide (n > b)) (J (St.mk (mkT [(0, V.lst 1 (nl l)), (3, iv (↑k : Int)), (4, iv n), (5, bv false), (6, iv (IntKind.i64.wrap ((↑k : Int) + (1 : Int))))]) (Hp.mk [] 0 []))) (ifB (n == b) (J (St.mk (mkT [(0, V.lst 1 (nl l)), (3, iv a), (4, iv b), (5, bv true), (6, iv (IntKind.i64.wrap ((↑k : Int) + (1 : Int))))]) (Hp.mk [] 0 []))) (J (St.mk (mkT [(0, V.lst 1 (nl l)), (3, iv a), (4, iv b), (5, bv e), (6, iv (IntKind.i64.wrap ((↑k : Int) + (1 : Int))))]) (Hp.mk [] 0 []))))) (ifB (b == (0 : Int)) (R (iv (-1 : Int))) (ifB e (R (iv (-1 : Int))) (R (iv a))))) (by kernel_rfl) ?_
  refine ifB_mk (fun hb => ?_) (fun hb => ?_)
  · have hlt : k < 16 := by have := of_decide_eq_true hb; omega
    rw [mgo_step (cts_get hlt)] at g2
    refine votes89 hl (onIntK_iv ?_)
    have hle := cnt_le l k
    generalize cnt l k = x at g2 hle ⊢
    rw [wr1i hlt (by omega)]
    refine ifB_mk (fun c1 => ?_) (fun c1 => ifB_mk (fun c2 => ?_) (fun c2 => ?_))
    · have c1 := of_decide_eq_true c1
      refine hJ ((k, x, false), k + 1) ⟨by simp only; omega, hle.1, ?_⟩ (by simp only; omega)
      rw [← g2]
      simp only [mstep, if_pos c1, Bool.false_eq_true, or_false]
      rw [if_neg (by omega)]
    · have c2 : x = b := by simpa using c2
      have c1 := of_decide_eq_false c1
      refine hJ ((a, b, true), k + 1) ⟨by simp only; omega, g0, ?_⟩ (by simp only; omega)
      rw [← g2]
      simp only [mstep, if_neg c1, if_pos c2, or_true, if_true]
    · have c2 : ¬ x = b := by simpa using c2
      have c1 := of_decide_eq_false c1
      refine hJ ((a, b, e), k + 1) ⟨by simp only; omega, g0, ?_⟩ (by simp only; omega)
      rw [← g2]
      simp only [mstep, if_neg c1, if_neg c2]
  · have hk : (cts l).length ≤ k := by rw [cts_length]; have := of_decide_eq_false hb; omega
    rw [mgo_end hk] at g2
    have hv : kindOf l = if b = 0 ∨ e = true then -1 else a := by rw [kindOf, mostF, ← g2]
    rw [hv] at h
    refine ifB_mk (fun c1 => ?_) (fun c1 => ifB_mk (fun c2 => ?_) (fun c2 => ?_))
    · rw [if_pos (.inl (by simpa using c1))] at h; exact h
    · rw [if_pos (.inr c2)] at h; exact h
    · rw [if_neg (by rintro (q | q); exact absurd q (by simpa using c1); rw [c2] at q; cases q)] at h; exact h
noncomputable def readV (l : List Int) : V := if dc (RdP l) = true then .tup [iv (kindOf l), iv 0] else .tup [iv 0, iv 2]
theorem read16 {l : List Int} {R : V → Prop} (hl : l.length ≤ 1000) (h : R (readV l)) : K0G Try.prog glX 16 [.lst 1 (nl l)] R := by
  refine K0_of_WY0 hmX hcM 3000 Try.func16 (see (p := K0G Try.prog glX 50 [V.lst 1 (nl l)] fun v => onBool v fun b => ifB (!b) (R (V.tup [iv (0 : Int), iv (2 : Int)])) (K0G Try.prog glX 51 [V.lst 1 (nl l)] fun v => onIntK IntKind.i64 v fun n => R (V.tup [iv n, iv (0 : Int)]))) (by kernel_rfl) ?_)
  refine readings50 hl (onBool_bv (ifB_mk (fun c => ?_) (fun c => ?_)))
  · rw [readV, if_neg (by simpa using c)] at h; exact h
  · have hc : dc (RdP l) = true := by simpa using c
    rw [readV, if_pos hc] at h
    exact readAs51 hl (dc_true hc).2.2 (onIntK_iv h)
theorem read17 {l : List Int} {R : V → Prop} (hl : l.length ≤ 1000) (h : R (readV l)) : K0G Try.prog glX 17 [.lst 1 (nl l)] R := by
  refine K0_of_WY0 hmX hcM 3000 Try.func17 (see (p := K0G Try.prog glX 52 [V.lst 1 (nl l)] fun v => onBool v fun b => ifB (!b) (R (V.tup [iv (0 : Int), iv (2 : Int)])) (K0G Try.prog glX 53 [V.lst 1 (nl l)] fun v => onIntK IntKind.i64 v fun n => R (V.tup [iv n, iv (0 : Int)]))) (by kernel_rfl) ?_)
  refine said52 hl (onBool_bv (ifB_mk (fun c => ?_) (fun c => ?_)))
  · rw [readV, if_neg (by simpa using c)] at h; exact h
  · have hc : dc (RdP l) = true := by simpa using c
    rw [readV, if_pos hc] at h
    exact seen53 hl (onIntK_iv h)
end Go.Proofs.Ytmdimnmdoifkfaa
