/- Small things; numbers within bounds; readings. -/
import Derived.Test.YtmdimnmdoifkfaaXDS9R
namespace Go.Proofs.Ytmdimnmdoifkfaa
open Go Go.Proofs.Ytmdimnmdoifkfaa.Clean
set_option linter.unusedVariables false
set_option linter.unusedSimpArgs false
set_option maxRecDepth 10000

theorem hcM : cfM.ok Try.prog := cfgM_ok
theorem ifB_t {b : Bool} {p q : Prop} (hb : b = true) (h : p) : ifB b p q := by subst hb; exact h
theorem ifB_f {b : Bool} {p q : Prop} (hb : b = false) (h : q) : ifB b p q := by subst hb; exact h
theorem hJ' {J : St → Prop} {s s' : St} (he : s = s') (h : J s') : J s := he ▸ h
theorem nl_length (l : List Int) : (nl l).length = l.length := by simp [nl]
theorem gl_length (l : List (Int × Int)) : (gl l).length = l.length := by simp [gl]
theorem fdl_length (l : List Fd) : (fdl l).length = l.length := by simp [fdl]
theorem ivs_length (l : List Int) : (ivs l).length = l.length := by simp [ivs]
theorem bvs_length (l : List Bool) : (bvs l).length = l.length := by simp [bvs]
theorem wr1i {i n : Nat} (h : i < n) (hn : n ≤ 1000) : IntKind.i64.wrap ((i : Int) + 1) = ((i + 1 : Nat) : Int) := by rw [wr (by omega) (by omega)]; simp
theorem iel {l : List Int} {i : Nat} {x : Int} {k : Int → Prop} (h : l[i]? = some x) (hk : k x) : onSome (nl l)[i]? fun row => onSome row[0]? fun v => onIntK IntKind.i64 v fun n => k n := onSome_mk (by simp [nl, h] : (nl l)[i]? = some [iv x]) hk
theorem getI {α : Type} {l : List α} {k : Nat} (h : k < l.length) : ∃ x, l[k]? = some x := ⟨l[k], by simp [h]⟩
noncomputable def dc (p : Prop) : Bool := @decide p (Classical.propDecidable p)
theorem dc_t {p : Prop} (h : p) : dc p = true := by simp [dc, h]
theorem dc_f {p : Prop} (h : ¬ p) : dc p = false := by simp [dc, h]
theorem dc_iff {p q : Prop} (h : p ↔ q) : dc p = dc q := by rw [propext h]
theorem dc_true {p : Prop} (h : dc p = true) : p := by simpa [dc] using h
theorem dc_false {p : Prop} (h : dc p = false) : ¬ p := by simpa [dc] using h
theorem rt {p : Prop} {R : V → Prop} (h : R (bv (dc p))) (hp : p) : R (bv true) := by rw [dc_t hp] at h; exact h
theorem rf {p : Prop} {R : V → Prop} (h : R (bv (dc p))) (hp : ¬ p) : R (bv false) := by rw [dc_f hp] at h; exact h
theorem take_succ' {α : Type} {l : List α} {k : Nat} {x : α} (h : l[k]? = some x) : l.take (k + 1) = l.take k ++ [x] := by rw [List.take_add_one, h]; rfl
theorem all_take {α : Type} {l : List α} {k : Nat} {x : α} {P : α → Prop} (h : l[k]? = some x) (h1 : ∀ y ∈ l.take k, P y) (h2 : P x) : ∀ y ∈ l.take (k + 1), P y := by
  rw [take_succ' h]
  intro y hy
  rcases List.mem_append.1 hy with hy | hy
  · exact h1 y hy
  · rw [List.mem_singleton.1 hy]; exact h2
theorem all_all {α : Type} {l : List α} {k : Nat} {P : α → Prop} (hk : l.length ≤ k) (h1 : ∀ y ∈ l.take k, P y) : ∀ y ∈ l, P y := by rw [List.take_of_length_le hk] at h1; exact h1
theorem mem_at {α : Type} {l : List α} {k : Nat} {x : α} (h : l[k]? = some x) : x ∈ l := List.mem_of_getElem? h
theorem mem_take {α : Type} {l : List α} {k : Nat} {x : α} (h : x ∈ l.take k) : x ∈ l := (List.take_sublist _ _).subset h

def Inn (a b x : Int) : Prop := a ≤ x ∧ x ≤ b
theorem index111 {l : List Int} {a b : Int} {Q : V → Us → Prop} (hl : l.length ≤ 1000) (h : ∀ n : Int, (0 ≤ n ↔ ¬ ∀ x ∈ l, Inn a b x) → Q (iv n) []) : KM Try.prog glX 111 [.lst 1 (nl l), .fn (.func 105) [] [.ptr (.p 0) 0 0, .ptr (.p 1) 0 0]] (mem2 a b) (sameP 111) Q := by
  refine KM_of_WYK hmX hcM 100 Try.func111 (fun R hR => see (p := La 2 [(0 : Tmp), (1 : Tmp), (7 : Tmp), (8 : Tmp)] (WY Try.prog cfM 95 (Env.mk (Bs.mk 0 []) 2 none 19 111 0) (cdAt [1, 0, 1, 0, 0] (bodyOf Try.f111))) (Qblk 0 (Qthen (WY Try.prog cfM 98 (Env.mk (Bs.mk 0 []) 2 none 19 111 0) (cdAt [1, 1] (bodyOf Try.f111)) (QendX Try.prog Try.f111 R)) (QendX Try.prog Try.f111 R))) (St.mk (mkT [(0, V.lst 1 (nl l)), (1, V.fn (Fn.func (105 : FuncId)) [] [V.ptr (Id.p 0) 0 0, V.ptr (Id.p 1) 0 0]), (7, iv (↑(nl l).length : Int)), (8, iv (0 : Int))]) (Hp.mk [(0, O.rows 1 false [[iv a]]), (1, O.rows 1 false [[iv b]])] 2 []))) (by kernel_rfl) ?_)
  refine La.of (σ := Nat) (fun k => sh111 l a b k) (fun k => k ≤ l.length ∧ ∀ x ∈ l.take k, Inn a b x) (fun k => l.length - k) 0 (by kernel_rfl) ⟨by omega, by simp⟩ ?_
  rintro k ⟨g1, g2⟩ J hJ
  refine see (p := ifB (decide ((↑k : Int) < (↑(nl l).length : Int))) (onSome (nl l)[k]? fun row => onSome row[0]? fun v => onIntK IntKind.i64 v fun n => ifB (decide (a ≤ n)) (ifB (!decide (n ≤ b)) (R (iv (↑k : Int)) (Hp.mk [(0, O.rows 1 false [[iv a]]), (1, O.rows 1 false [[iv b]])] 2 [])) (J (St.mk (mkT [(0, V.lst 1 (nl l)), (1, V.fn (Fn.func (105 : FuncId)) [] [V.ptr (Id.p 0) 0 0, V.ptr (Id.p 1) 0 0]), (7, iv (↑(nl l).length : Int)), (8, iv (IntKind.i64.wrap ((↑k : Int) + (1 : Int))))]) (Hp.mk [(0, O.rows 1 false [[iv a]]), (1, O.rows 1 false [[iv b]])] 2 [])))) (R (iv (↑k : Int)) (Hp.mk [(0, O.rows 1 false [[iv a]]), (1, O.rows 1 false [[iv b]])] 2 []))) (R (iv (-1 : Int)) (Hp.mk [(0, O.rows 1 false [[iv a]]), (1, O.rows 1 false [[iv b]])] 2 []))) (by kernel_rfl) ?_
  refine ifB_mk (fun hb => ?_) (fun hb => ?_)
  · have hlt : k < l.length := by rw [nl_length] at hb; have := of_decide_eq_true hb; omega
    obtain ⟨x, hx⟩ := getI hlt
    have no : ¬ Inn a b x → R (iv (k : Int)) (mem2 a b) := fun hn => hR _ (h _ ⟨fun _ hall => hn (hall x (mem_at hx)), fun _ => by omega⟩)
    refine iel hx (ifB_mk (fun c1 => ifB_mk (fun c2 => no (fun hi => by have := hi.2; simp at c2; omega)) (fun c2 => ?_)) (fun c1 => no (fun hi => absurd hi.1 (of_decide_eq_false c1))))
    rw [wr1i hlt hl]
    exact hJ (k + 1) ⟨hlt, all_take hx g2 ⟨of_decide_eq_true c1, by simpa using c2⟩⟩ (by omega)
  · have hk : l.length ≤ k := by rw [nl_length] at hb; have := of_decide_eq_false hb; omega
    exact hR _ (h _ ⟨fun h0 => by omega, fun hn => (hn (all_all hk g2)).elim⟩)
theorem contains104 {l : List Int} {a b : Int} {Q : V → Us → Prop} (hl : l.length ≤ 1000) (h : Q (bv (dc (¬ ∀ x ∈ l, Inn a b x))) []) : KM Try.prog glX 104 [.lst 1 (nl l), .fn (.func 105) [] [.ptr (.p 0) 0 0, .ptr (.p 1) 0 0]] (mem2 a b) (sameP 104) Q := by
  refine KM_of_WYK hmX hcM 100 Try.func104 (fun R hR => see (p := KM Try.prog glX 111 [V.lst 1 (nl l), V.fn (Fn.func (105 : FuncId)) [] [V.ptr (Id.p 0) 0 0, V.ptr (Id.p 1) 0 0]] (Hp.mk [(0, O.rows 1 false [[iv a]]), (1, O.rows 1 false [[iv b]])] 2 []) (fun h x => h) fun v us => onIntK IntKind.i64 v fun n => R (bv (decide (n ≥ (0 : Int)))) (Hp.mk [(0, O.rows 1 false [[iv a]]), (1, O.rows 1 false [[iv b]])] 2 [])) (by kernel_rfl) ?_)
  refine index111 hl (fun n hn => onIntK_iv ?_)
  have : decide (n ≥ 0) = dc (¬ ∀ x ∈ l, Inn a b x) := by
    rw [← dc_iff hn]
    by_cases h0 : 0 ≤ n
    · rw [dc_t h0]; exact decide_eq_true h0
    · rw [dc_f h0]; exact decide_eq_false h0
  rw [this]
  exact hR _ h
def Nums (l : List Int) (n a b : Int) : Prop := (l.length : Int) = n ∧ ∀ x ∈ l, Inn a b x
theorem nums77 {l : List Int} {n a b : Int} {R : V → Prop} (hl : l.length ≤ 1000) (h : R (bv (dc (Nums l n a b)))) : K0G Try.prog glX 77 [.lst 1 (nl l), iv n, iv a, iv b] R := by
  refine K0_of_WY0 hmX hcM 3000 Try.func77 (see (p := ifB ((↑(nl l).length : Int) == n) (KM Try.prog glX 104 [V.lst 1 (nl l), V.fn (Fn.func 105) [] [V.ptr (Id.p 0) 0 0, V.ptr (Id.p 1) 0 0]] (Hp.mk [(0, O.rows 1 false [[iv a]]), (1, O.rows 1 false [[iv b]])] 2 []) (fun h x => h) fun v us => onBool v fun b => R (bv !b)) (R (bv false))) (by kernel_rfl) ?_)
  rw [nl_length]
  refine ifB_mk (fun hc => ?_) (fun hc => rf h (fun hn => by have := hn.1; simp at hc; omega))
  refine contains104 hl (onBool_bv ?_)
  have hc : (l.length : Int) = n := by simpa using hc
  by_cases hall : ∀ x ∈ l, Inn a b x
  · rw [dc_f (not_not_intro hall)]; exact rt h ⟨hc, hall⟩
  · rw [dc_t hall]; exact rf h (fun hn => hall hn.2)
/-- Readings that are such. -/
def RdP (l : List Int) : Prop := 1 ≤ l.length ∧ l.length ≤ 9 ∧ ∀ x ∈ l, Inn (-1) 15 x
theorem readings50 {l : List Int} {R : V → Prop} (hl : l.length ≤ 1000) (h : R (bv (dc (RdP l)))) : K0G Try.prog glX 50 [.lst 1 (nl l)] R := by
  refine K0_of_WY0 hmX hcM 3000 Try.func50 (see (p := ifB (decide ((1 : Int) ≤ (↑(nl l).length : Int))) (ifB (decide ((↑(nl l).length : Int) ≤ (9 : Int))) (K0G Try.prog glX 77 [V.lst 1 (nl l), iv (↑(nl l).length : Int), iv (-1 : Int), iv (15 : Int)] fun v => onBool v fun b => R (bv b)) (R (bv false))) (R (bv false))) (by kernel_rfl) ?_)
  rw [nl_length]
  have fin : 1 ≤ l.length → l.length ≤ 9 → K0G Try.prog glX 77 [.lst 1 (nl l), iv (l.length : Int), iv (-1), iv 15] fun v => onBool v fun b => R (bv b) := fun h1 h2 => by
    refine nums77 hl (onBool_bv ?_)
    rw [dc_iff (show Nums l (l.length : Int) (-1) 15 ↔ RdP l from ⟨fun hn => ⟨h1, h2, hn.2⟩, fun hn => ⟨rfl, hn.2.2⟩⟩)]
    exact h
  refine ifB_mk (fun c1 => ?_) (fun c1 => ?_)
  · have c1 := of_decide_eq_true c1
    refine ifB_mk (fun c2 => fin (by omega) (by have := of_decide_eq_true c2; omega)) (fun c2 => rf h (fun hn => by have := hn.2.1; have := of_decide_eq_false c2; omega))
  · exact rf h (fun hn => by have := hn.1; have := of_decide_eq_false c1; omega)
theorem said52 {l : List Int} {R : V → Prop} (hl : l.length ≤ 1000) (h : R (bv (dc (RdP l)))) : K0G Try.prog glX 52 [.lst 1 (nl l)] R := by
  refine K0_of_WY0 hmX hcM 3000 Try.func52 (see (p := ifB (decide ((↑(nl l).length : Int) ≥ (1 : Int))) (ifB (!decide ((↑(nl l).length : Int) ≤ (9 : Int))) (R (bv false)) (La 0 [(0 : Tmp), (3 : Tmp)] (WY Try.prog cfM 2994 (Env.mk (Bs.mk 0 []) 0 none 20 52 0) (cdAt [1, 1, 0, 1, 0, 0] (bodyOf Try.f52))) (Qblk 0 (Qthen (WY Try.prog cfM 2997 (Env.mk (Bs.mk 0 []) 0 none 20 52 0) (cdAt [1, 1, 1] (bodyOf Try.f52)) (QendX Try.prog Try.f52 fun v h => R (frzW h v))) (QendX Try.prog Try.f52 fun v h => R (frzW h v)))) (St.mk (mkT [(0, V.lst 1 (nl l)), (3, iv (0 : Int))]) (Hp.mk [] 0 [])))) (R (bv false))) (by kernel_rfl) ?_)
  simp only [nl_length]
  refine ifB_mk (fun c1 => ifB_mk (fun c2 => rf h (fun hn => by have := hn.2.1; simp at c2; omega)) (fun c2 => ?_)) (fun c1 => rf h (fun hn => by have := hn.1; have := of_decide_eq_false c1; omega))
  have c1 := of_decide_eq_true c1
  have c2 : l.length ≤ 9 := by simp at c2; omega
  refine La.of (σ := Nat) (fun k => sh52 l k) (fun k => k ≤ l.length ∧ ∀ x ∈ l.take k, Inn (-1) 15 x) (fun k => l.length - k) 0 (by kernel_rfl) ⟨by omega, by simp⟩ ?_
  rintro k ⟨g1, g2⟩ J hJ
  refine see (p := ifB (decide ((↑k : Int) < (↑(nl l).length : Int))) (onSome (nl l)[k]? fun row => onSome row[0]? fun v => onIntK IntKind.i64 v fun n => ifB (decide (n ≥ (-1 : Int))) (ifB (!decide (n ≤ (15 : Int))) (R (bv false)) (J (St.mk (mkT [(0, V.lst 1 (nl l)), (3, iv (IntKind.i64.wrap ((↑k : Int) + (1 : Int))))]) (Hp.mk [] 0 [])))) (R (bv false))) (R (bv true))) (by kernel_rfl) ?_
  refine ifB_mk (fun hb => ?_) (fun hb => ?_)
  · have hlt : k < l.length := by rw [nl_length] at hb; have := of_decide_eq_true hb; omega
    obtain ⟨x, hx⟩ := getI hlt
    have no : ¬ Inn (-1) 15 x → R (bv false) := fun hn => rf h (fun hi => hn (hi.2.2 x (mem_at hx)))
    refine iel hx (ifB_mk (fun c1 => ifB_mk (fun c2 => no (fun hi => by have := hi.2; simp at c2; omega)) (fun c2 => ?_)) (fun c1 => no (fun hi => absurd hi.1 (of_decide_eq_false c1))))
    rw [wr1i hlt hl]
    exact hJ (k + 1) ⟨hlt, all_take hx g2 ⟨of_decide_eq_true c1, by simpa using c2⟩⟩ (by omega)
  · have hk : l.length ≤ k := by rw [nl_length] at hb; have := of_decide_eq_false hb; omega
    exact rt h ⟨by omega, c2, all_all hk g2⟩
end Go.Proofs.Ytmdimnmdoifkfaa
