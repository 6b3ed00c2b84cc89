/- A part of the proof. -/
import Derived.Test.YtmdimnmdoifkfaaProg
import Derived.Test.YtmdimnmdoifkfaaXR5G10
namespace Go.Proofs.Ytmdimnmdoifkfaa
open Go Go.Proofs.Ytmdimnmdoifkfaa.Clean
set_option linter.unusedVariables false
set_option linter.unusedSimpArgs false
set_option maxRecDepth 10000
abbrev Gt := Int × Int
theorem gel {l : List Gt} {i : Nat} {g : Gt} {k : Int → Int → Prop} (h : l[i]? = some g) (hk : k g.1 g.2) : onSome (gl l)[i]? fun row => onCons (List.drop 0 row) fun u r => onIntK IntKind.i64 u fun n => onCons r fun u r => onIntK IntKind.i64 u fun m => k n m := onSome_mk (by simp [gl, h] : (gl l)[i]? = some [iv g.1, iv g.2]) hk
theorem gel0 {l : List Gt} {i : Nat} {g : Gt} {k : Int → Prop} (h : l[i]? = some g) (hk : k g.1) : onSome (gl l)[i]? fun row => onSome row[0]? fun v => onIntK IntKind.i64 v fun n => k n := onSome_mk (by simp [gl, h] : (gl l)[i]? = some [iv g.1, iv g.2]) hk
theorem gel1 {l : List Gt} {i : Nat} {g : Gt} {k : Int → Prop} (h : l[i]? = some g) (hk : k g.2) : onSome (gl l)[i]? fun row => onSome row[1]? fun v => onIntK IntKind.i64 v fun n => k n := onSome_mk (by simp [gl, h] : (gl l)[i]? = some [iv g.1, iv g.2]) hk
theorem pw_succ {α : Type} {P : α → α → Prop} {l : List α} {k : Nat} {x : α} (h : l[k]? = some x) : (l.take (k + 1)).Pairwise P ↔ (l.take k).Pairwise P ∧ ∀ y ∈ l.take k, P y x := by
  rw [take_succ' h, List.pairwise_append]
  constructor
  · rintro ⟨a, _, c⟩
    exact ⟨a, fun y hy => c y hy x (by simp)⟩
  · rintro ⟨a, c⟩
    exact ⟨a, by simp, fun y hy z hz => by rw [List.mem_singleton.1 hz]; exact c y hy⟩
theorem pw_take {α : Type} {P : α → α → Prop} {l : List α} (k : Nat) (h : l.Pairwise P) : (l.take k).Pairwise P := List.Pairwise.sublist (List.take_sublist _ _) h
theorem pw_at {α : Type} {P : α → α → Prop} {l : List α} {k : Nat} {x : α} (hx : l[k]? = some x) (h : l.Pairwise P) : ∀ y ∈ l.take k, P y x := ((pw_succ hx).1 (pw_take (k + 1) h)).2
def G1 (L C : Int) (g : Gt) : Prop := C + 1 ≤ g.1 ∧ g.1 ≤ L - 1 ∧ 0 ≤ g.2 ∧ g.2 ≤ 7
def GB (a b : Gt) : Prop := a.1 < b.1 ∧ a.2 ≠ b.2
def GP (L C : Int) (gs : List Gt) : Prop := (∀ g ∈ gs, G1 L C g) ∧ gs.Pairwise GB
theorem gp_at {L C : Int} {gs : List Gt} {k : Nat} {g : Gt} (hg : gs[k]? = some g) (h : GP L C gs) : G1 L C g ∧ ∀ y ∈ gs.take k, GB y g := ⟨h.1 g (mem_at hg), pw_at hg h.2⟩
theorem gp_next {L C : Int} {gs : List Gt} {k : Nat} {g : Gt} (hg : gs[k]? = some g) (h : GP L C (gs.take k)) (h1 : G1 L C g) (h2 : ∀ y ∈ gs.take k, GB y g) : GP L C (gs.take (k + 1)) := ⟨all_take hg h.1 h1, (pw_succ hg).2 ⟨h.2, h2⟩⟩
def tkn (gs : List Gt) : List Bool := (List.range 8).map fun j : Nat => gs.any fun g => g.2 == (j : Int)
theorem tkn_get {gs : List Gt} {m : Nat} (h : m < 8) : (bvs (tkn gs))[0 + m * 1]? = some (bv (gs.any fun g => g.2 == (m : Int))) := by rw [Nat.zero_add, Nat.mul_one]; simp [bvs, tkn, h]
theorem tkn_put {gs : List Gt} {m : Nat} {a : Int} (h : m < 8) : List.take (0 + m * 1) (bvs (tkn gs)) ++ [bv true] ++ List.drop (0 + m * 1 + 1) (bvs (tkn gs)) = bvs (tkn (gs ++ [(a, (m : Int))])) := by
  rw [Nat.zero_add, Nat.mul_one]
  refine List.ext_getElem? (fun i => ?_)
  have hl : (List.take m (bvs (tkn gs)) ++ [bv true]).length = m + 1 := by simp [bvs, tkn]; omega
  have hr : ∀ (l : List Gt) (i : Nat), i < 8 → (bvs (tkn l))[i]? = some (bv (l.any fun g => g.2 == (i : Int))) := fun l i hi => by simp [bvs, tkn, hi]
  by_cases h16 : i < 8
  · rw [hr _ _ h16, List.any_append]
    by_cases hi : i < m
    · rw [List.getElem?_append_left (by omega), List.getElem?_append_left (by simp [bvs, tkn]; omega), List.getElem?_take_of_lt hi, hr _ _ h16]
      simp only [List.any_cons, List.any_nil, Bool.or_false]
      rw [show ((m : Int) == (i : Int)) = false from by simp; omega, Bool.or_false]
    · by_cases hm : i = m
      · subst hm
        rw [List.getElem?_append_left (by omega), List.getElem?_append_right (by simp [bvs, tkn]; omega)]
        simp [bvs, tkn, Nat.min_eq_left (Nat.le_of_lt h)]
      · rw [List.getElem?_append_right (by omega), hl, List.getElem?_drop, show m + 1 + (i - (m + 1)) = i from by omega, hr _ _ h16]
        simp only [List.any_cons, List.any_nil, Bool.or_false]
        rw [show ((m : Int) == (i : Int)) = false from by simp; omega, Bool.or_false]
  · rw [List.getElem?_eq_none (by simp [bvs, tkn]; omega), List.getElem?_eq_none (by simp [bvs, tkn]; omega)]
def LC (b : Bt) : Prop := 2 ≤ b.L ∧ b.L ≤ 100 ∧ 0 ≤ b.C ∧ b.C ≤ b.L - 2
theorem gates55 {b : Bt} {R : V → Prop} (hb : LC b) (h : R (bv (dc (b.gs.length ≤ 8 ∧ GP b.L b.C b.gs)))) : K0G Try.prog glX 55 [.agg (bel b)] R := by
  obtain ⟨b1, b2, b3, b4⟩ := hb
  refine K0_of_WY0 hmX hcM 3000 Try.func55 (see (p := ifB (decide ((↑(gl b.4).length : Int) > (8 : Int))) (R (bv false)) (La 0 [(1 : Tmp), (3 : Tmp), (4 : Tmp), (14 : Tmp), (15 : Tmp), (16 : Tmp)] (WY Try.prog cfM 2992 (Env.mk (Bs.mk 0 []) 0 none 47 55 0) (cdAt [1, 1, 1, 1, 0, 1, 0, 0] (bodyOf Try.f55))) (Qblk 0 (Qthen (WY Try.prog cfM 2995 (Env.mk (Bs.mk 0 []) 0 none 47 55 0) (cdAt [1, 1, 1, 1, 1] (bodyOf Try.f55)) (QendX Try.prog Try.f55 fun v h => R (frzW h v))) (QendX Try.prog Try.f55 fun v h => R (frzW h v)))) (St.mk (mkT [(1, V.ptr (Id.p 0) 0 0), (3, iv b.2), (4, V.ptr (Id.p 1) 0 0), (14, V.lst 2 (gl b.4)), (15, iv (↑(gl b.4).length : Int)), (16, iv (0 : Int))]) (Hp.mk [(0, O.rows 5 false [[iv b.1, iv b.2, iv b.3, V.lst 2 (gl b.4), V.lst 1 (nl b.5)]]), (1, O.rows 8 true [[bv false, bv false, bv false, bv false, bv false, bv false, bv false, bv false]])] 2 [])))) (by kernel_rfl) ?_)
  refine ifB_mk (fun hc => rf h (fun hn => by have := hn.1; rw [gl_length] at hc; have := of_decide_eq_true hc; omega)) (fun hc => ?_)
  have hc : b.gs.length ≤ 8 := by rw [gl_length] at hc; have := of_decide_eq_false hc; omega
  refine La.of (σ := Int × Nat) (fun s => sh55 b s.1 (tkn (b.gs.take s.2)) s.2) (fun s => s.2 ≤ b.gs.length ∧ GP b.L b.C (b.gs.take s.2) ∧ b.C ≤ s.1 ∧ s.1 ≤ 100 ∧ (∀ g ∈ b.gs.take s.2, g.1 ≤ s.1) ∧ (s.1 = b.C ∨ ∃ g ∈ b.gs.take s.2, g.1 = s.1)) (fun s => b.gs.length - s.2) (b.C, 0) (by kernel_rfl) ⟨by simp, ⟨by simp, by simp⟩, by simp, by simp only; omega, by simp, by simp⟩ ?_
  rintro ⟨n, k⟩ ⟨g1, g2, g3, g4, g5, g6⟩ J hJ
  simp only at g1 g2 g3 g4 g5 g6
  generalize hcc : tkn (b.gs.take k) = c
  refine see (p := ifB (decide ((↑k : Int) < (↑(gl b.4).length : Int))) (onSome (gl b.4)[k]? fun row => onCons (List.drop 0 row) fun u r => onIntK IntKind.i64 u fun n_1 => onCons r fun u r => onIntK IntKind.i64 u fun n_2 => ifB (decide (IntKind.i64.wrap (n + (1 : Int)) ≤ n_1)) (ifB (!decide (n_1 ≤ IntKind.i64.wrap (b.1 - (1 : Int)))) (R (bv false)) (ifB (decide ((0 : Int) ≤ n_2)) (ifB (!decide (n_2 ≤ (7 : Int))) (R (bv false)) (onNat n_2 fun m => need (m < 8) (onSome (bvs c)[0 + m * 1]? fun v => onBool v fun b_1 => ifB b_1 (R (bv false)) (onNat n_2 fun m => need (m < 8) (guardB ((0 + m * 1 + 1).ble (bvs c).length) (J (St.mk (mkT [(1, V.ptr (Id.p 0) 0 0), (3, iv n_1), (4, V.ptr (Id.p 1) 0 0), (14, V.lst 2 (gl b.4)), (15, iv (↑(gl b.4).length : Int)), (16, iv (IntKind.i64.wrap ((↑k : Int) + (1 : Int))))]) (Hp.mk [(0, O.rows 5 false [[iv b.1, iv b.2, iv b.3, V.lst 2 (gl b.4), V.lst 1 (nl b.5)]]), (1, O.rows 8 true [List.take (0 + m * 1) (bvs c) ++ [bv true] ++ List.drop (0 + m * 1 + 1) (bvs c)])] 2 [])))))))) (R (bv false)))) (R (bv false))) (R (bv true))) (by kernel_rfl) ?_
  refine ifB_mk (fun hb => ?_) (fun hb => ?_)
  · have hlt : k < b.gs.length := by rw [gl_length] at hb; have := of_decide_eq_true hb; omega
    obtain ⟨g, hg⟩ := getI hlt
    have no : ¬ (G1 b.L b.C g ∧ ∀ y ∈ b.gs.take k, GB y g) → R (bv false) := fun hn => rf h (fun hp => hn (gp_at hg hp.2))
    refine gel hg ?_
    rw [wr1i hlt (by omega), wr (n := n + 1) (by omega) (by omega), wr (n := b.L - 1) (by omega) (by omega)]
    refine ifB_mk (fun c1 => ?_) (fun c1 => no (fun hp => ?_))
    · have c1 := of_decide_eq_true c1
      refine ifB_mk (fun c2 => no (fun hp => by have := hp.1.2.1; simp at c2; omega)) (fun c2 => ?_)
      have c2 : g.1 ≤ b.L - 1 := by simpa using c2
      refine ifB_mk (fun c3 => ?_) (fun c3 => no (fun hp => by have := hp.1.2.2.1; have := of_decide_eq_false c3; omega))
      have c3 := of_decide_eq_true c3
      refine ifB_mk (fun c4 => no (fun hp => by have := hp.1.2.2.2; simp at c4; omega)) (fun c4 => ?_)
      have c4 : g.2 ≤ 7 := by simpa using c4
      obtain ⟨g0, gm⟩ := g
      obtain ⟨m, rfl⟩ : ∃ m : Nat, gm = m := ⟨gm.toNat, by simp only at c3; omega⟩
      simp only at c1 c2 c3 c4
      have hm : m < 8 := by omega
      subst hcc
      refine onNat_mk rfl (need_mk ⟨hm, onSome_mk (tkn_get hm) (onBool_bv (ifB_mk (fun c5 => no (fun hp => ?_)) (fun c5 => ?_)))⟩)
      · obtain ⟨y, hy, hy2⟩ := List.any_eq_true.1 c5
        exact (hp.2 y hy).2 (by simpa using hy2)
      · refine onNat_mk rfl (need_mk ⟨hm, guardB_mk (by rw [bvs_length]; simp [tkn]; omega) ?_⟩)
        rw [tkn_put (a := g0) hm, ← take_succ' hg]
        have hall : ∀ y ∈ b.gs.take k, GB y (g0, (m : Int)) := fun y hy => ⟨by have := g5 y hy; simp only; omega, fun he => by rw [List.any_eq_false] at c5; exact c5 y hy (by simpa using he)⟩
        refine hJ (g0, k + 1) ⟨hlt, gp_next hg g2 ⟨by simp only; omega, c2, c3, c4⟩ hall, by simp only; omega, by simp only; omega, all_take hg (fun y hy => by have := (hall y hy).1; simp only at this ⊢; omega) (Int.le_refl _), .inr ⟨(g0, m), by rw [take_succ' hg]; simp, rfl⟩⟩ (by simp only; omega)
    · have c1 := of_decide_eq_false c1
      rcases g6 with g6 | ⟨y, hy, hy1⟩
      · have := hp.1.1; omega
      · have := (hp.2 y hy).1; omega
  · have hk : b.gs.length ≤ k := by rw [gl_length] at hb; have := of_decide_eq_false hb; omega
    rw [List.take_of_length_le hk] at g2
    exact rt h ⟨hc, g2⟩
def BtP (b : Bt) : Prop := LC b ∧ 0 ≤ b.S ∧ b.S ≤ 10 ∧ b.gs.length ≤ 8 ∧ GP b.L b.C b.gs ∧ b.bins.length = 16 ∧ ∀ x ∈ b.bins, Inn (-1) 7 x
noncomputable def beltE (b : Bt) : Int := if dc (BtP b) = true then 0 else 90
theorem bad90 {b : Bt} {R : V → Prop} (h : R (iv (beltE b))) (hn : ¬ BtP b) : R (iv 90) := by rw [beltE, if_neg (by rw [dc_f hn]; simp)] at h; exact h
theorem ok90 {b : Bt} {R : V → Prop} (h : R (iv (beltE b))) (hn : BtP b) : R (iv 0) := by rw [beltE, if_pos (dc_t hn)] at h; exact h
theorem belt18 {b : Bt} {R : V → Prop} (hl : b.bins.length ≤ 1000) (h : R (iv (beltE b))) : K0G Try.prog glX 18 [.agg (bel b)] R := by
  refine K0_of_WY0 hmX hcM 3000 Try.func18 (see (p := ifB (decide ((2 : Int) ≤ b.1)) (ifB (!decide (b.1 ≤ (100 : Int))) (R (iv (90 : Int))) (ifB (decide ((0 : Int) ≤ b.2)) (ifB (!decide (b.2 ≤ IntKind.i64.wrap (b.1 - (2 : Int)))) (R (iv (90 : Int))) (ifB (decide ((0 : Int) ≤ b.3)) (ifB (!decide (b.3 ≤ (10 : Int))) (R (iv (90 : Int))) (K0G Try.prog glX 55 [V.agg [iv b.1, iv b.2, iv b.3, V.lst 2 (gl b.4), V.lst 1 (nl b.5)]] fun v => onBool v fun b_1 => ifB (!b_1) (R (iv (90 : Int))) (K0G Try.prog glX 77 [V.lst 1 (nl b.5), iv (16 : Int), iv (-1 : Int), iv (7 : Int)] fun v => onBool v fun b => ifB (!b) (R (iv (90 : Int))) (R (iv (0 : Int)))))) (R (iv (90 : Int))))) (R (iv (90 : Int))))) (R (iv (90 : Int)))) (by kernel_rfl) ?_)
  refine ifB_mk (fun c1 => ?_) (fun c1 => bad90 h (fun hp => by have := hp.1.1; have := of_decide_eq_false c1; omega))
  have c1 := of_decide_eq_true c1
  refine ifB_mk (fun c2 => bad90 h (fun hp => by have := hp.1.2.1; simp at c2; omega)) (fun c2 => ?_)
  have c2 : b.L ≤ 100 := by simpa using c2
  rw [wr (n := b.L - 2) (by omega) (by omega)]
  refine ifB_mk (fun c3 => ?_) (fun c3 => bad90 h (fun hp => by have := hp.1.2.2.1; have := of_decide_eq_false c3; omega))
  have c3 := of_decide_eq_true c3
  refine ifB_mk (fun c4 => bad90 h (fun hp => by have := hp.1.2.2.2; simp at c4; omega)) (fun c4 => ?_)
  have c4 : b.C ≤ b.L - 2 := by simpa using c4
  refine ifB_mk (fun c5 => ?_) (fun c5 => bad90 h (fun hp => by have := hp.2.1; have := of_decide_eq_false c5; omega))
  have c5 := of_decide_eq_true c5
  refine ifB_mk (fun c6 => bad90 h (fun hp => by have := hp.2.2.1; simp at c6; omega)) (fun c6 => ?_)
  have c6 : b.S ≤ 10 := by simpa using c6
  refine gates55 ⟨c1, c2, c3, c4⟩ (onBool_bv (ifB_mk (fun c7 => bad90 h (fun hp => ?_)) (fun c7 => ?_)))
  · have : dc (b.gs.length ≤ 8 ∧ GP b.L b.C b.gs) = true := dc_t ⟨hp.2.2.2.1, hp.2.2.2.2.1⟩
    rw [this] at c7; cases c7
  have c7 := dc_true (show dc (b.gs.length ≤ 8 ∧ GP b.L b.C b.gs) = true by simpa using c7)
  refine nums77 (l := b.bins) (n := 16) hl ?_
  refine onBool_bv (ifB_mk (fun c8 => bad90 h (fun hp => ?_)) (fun c8 => ?_))
  · have : dc (Nums b.bins 16 (-1) 7) = true := dc_t ⟨by have := hp.2.2.2.2.2.1; omega, hp.2.2.2.2.2.2⟩
    rw [this] at c8; cases c8
  have c8 := dc_true (show dc (Nums b.bins 16 (-1) 7) = true by simpa using c8)
  exact ok90 h ⟨⟨c1, c2, c3, c4⟩, c5, c6, c7.1, c7.2, by have := c8.1; omega, c8.2⟩
def leadF : List Gt → Int → Nat → Int
  | [], _, _ => -1
  | g :: r, n, k => if g.2 = n then (k : Int) else leadF r n (k + 1)
theorem leadF_spec : ∀ (gs : List Gt) (n : Int) (k : Nat), (leadF gs n k = -1 ∧ ∀ y ∈ gs, y.2 ≠ n) ∨ ∃ (i : Nat) (g : Gt), gs[i]? = some g ∧ g.2 = n ∧ (∀ y ∈ gs.take i, y.2 ≠ n) ∧ leadF gs n k = ((k + i : Nat) : Int)
  | [], n, k => .inl ⟨rfl, by simp⟩
  | g :: r, n, k => by
    by_cases h : g.2 = n
    · exact .inr ⟨0, g, rfl, h, by simp, by simp [leadF, h]⟩
    · rcases leadF_spec r n (k + 1) with ⟨a, b⟩ | ⟨i, x, a, b, c, d⟩
      · refine .inl ⟨by simp [leadF, h, a], fun y hy => ?_⟩
        rcases List.mem_cons.1 hy with rfl | hy
        · exact h
        · exact b y hy
      · refine .inr ⟨i + 1, x, by simpa using a, b, fun y hy => ?_, by simp only [leadF, h, if_false, d]; omega⟩
        rcases List.mem_cons.1 (by simpa using hy) with rfl | hy
        · exact h
        · exact c y hy
def lead (b : Bt) (n : Int) : Int := leadF b.gs n 0
theorem leads46 {b : Bt} {n : Int} {R : V → Prop} (hl : b.gs.length ≤ 1000) (h : R (iv (lead b n))) : K0G Try.prog glX 46 [.agg (bel b), iv n] R := by
  refine K0_of_WY0 hmX hcM 3000 Try.func46 (see (p := La 0 [(1 : Tmp), (2 : Tmp), (5 : Tmp)] (WY Try.prog cfM 2995 (Env.mk (Bs.mk 0 []) 0 none 22 46 0) (cdAt [1, 0, 1, 0, 0] (bodyOf Try.f46))) (Qblk 0 (Qthen (WY Try.prog cfM 2998 (Env.mk (Bs.mk 0 []) 0 none 22 46 0) (cdAt [1, 1] (bodyOf Try.f46)) (QendX Try.prog Try.f46 fun v h => R (frzW h v))) (QendX Try.prog Try.f46 fun v h => R (frzW h v)))) (St.mk (mkT [(1, iv n), (2, V.ptr (Id.p 0) 0 0), (5, iv (0 : Int))]) (Hp.mk [(0, O.rows 5 false [[iv b.1, iv b.2, iv b.3, V.lst 2 (gl b.4), V.lst 1 (nl b.5)]])] 1 []))) (by kernel_rfl) ?_)
  refine La.of (σ := Nat) (fun k => sh46 b n k) (fun k => k ≤ b.gs.length ∧ leadF (b.gs.drop k) n k = lead b n) (fun k => b.gs.length - k) 0 (by kernel_rfl) ⟨by simp, rfl⟩ ?_
  rintro k ⟨g1, g2⟩ J hJ
  refine see (p := ifB (decide ((↑k : Int) < (↑(gl b.4).length : Int))) (onSome (gl b.4)[k]? fun row => onSome row[1]? fun v => onIntK IntKind.i64 v fun n_1 => ifB (n_1 == n) (R (iv (↑k : Int))) (J (St.mk (mkT [(1, iv n), (2, V.ptr (Id.p 0) 0 0), (5, iv (IntKind.i64.wrap ((↑k : Int) + (1 : Int))))]) (Hp.mk [(0, O.rows 5 false [[iv b.1, iv b.2, iv b.3, V.lst 2 (gl b.4), V.lst 1 (nl b.5)]])] 1 [])))) (R (iv (-1 : Int)))) (by kernel_rfl) ?_
  refine ifB_mk (fun hb => ?_) (fun hb => ?_)
  · have hlt : k < b.gs.length := by rw [gl_length] at hb; have := of_decide_eq_true hb; omega
    obtain ⟨g, hg⟩ := getI hlt
    rw [List.drop_eq_getElem_cons hlt, (List.getElem?_eq_some_iff.1 hg).2] at g2
    rw [wr1i hlt hl]
    refine gel1 hg (ifB_mk (fun c1 => ?_) (fun c1 => ?_))
    · rw [leadF, if_pos (by simpa using c1)] at g2
      rw [g2]; exact h
    · rw [leadF, if_neg (by simpa using c1)] at g2
      exact hJ (k + 1) ⟨hlt, g2⟩ (by omega)
  · have hk : b.gs.length ≤ k := by rw [gl_length] at hb; have := of_decide_eq_false hb; omega
    rw [List.drop_of_length_le hk] at g2
    rw [← g2] at h
    exact h
theorem lead_at {b : Bt} {k : Nat} {g : Gt} (hg : b.gs[k]? = some g) : lead b g.2 = (k : Int) ↔ ∀ y ∈ b.gs.take k, y.2 ≠ g.2 := by
  rcases leadF_spec b.gs g.2 0 with ⟨a, h⟩ | ⟨i, x, a, e, c, d⟩
  · exact (h g (mem_at hg) rfl).elim
  · rw [lead, d]
    constructor
    · intro he
      have : i = k := by omega
      subst this; exact c
    · intro hall
      have h1 : ¬ i < k := fun hlt => hall x (List.mem_iff_getElem?.2 ⟨i, by rw [List.getElem?_take_of_lt hlt]; exact a⟩) e
      have h2 : ¬ k < i := fun hlt => c g (List.mem_iff_getElem?.2 ⟨k, by rw [List.getElem?_take_of_lt hlt]; exact hg⟩) rfl
      omega
theorem belt45 {b : Bt} {R : V → Prop} (h : R (bv (dc (BtP b)))) : K0G Try.prog glX 45 [.agg (bel b)] R := by
  refine K0_of_WY0 hmX hcM 3000 Try.func45 (see (p := ifB (decide (b.1 ≥ (2 : Int))) (ifB (!decide (b.1 ≤ (100 : Int))) (R (bv false)) (ifB (decide (b.2 ≥ (0 : Int))) (ifB (!decide (b.2 ≤ IntKind.i64.wrap (b.1 - (2 : Int)))) (R (bv false)) (ifB (decide (b.3 ≥ (0 : Int))) (ifB (!decide (b.3 ≤ (10 : Int))) (R (bv false)) (ifB (decide ((↑(gl b.4).length : Int) > (8 : Int))) (R (bv false)) (ifB ((↑(nl b.5).length : Int) != (16 : Int)) (R (bv false)) (La 0 [(1 : Tmp), (3 : Tmp)] (WY Try.prog cfM 2994 (Env.mk (Bs.mk 0 []) 0 none 100 45 0) (cdAt [1, 1, 0, 1, 0, 0] (bodyOf Try.f45))) (Qblk 0 (Qthen (WY Try.prog cfM 2997 (Env.mk (Bs.mk 0 []) 0 none 100 45 0) (cdAt [1, 1, 1] (bodyOf Try.f45)) (QendX Try.prog Try.f45 fun v h => R (frzW h v))) (QendX Try.prog Try.f45 fun v h => R (frzW h v)))) (St.mk (mkT [(1, V.ptr (Id.p 0) 0 0), (3, iv (0 : Int))]) (Hp.mk [(0, O.rows 5 false [[iv b.1, iv b.2, iv b.3, V.lst 2 (gl b.4), V.lst 1 (nl b.5)]])] 1 [])))))) (R (bv false)))) (R (bv false)))) (R (bv false))) (by kernel_rfl) ?_)
  refine ifB_mk (fun c1 => ?_) (fun c1 => rf h (fun hp => by have := hp.1.1; have := of_decide_eq_false c1; omega))
  have c1 := of_decide_eq_true c1
  refine ifB_mk (fun c2 => rf h (fun hp => by have := hp.1.2.1; simp at c2; omega)) (fun c2 => ?_)
  have c2 : b.L ≤ 100 := by simpa using c2
  rw [wr (n := b.L - 2) (by omega) (by omega)]
  refine ifB_mk (fun c3 => ?_) (fun c3 => rf h (fun hp => by have := hp.1.2.2.1; have := of_decide_eq_false c3; omega))
  have c3 := of_decide_eq_true c3
  refine ifB_mk (fun c4 => rf h (fun hp => by have := hp.1.2.2.2; simp at c4; omega)) (fun c4 => ?_)
  have c4 : b.C ≤ b.L - 2 := by simpa using c4
  refine ifB_mk (fun c5 => ?_) (fun c5 => rf h (fun hp => by have := hp.2.1; have := of_decide_eq_false c5; omega))
  have c5 := of_decide_eq_true c5
  refine ifB_mk (fun c6 => rf h (fun hp => by have := hp.2.2.1; simp at c6; omega)) (fun c6 => ?_)
  have c6 : b.S ≤ 10 := by simpa using c6
  refine ifB_mk (fun c7 => rf h (fun hp => by have := hp.2.2.2.1; rw [gl_length] at c7; have := of_decide_eq_true c7; omega)) (fun c7 => ?_)
  have c7 : b.gs.length ≤ 8 := by rw [gl_length] at c7; have := of_decide_eq_false c7; omega
  refine ifB_mk (fun c8 => rf h (fun hp => by have := hp.2.2.2.2.2.1; rw [nl_length] at c8; simp at c8; omega)) (fun c8 => ?_)
  have c8 : b.bins.length = 16 := by rw [nl_length] at c8; simp at c8; omega
  refine La.of (σ := Nat) (fun k => sh45a b k) (fun k => k ≤ b.gs.length ∧ GP b.L b.C (b.gs.take k)) (fun k => b.gs.length - k) 0 (by kernel_rfl) ⟨by simp, by simp, by simp⟩ ?_
  rintro k ⟨g1, g2⟩ J hJ
  refine see (p := ifB (decide ((↑k : Int) < (↑(gl b.4).length : Int))) (onSome (gl b.4)[k]? fun row => onCons (List.drop 0 row) fun u r => onIntK IntKind.i64 u fun n => onCons r fun u r => onIntK IntKind.i64 u fun n_1 => ifB (decide (n ≥ IntKind.i64.wrap (b.2 + (1 : Int)))) (ifB (!decide (n ≤ IntKind.i64.wrap (b.1 - (1 : Int)))) (R (bv false)) (ifB (decide ((↑k : Int) > (0 : Int))) (onNat (IntKind.i64.wrap ((↑k : Int) - (1 : Int))) fun m => onSome (gl b.4)[m]? fun row => onSome row[0]? fun v => onIntK IntKind.i64 v fun n_2 => ifB (decide (n ≤ n_2)) (R (bv false)) (ifB (decide (n_1 ≥ (0 : Int))) (ifB (!decide (n_1 ≤ (7 : Int))) (R (bv false)) (K0G Try.prog glX 46 [V.agg [iv b.1, iv b.2, iv b.3, V.lst 2 (gl b.4), V.lst 1 (nl b.5)], iv n_1] fun v => onIntK IntKind.i64 v fun n => ifB (n != (↑k : Int)) (R (bv false)) (J (St.mk (mkT [(1, V.ptr (Id.p 0) 0 0), (3, iv (IntKind.i64.wrap ((↑k : Int) + (1 : Int))))]) (Hp.mk [(0, O.rows 5 false [[iv b.1, iv b.2, iv b.3, V.lst 2 (gl b.4), V.lst 1 (nl b.5)]])] 1 []))))) (R (bv false)))) (ifB (decide (n_1 ≥ (0 : Int))) (ifB (!decide (n_1 ≤ (7 : Int))) (R (bv false)) (K0G Try.prog glX 46 [V.agg [iv b.1, iv b.2, iv b.3, V.lst 2 (gl b.4), V.lst 1 (nl b.5)], iv n_1] fun v => onIntK IntKind.i64 v fun n => ifB (n != (↑k : Int)) (R (bv false)) (J (St.mk (mkT [(1, V.ptr (Id.p 0) 0 0), (3, iv (IntKind.i64.wrap ((↑k : Int) + (1 : Int))))]) (Hp.mk [(0, O.rows 5 false [[iv b.1, iv b.2, iv b.3, V.lst 2 (gl b.4), V.lst 1 (nl b.5)]])] 1 []))))) (R (bv false))))) (R (bv false))) (La 0 [(1 : Tmp), (5 : Tmp)] (WY Try.prog cfM 2993 (Env.mk (Bs.mk 0 []) 0 none 100 45 2) (cdAt [1, 1, 1, 0, 1, 0, 0] (bodyOf Try.f45))) (Qblk 2 (Qthen (WY Try.prog cfM 2996 (Env.mk (Bs.mk 0 []) 0 none 100 45 0) (cdAt [1, 1, 1, 1] (bodyOf Try.f45)) (QendX Try.prog Try.f45 fun v h => R (frzW h v))) (QendX Try.prog Try.f45 fun v h => R (frzW h v)))) (St.mk (mkT [(1, V.ptr (Id.p 0) 0 0), (5, iv (0 : Int))]) (Hp.mk [(0, O.rows 5 false [[iv b.1, iv b.2, iv b.3, V.lst 2 (gl b.4), V.lst 1 (nl b.5)]])] 1 [])))) (by kernel_rfl) ?_
  refine ifB_mk (fun hb => ?_) (fun hb => ?_)
  · have hlt : k < b.gs.length := by rw [gl_length] at hb; have := of_decide_eq_true hb; omega
    obtain ⟨g, hg⟩ := getI hlt
    have no : ¬ (G1 b.L b.C g ∧ ∀ y ∈ b.gs.take k, GB y g) → R (bv false) := fun hn => rf h (fun hp => hn (gp_at hg hp.2.2.2.2.1))
    refine gel hg ?_
    rw [wr1i hlt (by omega), wr (n := b.C + 1) (by omega) (by omega), wr (n := b.L - 1) (by omega) (by omega)]
    refine ifB_mk (fun d1 => ?_) (fun d1 => no (fun hp => by have := hp.1.1; have := of_decide_eq_false d1; omega))
    have d1 := of_decide_eq_true d1
    refine ifB_mk (fun d2 => no (fun hp => by have := hp.1.2.1; simp at d2; omega)) (fun d2 => ?_)
    have d2 : g.1 ≤ b.L - 1 := by simpa using d2
    have rest : (∀ y ∈ b.gs.take k, y.1 < g.1) → ifB (decide (g.2 ≥ (0 : Int))) (ifB (!decide (g.2 ≤ (7 : Int))) (R (bv false)) (K0G Try.prog glX 46 [V.agg [iv b.1, iv b.2, iv b.3, V.lst 2 (gl b.4), V.lst 1 (nl b.5)], iv g.2] fun v => onIntK IntKind.i64 v fun n => ifB (n != (k : Int)) (R (bv false)) (J (St.mk (mkT [(1, V.ptr (Id.p 0) 0 0), (3, iv ((k + 1 : Nat) : Int))]) (Hp.mk [(0, O.rows 5 false [[iv b.1, iv b.2, iv b.3, V.lst 2 (gl b.4), V.lst 1 (nl b.5)]])] 1 []))))) (R (bv false)) := fun hlo => by
      refine ifB_mk (fun d3 => ?_) (fun d3 => no (fun hp => by have := hp.1.2.2.1; have := of_decide_eq_false d3; omega))
      have d3 := of_decide_eq_true d3
      refine ifB_mk (fun d4 => no (fun hp => by have := hp.1.2.2.2; simp at d4; omega)) (fun d4 => ?_)
      have d4 : g.2 ≤ 7 := by simpa using d4
      refine leads46 (b := b) (by omega) (onIntK_iv (ifB_mk (fun d5 => no (fun hp => ?_)) (fun d5 => ?_)))
      · have := (lead_at hg).2 (fun y hy => (hp.2 y hy).2)
        rw [this] at d5; simp at d5
      · have d5 : lead b g.2 = (k : Int) := by simpa using d5
        have d5 := (lead_at hg).1 d5
        exact hJ (k + 1) ⟨hlt, gp_next hg g2 ⟨d1, d2, d3, d4⟩ (fun y hy => ⟨hlo y hy, d5 y hy⟩)⟩ (by omega)
    refine ifB_mk (fun d3 => ?_) (fun d3 => ?_)
    · have hk0 : 0 < k := by have := of_decide_eq_true d3; omega
      obtain ⟨p, hp⟩ := getI (l := b.gs) (k := k - 1) (by omega)
      refine onNat_mk (m := k - 1) (by rw [wr (by omega) (by omega)]; omega) (gel0 hp ?_)
      have hts : b.gs.take k = b.gs.take (k - 1) ++ [p] := by have := take_succ' hp; rwa [show k - 1 + 1 = k from by omega] at this
      have hpm : p ∈ b.gs.take k := by rw [hts]; simp
      refine ifB_mk (fun d4 => no (fun hq => by have := (hq.2 p hpm).1; have := of_decide_eq_true d4; omega)) (fun d4 => rest (fun y hy => ?_))
      have d4 := of_decide_eq_false d4
      have : y.1 ≤ p.1 := by
        have hpw := g2.2
        rw [hts] at hpw hy
        rcases List.mem_append.1 hy with hy | hy
        · have := ((List.pairwise_append.1 hpw).2.2 y hy p (by simp)).1; omega
        · rw [List.mem_singleton.1 hy]; omega
      omega
    · have hk0 : k = 0 := by have := of_decide_eq_false d3; omega
      exact rest (fun y hy => by subst hk0; simp at hy)
  · have hk : b.gs.length ≤ k := by rw [gl_length] at hb; have := of_decide_eq_false hb; omega
    rw [List.take_of_length_le hk] at g2
    clear hJ
    refine La.of (σ := Nat) (fun k => sh45b b k) (fun k => k ≤ 16 ∧ ∀ x ∈ b.bins.take k, Inn (-1) 7 x) (fun k => 16 - k) 0 (by kernel_rfl) ⟨by simp, by simp⟩ ?_
    rintro m ⟨f1, f2⟩ K hK
    refine see (p := ifB (decide ((↑m : Int) < (16 : Int))) (onSome (nl b.5)[m]? fun row => onSome row[0]? fun v => onIntK IntKind.i64 v fun n => ifB (decide (n ≥ (-1 : Int))) (ifB (!decide (n ≤ (7 : Int))) (R (bv false)) (K (St.mk (mkT [(1, V.ptr (Id.p 0) 0 0), (5, iv (IntKind.i64.wrap ((↑m : Int) + (1 : Int))))]) (Hp.mk [(0, O.rows 5 false [[iv b.1, iv b.2, iv b.3, V.lst 2 (gl b.4), V.lst 1 (nl b.5)]])] 1 [])))) (R (bv false))) (R (bv true))) (by kernel_rfl) ?_
    refine ifB_mk (fun hb => ?_) (fun hb => ?_)
    · have hlt : m < 16 := by have := of_decide_eq_true hb; omega
      obtain ⟨x, hx⟩ := getI (l := b.bins) (k := m) (by omega)
      have no : ¬ Inn (-1) 7 x → R (bv false) := fun hn => rf h (fun hp => hn (hp.2.2.2.2.2.2 x (mem_at hx)))
      rw [wr1i hlt (by omega)]
      refine iel hx (ifB_mk (fun d1 => ifB_mk (fun d2 => no (fun hp => by have := hp.2; simp at d2; omega)) (fun d2 => ?_)) (fun d1 => no (fun hp => absurd hp.1 (of_decide_eq_false d1))))
      exact hK (m + 1) ⟨hlt, all_take hx f2 ⟨of_decide_eq_true d1, by simpa using d2⟩⟩ (by omega)
    · have hm : b.bins.length ≤ m := by have := of_decide_eq_false hb; omega
      exact rt h ⟨⟨c1, c2, c3, c4⟩, c5, c6, c7, g2, c8, all_all hm f2⟩
end Go.Proofs.Ytmdimnmdoifkfaa
namespace Go.Proofs.Ytmdimnmdoifkfaa
open Go Go.Proofs.Ytmdimnmdoifkfaa.Clean
set_option linter.unusedVariables false
set_option linter.unusedSimpArgs false
set_option maxRecDepth 10000
theorem fel {l : List Fd} {i : Nat} {x : Fd} {k : Int → Int → Nat → List (List V) → Prop} (h : l[i]? = some x) (hk : k x.1 x.2.1 1 (nl x.2.2)) : onSome (fdl l)[i]? fun row => onCons (List.drop 0 row) fun u r => onIntK IntKind.i64 u fun n => onCons r fun u r => onIntK IntKind.i64 u fun m => onCons r fun u r => onLst u fun s es => k n m s es := onSome_mk (by simp [fdl, h] : (fdl l)[i]? = some (fdr x)) hk
theorem fel0 {l : List Fd} {i : Nat} {x : Fd} {k : Int → Prop} (h : l[i]? = some x) (hk : k x.1) : onSome (fdl l)[i]? fun row => onSome row[0]? fun v => onIntK IntKind.i64 v fun n => k n := onSome_mk (by simp [fdl, h] : (fdl l)[i]? = some (fdr x)) hk
theorem fel2 {l : List Fd} {i : Nat} {x : Fd} {k : Nat → List (List V) → Prop} (h : l[i]? = some x) (hk : k 1 (nl x.2.2)) : onSome (fdl l)[i]? fun row => onSome row[2]? fun v => onLst v fun s es => k s es := onSome_mk (by simp [fdl, h] : (fdl l)[i]? = some (fdr x)) hk
def F1 (x : Fd) : Prop := 0 ≤ x.1 ∧ x.1 ≤ 1000 ∧ 0 ≤ x.2.1 ∧ x.2.1 ≤ 15 ∧ RdP x.2.2
def FB (a b : Fd) : Prop := a.1 < b.1
def FdP (l : List Fd) : Prop := l.length ≤ 40 ∧ (∀ x ∈ l, F1 x) ∧ l.Pairwise FB
noncomputable def fedE (l : List Fd) : Int := if dc (FdP l) = true then 0 else 91
theorem bad91 {l : List Fd} {R : V → Prop} (h : R (iv (fedE l))) (hn : ¬ FdP l) : R (iv 91) := by rw [fedE, if_neg (by rw [dc_f hn]; simp)] at h; exact h
theorem ok91 {l : List Fd} {R : V → Prop} (h : R (iv (fedE l))) (hn : FdP l) : R (iv 0) := by rw [fedE, if_pos (dc_t hn)] at h; exact h
def Rl (l : List Fd) : Prop := ∀ x ∈ l, x.2.2.length ≤ 1000
theorem fed20 {l : List Fd} {R : V → Prop} (hl : Rl l) (h : R (iv (fedE l))) : K0G Try.prog glX 20 [.lst 3 (fdl l)] R := by
  refine K0_of_WY0 hmX hcM 3000 Try.func20 (see (p := ifB (decide ((↑(fdl l).length : Int) > (40 : Int))) (R (iv (91 : Int))) (La 0 [(3 : Tmp), (9 : Tmp), (10 : Tmp), (11 : Tmp)] (WY Try.prog cfM 2993 (Env.mk (Bs.mk 0 []) 0 none 36 20 0) (cdAt [1, 1, 1, 0, 1, 0, 0] (bodyOf Try.f20))) (Qblk 0 (Qthen (WY Try.prog cfM 2996 (Env.mk (Bs.mk 0 []) 0 none 36 20 0) (cdAt [1, 1, 1, 1] (bodyOf Try.f20)) (QendX Try.prog Try.f20 fun v h => R (frzW h v))) (QendX Try.prog Try.f20 fun v h => R (frzW h v)))) (St.mk (mkT [(3, iv (-1 : Int)), (9, V.lst 3 (fdl l)), (10, iv (↑(fdl l).length : Int)), (11, iv (0 : Int))]) (Hp.mk [] 0 [])))) (by kernel_rfl) ?_)
  refine ifB_mk (fun hc => bad91 h (fun hn => by have := hn.1; rw [fdl_length] at hc; have := of_decide_eq_true hc; omega)) (fun hc => ?_)
  have hc : l.length ≤ 40 := by rw [fdl_length] at hc; have := of_decide_eq_false hc; omega
  refine La.of (σ := Int × Nat) (fun s => sh20 l s.1 s.2) (fun s => s.2 ≤ l.length ∧ (∀ x ∈ l.take s.2, F1 x) ∧ (l.take s.2).Pairwise FB ∧ -1 ≤ s.1 ∧ s.1 ≤ 1000 ∧ (∀ x ∈ l.take s.2, x.1 ≤ s.1) ∧ (s.1 = -1 ∨ ∃ x ∈ l.take s.2, x.1 = s.1)) (fun s => l.length - s.2) (-1, 0) (by kernel_rfl) ⟨by simp, by simp, by simp, by simp, by simp, by simp, by simp⟩ ?_
  rintro ⟨n, k⟩ ⟨g1, g2, g2', g3, g4, g5, g6⟩ J hJ
  simp only at g1 g2 g2' g3 g4 g5 g6
  refine see (p := ifB (decide ((↑k : Int) < (↑(fdl l).length : Int))) (onSome (fdl l)[k]? fun row => onCons (List.drop 0 row) fun u r => onIntK IntKind.i64 u fun n_1 => onCons r fun u r => onIntK IntKind.i64 u fun n_2 => onCons r fun u r => onLst u fun s es => ifB (decide (IntKind.i64.wrap (n + (1 : Int)) ≤ n_1)) (ifB (!decide (n_1 ≤ (1000 : Int))) (R (iv (91 : Int))) (ifB (decide ((0 : Int) ≤ n_2)) (ifB (!decide (n_2 ≤ (15 : Int))) (R (iv (91 : Int))) (K0G Try.prog glX 50 [V.lst s es] fun v => onBool v fun b => ifB (!b) (R (iv (91 : Int))) (J (St.mk (mkT [(3, iv n_1), (9, V.lst 3 (fdl l)), (10, iv (↑(fdl l).length : Int)), (11, iv (IntKind.i64.wrap ((↑k : Int) + (1 : Int))))]) (Hp.mk [] 0 []))))) (R (iv (91 : Int))))) (R (iv (91 : Int)))) (R (iv (0 : Int)))) (by kernel_rfl) ?_
  refine ifB_mk (fun hb => ?_) (fun hb => ?_)
  · have hlt : k < l.length := by rw [fdl_length] at hb; have := of_decide_eq_true hb; omega
    obtain ⟨x, hx⟩ := getI hlt
    have no : ¬ (F1 x ∧ ∀ y ∈ l.take k, FB y x) → R (iv 91) := fun hn => bad91 h (fun hp => hn ⟨hp.2.1 x (mem_at hx), pw_at hx hp.2.2⟩)
    refine fel hx ?_
    rw [wr1i hlt (by omega), wr (n := n + 1) (by omega) (by omega)]
    refine ifB_mk (fun c1 => ?_) (fun c1 => no (fun hp => ?_))
    · have c1 := of_decide_eq_true c1
      refine ifB_mk (fun c2 => no (fun hp => by have := hp.1.2.1; simp at c2; omega)) (fun c2 => ?_)
      have c2 : x.1 ≤ 1000 := by simpa using c2
      refine ifB_mk (fun c3 => ?_) (fun c3 => no (fun hp => by have := hp.1.2.2.1; have := of_decide_eq_false c3; omega))
      have c3 := of_decide_eq_true c3
      refine ifB_mk (fun c4 => no (fun hp => by have := hp.1.2.2.2.1; simp at c4; omega)) (fun c4 => ?_)
      have c4 : x.2.1 ≤ 15 := by simpa using c4
      refine readings50 (hl x (mem_at hx)) (onBool_bv (ifB_mk (fun c5 => no (fun hp => by rw [dc_t hp.1.2.2.2.2] at c5; cases c5)) (fun c5 => ?_)))
      have c5 := dc_true (show dc (RdP x.2.2) = true by simpa using c5)
      have hall : ∀ y ∈ l.take k, FB y x := fun y hy => by have := g5 y hy; show y.1 < x.1; omega
      exact hJ (x.1, k + 1) ⟨hlt, all_take hx g2 ⟨by omega, c2, c3, c4, c5⟩, (pw_succ hx).2 ⟨g2', hall⟩, by simp only; omega, c2, all_take hx (fun y hy => by have : y.1 < x.1 := hall y hy; simp only; omega) (Int.le_refl _), .inr ⟨x, by rw [take_succ' hx]; simp, rfl⟩⟩ (by simp only; omega)
    · have c1 := of_decide_eq_false c1
      rcases g6 with g6 | ⟨y, hy, hy1⟩
      · have := hp.1.1; omega
      · have : y.1 < x.1 := hp.2 y hy; omega
  · have hk : l.length ≤ k := by rw [fdl_length] at hb; have := of_decide_eq_false hb; omega
    rw [List.take_of_length_le hk] at g2 g2'
    exact ok91 h ⟨hc, g2, g2'⟩
theorem parts48 {l : List Fd} {R : V → Prop} (hl : Rl l) (h : R (bv (dc (FdP l)))) : K0G Try.prog glX 48 [.lst 3 (fdl l)] R := by
  refine K0_of_WY0 hmX hcM 3000 Try.func48 (see (p := ifB (decide ((↑(fdl l).length : Int) > (40 : Int))) (R (bv false)) (La 0 [(0 : Tmp), (3 : Tmp)] (WY Try.prog cfM 2994 (Env.mk (Bs.mk 0 []) 0 none 49 48 0) (cdAt [1, 1, 0, 1, 0, 0] (bodyOf Try.f48))) (Qblk 0 (Qthen (WY Try.prog cfM 2997 (Env.mk (Bs.mk 0 []) 0 none 49 48 0) (cdAt [1, 1, 1] (bodyOf Try.f48)) (QendX Try.prog Try.f48 fun v h => R (frzW h v))) (QendX Try.prog Try.f48 fun v h => R (frzW h v)))) (St.mk (mkT [(0, V.lst 3 (fdl l)), (3, iv (0 : Int))]) (Hp.mk [] 0 [])))) (by kernel_rfl) ?_)
  refine ifB_mk (fun hc => rf h (fun hn => by have := hn.1; rw [fdl_length] at hc; have := of_decide_eq_true hc; omega)) (fun hc => ?_)
  have hc : l.length ≤ 40 := by rw [fdl_length] at hc; have := of_decide_eq_false hc; omega
  refine La.of (σ := Nat) (fun k => sh48 l k) (fun k => k ≤ l.length ∧ (∀ x ∈ l.take k, F1 x) ∧ (l.take k).Pairwise FB) (fun k => l.length - k) 0 (by kernel_rfl) ⟨by simp, by simp, by simp⟩ ?_
  rintro k ⟨g1, g2, g2'⟩ J hJ
  refine see (p := ifB (decide ((↑k : Int) < (↑(fdl l).length : Int))) (onSome (fdl l)[k]? fun row => onCons (List.drop 0 row) fun u r => onIntK IntKind.i64 u fun n => onCons r fun u r => onIntK IntKind.i64 u fun n_1 => onCons r fun u r => onLst u fun s es => ifB (decide (n ≥ (0 : Int))) (ifB (!decide (n ≤ (1000 : Int))) (R (bv false)) (ifB (decide ((↑k : Int) > (0 : Int))) (onNat (IntKind.i64.wrap ((↑k : Int) - (1 : Int))) fun m => onSome (fdl l)[m]? fun row => onSome row[0]? fun v => onIntK IntKind.i64 v fun n_2 => ifB (decide (n ≤ n_2)) (R (bv false)) (ifB (decide (n_1 ≥ (0 : Int))) (ifB (!decide (n_1 ≤ (15 : Int))) (R (bv false)) (K0G Try.prog glX 52 [V.lst s es] fun v => onBool v fun b => ifB (!b) (R (bv false)) (J (St.mk (mkT [(0, V.lst 3 (fdl l)), (3, iv (IntKind.i64.wrap ((↑k : Int) + (1 : Int))))]) (Hp.mk [] 0 []))))) (R (bv false)))) (ifB (decide (n_1 ≥ (0 : Int))) (ifB (!decide (n_1 ≤ (15 : Int))) (R (bv false)) (K0G Try.prog glX 52 [V.lst s es] fun v => onBool v fun b => ifB (!b) (R (bv false)) (J (St.mk (mkT [(0, V.lst 3 (fdl l)), (3, iv (IntKind.i64.wrap ((↑k : Int) + (1 : Int))))]) (Hp.mk [] 0 []))))) (R (bv false))))) (R (bv false))) (R (bv true))) (by kernel_rfl) ?_
  refine ifB_mk (fun hb => ?_) (fun hb => ?_)
  · have hlt : k < l.length := by rw [fdl_length] at hb; have := of_decide_eq_true hb; omega
    obtain ⟨x, hx⟩ := getI hlt
    have no : ¬ (F1 x ∧ ∀ y ∈ l.take k, FB y x) → R (bv false) := fun hn => rf h (fun hp => hn ⟨hp.2.1 x (mem_at hx), pw_at hx hp.2.2⟩)
    refine fel hx ?_
    rw [wr1i hlt (by omega)]
    refine ifB_mk (fun c1 => ?_) (fun c1 => no (fun hp => by have := hp.1.1; have := of_decide_eq_false c1; omega))
    have c1 := of_decide_eq_true c1
    refine ifB_mk (fun c2 => no (fun hp => by have := hp.1.2.1; simp at c2; omega)) (fun c2 => ?_)
    have c2 : x.1 ≤ 1000 := by simpa using c2
    have rest : (∀ y ∈ l.take k, FB y x) → ifB (decide (x.2.1 ≥ (0 : Int))) (ifB (!decide (x.2.1 ≤ (15 : Int))) (R (bv false)) (K0G Try.prog glX 52 [V.lst 1 (nl x.2.2)] fun v => onBool v fun b => ifB (!b) (R (bv false)) (J (St.mk (mkT [(0, V.lst 3 (fdl l)), (3, iv ((k + 1 : Nat) : Int))]) (Hp.mk [] 0 []))))) (R (bv false)) := fun hall => by
      refine ifB_mk (fun c3 => ?_) (fun c3 => no (fun hp => by have := hp.1.2.2.1; have := of_decide_eq_false c3; omega))
      have c3 := of_decide_eq_true c3
      refine ifB_mk (fun c4 => no (fun hp => by have := hp.1.2.2.2.1; simp at c4; omega)) (fun c4 => ?_)
      have c4 : x.2.1 ≤ 15 := by simpa using c4
      refine said52 (hl x (mem_at hx)) (onBool_bv (ifB_mk (fun c5 => no (fun hp => by rw [dc_t hp.1.2.2.2.2] at c5; cases c5)) (fun c5 => ?_)))
      have c5 := dc_true (show dc (RdP x.2.2) = true by simpa using c5)
      exact hJ (k + 1) ⟨hlt, all_take hx g2 ⟨c1, c2, c3, c4, c5⟩, (pw_succ hx).2 ⟨g2', hall⟩⟩ (by omega)
    refine ifB_mk (fun d3 => ?_) (fun d3 => ?_)
    · have hk0 : 0 < k := by have := of_decide_eq_true d3; omega
      obtain ⟨p, hp⟩ := getI (l := l) (k := k - 1) (by omega)
      refine onNat_mk (m := k - 1) (by rw [wr (by omega) (by omega)]; omega) (fel0 hp ?_)
      have hts : l.take k = l.take (k - 1) ++ [p] := by have := take_succ' hp; rwa [show k - 1 + 1 = k from by omega] at this
      have hpm : p ∈ l.take k := by rw [hts]; simp
      refine ifB_mk (fun d4 => no (fun hq => by have : p.1 < x.1 := hq.2 p hpm; have := of_decide_eq_true d4; omega)) (fun d4 => rest (fun y hy => ?_))
      have d4 := of_decide_eq_false d4
      have : y.1 ≤ p.1 := by
        rw [hts] at g2' hy
        rcases List.mem_append.1 hy with hy | hy
        · have : y.1 < p.1 := (List.pairwise_append.1 g2').2.2 y hy p (by simp)
          omega
        · rw [List.mem_singleton.1 hy]; omega
      show y.1 < x.1
      omega
    · have hk0 : k = 0 := by have := of_decide_eq_false d3; omega
      exact rest (fun y hy => by subst hk0; simp at hy)
  · have hk : l.length ≤ k := by rw [fdl_length] at hb; have := of_decide_eq_false hb; omega
    rw [List.take_of_length_le hk] at g2 g2'
    exact rt h ⟨hc, g2, g2'⟩
theorem fed21 {l : List Fd} {R : V → Prop} (hl : Rl l) (h : R (iv (fedE l))) : K0G Try.prog glX 21 [.lst 3 (fdl l)] R := by
  refine K0_of_WY0 hmX hcM 3000 Try.func21 (see (p := K0G Try.prog glX 48 [V.lst 3 (fdl l)] fun v => onBool v fun b => ifB (!b) (R (iv (91 : Int))) (R (iv (0 : Int)))) (by kernel_rfl) ?_)
  refine parts48 hl (onBool_bv (ifB_mk (fun c => bad91 h (fun hp => by rw [dc_t hp] at c; cases c)) (fun c => ok91 h (dc_true (by simpa using c)))))
def Sm (b : Bt) (l : List Fd) : Prop := b.gs.length ≤ 12 ∧ b.bins.length ≤ 30 ∧ l.length ≤ 60 ∧ ∀ x ∈ l, x.2.2.length ≤ 20
theorem great15 {b : Bt} {l : List Fd} {R : V → Prop} (h : R (bv (dc (¬ Sm b l)))) : K0G Try.prog glX 15 [.agg (bel b), .lst 3 (fdl l)] R := by
  refine K0_of_WY0 hmX hcM 3000 Try.func15 (see (p := ifB (decide ((↑(gl b.4).length : Int) > (12 : Int))) (R (bv true)) (ifB (decide ((↑(nl b.5).length : Int) > (30 : Int))) (R (bv true)) (ifB (decide ((↑(fdl l).length : Int) > (60 : Int))) (R (bv true)) (La 0 [(1 : Tmp), (5 : Tmp)] (WY Try.prog cfM 2994 (Env.mk (Bs.mk 0 []) 0 none 34 15 0) (cdAt [1, 1, 0, 1, 0, 0] (bodyOf Try.f15))) (Qblk 0 (Qthen (WY Try.prog cfM 2997 (Env.mk (Bs.mk 0 []) 0 none 34 15 0) (cdAt [1, 1, 1] (bodyOf Try.f15)) (QendX Try.prog Try.f15 fun v h => R (frzW h v))) (QendX Try.prog Try.f15 fun v h => R (frzW h v)))) (St.mk (mkT [(1, V.lst 3 (fdl l)), (5, iv (0 : Int))]) (Hp.mk [] 0 [])))))) (by kernel_rfl) ?_)
  have yes : ¬ Sm b l → R (bv true) := fun hn => rt h hn
  refine ifB_mk (fun c => yes (fun hn => by have := hn.1; rw [gl_length] at c; have := of_decide_eq_true c; omega)) (fun c1 => ?_)
  refine ifB_mk (fun c => yes (fun hn => by have := hn.2.1; rw [nl_length] at c; have := of_decide_eq_true c; omega)) (fun c2 => ?_)
  refine ifB_mk (fun c => yes (fun hn => by have := hn.2.2.1; rw [fdl_length] at c; have := of_decide_eq_true c; omega)) (fun c3 => ?_)
  rw [gl_length] at c1; rw [nl_length] at c2; rw [fdl_length] at c3
  have c1 := of_decide_eq_false c1; have c2 := of_decide_eq_false c2; have c3 := of_decide_eq_false c3
  refine La.of (σ := Nat) (fun k => sh15 l k) (fun k => k ≤ l.length ∧ ∀ x ∈ l.take k, x.2.2.length ≤ 20) (fun k => l.length - k) 0 (by kernel_rfl) ⟨by simp, by simp⟩ ?_
  rintro k ⟨g1, g2⟩ J hJ
  refine see (p := ifB (decide ((↑k : Int) < (↑(fdl l).length : Int))) (onSome (fdl l)[k]? fun row => onSome row[2]? fun v => onLst v fun s es => ifB (decide ((↑es.length : Int) > (20 : Int))) (R (bv true)) (J (St.mk (mkT [(1, V.lst 3 (fdl l)), (5, iv (IntKind.i64.wrap ((↑k : Int) + (1 : Int))))]) (Hp.mk [] 0 [])))) (R (bv false))) (by kernel_rfl) ?_
  refine ifB_mk (fun hb => ?_) (fun hb => ?_)
  · have hlt : k < l.length := by rw [fdl_length] at hb; have := of_decide_eq_true hb; omega
    obtain ⟨x, hx⟩ := getI hlt
    rw [wr1i hlt (by omega)]
    refine fel2 hx ?_
    rw [nl_length]
    refine ifB_mk (fun c => yes (fun hn => by have := hn.2.2.2 x (mem_at hx); have := of_decide_eq_true c; omega)) (fun c => ?_)
    exact hJ (k + 1) ⟨hlt, all_take hx g2 (by have := of_decide_eq_false c; omega)⟩ (by omega)
  · have hk : l.length ≤ k := by rw [fdl_length] at hb; have := of_decide_eq_false hb; omega
    rw [List.take_of_length_le hk] at g2
    exact rf h (not_not_intro ⟨by omega, by omega, by omega, g2⟩)
theorem sm_rl {b : Bt} {l : List Fd} (h : Sm b l) : Rl l := fun x hx => by have := h.2.2.2 x hx; omega
end Go.Proofs.Ytmdimnmdoifkfaa
namespace Go.Proofs.Ytmdimnmdoifkfaa
open Go Go.Proofs.Ytmdimnmdoifkfaa.Clean
set_option linter.unusedVariables false
set_option maxRecDepth 100000
def kpT : FuncId → Nat → Option (List Tmp) := slotsOf [(90, 0, [0, 1, 2]), (90, 2, [0, 1, 2, 4]), (22, 2, [2, 7, 9, 29, 30, 31]), (59, 0, [2, 7, 44, 45, 46]), (107, 0, [0, 1, 7, 8]), (62, 0, [1, 3, 7, 8, 9, 10]), (66, 0, [1, 2, 3]), (68, 0, [1, 2, 3]), (23, 0, [1, 2, 7, 8]), (27, 0, [0, 1, 5]), (28, 0, [0, 1, 5]), (25, 0, [1, 2, 7, 8]), (64, 0, [0, 2, 4, 7]), (67, 0, [0, 3, 5, 6])]
def moT (f : FuncId) : Nat := 0
def tyT (f : FuncId) : Option TypeId := some 3
noncomputable def cfT : Cfg := cfgM Try.prog glX moT tyT (inN [54, 75, 57, 58, 90, 63, 108, 107]) kpT
abbrev Ft := Int × Int × Int
def ftr (x : Ft) : List V := [iv x.1, iv x.2.1, iv x.2.2]
def ftl (l : List Ft) : List (List V) := l.map ftr
end Go.Proofs.Ytmdimnmdoifkfaa
namespace Go.Proofs.Ytmdimnmdoifkfaa
open Go Go.Proofs.Ytmdimnmdoifkfaa.Clean
set_option linter.unusedVariables false
set_option linter.unusedSimpArgs false
set_option maxRecDepth 10000
theorem hcT : cfT.ok Try.prog := cfgM_ok
theorem ftl_length (l : List Ft) : (ftl l).length = l.length := by simp [ftl]
def gateF (b : Bt) (k : Int) : Int := if k = -1 then -1 else lead b (b.bins.getD k.toNat 0)
theorem getK {α : Type} {l : List α} {k : Nat} {d : α} (h : k < l.length) : l[k]? = some (l.getD k d) := by simp [h]
def gt (b : Bt) (g : Int) : Gt := b.gs.getD g.toNat (0, 0)
theorem gt_get {b : Bt} {m : Nat} (h : m < b.gs.length) : b.gs[m]? = some (gt b m) := getK h
def fd (l : List Fd) (i : Nat) : Fd := l.getD i (0, 0, [])
def gk (b : Bt) (x : Fd) : Int := gateF b (kindOf x.2.2)
def fateF (b : Bt) (x : Fd) (g : Int) : Ft := if g = -1 then (kindOf x.2.2, -1, x.1 + b.L) else (kindOf x.2.2, (gt b g).2, x.1 + (gt b g).1)
def GtOK (b : Bt) (g : Int) : Prop := g = -1 ∨ ∃ m : Nat, g = m ∧ m < b.gs.length
theorem fate60 {b : Bt} {x : Fd} {g : Int} {R : V → Prop} (hb : BtP b) (hx : F1 x) (hg : GtOK b g) (h : R (.agg (ftr (fateF b x g)))) : K0G Try.prog glX 60 [.agg (bel b), .agg (fdr x), iv g] R := by
  refine K0_of_WY0 hmX hcT 3000 Try.func60 (see (p := K0G Try.prog glX 51 [V.lst 1 (nl x.2.2)] fun v => onIntK IntKind.i64 v fun n => ifB (g != (-1 : Int)) (onNat g fun m => onSome (gl b.4)[m]? fun row => onSome row[1]? fun v => onIntK IntKind.i64 v fun n_1 => onNat g fun m => onSome (gl b.4)[m]? fun row => onSome row[0]? fun v => onIntK IntKind.i64 v fun n_2 => R (V.agg [iv n, iv n_1, iv (IntKind.i64.wrap (x.1 + n_2))])) (R (V.agg [iv n, iv (-1 : Int), iv (IntKind.i64.wrap (x.1 + b.1))]))) (by kernel_rfl) ?_)
  have a1 := hx.1; have a2 := hx.2.1
  obtain ⟨hC1, hC2, hC3, hC4⟩ := hb.1
  refine readAs51 (by have := hx.2.2.2.2.2.1; omega) hx.2.2.2.2.2.2 (onIntK_iv ?_)
  unfold fateF at h
  refine ifB_mk (fun d => ?_) (fun d => ?_)
  · have d : g ≠ -1 := by simpa using d
    rw [if_neg d] at h
    obtain ⟨m, rfl, hm⟩ := hg.resolve_left d
    have hgm := hb.2.2.2.2.1.1 _ (mem_at (gt_get hm))
    have a5 := hgm.1; have a6 := hgm.2.1
    refine onNat_mk rfl (gel1 (gt_get hm) (onNat_mk rfl (gel0 (gt_get hm) ?_)))
    rw [wr (by omega) (by omega)]
    exact h
  · rw [if_pos (by simpa using d)] at h
    rw [wr (by omega) (by omega)]
    exact h
end Go.Proofs.Ytmdimnmdoifkfaa
namespace Go.Proofs.Ytmdimnmdoifkfaa
open Go Go.Proofs.Ytmdimnmdoifkfaa.Clean
set_option linter.unusedVariables false
set_option linter.unusedSimpArgs false
set_option maxRecDepth 10000
def nearP (S : Int) (l : List Fd) (j : Nat) : Prop := (fd l j).1 - (fd l (j - 1)).1 ≤ 2 * S + 1
def lsF (F : List Ft) : V := match F with | [] => nilS | x :: t => .lst 3 (ftl (x :: t))
noncomputable def askE (b : Bt) (l : List Fd) : Int := if dc (BtP b) = true then fedE l else 90
theorem ftl_take (l : List Ft) : List.take l.length (ftl l) = ftl l := by rw [← ftl_length]; exact List.take_length
end Go.Proofs.Ytmdimnmdoifkfaa
namespace Go.Proofs.Ytmdimnmdoifkfaa
open Go Go.Proofs.Ytmdimnmdoifkfaa.Clean
set_option linter.unusedVariables false
set_option linter.unusedSimpArgs false
set_option maxRecDepth 10000
end Go.Proofs.Ytmdimnmdoifkfaa
namespace Go.Proofs.Ytmdimnmdoifkfaa
open Go Go.Proofs.Ytmdimnmdoifkfaa.Clean
set_option linter.unusedVariables false
set_option maxRecDepth 100000
abbrev Sw := Int × Int × Bool
def swr (x : Sw) : List V := [iv x.1, iv x.2.1, bv x.2.2]
def swl (l : List Sw) : List (List V) := l.map swr
def kpV : FuncId → Nat → Option (List Tmp) := slotsOf [(64, 0, [0, 2, 4, 7]), (90, 0, [0, 1, 2]), (90, 2, [0, 1, 2, 4])]
noncomputable def cfV : Cfg := cfgM Try.prog glX moT tyT (inN [54, 94, 93, 109]) kpV
end Go.Proofs.Ytmdimnmdoifkfaa
namespace Go.Proofs.Ytmdimnmdoifkfaa
open Go Go.Proofs.Ytmdimnmdoifkfaa.Clean
set_option linter.unusedVariables false
set_option linter.unusedSimpArgs false
set_option maxRecDepth 10000
theorem hcV : cfV.ok Try.prog := cfgM_ok
def gtS (x y : Sw) : Prop := y.1 < x.1 ∨ (x.1 = y.1 ∧ y.2.1 < x.2.1)
instance (x y : Sw) : Decidable (gtS x y) := by unfold gtS; infer_instance
theorem cmp65 {x y : Sw} {R : V → Prop} (h : ∀ n : Int, (0 < n ↔ gtS x y) → R (iv n)) : K0G Try.prog glX 65 [.agg (swr x), .agg (swr y)] R := by
  refine K0_of_WY0 hmX hcV 3000 Try.func65 (see (p := ifB (x.1 != x.1) (ifB (y.1 != y.1) (ifB (x.2.1 != x.2.1) (ifB (y.2.1 != y.2.1) (R (iv (0 : Int))) (R (iv (-1 : Int)))) (ifB (y.2.1 != y.2.1) (R (iv (1 : Int))) (ifB (decide (x.2.1 < y.2.1)) (R (iv (-1 : Int))) (ifB (decide (x.2.1 > y.2.1)) (R (iv (1 : Int))) (R (iv (0 : Int))))))) (ifB (x.2.1 != x.2.1) (ifB (y.2.1 != y.2.1) (R (iv (-1 : Int))) (R (iv (-1 : Int)))) (ifB (y.2.1 != y.2.1) (R (iv (-1 : Int))) (ifB (decide (x.2.1 < y.2.1)) (R (iv (-1 : Int))) (ifB (decide (x.2.1 > y.2.1)) (R (iv (-1 : Int))) (R (iv (-1 : Int)))))))) (ifB (y.1 != y.1) (ifB (x.2.1 != x.2.1) (ifB (y.2.1 != y.2.1) (R (iv (1 : Int))) (R (iv (1 : Int)))) (ifB (y.2.1 != y.2.1) (R (iv (1 : Int))) (ifB (decide (x.2.1 < y.2.1)) (R (iv (1 : Int))) (ifB (decide (x.2.1 > y.2.1)) (R (iv (1 : Int))) (R (iv (1 : Int))))))) (ifB (decide (x.1 < y.1)) (ifB (x.2.1 != x.2.1) (ifB (y.2.1 != y.2.1) (R (iv (-1 : Int))) (R (iv (-1 : Int)))) (ifB (y.2.1 != y.2.1) (R (iv (-1 : Int))) (ifB (decide (x.2.1 < y.2.1)) (R (iv (-1 : Int))) (ifB (decide (x.2.1 > y.2.1)) (R (iv (-1 : Int))) (R (iv (-1 : Int))))))) (ifB (decide (x.1 > y.1)) (ifB (x.2.1 != x.2.1) (ifB (y.2.1 != y.2.1) (R (iv (1 : Int))) (R (iv (1 : Int)))) (ifB (y.2.1 != y.2.1) (R (iv (1 : Int))) (ifB (decide (x.2.1 < y.2.1)) (R (iv (1 : Int))) (ifB (decide (x.2.1 > y.2.1)) (R (iv (1 : Int))) (R (iv (1 : Int))))))) (ifB (x.2.1 != x.2.1) (ifB (y.2.1 != y.2.1) (R (iv (0 : Int))) (R (iv (-1 : Int)))) (ifB (y.2.1 != y.2.1) (R (iv (1 : Int))) (ifB (decide (x.2.1 < y.2.1)) (R (iv (-1 : Int))) (ifB (decide (x.2.1 > y.2.1)) (R (iv (1 : Int))) (R (iv (0 : Int))))))))))) (by kernel_rfl) ?_)
  simp only [bne_self_eq_false]
  have no : (x.1 < y.1 ∨ (x.1 = y.1 ∧ x.2.1 ≤ y.2.1)) → ∀ n : Int, n ≤ 0 → R (iv n) := fun hl n hn => h n ⟨fun h0 => by omega, fun hg => by rcases hg with hg | hg <;> omega⟩
  have yes : gtS x y → R (iv 1) := fun hg => h 1 ⟨fun _ => hg, fun _ => by omega⟩
  refine ifB_f rfl (ifB_f rfl (ifB_mk (fun c1 => ?_) (fun c1 => ifB_mk (fun c2 => ?_) (fun c2 => ?_))))
  · have c1 := of_decide_eq_true c1
    have g := no (.inl c1) (-1) (by omega)
    exact ifB_f rfl (ifB_f rfl (ifB_mk (fun _ => g) (fun _ => ifB_mk (fun _ => g) (fun _ => g))))
  · have c2 := of_decide_eq_true c2
    have g := yes (.inl c2)
    exact ifB_f rfl (ifB_f rfl (ifB_mk (fun _ => g) (fun _ => ifB_mk (fun _ => g) (fun _ => g))))
  · have c1 := of_decide_eq_false c1
    have c2 := of_decide_eq_false c2
    refine ifB_f rfl (ifB_f rfl (ifB_mk (fun c3 => ?_) (fun c3 => ifB_mk (fun c4 => ?_) (fun c4 => ?_))))
    · exact no (.inr ⟨by omega, by have := of_decide_eq_true c3; omega⟩) _ (by omega)
    · exact yes (.inr ⟨by omega, of_decide_eq_true c4⟩)
    · exact no (.inr ⟨by omega, by have := of_decide_eq_false c4; omega⟩) _ (by omega)
theorem swl_length (l : List Sw) : (swl l).length = l.length := by simp [swl]
end Go.Proofs.Ytmdimnmdoifkfaa
namespace Go.Proofs.Ytmdimnmdoifkfaa
open Go Go.Proofs.Ytmdimnmdoifkfaa.Clean
set_option linter.unusedVariables false
set_option linter.unusedSimpArgs false
set_option maxRecDepth 10000
end Go.Proofs.Ytmdimnmdoifkfaa
