/- A part of the proof. -/
import Derived.Test.YtmdimnmdoifkfaaProg
import Derived.Test.YtmdimnmdoifkfaaXR8G10
namespace Go.Proofs.Ytmdimnmdoifkfaa
open Go Go.Proofs.Ytmdimnmdoifkfaa.Clean
set_option linter.unusedVariables false
set_option linter.unusedSimpArgs false
set_option maxRecDepth 10000
abbrev Gt := Int × Int
theorem gel {l : List Gt} {i : Nat} {g : Gt} {k : Int → Int → Prop} (h : l[i]? = some g) (hk : k g.1 g.2) : onSome (gl l)[i]? fun row => onCons (List.drop 0 row) fun u r => onIntK IntKind.i64 u fun n => onCons r fun u r => onIntK IntKind.i64 u fun m => k n m := onSome_mk (by simp [gl, h] : (gl l)[i]? = some [iv g.1, iv g.2]) hk
theorem gel0 {l : List Gt} {i : Nat} {g : Gt} {k : Int → Prop} (h : l[i]? = some g) (hk : k g.1) : onSome (gl l)[i]? fun row => onSome row[0]? fun v => onIntK IntKind.i64 v fun n => k n := onSome_mk (by simp [gl, h] : (gl l)[i]? = some [iv g.1, iv g.2]) hk
theorem gel1 {l : List Gt} {i : Nat} {g : Gt} {k : Int → Prop} (h : l[i]? = some g) (hk : k g.2) : onSome (gl l)[i]? fun row => onSome row[1]? fun v => onIntK IntKind.i64 v fun n => k n := onSome_mk (by simp [gl, h] : (gl l)[i]? = some [iv g.1, iv g.2]) hk
theorem pw_succ {α : Type} {P : α → α → Prop} {l : List α} {k : Nat} {x : α} (h : l[k]? = some x) : (l.take (k + 1)).Pairwise P ↔ (l.take k).Pairwise P ∧ ∀ y ∈ l.take k, P y x := by
  rw [take_succ' h, List.pairwise_append]
  constructor
  · rintro ⟨a, _, c⟩
    exact ⟨a, fun y hy => c y hy x (by simp)⟩
  · rintro ⟨a, c⟩
    exact ⟨a, by simp, fun y hy z hz => by rw [List.mem_singleton.1 hz]; exact c y hy⟩
theorem pw_take {α : Type} {P : α → α → Prop} {l : List α} (k : Nat) (h : l.Pairwise P) : (l.take k).Pairwise P := List.Pairwise.sublist (List.take_sublist _ _) h
theorem pw_at {α : Type} {P : α → α → Prop} {l : List α} {k : Nat} {x : α} (hx : l[k]? = some x) (h : l.Pairwise P) : ∀ y ∈ l.take k, P y x := ((pw_succ hx).1 (pw_take (k + 1) h)).2
def G1 (L C : Int) (g : Gt) : Prop := C + 1 ≤ g.1 ∧ g.1 ≤ L - 1 ∧ 0 ≤ g.2 ∧ g.2 ≤ 7
def GB (a b : Gt) : Prop := a.1 < b.1 ∧ a.2 ≠ b.2
def GP (L C : Int) (gs : List Gt) : Prop := (∀ g ∈ gs, G1 L C g) ∧ gs.Pairwise GB
theorem gp_at {L C : Int} {gs : List Gt} {k : Nat} {g : Gt} (hg : gs[k]? = some g) (h : GP L C gs) : G1 L C g ∧ ∀ y ∈ gs.take k, GB y g := ⟨h.1 g (mem_at hg), pw_at hg h.2⟩
theorem gp_next {L C : Int} {gs : List Gt} {k : Nat} {g : Gt} (hg : gs[k]? = some g) (h : GP L C (gs.take k)) (h1 : G1 L C g) (h2 : ∀ y ∈ gs.take k, GB y g) : GP L C (gs.take (k + 1)) := ⟨all_take hg h.1 h1, (pw_succ hg).2 ⟨h.2, h2⟩⟩
def tkn (gs : List Gt) : List Bool := (List.range 8).map fun j : Nat => gs.any fun g => g.2 == (j : Int)
theorem tkn_get {gs : List Gt} {m : Nat} (h : m < 8) : (bvs (tkn gs))[0 + m * 1]? = some (bv (gs.any fun g => g.2 == (m : Int))) := by rw [Nat.zero_add, Nat.mul_one]; simp [bvs, tkn, h]
theorem tkn_put {gs : List Gt} {m : Nat} {a : Int} (h : m < 8) : List.take (0 + m * 1) (bvs (tkn gs)) ++ [bv true] ++ List.drop (0 + m * 1 + 1) (bvs (tkn gs)) = bvs (tkn (gs ++ [(a, (m : Int))])) := by
  rw [Nat.zero_add, Nat.mul_one]
  refine List.ext_getElem? (fun i => ?_)
  have hl : (List.take m (bvs (tkn gs)) ++ [bv true]).length = m + 1 := by simp [bvs, tkn]; omega
  have hr : ∀ (l : List Gt) (i : Nat), i < 8 → (bvs (tkn l))[i]? = some (bv (l.any fun g => g.2 == (i : Int))) := fun l i hi => by simp [bvs, tkn, hi]
  by_cases h16 : i < 8
  · rw [hr _ _ h16, List.any_append]
    by_cases hi : i < m
    · rw [List.getElem?_append_left (by omega), List.getElem?_append_left (by simp [bvs, tkn]; omega), List.getElem?_take_of_lt hi, hr _ _ h16]
      simp only [List.any_cons, List.any_nil, Bool.or_false]
      rw [show ((m : Int) == (i : Int)) = false from by simp; omega, Bool.or_false]
    · by_cases hm : i = m
      · subst hm
        rw [List.getElem?_append_left (by omega), List.getElem?_append_right (by simp [bvs, tkn]; omega)]
        simp [bvs, tkn, Nat.min_eq_left (Nat.le_of_lt h)]
      · rw [List.getElem?_append_right (by omega), hl, List.getElem?_drop, show m + 1 + (i - (m + 1)) = i from by omega, hr _ _ h16]
        simp only [List.any_cons, List.any_nil, Bool.or_false]
        rw [show ((m : Int) == (i : Int)) = false from by simp; omega, Bool.or_false]
  · rw [List.getElem?_eq_none (by simp [bvs, tkn]; omega), List.getElem?_eq_none (by simp [bvs, tkn]; omega)]
def LC (b : Bt) : Prop := 2 ≤ b.L ∧ b.L ≤ 100 ∧ 0 ≤ b.C ∧ b.C ≤ b.L - 2
theorem gates55 {b : Bt} {R : V → Prop} (hb : LC b) (h : R (bv (dc (b.gs.length ≤ 8 ∧ GP b.L b.C b.gs)))) : K0G Try.prog glX 55 [.agg (bel b)] R := by
  obtain ⟨b1, b2, b3, b4⟩ := hb
  refine K0_of_WY0 hmX hcM 3000 Try.func55 (see (p := ifB (decide ((↑(gl b.4).length : Int) > (8 : Int))) (R (bv false)) (La 0 [(1 : Tmp), (3 : Tmp), (4 : Tmp), (14 : Tmp), (15 : Tmp), (16 : Tmp)] (WY Try.prog cfM 2992 (Env.mk (Bs.mk 0 []) 0 none 47 55 0) (cdAt [1, 1, 1, 1, 0, 1, 0, 0] (bodyOf Try.f55))) (Qblk 0 (Qthen (WY Try.prog cfM 2995 (Env.mk (Bs.mk 0 []) 0 none 47 55 0) (cdAt [1, 1, 1, 1, 1] (bodyOf Try.f55)) (QendX Try.prog Try.f55 fun v h => R (frzW h v))) (QendX Try.prog Try.f55 fun v h => R (frzW h v)))) (St.mk (mkT [(1, V.ptr (Id.p 0) 0 0), (3, iv b.2), (4, V.ptr (Id.p 1) 0 0), (14, V.lst 2 (gl b.4)), (15, iv (↑(gl b.4).length : Int)), (16, iv (0 : Int))]) (Hp.mk [(0, O.rows 5 false [[iv b.1, iv b.2, iv b.3, V.lst 2 (gl b.4), V.lst 1 (nl b.5)]]), (1, O.rows 8 true [[bv false, bv false, bv false, bv false, bv false, bv false, bv false, bv false]])] 2 [])))) (by kernel_rfl) ?_)
  refine ifB_mk (fun hc => rf h (fun hn => by have := hn.1; rw [gl_length] at hc; have := of_decide_eq_true hc; omega)) (fun hc => ?_)
  have hc : b.gs.length ≤ 8 := by rw [gl_length] at hc; have := of_decide_eq_false hc; omega
  refine La.of (σ := Int × Nat) (fun s => sh55 b s.1 (tkn (b.gs.take s.2)) s.2) (fun s => s.2 ≤ b.gs.length ∧ GP b.L b.C (b.gs.take s.2) ∧ b.C ≤ s.1 ∧ s.1 ≤ 100 ∧ (∀ g ∈ b.gs.take s.2, g.1 ≤ s.1) ∧ (s.1 = b.C ∨ ∃ g ∈ b.gs.take s.2, g.1 = s.1)) (fun s => b.gs.length - s.2) (b.C, 0) (by kernel_rfl) ⟨by simp, ⟨by simp, by simp⟩, by simp, by simp only; omega, by simp, by simp⟩ ?_
  rintro ⟨n, k⟩ ⟨g1, g2, g3, g4, g5, g6⟩ J hJ
  simp only at g1 g2 g3 g4 g5 g6
  generalize hcc : tkn (b.gs.take k) = c
  refine see (p := ifB (decide ((↑k : Int) < (↑(gl b.4).length : Int))) (onSome (gl b.4)[k]? fun row => onCons (List.drop 0 row) fun u r => onIntK IntKind.i64 u fun n_1 => onCons r fun u r => onIntK IntKind.i64 u fun n_2 => ifB (decide (IntKind.i64.wrap (n + (1 : Int)) ≤ n_1)) (ifB (!decide (n_1 ≤ IntKind.i64.wrap (b.1 - (1 : Int)))) (R (bv false)) (ifB (decide ((0 : Int) ≤ n_2)) (ifB (!decide (n_2 ≤ (7 : Int))) (R (bv false)) (onNat n_2 fun m => need (m < 8) (onSome (bvs c)[0 + m * 1]? fun v => onBool v fun b_1 => ifB b_1 (R (bv false)) (onNat n_2 fun m => need (m < 8) (guardB ((0 + m * 1 + 1).ble (bvs c).length) (J (St.mk (mkT [(1, V.ptr (Id.p 0) 0 0), (3, iv n_1), (4, V.ptr (Id.p 1) 0 0), (14, V.lst 2 (gl b.4)), (15, iv (↑(gl b.4).length : Int)), (16, iv (IntKind.i64.wrap ((↑k : Int) + (1 : Int))))]) (Hp.mk [(0, O.rows 5 false [[iv b.1, iv b.2, iv b.3, V.lst 2 (gl b.4), V.lst 1 (nl b.5)]]), (1, O.rows 8 true [List.take (0 + m * 1) (bvs c) ++ [bv true] ++ List.drop (0 + m * 1 + 1) (bvs c)])] 2 [])))))))) (R (bv false)))) (R (bv false))) (R (bv true))) (by kernel_rfl) ?_
  refine ifB_mk (fun hb => ?_) (fun hb => ?_)
  · have hlt : k < b.gs.length := by rw [gl_length] at hb; have := of_decide_eq_true hb; omega
    obtain ⟨g, hg⟩ := getI hlt
    have no : ¬ (G1 b.L b.C g ∧ ∀ y ∈ b.gs.take k, GB y g) → R (bv false) := fun hn => rf h (fun hp => hn (gp_at hg hp.2))
    refine gel hg ?_
    rw [wr1i hlt (by omega), wr (n := n + 1) (by omega) (by omega), wr (n := b.L - 1) (by omega) (by omega)]
    refine ifB_mk (fun c1 => ?_) (fun c1 => no (fun hp => ?_))
    · have c1 := of_decide_eq_true c1
      refine ifB_mk (fun c2 => no (fun hp => by have := hp.1.2.1; simp at c2; omega)) (fun c2 => ?_)
      have c2 : g.1 ≤ b.L - 1 := by simpa using c2
      refine ifB_mk (fun c3 => ?_) (fun c3 => no (fun hp => by have := hp.1.2.2.1; have := of_decide_eq_false c3; omega))
      have c3 := of_decide_eq_true c3
      refine ifB_mk (fun c4 => no (fun hp => by have := hp.1.2.2.2; simp at c4; omega)) (fun c4 => ?_)
      have c4 : g.2 ≤ 7 := by simpa using c4
      obtain ⟨g0, gm⟩ := g
      obtain ⟨m, rfl⟩ : ∃ m : Nat, gm = m := ⟨gm.toNat, by simp only at c3; omega⟩
      simp only at c1 c2 c3 c4
      have hm : m < 8 := by omega
      subst hcc
      refine onNat_mk rfl (need_mk ⟨hm, onSome_mk (tkn_get hm) (onBool_bv (ifB_mk (fun c5 => no (fun hp => ?_)) (fun c5 => ?_)))⟩)
      · obtain ⟨y, hy, hy2⟩ := List.any_eq_true.1 c5
        exact (hp.2 y hy).2 (by simpa using hy2)
      · refine onNat_mk rfl (need_mk ⟨hm, guardB_mk (by rw [bvs_length]; simp [tkn]; omega) ?_⟩)
        rw [tkn_put (a := g0) hm, ← take_succ' hg]
        have hall : ∀ y ∈ b.gs.take k, GB y (g0, (m : Int)) := fun y hy => ⟨by have := g5 y hy; simp only; omega, fun he => by rw [List.any_eq_false] at c5; exact c5 y hy (by simpa using he)⟩
        refine hJ (g0, k + 1) ⟨hlt, gp_next hg g2 ⟨by simp only; omega, c2, c3, c4⟩ hall, by simp only; omega, by simp only; omega, all_take hg (fun y hy => by have := (hall y hy).1; simp only at this ⊢; omega) (Int.le_refl _), .inr ⟨(g0, m), by rw [take_succ' hg]; simp, rfl⟩⟩ (by simp only; omega)
    · have c1 := of_decide_eq_false c1
      rcases g6 with g6 | ⟨y, hy, hy1⟩
      · have := hp.1.1; omega
      · have := (hp.2 y hy).1; omega
  · have hk : b.gs.length ≤ k := by rw [gl_length] at hb; have := of_decide_eq_false hb; omega
    rw [List.take_of_length_le hk] at g2
    exact rt h ⟨hc, g2⟩
def BtP (b : Bt) : Prop := LC b ∧ 0 ≤ b.S ∧ b.S ≤ 10 ∧ b.gs.length ≤ 8 ∧ GP b.L b.C b.gs ∧ b.bins.length = 16 ∧ ∀ x ∈ b.bins, Inn (-1) 7 x
noncomputable def beltE (b : Bt) : Int := if dc (BtP b) = true then 0 else 90
theorem bad90 {b : Bt} {R : V → Prop} (h : R (iv (beltE b))) (hn : ¬ BtP b) : R (iv 90) := by rw [beltE, if_neg (by rw [dc_f hn]; simp)] at h; exact h
theorem ok90 {b : Bt} {R : V → Prop} (h : R (iv (beltE b))) (hn : BtP b) : R (iv 0) := by rw [beltE, if_pos (dc_t hn)] at h; exact h
theorem belt18 {b : Bt} {R : V → Prop} (hl : b.bins.length ≤ 1000) (h : R (iv (beltE b))) : K0G Try.prog glX 18 [.agg (bel b)] R := by
  refine K0_of_WY0 hmX hcM 3000 Try.func18 (see (p := ifB (decide ((2 : Int) ≤ b.1)) (ifB (!decide (b.1 ≤ (100 : Int))) (R (iv (90 : Int))) (ifB (decide ((0 : Int) ≤ b.2)) (ifB (!decide (b.2 ≤ IntKind.i64.wrap (b.1 - (2 : Int)))) (R (iv (90 : Int))) (ifB (decide ((0 : Int) ≤ b.3)) (ifB (!decide (b.3 ≤ (10 : Int))) (R (iv (90 : Int))) (K0G Try.prog glX 55 [V.agg [iv b.1, iv b.2, iv b.3, V.lst 2 (gl b.4), V.lst 1 (nl b.5)]] fun v => onBool v fun b_1 => ifB (!b_1) (R (iv (90 : Int))) (K0G Try.prog glX 77 [V.lst 1 (nl b.5), iv (16 : Int), iv (-1 : Int), iv (7 : Int)] fun v => onBool v fun b => ifB (!b) (R (iv (90 : Int))) (R (iv (0 : Int)))))) (R (iv (90 : Int))))) (R (iv (90 : Int))))) (R (iv (90 : Int)))) (by kernel_rfl) ?_)
  refine ifB_mk (fun c1 => ?_) (fun c1 => bad90 h (fun hp => by have := hp.1.1; have := of_decide_eq_false c1; omega))
  have c1 := of_decide_eq_true c1
  refine ifB_mk (fun c2 => bad90 h (fun hp => by have := hp.1.2.1; simp at c2; omega)) (fun c2 => ?_)
  have c2 : b.L ≤ 100 := by simpa using c2
  rw [wr (n := b.L - 2) (by omega) (by omega)]
  refine ifB_mk (fun c3 => ?_) (fun c3 => bad90 h (fun hp => by have := hp.1.2.2.1; have := of_decide_eq_false c3; omega))
  have c3 := of_decide_eq_true c3
  refine ifB_mk (fun c4 => bad90 h (fun hp => by have := hp.1.2.2.2; simp at c4; omega)) (fun c4 => ?_)
  have c4 : b.C ≤ b.L - 2 := by simpa using c4
  refine ifB_mk (fun c5 => ?_) (fun c5 => bad90 h (fun hp => by have := hp.2.1; have := of_decide_eq_false c5; omega))
  have c5 := of_decide_eq_true c5
  refine ifB_mk (fun c6 => bad90 h (fun hp => by have := hp.2.2.1; simp at c6; omega)) (fun c6 => ?_)
  have c6 : b.S ≤ 10 := by simpa using c6
  refine gates55 ⟨c1, c2, c3, c4⟩ (onBool_bv (ifB_mk (fun c7 => bad90 h (fun hp => ?_)) (fun c7 => ?_)))
  · have : dc (b.gs.length ≤ 8 ∧ GP b.L b.C b.gs) = true := dc_t ⟨hp.2.2.2.1, hp.2.2.2.2.1⟩
    rw [this] at c7; cases c7
  have c7 := dc_true (show dc (b.gs.length ≤ 8 ∧ GP b.L b.C b.gs) = true by simpa using c7)
  refine nums77 (l := b.bins) (n := 16) hl ?_
  refine onBool_bv (ifB_mk (fun c8 => bad90 h (fun hp => ?_)) (fun c8 => ?_))
  · have : dc (Nums b.bins 16 (-1) 7) = true := dc_t ⟨by have := hp.2.2.2.2.2.1; omega, hp.2.2.2.2.2.2⟩
    rw [this] at c8; cases c8
  have c8 := dc_true (show dc (Nums b.bins 16 (-1) 7) = true by simpa using c8)
  exact ok90 h ⟨⟨c1, c2, c3, c4⟩, c5, c6, c7.1, c7.2, by have := c8.1; omega, c8.2⟩
def leadF : List Gt → Int → Nat → Int
  | [], _, _ => -1
  | g :: r, n, k => if g.2 = n then (k : Int) else leadF r n (k + 1)
theorem leadF_spec : ∀ (gs : List Gt) (n : Int) (k : Nat), (leadF gs n k = -1 ∧ ∀ y ∈ gs, y.2 ≠ n) ∨ ∃ (i : Nat) (g : Gt), gs[i]? = some g ∧ g.2 = n ∧ (∀ y ∈ gs.take i, y.2 ≠ n) ∧ leadF gs n k = ((k + i : Nat) : Int)
  | [], n, k => .inl ⟨rfl, by simp⟩
  | g :: r, n, k => by
    by_cases h : g.2 = n
    · exact .inr ⟨0, g, rfl, h, by simp, by simp [leadF, h]⟩
    · rcases leadF_spec r n (k + 1) with ⟨a, b⟩ | ⟨i, x, a, b, c, d⟩
      · refine .inl ⟨by simp [leadF, h, a], fun y hy => ?_⟩
        rcases List.mem_cons.1 hy with rfl | hy
        · exact h
        · exact b y hy
      · refine .inr ⟨i + 1, x, by simpa using a, b, fun y hy => ?_, by simp only [leadF, h, if_false, d]; omega⟩
        rcases List.mem_cons.1 (by simpa using hy) with rfl | hy
        · exact h
        · exact c y hy
def lead (b : Bt) (n : Int) : Int := leadF b.gs n 0
end Go.Proofs.Ytmdimnmdoifkfaa
namespace Go.Proofs.Ytmdimnmdoifkfaa
open Go Go.Proofs.Ytmdimnmdoifkfaa.Clean
set_option linter.unusedVariables false
set_option linter.unusedSimpArgs false
set_option maxRecDepth 10000
theorem fel {l : List Fd} {i : Nat} {x : Fd} {k : Int → Int → Nat → List (List V) → Prop} (h : l[i]? = some x) (hk : k x.1 x.2.1 1 (nl x.2.2)) : onSome (fdl l)[i]? fun row => onCons (List.drop 0 row) fun u r => onIntK IntKind.i64 u fun n => onCons r fun u r => onIntK IntKind.i64 u fun m => onCons r fun u r => onLst u fun s es => k n m s es := onSome_mk (by simp [fdl, h] : (fdl l)[i]? = some (fdr x)) hk
theorem fel0 {l : List Fd} {i : Nat} {x : Fd} {k : Int → Prop} (h : l[i]? = some x) (hk : k x.1) : onSome (fdl l)[i]? fun row => onSome row[0]? fun v => onIntK IntKind.i64 v fun n => k n := onSome_mk (by simp [fdl, h] : (fdl l)[i]? = some (fdr x)) hk
theorem fel2 {l : List Fd} {i : Nat} {x : Fd} {k : Nat → List (List V) → Prop} (h : l[i]? = some x) (hk : k 1 (nl x.2.2)) : onSome (fdl l)[i]? fun row => onSome row[2]? fun v => onLst v fun s es => k s es := onSome_mk (by simp [fdl, h] : (fdl l)[i]? = some (fdr x)) hk
def F1 (x : Fd) : Prop := 0 ≤ x.1 ∧ x.1 ≤ 1000 ∧ 0 ≤ x.2.1 ∧ x.2.1 ≤ 15 ∧ RdP x.2.2
def FB (a b : Fd) : Prop := a.1 < b.1
def FdP (l : List Fd) : Prop := l.length ≤ 40 ∧ (∀ x ∈ l, F1 x) ∧ l.Pairwise FB
noncomputable def fedE (l : List Fd) : Int := if dc (FdP l) = true then 0 else 91
theorem bad91 {l : List Fd} {R : V → Prop} (h : R (iv (fedE l))) (hn : ¬ FdP l) : R (iv 91) := by rw [fedE, if_neg (by rw [dc_f hn]; simp)] at h; exact h
theorem ok91 {l : List Fd} {R : V → Prop} (h : R (iv (fedE l))) (hn : FdP l) : R (iv 0) := by rw [fedE, if_pos (dc_t hn)] at h; exact h
def Rl (l : List Fd) : Prop := ∀ x ∈ l, x.2.2.length ≤ 1000
theorem fed20 {l : List Fd} {R : V → Prop} (hl : Rl l) (h : R (iv (fedE l))) : K0G Try.prog glX 20 [.lst 3 (fdl l)] R := by
  refine K0_of_WY0 hmX hcM 3000 Try.func20 (see (p := ifB (decide ((↑(fdl l).length : Int) > (40 : Int))) (R (iv (91 : Int))) (La 0 [(3 : Tmp), (9 : Tmp), (10 : Tmp), (11 : Tmp)] (WY Try.prog cfM 2993 (Env.mk (Bs.mk 0 []) 0 none 36 20 0) (cdAt [1, 1, 1, 0, 1, 0, 0] (bodyOf Try.f20))) (Qblk 0 (Qthen (WY Try.prog cfM 2996 (Env.mk (Bs.mk 0 []) 0 none 36 20 0) (cdAt [1, 1, 1, 1] (bodyOf Try.f20)) (QendX Try.prog Try.f20 fun v h => R (frzW h v))) (QendX Try.prog Try.f20 fun v h => R (frzW h v)))) (St.mk (mkT [(3, iv (-1 : Int)), (9, V.lst 3 (fdl l)), (10, iv (↑(fdl l).length : Int)), (11, iv (0 : Int))]) (Hp.mk [] 0 [])))) (by kernel_rfl) ?_)
  refine ifB_mk (fun hc => bad91 h (fun hn => by have := hn.1; rw [fdl_length] at hc; have := of_decide_eq_true hc; omega)) (fun hc => ?_)
  have hc : l.length ≤ 40 := by rw [fdl_length] at hc; have := of_decide_eq_false hc; omega
  refine La.of (σ := Int × Nat) (fun s => sh20 l s.1 s.2) (fun s => s.2 ≤ l.length ∧ (∀ x ∈ l.take s.2, F1 x) ∧ (l.take s.2).Pairwise FB ∧ -1 ≤ s.1 ∧ s.1 ≤ 1000 ∧ (∀ x ∈ l.take s.2, x.1 ≤ s.1) ∧ (s.1 = -1 ∨ ∃ x ∈ l.take s.2, x.1 = s.1)) (fun s => l.length - s.2) (-1, 0) (by kernel_rfl) ⟨by simp, by simp, by simp, by simp, by simp, by simp, by simp⟩ ?_
  rintro ⟨n, k⟩ ⟨g1, g2, g2', g3, g4, g5, g6⟩ J hJ
  simp only at g1 g2 g2' g3 g4 g5 g6
  refine see (p := ifB (decide ((↑k : Int) < (↑(fdl l).length : Int))) (onSome (fdl l)[k]? fun row => onCons (List.drop 0 row) fun u r => onIntK IntKind.i64 u fun n_1 => onCons r fun u r => onIntK IntKind.i64 u fun n_2 => onCons r fun u r => onLst u fun s es => ifB (decide (IntKind.i64.wrap (n + (1 : Int)) ≤ n_1)) (ifB (!decide (n_1 ≤ (1000 : Int))) (R (iv (91 : Int))) (ifB (decide ((0 : Int) ≤ n_2)) (ifB (!decide (n_2 ≤ (15 : Int))) (R (iv (91 : Int))) (K0G Try.prog glX 50 [V.lst s es] fun v => onBool v fun b => ifB (!b) (R (iv (91 : Int))) (J (St.mk (mkT [(3, iv n_1), (9, V.lst 3 (fdl l)), (10, iv (↑(fdl l).length : Int)), (11, iv (IntKind.i64.wrap ((↑k : Int) + (1 : Int))))]) (Hp.mk [] 0 []))))) (R (iv (91 : Int))))) (R (iv (91 : Int)))) (R (iv (0 : Int)))) (by kernel_rfl) ?_
  refine ifB_mk (fun hb => ?_) (fun hb => ?_)
  · have hlt : k < l.length := by rw [fdl_length] at hb; have := of_decide_eq_true hb; omega
    obtain ⟨x, hx⟩ := getI hlt
    have no : ¬ (F1 x ∧ ∀ y ∈ l.take k, FB y x) → R (iv 91) := fun hn => bad91 h (fun hp => hn ⟨hp.2.1 x (mem_at hx), pw_at hx hp.2.2⟩)
    refine fel hx ?_
    rw [wr1i hlt (by omega), wr (n := n + 1) (by omega) (by omega)]
    refine ifB_mk (fun c1 => ?_) (fun c1 => no (fun hp => ?_))
    · have c1 := of_decide_eq_true c1
      refine ifB_mk (fun c2 => no (fun hp => by have := hp.1.2.1; simp at c2; omega)) (fun c2 => ?_)
      have c2 : x.1 ≤ 1000 := by simpa using c2
      refine ifB_mk (fun c3 => ?_) (fun c3 => no (fun hp => by have := hp.1.2.2.1; have := of_decide_eq_false c3; omega))
      have c3 := of_decide_eq_true c3
      refine ifB_mk (fun c4 => no (fun hp => by have := hp.1.2.2.2.1; simp at c4; omega)) (fun c4 => ?_)
      have c4 : x.2.1 ≤ 15 := by simpa using c4
      refine readings50 (hl x (mem_at hx)) (onBool_bv (ifB_mk (fun c5 => no (fun hp => by rw [dc_t hp.1.2.2.2.2] at c5; cases c5)) (fun c5 => ?_)))
      have c5 := dc_true (show dc (RdP x.2.2) = true by simpa using c5)
      have hall : ∀ y ∈ l.take k, FB y x := fun y hy => by have := g5 y hy; show y.1 < x.1; omega
      exact hJ (x.1, k + 1) ⟨hlt, all_take hx g2 ⟨by omega, c2, c3, c4, c5⟩, (pw_succ hx).2 ⟨g2', hall⟩, by simp only; omega, c2, all_take hx (fun y hy => by have : y.1 < x.1 := hall y hy; simp only; omega) (Int.le_refl _), .inr ⟨x, by rw [take_succ' hx]; simp, rfl⟩⟩ (by simp only; omega)
    · have c1 := of_decide_eq_false c1
      rcases g6 with g6 | ⟨y, hy, hy1⟩
      · have := hp.1.1; omega
      · have : y.1 < x.1 := hp.2 y hy; omega
  · have hk : l.length ≤ k := by rw [fdl_length] at hb; have := of_decide_eq_false hb; omega
    rw [List.take_of_length_le hk] at g2 g2'
    exact ok91 h ⟨hc, g2, g2'⟩
def Sm (b : Bt) (l : List Fd) : Prop := b.gs.length ≤ 12 ∧ b.bins.length ≤ 30 ∧ l.length ≤ 60 ∧ ∀ x ∈ l, x.2.2.length ≤ 20
theorem great15 {b : Bt} {l : List Fd} {R : V → Prop} (h : R (bv (dc (¬ Sm b l)))) : K0G Try.prog glX 15 [.agg (bel b), .lst 3 (fdl l)] R := by
  refine K0_of_WY0 hmX hcM 3000 Try.func15 (see (p := ifB (decide ((↑(gl b.4).length : Int) > (12 : Int))) (R (bv true)) (ifB (decide ((↑(nl b.5).length : Int) > (30 : Int))) (R (bv true)) (ifB (decide ((↑(fdl l).length : Int) > (60 : Int))) (R (bv true)) (La 0 [(1 : Tmp), (5 : Tmp)] (WY Try.prog cfM 2994 (Env.mk (Bs.mk 0 []) 0 none 34 15 0) (cdAt [1, 1, 0, 1, 0, 0] (bodyOf Try.f15))) (Qblk 0 (Qthen (WY Try.prog cfM 2997 (Env.mk (Bs.mk 0 []) 0 none 34 15 0) (cdAt [1, 1, 1] (bodyOf Try.f15)) (QendX Try.prog Try.f15 fun v h => R (frzW h v))) (QendX Try.prog Try.f15 fun v h => R (frzW h v)))) (St.mk (mkT [(1, V.lst 3 (fdl l)), (5, iv (0 : Int))]) (Hp.mk [] 0 [])))))) (by kernel_rfl) ?_)
  have yes : ¬ Sm b l → R (bv true) := fun hn => rt h hn
  refine ifB_mk (fun c => yes (fun hn => by have := hn.1; rw [gl_length] at c; have := of_decide_eq_true c; omega)) (fun c1 => ?_)
  refine ifB_mk (fun c => yes (fun hn => by have := hn.2.1; rw [nl_length] at c; have := of_decide_eq_true c; omega)) (fun c2 => ?_)
  refine ifB_mk (fun c => yes (fun hn => by have := hn.2.2.1; rw [fdl_length] at c; have := of_decide_eq_true c; omega)) (fun c3 => ?_)
  rw [gl_length] at c1; rw [nl_length] at c2; rw [fdl_length] at c3
  have c1 := of_decide_eq_false c1; have c2 := of_decide_eq_false c2; have c3 := of_decide_eq_false c3
  refine La.of (σ := Nat) (fun k => sh15 l k) (fun k => k ≤ l.length ∧ ∀ x ∈ l.take k, x.2.2.length ≤ 20) (fun k => l.length - k) 0 (by kernel_rfl) ⟨by simp, by simp⟩ ?_
  rintro k ⟨g1, g2⟩ J hJ
  refine see (p := ifB (decide ((↑k : Int) < (↑(fdl l).length : Int))) (onSome (fdl l)[k]? fun row => onSome row[2]? fun v => onLst v fun s es => ifB (decide ((↑es.length : Int) > (20 : Int))) (R (bv true)) (J (St.mk (mkT [(1, V.lst 3 (fdl l)), (5, iv (IntKind.i64.wrap ((↑k : Int) + (1 : Int))))]) (Hp.mk [] 0 [])))) (R (bv false))) (by kernel_rfl) ?_
  refine ifB_mk (fun hb => ?_) (fun hb => ?_)
  · have hlt : k < l.length := by rw [fdl_length] at hb; have := of_decide_eq_true hb; omega
    obtain ⟨x, hx⟩ := getI hlt
    rw [wr1i hlt (by omega)]
    refine fel2 hx ?_
    rw [nl_length]
    refine ifB_mk (fun c => yes (fun hn => by have := hn.2.2.2 x (mem_at hx); have := of_decide_eq_true c; omega)) (fun c => ?_)
    exact hJ (k + 1) ⟨hlt, all_take hx g2 (by have := of_decide_eq_false c; omega)⟩ (by omega)
  · have hk : l.length ≤ k := by rw [fdl_length] at hb; have := of_decide_eq_false hb; omega
    rw [List.take_of_length_le hk] at g2
    exact rf h (not_not_intro ⟨by omega, by omega, by omega, g2⟩)
theorem sm_rl {b : Bt} {l : List Fd} (h : Sm b l) : Rl l := fun x hx => by have := h.2.2.2 x hx; omega
end Go.Proofs.Ytmdimnmdoifkfaa
namespace Go.Proofs.Ytmdimnmdoifkfaa
open Go Go.Proofs.Ytmdimnmdoifkfaa.Clean
set_option linter.unusedVariables false
set_option maxRecDepth 100000
def kpT : FuncId → Nat → Option (List Tmp) := slotsOf [(90, 0, [0, 1, 2]), (90, 2, [0, 1, 2, 4]), (22, 2, [2, 7, 9, 29, 30, 31]), (59, 0, [2, 7, 44, 45, 46]), (107, 0, [0, 1, 7, 8]), (62, 0, [1, 3, 7, 8, 9, 10]), (66, 0, [1, 2, 3]), (68, 0, [1, 2, 3]), (23, 0, [1, 2, 7, 8]), (27, 0, [0, 1, 5]), (28, 0, [0, 1, 5]), (25, 0, [1, 2, 7, 8]), (64, 0, [0, 2, 4, 7]), (67, 0, [0, 3, 5, 6])]
def moT (f : FuncId) : Nat := 0
def tyT (f : FuncId) : Option TypeId := some 3
noncomputable def cfT : Cfg := cfgM Try.prog glX moT tyT (inN [54, 75, 57, 58, 90, 63, 108, 107]) kpT
noncomputable def cfS : Cfg := { cfT with clean := fun g => !inN [90] g }
noncomputable def mem107 (b : Bt) (m : Int) : Hp := ⟨[(1, O.rows 1 false [[iv m]]), (0, O.rows 5 false [bel b])], 2, []⟩
noncomputable def sh107 (b : Bt) (m : Int) (k : Nat) : St := ⟨mkT [(0, V.lst 2 (gl b.gs)), (1, V.fn (Fn.func 108) [] [V.ptr (Id.p 0) 0 0, V.ptr (Id.p 1) 0 0]), (7, iv ((gl b.gs).length : Int)), (8, iv (k : Int))], mem107 b m⟩
noncomputable def sh59 (b : Bt) (c : List Fd) (g : Int) (k : Nat) : St := ⟨mkT [(2, V.ptr (Id.p 0) 0 0), (7, iv g), (44, V.lst 3 (fdl c)), (45, iv ((fdl c).length : Int)), (46, iv (k : Int))], ⟨[(0, O.rows 5 false [bel b])], 1, []⟩⟩
abbrev Ft := Int × Int × Int
def ftr (x : Ft) : List V := [iv x.1, iv x.2.1, iv x.2.2]
def ftl (l : List Ft) : List (List V) := l.map ftr
noncomputable def rec22 (b : Bt) (l : List Fd) (n n' : Int) : Lr := Lr.mk LoopState.ready none (mkT [(0, V.agg (bel b)), (1, V.lst 3 (fdl l)), (2, V.ptr (Id.p 0) 0 0), (4, nilS), (5, iv 0), (6, iv 0), (7, V.ptr (Id.p 2) 0 0), (12, V.agg (bel b)), (13, iv n), (14, V.lst 3 (fdl l)), (15, iv n'), (16, V.sl (Id.p 1) 0 2), (17, iv 0), (18, iv 0), (19, bv false), (21, V.lst 3 (fdl l)), (22, V.ptr (Id.p 0) 0 2), (23, iv b.S), (24, V.fn (Fn.func 90) [] [V.ptr (Id.p 3) 0 0, V.ptr (Id.p 4) 0 0])]) 44 (Array.mk [25]) (rfA (cdAt [1, 1, 1, 0, 1, 0] (bodyOf Try.f22))) (rfB (cdAt [1, 1, 1, 0, 1, 0] (bodyOf Try.f22))) 22
noncomputable def rec22b (b : Bt) (l : List Fd) (n n' : Int) : Lr := Lr.mk LoopState.busy none (mkT [(0, V.agg (bel b)), (1, V.lst 3 (fdl l)), (2, V.ptr (Id.p 0) 0 0), (4, nilS), (5, iv 0), (6, iv 0), (7, V.ptr (Id.p 2) 0 0), (12, V.agg (bel b)), (13, iv n), (14, V.lst 3 (fdl l)), (15, iv n'), (16, V.sl (Id.p 1) 0 2), (17, iv 0), (18, iv 0), (19, bv false), (21, V.lst 3 (fdl l)), (22, V.ptr (Id.p 0) 0 2), (23, iv b.S), (24, V.fn (Fn.func 90) [] [V.ptr (Id.p 3) 0 0, V.ptr (Id.p 4) 0 0])]) 44 (Array.mk [25]) (rfA (cdAt [1, 1, 1, 0, 1, 0] (bodyOf Try.f22))) (rfB (cdAt [1, 1, 1, 0, 1, 0] (bodyOf Try.f22))) 22
noncomputable def st22 (h : Hp) : St := ⟨mkT [(0, V.yl (Id.p 5)), (1, V.ptr (Id.p 3) 0 0), (2, V.ptr (Id.p 4) 0 0)], h⟩
noncomputable def st90 (n : Nat) (h : Hp) : St := ⟨mkT [(0, V.yl (Id.p 5)), (1, V.ptr (Id.p 3) 0 0), (2, V.ptr (Id.p 4) 0 0), (4, iv (n : Int))], h⟩
noncomputable def st22c (g : Int) (c : List (List V)) (k : Nat) (h : Hp) : St := ⟨mkT [(2, V.ptr (Id.p 0) 0 0), (7, V.ptr (Id.p 2) 0 0), (9, iv g), (29, V.lst 3 c), (30, iv (c.length : Int)), (31, iv (k : Int))], h⟩
noncomputable def mA (b : Bt) (n n' : Int) (q : Lr) (r : List (List V)) : Hp := ⟨[(5, O.lp q), (4, O.rows 1 false [[iv b.S]]), (3, O.rows 1 false [[V.lst 3 r]]), (2, O.rows 1 false [[nilS]]), (1, O.rows 1 true [[iv n], [iv n']]), (0, O.rows 5 false [bel b])], 6, []⟩
noncomputable def mA1 (b : Bt) (n n' : Int) (q : Lr) (r : List (List V)) (F : List Ft) : Hp := ⟨[(2, O.rows 1 false [[V.sl (Id.p 6) 0 F.length]]), (5, O.lp q), (4, O.rows 1 false [[iv b.S]]), (3, O.rows 1 false [[V.lst 3 r]]), (1, O.rows 1 true [[iv n], [iv n']]), (0, O.rows 5 false [bel b]), (6, O.rows 3 true (ftl F))], 7, []⟩
noncomputable def mB (b : Bt) (n n' : Int) (q : Lr) (r : List (List V)) (F : List Ft) : Hp := ⟨[(3, O.rows 1 false [[V.lst 3 r]]), (5, O.lp q), (2, O.rows 1 false [[V.sl (Id.p 6) 0 F.length]]), (4, O.rows 1 false [[iv b.S]]), (1, O.rows 1 true [[iv n], [iv n']]), (0, O.rows 5 false [bel b]), (6, O.rows 3 true (ftl F))], 7, []⟩
noncomputable def mB0 (b : Bt) (n n' : Int) (q : Lr) (r : List (List V)) (F : List Ft) : Hp := ⟨[(5, O.lp q), (3, O.rows 1 false [[V.lst 3 r]]), (2, O.rows 1 false [[V.sl (Id.p 6) 0 F.length]]), (4, O.rows 1 false [[iv b.S]]), (1, O.rows 1 true [[iv n], [iv n']]), (0, O.rows 5 false [bel b]), (6, O.rows 3 true (ftl F))], 7, []⟩
noncomputable def mB1 (b : Bt) (n n' : Int) (q : Lr) (r : List (List V)) (F : List Ft) : Hp := ⟨[(2, O.rows 1 false [[V.sl (Id.p 7) 0 F.length]]), (5, O.lp q), (3, O.rows 1 false [[V.lst 3 r]]), (4, O.rows 1 false [[iv b.S]]), (1, O.rows 1 true [[iv n], [iv n']]), (0, O.rows 5 false [bel b]), (7, O.rows 3 true (ftl F))], 8, []⟩
noncomputable def sh22 (b : Bt) (l : List Fd) (n n' : Int) (s : List Fd × List Ft) : St := match s.2 with
  | [] => st22 (mA b n n' (rec22 b l n n') (fdl s.1))
  | x :: t => st22 (mB b n n' (rec22 b l n n') (fdl s.1) (x :: t))
noncomputable def shA (b : Bt) (l : List Fd) (n n' g : Int) (r c : List (List V)) (s : List Ft × Nat) : St := match s.1 with
  | [] => st22c g c s.2 (mA b n n' (rec22b b l n n') r)
  | x :: t => st22c g c s.2 (mA1 b n n' (rec22b b l n n') r (x :: t))
noncomputable def shB (b : Bt) (l : List Fd) (n n' g : Int) (r c : List (List V)) (F : List Ft) (s : List Ft × Nat) : St := match s.2 with
  | 0 => st22c g c 0 (mB0 b n n' (rec22b b l n n') r F)
  | k + 1 => st22c g c (k + 1) (mB1 b n n' (rec22b b l n n') r s.1)
end Go.Proofs.Ytmdimnmdoifkfaa
namespace Go.Proofs.Ytmdimnmdoifkfaa
open Go Go.Proofs.Ytmdimnmdoifkfaa.Clean
set_option linter.unusedVariables false
set_option linter.unusedSimpArgs false
set_option maxRecDepth 10000
theorem hcT : cfT.ok Try.prog := cfgM_ok
theorem hcS : cfS.ok Try.prog := ⟨hcT.c0, hcT.known⟩
theorem ftl_length (l : List Ft) : (ftl l).length = l.length := by simp [ftl]
def gateF (b : Bt) (k : Int) : Int := if k = -1 then -1 else lead b (b.bins.getD k.toNat 0)
theorem getK {α : Type} {l : List α} {k : Nat} {d : α} (h : k < l.length) : l[k]? = some (l.getD k d) := by simp [h]
theorem gateOf91 {b : Bt} {k : Int} {R : V → Prop} (hb : BtP b) (hk : Inn (-1) 15 k) (h : R (iv (gateF b k))) : K0G Try.prog glX 91 [.agg (bel b), iv k] R := by
  refine K0_of_WY0 hmX hcT 3000 Try.func91 (see (p := ifB (k == (-1 : Int)) (R (iv (-1 : Int))) (La 2 [(0 : Tmp), (1 : Tmp), (7 : Tmp), (8 : Tmp)] (WY Try.prog cfT 2991 (Env.mk (Bs.mk 2 []) 2 none 19 107 0) (cdAt [1, 0, 1, 0, 0] (bodyOf Try.f107))) (Qblk 0 (Qthen (WY Try.prog cfT 2994 (Env.mk (cfT.baseOf (Bs.mk 0 []) 107 [V.lst 2 (gl b.4), V.fn (Fn.func 108) [] [V.ptr (Id.p 0) 0 0, V.ptr (Id.p 1) 0 0]] (Hp.mk [(1, O.rows 1 false [[iv k]]), (0, O.rows 5 false [[iv b.1, iv b.2, iv b.3, V.lst 2 (gl b.4), V.lst 1 (nl b.5)]])] (1 + 1) [])) 2 none 19 107 0) (cdAt [1, 1] (bodyOf Try.f107)) (QendX Try.prog Try.f107 fun v h' => (fun v h => fzNew (callY Try.prog cfT (WY Try.prog cfT 2996) (Env.mk (Bs.mk 0 []) 0 none Try.f91.ntmps (91 : FuncId) 0).base (Env.mk (Bs.mk 0 []) 0 none Try.f91.ntmps (91 : FuncId) 0).fid) 2 (Oper.mk (some 10) (Op.call (Call.mk (Callee.value (Operand.func 107)) #[Operand.tmp 8, Operand.tmp 9] #[22, 146])) 3 "belt.go:48" #[Edge.mk 1 Ground.data, Edge.mk 2 Ground.data] none) v h fun v h => putT (Env.mk (Bs.mk 0 []) 0 none Try.f91.ntmps (91 : FuncId) 0).N (mkT [(0, V.agg [iv b.1, iv b.2, iv b.3, V.lst 2 (gl b.4), V.lst 1 (nl b.5)]), (1, iv k), (2, V.ptr (Id.p 0) 0 0), (3, V.ptr (Id.p 1) 0 0), (4, iv (0 : Int)), (5, iv k), (6, bv (k == (-1 : Int))), (7, V.ptr (Id.p 0) 0 3), (8, V.lst 2 (gl b.4)), (9, V.fn (Fn.func 108) [] [V.ptr (Id.p 0) 0 0, V.ptr (Id.p 1) 0 0])]) (Oper.mk (some 10) (Op.call (Call.mk (Callee.value (Operand.func 107)) #[Operand.tmp 8, Operand.tmp 9] #[22, 146])) 3 "belt.go:48" #[Edge.mk 1 Ground.data, Edge.mk 2 Ground.data] none).dst v fun tm => (fun st => fzOld (callY Try.prog cfT (WY Try.prog cfT 2996) (Env.mk (Bs.mk 0 []) 0 none Try.f91.ntmps (91 : FuncId) 0).base (Env.mk (Bs.mk 0 []) 0 none Try.f91.ntmps (91 : FuncId) 0).fid) (askY cfT (Env.mk (Bs.mk 0 []) 0 none Try.f91.ntmps (91 : FuncId) 0).base) (Oper.mk (some 10) (Op.call (Call.mk (Callee.value (Operand.func 107)) #[Operand.tmp 8, Operand.tmp 9] #[22, 146])) 3 "belt.go:48" #[Edge.mk 1 Ground.data, Edge.mk 2 Ground.data] none) st fun st => wOps Try.prog (callY Try.prog cfT (WY Try.prog cfT 2996) (Env.mk (Bs.mk 0 []) 0 none Try.f91.ntmps (91 : FuncId) 0).base (Env.mk (Bs.mk 0 []) 0 none Try.f91.ntmps (91 : FuncId) 0).fid) (askY cfT (Env.mk (Bs.mk 0 []) 0 none Try.f91.ntmps (91 : FuncId) 0).base) (Env.mk (Bs.mk 0 []) 0 none Try.f91.ntmps (91 : FuncId) 0).N #[Oper.mk (some 7) (Op.fieldAddr 25 (Operand.tmp 2) 3) 0 "belt.go:48" #[] none, Oper.mk (some 8) (Op.load 22 (Operand.tmp 7)) 22 "belt.go:48" #[Edge.mk 0 Ground.data] none, Oper.mk (some 9) (Op.makeFunc (Fn.func 108) #[] #[Operand.tmp 2, Operand.tmp 3]) 146 "belt.go:48" #[] none, Oper.mk (some 10) (Op.call (Call.mk (Callee.value (Operand.func 107)) #[Operand.tmp 8, Operand.tmp 9] #[22, 146])) 3 "belt.go:48" #[Edge.mk 1 Ground.data, Edge.mk 2 Ground.data] none, Oper.mk (some 4) (Op.assign (Operand.tmp 10)) 3 "belt.go:48" #[Edge.mk 3 Ground.data, Edge.mk 3 Ground.chain, Edge.mk 0 Ground.phase, Edge.mk 1 Ground.phase, Edge.mk 2 Ground.phase, Edge.mk 3 Ground.phase] none].toList [Oper.mk (some 4) (Op.assign (Operand.tmp 10)) 3 "belt.go:48" #[Edge.mk 3 Ground.data, Edge.mk 3 Ground.chain, Edge.mk 0 Ground.phase, Edge.mk 1 Ground.phase, Edge.mk 2 Ground.phase, Edge.mk 3 Ground.phase] none] st (Qthen (WY Try.prog cfT 2997 (Env.mk (Bs.mk 0 []) 0 none 11 91 0) (cdAt [1, 0, 1, 0, 0, 1, 1, 0, 0, 1, 1, 0, 1] (bodyOf Try.f107)) (QendX Try.prog Try.f91 fun v h => R (frzW h v))) (QendX Try.prog Try.f91 fun v h => R (frzW h v)) Ex.norm)) (St.mk tm h)) v (bif cfT.clean 107 then gcH 2 v h' else h'))) (QendX Try.prog Try.f107 fun v h' => (fun v h => fzNew (callY Try.prog cfT (WY Try.prog cfT 2996) (Env.mk (Bs.mk 0 []) 0 none Try.f91.ntmps (91 : FuncId) 0).base (Env.mk (Bs.mk 0 []) 0 none Try.f91.ntmps (91 : FuncId) 0).fid) 2 (Oper.mk (some 10) (Op.call (Call.mk (Callee.value (Operand.func 107)) #[Operand.tmp 8, Operand.tmp 9] #[22, 146])) 3 "belt.go:48" #[Edge.mk 1 Ground.data, Edge.mk 2 Ground.data] none) v h fun v h => putT (Env.mk (Bs.mk 0 []) 0 none Try.f91.ntmps (91 : FuncId) 0).N (mkT [(0, V.agg [iv b.1, iv b.2, iv b.3, V.lst 2 (gl b.4), V.lst 1 (nl b.5)]), (1, iv k), (2, V.ptr (Id.p 0) 0 0), (3, V.ptr (Id.p 1) 0 0), (4, iv (0 : Int)), (5, iv k), (6, bv (k == (-1 : Int))), (7, V.ptr (Id.p 0) 0 3), (8, V.lst 2 (gl b.4)), (9, V.fn (Fn.func 108) [] [V.ptr (Id.p 0) 0 0, V.ptr (Id.p 1) 0 0])]) (Oper.mk (some 10) (Op.call (Call.mk (Callee.value (Operand.func 107)) #[Operand.tmp 8, Operand.tmp 9] #[22, 146])) 3 "belt.go:48" #[Edge.mk 1 Ground.data, Edge.mk 2 Ground.data] none).dst v fun tm => (fun st => fzOld (callY Try.prog cfT (WY Try.prog cfT 2996) (Env.mk (Bs.mk 0 []) 0 none Try.f91.ntmps (91 : FuncId) 0).base (Env.mk (Bs.mk 0 []) 0 none Try.f91.ntmps (91 : FuncId) 0).fid) (askY cfT (Env.mk (Bs.mk 0 []) 0 none Try.f91.ntmps (91 : FuncId) 0).base) (Oper.mk (some 10) (Op.call (Call.mk (Callee.value (Operand.func 107)) #[Operand.tmp 8, Operand.tmp 9] #[22, 146])) 3 "belt.go:48" #[Edge.mk 1 Ground.data, Edge.mk 2 Ground.data] none) st fun st => wOps Try.prog (callY Try.prog cfT (WY Try.prog cfT 2996) (Env.mk (Bs.mk 0 []) 0 none Try.f91.ntmps (91 : FuncId) 0).base (Env.mk (Bs.mk 0 []) 0 none Try.f91.ntmps (91 : FuncId) 0).fid) (askY cfT (Env.mk (Bs.mk 0 []) 0 none Try.f91.ntmps (91 : FuncId) 0).base) (Env.mk (Bs.mk 0 []) 0 none Try.f91.ntmps (91 : FuncId) 0).N #[Oper.mk (some 7) (Op.fieldAddr 25 (Operand.tmp 2) 3) 0 "belt.go:48" #[] none, Oper.mk (some 8) (Op.load 22 (Operand.tmp 7)) 22 "belt.go:48" #[Edge.mk 0 Ground.data] none, Oper.mk (some 9) (Op.makeFunc (Fn.func 108) #[] #[Operand.tmp 2, Operand.tmp 3]) 146 "belt.go:48" #[] none, Oper.mk (some 10) (Op.call (Call.mk (Callee.value (Operand.func 107)) #[Operand.tmp 8, Operand.tmp 9] #[22, 146])) 3 "belt.go:48" #[Edge.mk 1 Ground.data, Edge.mk 2 Ground.data] none, Oper.mk (some 4) (Op.assign (Operand.tmp 10)) 3 "belt.go:48" #[Edge.mk 3 Ground.data, Edge.mk 3 Ground.chain, Edge.mk 0 Ground.phase, Edge.mk 1 Ground.phase, Edge.mk 2 Ground.phase, Edge.mk 3 Ground.phase] none].toList [Oper.mk (some 4) (Op.assign (Operand.tmp 10)) 3 "belt.go:48" #[Edge.mk 3 Ground.data, Edge.mk 3 Ground.chain, Edge.mk 0 Ground.phase, Edge.mk 1 Ground.phase, Edge.mk 2 Ground.phase, Edge.mk 3 Ground.phase] none] st (Qthen (WY Try.prog cfT 2997 (Env.mk (Bs.mk 0 []) 0 none 11 91 0) (cdAt [1, 0, 1, 0, 0, 1, 1, 0, 0, 1, 1, 0, 1] (bodyOf Try.f107)) (QendX Try.prog Try.f91 fun v h => R (frzW h v))) (QendX Try.prog Try.f91 fun v h => R (frzW h v)) Ex.norm)) (St.mk tm h)) v (bif cfT.clean 107 then gcH 2 v h' else h')))) (St.mk (mkT [(0, V.lst 2 (gl b.4)), (1, V.fn (Fn.func 108) [] [V.ptr (Id.p 0) 0 0, V.ptr (Id.p 1) 0 0]), (7, iv (↑(gl b.4).length : Int)), (8, iv (0 : Int))]) (Hp.mk [(1, O.rows 1 false [[iv k]]), (0, O.rows 5 false [[iv b.1, iv b.2, iv b.3, V.lst 2 (gl b.4), V.lst 1 (nl b.5)]])] 2 [])))) (by kernel_rfl) ?_)
  have hbl := hb.2.2.2.2.2.1
  have hgl := hb.2.2.2.1
  refine ifB_mk (fun c => ?_) (fun c => ?_)
  · rw [gateF, if_pos (by simpa using c)] at h; exact h
  have c : k ≠ -1 := by simpa using c
  rw [gateF, if_neg c] at h
  obtain ⟨m, hkm⟩ : ∃ m : Nat, k = m := ⟨k.toNat, by have := hk.1; omega⟩
  have hm : m < b.bins.length := by have := hk.2; omega
  have hmm : k.toNat = m := by omega
  rw [hmm] at h
  refine La.of (σ := Nat) (fun i => sh107 b k i) (fun k => k ≤ b.gs.length ∧ leadF (b.gs.drop k) (b.bins.getD m 0) k = lead b (b.bins.getD m 0)) (fun k => b.gs.length - k) 0 (by kernel_rfl) ⟨by simp, rfl⟩ ?_
  rintro i ⟨g1, g2⟩ J hJ
  refine see (p := ifB (decide ((↑i : Int) < (↑(gl b.4).length : Int))) (onSome (gl b.4)[i]? fun row => onCons (List.drop 0 row) fun u r => onIntK IntKind.i64 u fun n => onCons r fun u r => onIntK IntKind.i64 u fun n => onNat k fun m => onSome (nl b.5)[m]? fun row => onSome row[0]? fun v => onIntK IntKind.i64 v fun n_1 => ifB (n == n_1) (R (iv (↑i : Int))) (J (St.mk (mkT [(0, V.lst 2 (gl b.4)), (1, V.fn (Fn.func (108 : FuncId)) [] [V.ptr (Id.p 0) 0 0, V.ptr (Id.p 1) 0 0]), (7, iv (↑(gl b.4).length : Int)), (8, iv (IntKind.i64.wrap ((↑i : Int) + (1 : Int))))]) (Hp.mk [(1, O.rows 1 false [[iv k]]), (0, O.rows 5 false [[iv b.1, iv b.2, iv b.3, V.lst 2 (gl b.4), V.lst 1 (nl b.5)]])] 2 [])))) (R (iv (-1 : Int)))) (by kernel_rfl) ?_
  refine ifB_mk (fun hb => ?_) (fun hb => ?_)
  · have hlt : i < b.gs.length := by rw [gl_length] at hb; have := of_decide_eq_true hb; omega
    obtain ⟨g, hg⟩ := getI hlt
    rw [List.drop_eq_getElem_cons hlt, (List.getElem?_eq_some_iff.1 hg).2] at g2
    rw [wr1i hlt (by omega)]
    refine gel hg (onNat_mk hkm (iel (getK (d := 0) hm) (ifB_mk (fun c1 => ?_) (fun c1 => ?_))))
    · rw [leadF, if_pos (by simpa using c1)] at g2
      rw [← g2] at h; exact h
    · rw [leadF, if_neg (by simpa using c1)] at g2
      exact hJ (i + 1) ⟨hlt, g2⟩ (by omega)
  · have hk : b.gs.length ≤ i := by rw [gl_length] at hb; have := of_decide_eq_false hb; omega
    rw [List.drop_of_length_le hk] at g2
    rw [← g2] at h
    exact h
def gt (b : Bt) (g : Int) : Gt := b.gs.getD g.toNat (0, 0)
theorem lead_rng (b : Bt) (n : Int) : lead b n = -1 ∨ ∃ m : Nat, lead b n = m ∧ m < b.gs.length ∧ (gt b m).2 = n := by
  rcases leadF_spec b.gs n 0 with ⟨a, _⟩ | ⟨i, g, a, e, _, d⟩
  · exact .inl a
  · refine .inr ⟨i, by rw [lead, d]; simp, (List.getElem?_eq_some_iff.1 a).1, ?_⟩
    rw [gt, show ((i : Nat) : Int).toNat = i from rfl]
    simp [a, e]
theorem gate_rng (b : Bt) (k : Int) : gateF b k = -1 ∨ ∃ m : Nat, gateF b k = m ∧ m < b.gs.length ∧ (gt b m).2 = b.bins.getD k.toNat 0 := by
  unfold gateF
  split
  · exact .inl rfl
  · exact lead_rng b _
theorem gt_get {b : Bt} {m : Nat} (h : m < b.gs.length) : b.gs[m]? = some (gt b m) := getK h
def fd (l : List Fd) (i : Nat) : Fd := l.getD i (0, 0, [])
theorem fd_get {l : List Fd} {i : Nat} (h : i < l.length) : l[i]? = some (fd l i) := getK h
def gk (b : Bt) (x : Fd) : Int := gateF b (kindOf x.2.2)
def SrP (b : Bt) (c : List Fd) : Prop := gk b (fd c 0) ≠ -1 ∧ (fd c (c.length - 1)).1 - (fd c 0).1 + 3 * b.S + 1 ≤ (gt b (gk b (fd c 0))).1 - b.C ∧ ∀ y ∈ c, gk b y = gk b (fd c 0)
noncomputable def sortF (b : Bt) (c : List Fd) : Int := if dc (SrP b c) = true then gk b (fd c 0) else -1
def mkind (s : Int × Int) : Prop := -1 ≤ s.1 ∧ s.1 ≤ 15
theorem mgo_rng : ∀ (c : List Int) (k : Nat) (s : Int × Int), mkind s → k + c.length ≤ 16 → mkind (mgo c k s)
  | [], _, _, h, _ => h
  | n :: c, k, s, h, hl => by
    simp only [List.length_cons] at hl
    refine mgo_rng c (k + 1) _ ?_ (by omega)
    unfold mstep
    split
    · constructor <;> simp only <;> omega
    · split
      · constructor <;> simp only <;> omega
      · exact h
theorem kind_rng (l : List Int) : Inn (-1) 15 (kindOf l) := mgo_rng (cts l) 0 (-1, 0) ⟨by simp, by simp⟩ (by rw [cts_length]; omega)
theorem sorted59 {b : Bt} {c : List Fd} {R : V → Prop} (hb : BtP b) (hc : c ≠ []) (hl : c.length ≤ 40) (h1 : ∀ x ∈ c, F1 x) (h : R (iv (sortF b c))) : K0G Try.prog glX 59 [.agg (bel b), .lst 3 (fdl c)] R := by
  refine K0_of_WY0 hmX hcT 3000 Try.func59 (see (p := onSome (fdl c)[0]? fun row => onCons (List.drop 0 row) fun u r => onIntK IntKind.i64 u fun n => onCons r fun u r => onIntK IntKind.i64 u fun n_1 => onCons r fun u r => onLst u fun s es => onNat (IntKind.i64.wrap ((↑(fdl c).length : Int) - (1 : Int))) fun m => onSome (fdl c)[m]? fun row => onCons (List.drop 0 row) fun u r => onIntK IntKind.i64 u fun n_2 => onCons r fun u r => onIntK IntKind.i64 u fun n_3 => onCons r fun u r => onLst u fun s_1 es_1 => K0G Try.prog glX 51 [V.lst s es] fun v => onIntK IntKind.i64 v fun n_4 => K0G Try.prog glX 91 [V.agg [iv b.1, iv b.2, iv b.3, V.lst 2 (gl b.4), V.lst 1 (nl b.5)], iv n_4] fun v => onIntK IntKind.i64 v fun n_5 => ifB (n_5 == (-1 : Int)) (R (iv (-1 : Int))) (onNat n_5 fun m => onSome (gl b.4)[m]? fun row => onSome row[0]? fun v => onIntK IntKind.i64 v fun n_6 => ifB (decide (IntKind.i64.wrap (IntKind.i64.wrap (IntKind.i64.wrap (n_2 - n) + IntKind.i64.wrap ((3 : Int) * b.3)) + (1 : Int)) > IntKind.i64.wrap (n_6 - b.2))) (R (iv (-1 : Int))) (La 0 [(2 : Tmp), (7 : Tmp), (44 : Tmp), (45 : Tmp), (46 : Tmp)] (WY Try.prog cfT 2992 (Env.mk (Bs.mk 0 []) 0 none 59 59 0) (cdAt [1, 1, 1, 1, 0, 1, 0, 0] (bodyOf Try.f59))) (Qblk 0 (Qthen (WY Try.prog cfT 2995 (Env.mk (Bs.mk 0 []) 0 none 59 59 0) (cdAt [1, 1, 1, 1, 1] (bodyOf Try.f59)) (QendX Try.prog Try.f59 fun v h => R (frzW h v))) (QendX Try.prog Try.f59 fun v h => R (frzW h v)))) (St.mk (mkT [(2, V.ptr (Id.p 0) 0 0), (7, iv n_5), (44, V.lst 3 (fdl c)), (45, iv (↑(fdl c).length : Int)), (46, iv (0 : Int))]) (Hp.mk [(0, O.rows 5 false [[iv b.1, iv b.2, iv b.3, V.lst 2 (gl b.4), V.lst 1 (nl b.5)]])] 1 []))))) (by kernel_rfl) ?_)
  have hpos : 0 < c.length := List.length_pos_iff.2 hc
  have x0 := fd_get (l := c) (i := 0) hpos
  have x1 := fd_get (l := c) (i := c.length - 1) (by omega)
  have f0 := h1 _ (mem_at x0)
  have f1 := h1 _ (mem_at x1)
  have no : ¬ SrP b c → R (iv (-1)) := fun hn => by rw [sortF, if_neg (by rw [dc_f hn]; simp)] at h; exact h
  refine fel x0 ?_
  rw [fdl_length]
  refine onNat_mk (m := c.length - 1) (by rw [wr (by omega) (by omega)]; omega) (fel x1 ?_)
  have rd : ∀ x, F1 x → x.2.2.length ≤ 1000 ∧ ∀ y ∈ x.2.2, Inn (-1) 15 y := fun x hx => ⟨by have := hx.2.2.2.2.2.1; omega, hx.2.2.2.2.2.2⟩
  refine readAs51 (rd _ f0).1 (rd _ f0).2 (onIntK_iv (gateOf91 hb (kind_rng _) (onIntK_iv ?_)))
  show ifB (gk b (fd c 0) == -1) _ _
  refine ifB_mk (fun d => no (fun hp => hp.1 (by simpa using d))) (fun d => ?_)
  have d : gk b (fd c 0) ≠ -1 := by simpa using d
  obtain ⟨m, e1, e2, e3⟩ := (gate_rng b (kindOf (fd c 0).2.2)).resolve_left d
  have hS := hb.2.1
  have hS' := hb.2.2.1
  obtain ⟨hC1, hC2, hC3, hC4⟩ := hb.1
  have hg := hb.2.2.2.2.1.1 _ (mem_at (gt_get e2))
  have a1 := f0.1; have a2 := f0.2.1; have a3 := f1.1; have a4 := f1.2.1; have a5 := hg.1; have a6 := hg.2.1
  have hgg : gk b (fd c 0) = (m : Int) := e1
  have hgt : gt b (gk b (fd c 0)) = gt b m := by rw [hgg]
  refine onNat_mk hgg (gel0 (gt_get e2) ?_)
  rw [wr (n := (fd c (c.length - 1)).1 - (fd c 0).1) (by omega) (by omega), wr (n := 3 * b.S) (by omega) (by omega), wr (n := (fd c (c.length - 1)).1 - (fd c 0).1 + 3 * b.S) (by omega) (by omega), wr (n := (fd c (c.length - 1)).1 - (fd c 0).1 + 3 * b.S + 1) (by omega) (by omega), wr (n := (gt b m).1 - b.C) (by omega) (by omega)]
  refine ifB_mk (fun d2 => no (fun hp => by have := hp.2.1; rw [hgt] at this; have := of_decide_eq_true d2; omega)) (fun d2 => ?_)
  have d2 := of_decide_eq_false d2
  generalize hgv : gk b (fd c 0) = g at d hgg
  refine La.of (σ := Nat) (fun k => sh59 b c g k) (fun k => k ≤ c.length ∧ ∀ y ∈ c.take k, gk b y = g) (fun k => c.length - k) 0 (by rw [← fdl_length]; subst hgv; kernel_rfl) ⟨by simp, by simp⟩ ?_
  rintro k ⟨g1, g2⟩ J hJ
  refine see (p := ifB (decide ((↑k : Int) < (↑(fdl c).length : Int))) (onSome (fdl c)[k]? fun row => onCons (List.drop 0 row) fun u r => onIntK IntKind.i64 u fun n => onCons r fun u r => onIntK IntKind.i64 u fun n => onCons r fun u r => onLst u fun s es => K0G Try.prog glX 51 [V.lst s es] fun v => onIntK IntKind.i64 v fun n => K0G Try.prog glX 91 [V.agg [iv b.1, iv b.2, iv b.3, V.lst 2 (gl b.4), V.lst 1 (nl b.5)], iv n] fun v => onIntK IntKind.i64 v fun n => ifB (n != g) (R (iv (-1 : Int))) (J (St.mk (mkT [(2, V.ptr (Id.p 0) 0 0), (7, iv g), (44, V.lst 3 (fdl c)), (45, iv (↑(fdl c).length : Int)), (46, iv (IntKind.i64.wrap ((↑k : Int) + (1 : Int))))]) (Hp.mk [(0, O.rows 5 false [[iv b.1, iv b.2, iv b.3, V.lst 2 (gl b.4), V.lst 1 (nl b.5)]])] 1 [])))) (R (iv g))) (by kernel_rfl) ?_
  refine ifB_mk (fun hb' => ?_) (fun hb' => ?_)
  · have hlt : k < c.length := by rw [fdl_length] at hb'; have := of_decide_eq_true hb'; omega
    obtain ⟨x, hx⟩ := getI hlt
    have fx := h1 x (mem_at hx)
    rw [wr1i hlt (by omega)]
    refine fel hx (readAs51 (rd _ fx).1 (rd _ fx).2 (onIntK_iv (gateOf91 hb (kind_rng _) (onIntK_iv ?_))))
    show ifB (gk b x != g) _ _
    refine ifB_mk (fun e => no (fun hp => ?_)) (fun e => ?_)
    · have := hp.2.2 x (mem_at hx)
      rw [hgv] at this
      rw [this] at e; simp at e
    · exact hJ (k + 1) ⟨hlt, all_take hx g2 (by simpa using e)⟩ (by omega)
  · have hk : c.length ≤ k := by rw [fdl_length] at hb'; have := of_decide_eq_false hb'; omega
    rw [List.take_of_length_le hk] at g2
    rw [sortF, if_pos (dc_t (show SrP b c from ⟨by rw [hgv]; exact d, by rw [hgv, hgg]; omega, by rw [hgv]; exact g2⟩)), hgv] at h
    exact h
def fateF (b : Bt) (x : Fd) (g : Int) : Ft := if g = -1 then (kindOf x.2.2, -1, x.1 + b.L) else (kindOf x.2.2, (gt b g).2, x.1 + (gt b g).1)
def GtOK (b : Bt) (g : Int) : Prop := g = -1 ∨ ∃ m : Nat, g = m ∧ m < b.gs.length
theorem sort_ok (b : Bt) (c : List Fd) : GtOK b (sortF b c) := by
  unfold sortF
  split
  · rcases gate_rng b (kindOf (fd c 0).2.2) with h | ⟨m, h, h', _⟩
    · exact .inl h
    · exact .inr ⟨m, h, h'⟩
  · exact .inl rfl
theorem fate60 {b : Bt} {x : Fd} {g : Int} {R : V → Prop} (hb : BtP b) (hx : F1 x) (hg : GtOK b g) (h : R (.agg (ftr (fateF b x g)))) : K0G Try.prog glX 60 [.agg (bel b), .agg (fdr x), iv g] R := by
  refine K0_of_WY0 hmX hcT 3000 Try.func60 (see (p := K0G Try.prog glX 51 [V.lst 1 (nl x.2.2)] fun v => onIntK IntKind.i64 v fun n => ifB (g != (-1 : Int)) (onNat g fun m => onSome (gl b.4)[m]? fun row => onSome row[1]? fun v => onIntK IntKind.i64 v fun n_1 => onNat g fun m => onSome (gl b.4)[m]? fun row => onSome row[0]? fun v => onIntK IntKind.i64 v fun n_2 => R (V.agg [iv n, iv n_1, iv (IntKind.i64.wrap (x.1 + n_2))])) (R (V.agg [iv n, iv (-1 : Int), iv (IntKind.i64.wrap (x.1 + b.1))]))) (by kernel_rfl) ?_)
  have a1 := hx.1; have a2 := hx.2.1
  obtain ⟨hC1, hC2, hC3, hC4⟩ := hb.1
  refine readAs51 (by have := hx.2.2.2.2.2.1; omega) hx.2.2.2.2.2.2 (onIntK_iv ?_)
  unfold fateF at h
  refine ifB_mk (fun d => ?_) (fun d => ?_)
  · have d : g ≠ -1 := by simpa using d
    rw [if_neg d] at h
    obtain ⟨m, rfl, hm⟩ := hg.resolve_left d
    have hgm := hb.2.2.2.2.1.1 _ (mem_at (gt_get hm))
    have a5 := hgm.1; have a6 := hgm.2.1
    refine onNat_mk rfl (gel1 (gt_get hm) (onNat_mk rfl (gel0 (gt_get hm) ?_)))
    rw [wr (by omega) (by omega)]
    exact h
  · rw [if_pos (by simpa using d)] at h
    rw [wr (by omega) (by omega)]
    exact h
end Go.Proofs.Ytmdimnmdoifkfaa
namespace Go.Proofs.Ytmdimnmdoifkfaa
open Go Go.Proofs.Ytmdimnmdoifkfaa.Clean
set_option linter.unusedVariables false
set_option linter.unusedSimpArgs false
set_option maxRecDepth 10000
def cl1 (S : Int) : Fd → List Fd → List Fd × List Fd
  | _, [] => ([], [])
  | x, y :: r => if y.1 - x.1 ≤ 2 * S + 1 then (y :: (cl1 S y r).1, (cl1 S y r).2) else ([], y :: r)
def cluN (S : Int) : Nat → List Fd → List (List Fd)
  | 0, _ => []
  | _ + 1, [] => []
  | n + 1, x :: r => (x :: (cl1 S x r).1) :: cluN S n (cl1 S x r).2
def clu (S : Int) (l : List Fd) : List (List Fd) := cluN S l.length l
theorem cl1_app (S : Int) : ∀ (r : List Fd) (x : Fd), (cl1 S x r).1 ++ (cl1 S x r).2 = r
  | [], x => rfl
  | y :: r, x => by
    unfold cl1
    split
    · simp only [List.cons_append, cl1_app S r y]
    · rfl
theorem cl1_len (S : Int) (r : List Fd) (x : Fd) : (cl1 S x r).2.length ≤ r.length := by
  have := congrArg List.length (cl1_app S r x)
  simp only [List.length_append] at this
  omega
theorem cluN_eq (S : Int) : ∀ (n m : Nat) (l : List Fd), l.length ≤ n → l.length ≤ m → cluN S n l = cluN S m l
  | 0, m, l, h, _ => by
    rw [List.eq_nil_of_length_eq_zero (Nat.le_zero.1 h)]
    cases m <;> rfl
  | n + 1, 0, l, _, h => by
    rw [List.eq_nil_of_length_eq_zero (Nat.le_zero.1 h)]
    rfl
  | n + 1, m + 1, [], _, _ => rfl
  | n + 1, m + 1, x :: r, h, h' => by
    simp only [List.length_cons] at h h'
    have := cl1_len S r x
    simp only [cluN]
    rw [cluN_eq S n m _ (by omega) (by omega)]
theorem clu_nil (S : Int) : clu S [] = [] := rfl
theorem clu_cons (S : Int) (x : Fd) (r : List Fd) : clu S (x :: r) = (x :: (cl1 S x r).1) :: clu S (cl1 S x r).2 := by
  show (x :: (cl1 S x r).1) :: cluN S r.length (cl1 S x r).2 = _
  rw [clu, cluN_eq S r.length (cl1 S x r).2.length _ (cl1_len S r x) (Nat.le_refl _)]
def nearP (S : Int) (l : List Fd) (j : Nat) : Prop := (fd l j).1 - (fd l (j - 1)).1 ≤ 2 * S + 1
theorem cl1_take (S : Int) : ∀ (r : List Fd) (x : Fd) (m : Nat), 1 ≤ m → m ≤ r.length + 1 → (∀ j, 1 ≤ j → j < m → nearP S (x :: r) j) → (m = r.length + 1 ∨ ¬ nearP S (x :: r) m) →
    x :: (cl1 S x r).1 = (x :: r).take m ∧ (cl1 S x r).2 = (x :: r).drop m
  | [], x, m, h1, h2, _, _ => by
    have : m = 1 := by simp at h2; omega
    subst this
    exact ⟨rfl, rfl⟩
  | y :: r, x, m, h1, h2, h3, h4 => by
    have e1 : nearP S (x :: y :: r) 1 ↔ y.1 - x.1 ≤ 2 * S + 1 := Iff.rfl
    unfold cl1
    by_cases hn : y.1 - x.1 ≤ 2 * S + 1
    · rw [if_pos hn]
      obtain ⟨k, rfl⟩ : ∃ k, m = k + 1 := ⟨m - 1, by omega⟩
      have hk : 1 ≤ k := by
        rcases Nat.eq_zero_or_pos k with h0 | h0
        · subst h0
          rcases h4 with h4 | h4
          · simp at h4
          · exact (h4 (e1.2 hn)).elim
        · exact h0
      have sh : ∀ j, 1 ≤ j → (nearP S (y :: r) j ↔ nearP S (x :: y :: r) (j + 1)) := fun j hj => by
        obtain ⟨i, rfl⟩ : ∃ i, j = i + 1 := ⟨j - 1, by omega⟩
        exact Iff.rfl
      have ih := cl1_take S r y k hk (by simp at h2; omega) (fun j a b => (sh j a).2 (h3 (j + 1) (by omega) (by omega))) (by
        rcases h4 with h4 | h4
        · exact .inl (by simp at h4; omega)
        · exact .inr (fun hh => h4 ((sh k hk).1 hh)))
      exact ⟨by simp only [List.take_succ_cons, ih.1], by simp only [List.drop_succ_cons, ih.2]⟩
    · rw [if_neg hn]
      have : m = 1 := by
        rcases Nat.lt_or_ge 1 m with h | h
        · exact (hn (e1.1 (h3 1 (Nat.le_refl _) h))).elim
        · omega
      subst this
      exact ⟨rfl, rfl⟩
noncomputable def fatC (b : Bt) (c : List Fd) : List Ft := c.map fun x => fateF b x (sortF b c)
noncomputable def fates (b : Bt) (l : List Fd) : List Ft := (clu b.S l).flatMap (fatC b)
theorem fates_take {b : Bt} {r : List Fd} {m : Nat} (h1 : 1 ≤ m) (h2 : m ≤ r.length) (h3 : ∀ j, 1 ≤ j → j < m → nearP b.S r j) (h4 : m = r.length ∨ ¬ nearP b.S r m) : fates b r = fatC b (r.take m) ++ fates b (r.drop m) := by
  cases r with
  | nil => simp at h2; omega
  | cons x r =>
    obtain ⟨e1, e2⟩ := cl1_take b.S r x m h1 (by simpa using h2) h3 (by simpa using h4)
    rw [fates, clu_cons, List.flatMap_cons, e1, e2]
    rfl
theorem fdl_row {r : List Fd} {m : Nat} (h : m < r.length) : ∃ row, (fdl r)[m]? = some row ∧ row[0]? = some (iv (fd r m).1) := ⟨fdr (fd r m), by simp [fdl, fd_get h], rfl⟩
def lsF (F : List Ft) : V := match F with | [] => nilS | x :: t => .lst 3 (ftl (x :: t))
noncomputable def askE (b : Bt) (l : List Fd) : Int := if dc (BtP b) = true then fedE l else 90
noncomputable def sortT (b : Bt) (l : List Fd) : V := if dc (BtP b ∧ FdP l) = true then .tup [lsF (fates b l), iv 0] else .tup [nilS, iv (askE b l)]
theorem sorted59' {b : Bt} {c : List Fd} {cs : List (List V)} {R : V → Prop} (hcs : cs = fdl c) (hb : BtP b) (hc : c ≠ []) (hl : c.length ≤ 40) (h1 : ∀ x ∈ c, F1 x) (h : R (iv (sortF b c))) : K0G Try.prog glX 59 [.agg (bel b), .lst 3 cs] R := by subst hcs; exact sorted59 hb hc hl h1 h
theorem felc {l : List Fd} {cs : List (List V)} {i : Nat} {x : Fd} {k : Int → Int → Nat → List (List V) → Prop} (hcs : cs = fdl l) (h : l[i]? = some x) (hk : k x.1 x.2.1 1 (nl x.2.2)) : onSome cs[i]? fun row => onCons (List.drop 0 row) fun u r => onIntK IntKind.i64 u fun n => onCons r fun u r => onIntK IntKind.i64 u fun m => onCons r fun u r => onLst u fun s es => k n m s es := by subst hcs; exact fel h hk
theorem sub_fdl (r : List Fd) (m : Nat) : sub (fdl r) 0 (m - 0) = fdl (r.take m) := by simp [sub, fdl, List.map_take]
theorem sub_fdl' (r : List Fd) (m : Nat) : sub (fdl r) m ((fdl r).length - m) = fdl (r.drop m) := by
  rw [sub, List.take_of_length_le (by simp), fdl, ← List.map_drop]
  rfl
theorem ftl_take (l : List Ft) : List.take l.length (ftl l) = ftl l := by rw [← ftl_length]; exact List.take_length
theorem sh22_b {b : Bt} {l : List Fd} {n n' : Int} {r : List Fd} {F : List Ft} (h : F ≠ []) : sh22 b l n n' (r, F) = st22 (mB b n n' (rec22 b l n n') (fdl r) F) := by cases F with | nil => exact (h rfl).elim | cons x t => rfl
theorem shA_b {b : Bt} {l : List Fd} {n n' g : Int} {r c : List (List V)} {E : List Ft} {k : Nat} (h : E ≠ []) : shA b l n n' g r c (E, k) = st22c g c k (mA1 b n n' (rec22b b l n n') r E) := by cases E with | nil => exact (h rfl).elim | cons x t => rfl
theorem shB_b {b : Bt} {l : List Fd} {n n' g : Int} {r c : List (List V)} {F E : List Ft} {k : Nat} (h : 0 < k) : shB b l n n' g r c F (E, k) = st22c g c k (mB1 b n n' (rec22b b l n n') r E) := by cases k with | zero => omega | succ k => rfl
end Go.Proofs.Ytmdimnmdoifkfaa
