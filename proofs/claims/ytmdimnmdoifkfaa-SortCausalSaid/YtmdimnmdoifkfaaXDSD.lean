/- Fed parts; the law about checks. -/
import Derived.Test.YtmdimnmdoifkfaaXDSC
namespace Go.Proofs.Ytmdimnmdoifkfaa
open Go Go.Proofs.Ytmdimnmdoifkfaa.Clean
set_option linter.unusedVariables false
set_option linter.unusedSimpArgs false
set_option maxRecDepth 10000

theorem fel {l : List Fd} {i : Nat} {x : Fd} {k : Int → Int → Nat → List (List V) → Prop} (h : l[i]? = some x) (hk : k x.1 x.2.1 1 (nl x.2.2)) : onSome (fdl l)[i]? fun row => onCons (List.drop 0 row) fun u r => onIntK IntKind.i64 u fun n => onCons r fun u r => onIntK IntKind.i64 u fun m => onCons r fun u r => onLst u fun s es => k n m s es := onSome_mk (by simp [fdl, h] : (fdl l)[i]? = some (fdr x)) hk
theorem fel0 {l : List Fd} {i : Nat} {x : Fd} {k : Int → Prop} (h : l[i]? = some x) (hk : k x.1) : onSome (fdl l)[i]? fun row => onSome row[0]? fun v => onIntK IntKind.i64 v fun n => k n := onSome_mk (by simp [fdl, h] : (fdl l)[i]? = some (fdr x)) hk
theorem fel2 {l : List Fd} {i : Nat} {x : Fd} {k : Nat → List (List V) → Prop} (h : l[i]? = some x) (hk : k 1 (nl x.2.2)) : onSome (fdl l)[i]? fun row => onSome row[2]? fun v => onLst v fun s es => k s es := onSome_mk (by simp [fdl, h] : (fdl l)[i]? = some (fdr x)) hk
/-- One part is valid. -/
def F1 (x : Fd) : Prop := 0 ≤ x.1 ∧ x.1 ≤ 1000 ∧ 0 ≤ x.2.1 ∧ x.2.1 ≤ 15 ∧ RdP x.2.2
def FB (a b : Fd) : Prop := a.1 < b.1
/-- Fed parts. -/
def FdP (l : List Fd) : Prop := l.length ≤ 40 ∧ (∀ x ∈ l, F1 x) ∧ l.Pairwise FB
noncomputable def fedE (l : List Fd) : Int := if dc (FdP l) = true then 0 else 91
theorem bad91 {l : List Fd} {R : V → Prop} (h : R (iv (fedE l))) (hn : ¬ FdP l) : R (iv 91) := by rw [fedE, if_neg (by rw [dc_f hn]; simp)] at h; exact h
theorem ok91 {l : List Fd} {R : V → Prop} (h : R (iv (fedE l))) (hn : FdP l) : R (iv 0) := by rw [fedE, if_pos (dc_t hn)] at h; exact h
def Rl (l : List Fd) : Prop := ∀ x ∈ l, x.2.2.length ≤ 1000
theorem fed20 {l : List Fd} {R : V → Prop} (hl : Rl l) (h : R (iv (fedE l))) : K0G Try.prog glX 20 [.lst 3 (fdl l)] R := by
  refine K0_of_WY0 hmX hcM 3000 Try.func20 (see (p := ifB (decide ((↑(fdl l).length : Int) > (40 : Int))) (R (iv (91 : Int))) (La 0 [(3 : Tmp), (9 : Tmp), (10 : Tmp), (11 : Tmp)] (WY Try.prog cfM 2993 (Env.mk (Bs.mk 0 []) 0 none 36 20 0) (cdAt [1, 1, 1, 0, 1, 0, 0] (bodyOf Try.f20))) (Qblk 0 (Qthen (WY Try.prog cfM 2996 (Env.mk (Bs.mk 0 []) 0 none 36 20 0) (cdAt [1, 1, 1, 1] (bodyOf Try.f20)) (QendX Try.prog Try.f20 fun v h => R (frzW h v))) (QendX Try.prog Try.f20 fun v h => R (frzW h v)))) (St.mk (mkT [(3, iv (-1 : Int)), (9, V.lst 3 (fdl l)), (10, iv (↑(fdl l).length : Int)), (11, iv (0 : Int))]) (Hp.mk [] 0 [])))) (by kernel_rfl) ?_)
  refine ifB_mk (fun hc => bad91 h (fun hn => by have := hn.1; rw [fdl_length] at hc; have := of_decide_eq_true hc; omega)) (fun hc => ?_)
  have hc : l.length ≤ 40 := by rw [fdl_length] at hc; have := of_decide_eq_false hc; omega
  refine La.of (σ := Int × Nat) (fun s => sh20 l s.1 s.2) (fun s => s.2 ≤ l.length ∧ (∀ x ∈ l.take s.2, F1 x) ∧ (l.take s.2).Pairwise FB ∧ -1 ≤ s.1 ∧ s.1 ≤ 1000 ∧ (∀ x ∈ l.take s.2, x.1 ≤ s.1) ∧ (s.1 = -1 ∨ ∃ x ∈ l.take s.2, x.1 = s.1)) (fun s => l.length - s.2) (-1, 0) (by kernel_rfl) ⟨by simp, by simp, by simp, by simp, by simp, by simp, by simp⟩ ?_
  rintro ⟨n, k⟩ ⟨g1, g2, g2', g3, g4, g5, g6⟩ J hJ
  simp only at g1 g2 g2' g3 g4 g5 g6
  refine see (p := ifB (decide ((↑k : Int) < (↑(fdl l).length : Int))) (onSome (fdl l)[k]? fun row => onCons (List.drop 0 row) fun u r => onIntK IntKind.i64 u fun n_1 => onCons r fun u r => onIntK IntKind.i64 u fun n_2 => onCons r fun u r => onLst u fun s es => ifB (decide (IntKind.i64.wrap (n + (1 : Int)) ≤ n_1)) (ifB (!decide (n_1 ≤ (1000 : Int))) (R (iv (91 : Int))) (ifB (decide ((0 : Int) ≤ n_2)) (ifB (!decide (n_2 ≤ (15 : Int))) (R (iv (91 : Int))) (K0G Try.prog glX 50 [V.lst s es] fun v => onBool v fun b => ifB (!b) (R (iv (91 : Int))) (J (St.mk (mkT [(3, iv n_1), (9, V.lst 3 (fdl l)), (10, iv (↑(fdl l).length : Int)), (11, iv (IntKind.i64.wrap ((↑k : Int) + (1 : Int))))]) (Hp.mk [] 0 []))))) (R (iv (91 : Int))))) (R (iv (91 : Int)))) (R (iv (0 : Int)))) (by kernel_rfl) ?_
  refine ifB_mk (fun hb => ?_) (fun hb => ?_)
  · have hlt : k < l.length := by rw [fdl_length] at hb; have := of_decide_eq_true hb; omega
    obtain ⟨x, hx⟩ := getI hlt
    have no : ¬ (F1 x ∧ ∀ y ∈ l.take k, FB y x) → R (iv 91) := fun hn => bad91 h (fun hp => hn ⟨hp.2.1 x (mem_at hx), pw_at hx hp.2.2⟩)
    refine fel hx ?_
    rw [wr1i hlt (by omega), wr (n := n + 1) (by omega) (by omega)]
    refine ifB_mk (fun c1 => ?_) (fun c1 => no (fun hp => ?_))
    · have c1 := of_decide_eq_true c1
      refine ifB_mk (fun c2 => no (fun hp => by have := hp.1.2.1; simp at c2; omega)) (fun c2 => ?_)
      have c2 : x.1 ≤ 1000 := by simpa using c2
      refine ifB_mk (fun c3 => ?_) (fun c3 => no (fun hp => by have := hp.1.2.2.1; have := of_decide_eq_false c3; omega))
      have c3 := of_decide_eq_true c3
      refine ifB_mk (fun c4 => no (fun hp => by have := hp.1.2.2.2.1; simp at c4; omega)) (fun c4 => ?_)
      have c4 : x.2.1 ≤ 15 := by simpa using c4
      refine readings50 (hl x (mem_at hx)) (onBool_bv (ifB_mk (fun c5 => no (fun hp => by rw [dc_t hp.1.2.2.2.2] at c5; cases c5)) (fun c5 => ?_)))
      have c5 := dc_true (show dc (RdP x.2.2) = true by simpa using c5)
      have hall : ∀ y ∈ l.take k, FB y x := fun y hy => by have := g5 y hy; show y.1 < x.1; omega
      exact hJ (x.1, k + 1) ⟨hlt, all_take hx g2 ⟨by omega, c2, c3, c4, c5⟩, (pw_succ hx).2 ⟨g2', hall⟩, by simp only; omega, c2, all_take hx (fun y hy => by have : y.1 < x.1 := hall y hy; simp only; omega) (Int.le_refl _), .inr ⟨x, by rw [take_succ' hx]; simp, rfl⟩⟩ (by simp only; omega)
    · have c1 := of_decide_eq_false c1
      rcases g6 with g6 | ⟨y, hy, hy1⟩
      · have := hp.1.1; omega
      · have : y.1 < x.1 := hp.2 y hy; omega
  · have hk : l.length ≤ k := by rw [fdl_length] at hb; have := of_decide_eq_false hb; omega
    rw [List.take_of_length_le hk] at g2 g2'
    exact ok91 h ⟨hc, g2, g2'⟩
theorem parts48 {l : List Fd} {R : V → Prop} (hl : Rl l) (h : R (bv (dc (FdP l)))) : K0G Try.prog glX 48 [.lst 3 (fdl l)] R := by
  refine K0_of_WY0 hmX hcM 3000 Try.func48 (see (p := ifB (decide ((↑(fdl l).length : Int) > (40 : Int))) (R (bv false)) (La 0 [(0 : Tmp), (3 : Tmp)] (WY Try.prog cfM 2994 (Env.mk (Bs.mk 0 []) 0 none 49 48 0) (cdAt [1, 1, 0, 1, 0, 0] (bodyOf Try.f48))) (Qblk 0 (Qthen (WY Try.prog cfM 2997 (Env.mk (Bs.mk 0 []) 0 none 49 48 0) (cdAt [1, 1, 1] (bodyOf Try.f48)) (QendX Try.prog Try.f48 fun v h => R (frzW h v))) (QendX Try.prog Try.f48 fun v h => R (frzW h v)))) (St.mk (mkT [(0, V.lst 3 (fdl l)), (3, iv (0 : Int))]) (Hp.mk [] 0 [])))) (by kernel_rfl) ?_)
  refine ifB_mk (fun hc => rf h (fun hn => by have := hn.1; rw [fdl_length] at hc; have := of_decide_eq_true hc; omega)) (fun hc => ?_)
  have hc : l.length ≤ 40 := by rw [fdl_length] at hc; have := of_decide_eq_false hc; omega
  refine La.of (σ := Nat) (fun k => sh48 l k) (fun k => k ≤ l.length ∧ (∀ x ∈ l.take k, F1 x) ∧ (l.take k).Pairwise FB) (fun k => l.length - k) 0 (by kernel_rfl) ⟨by simp, by simp, by simp⟩ ?_
  rintro k ⟨g1, g2, g2'⟩ J hJ
  refine see (p := ifB (decide ((↑k : Int) < (↑(fdl l).length : Int))) (onSome (fdl l)[k]? fun row => onCons (List.drop 0 row) fun u r => onIntK IntKind.i64 u fun n => onCons r fun u r => onIntK IntKind.i64 u fun n_1 => onCons r fun u r => onLst u fun s es => ifB (decide (n ≥ (0 : Int))) (ifB (!decide (n ≤ (1000 : Int))) (R (bv false)) (ifB (decide ((↑k : Int) > (0 : Int))) (onNat (IntKind.i64.wrap ((↑k : Int) - (1 : Int))) fun m => onSome (fdl l)[m]? fun row => onSome row[0]? fun v => onIntK IntKind.i64 v fun n_2 => ifB (decide (n ≤ n_2)) (R (bv false)) (ifB (decide (n_1 ≥ (0 : Int))) (ifB (!decide (n_1 ≤ (15 : Int))) (R (bv false)) (K0G Try.prog glX 52 [V.lst s es] fun v => onBool v fun b => ifB (!b) (R (bv false)) (J (St.mk (mkT [(0, V.lst 3 (fdl l)), (3, iv (IntKind.i64.wrap ((↑k : Int) + (1 : Int))))]) (Hp.mk [] 0 []))))) (R (bv false)))) (ifB (decide (n_1 ≥ (0 : Int))) (ifB (!decide (n_1 ≤ (15 : Int))) (R (bv false)) (K0G Try.prog glX 52 [V.lst s es] fun v => onBool v fun b => ifB (!b) (R (bv false)) (J (St.mk (mkT [(0, V.lst 3 (fdl l)), (3, iv (IntKind.i64.wrap ((↑k : Int) + (1 : Int))))]) (Hp.mk [] 0 []))))) (R (bv false))))) (R (bv false))) (R (bv true))) (by kernel_rfl) ?_
  refine ifB_mk (fun hb => ?_) (fun hb => ?_)
  · have hlt : k < l.length := by rw [fdl_length] at hb; have := of_decide_eq_true hb; omega
    obtain ⟨x, hx⟩ := getI hlt
    have no : ¬ (F1 x ∧ ∀ y ∈ l.take k, FB y x) → R (bv false) := fun hn => rf h (fun hp => hn ⟨hp.2.1 x (mem_at hx), pw_at hx hp.2.2⟩)
    refine fel hx ?_
    rw [wr1i hlt (by omega)]
    refine ifB_mk (fun c1 => ?_) (fun c1 => no (fun hp => by have := hp.1.1; have := of_decide_eq_false c1; omega))
    have c1 := of_decide_eq_true c1
    refine ifB_mk (fun c2 => no (fun hp => by have := hp.1.2.1; simp at c2; omega)) (fun c2 => ?_)
    have c2 : x.1 ≤ 1000 := by simpa using c2
    have rest : (∀ y ∈ l.take k, FB y x) → ifB (decide (x.2.1 ≥ (0 : Int))) (ifB (!decide (x.2.1 ≤ (15 : Int))) (R (bv false)) (K0G Try.prog glX 52 [V.lst 1 (nl x.2.2)] fun v => onBool v fun b => ifB (!b) (R (bv false)) (J (St.mk (mkT [(0, V.lst 3 (fdl l)), (3, iv ((k + 1 : Nat) : Int))]) (Hp.mk [] 0 []))))) (R (bv false)) := fun hall => by
      refine ifB_mk (fun c3 => ?_) (fun c3 => no (fun hp => by have := hp.1.2.2.1; have := of_decide_eq_false c3; omega))
      have c3 := of_decide_eq_true c3
      refine ifB_mk (fun c4 => no (fun hp => by have := hp.1.2.2.2.1; simp at c4; omega)) (fun c4 => ?_)
      have c4 : x.2.1 ≤ 15 := by simpa using c4
      refine said52 (hl x (mem_at hx)) (onBool_bv (ifB_mk (fun c5 => no (fun hp => by rw [dc_t hp.1.2.2.2.2] at c5; cases c5)) (fun c5 => ?_)))
      have c5 := dc_true (show dc (RdP x.2.2) = true by simpa using c5)
      exact hJ (k + 1) ⟨hlt, all_take hx g2 ⟨c1, c2, c3, c4, c5⟩, (pw_succ hx).2 ⟨g2', hall⟩⟩ (by omega)
    refine ifB_mk (fun d3 => ?_) (fun d3 => ?_)
    · have hk0 : 0 < k := by have := of_decide_eq_true d3; omega
      obtain ⟨p, hp⟩ := getI (l := l) (k := k - 1) (by omega)
      refine onNat_mk (m := k - 1) (by rw [wr (by omega) (by omega)]; omega) (fel0 hp ?_)
      have hts : l.take k = l.take (k - 1) ++ [p] := by have := take_succ' hp; rwa [show k - 1 + 1 = k from by omega] at this
      have hpm : p ∈ l.take k := by rw [hts]; simp
      refine ifB_mk (fun d4 => no (fun hq => by have : p.1 < x.1 := hq.2 p hpm; have := of_decide_eq_true d4; omega)) (fun d4 => rest (fun y hy => ?_))
      have d4 := of_decide_eq_false d4
      have : y.1 ≤ p.1 := by
        rw [hts] at g2' hy
        rcases List.mem_append.1 hy with hy | hy
        · have : y.1 < p.1 := (List.pairwise_append.1 g2').2.2 y hy p (by simp)
          omega
        · rw [List.mem_singleton.1 hy]; omega
      show y.1 < x.1
      omega
    · have hk0 : k = 0 := by have := of_decide_eq_false d3; omega
      exact rest (fun y hy => by subst hk0; simp at hy)
  · have hk : l.length ≤ k := by rw [fdl_length] at hb; have := of_decide_eq_false hb; omega
    rw [List.take_of_length_le hk] at g2 g2'
    exact rt h ⟨hc, g2, g2'⟩
theorem fed21 {l : List Fd} {R : V → Prop} (hl : Rl l) (h : R (iv (fedE l))) : K0G Try.prog glX 21 [.lst 3 (fdl l)] R := by
  refine K0_of_WY0 hmX hcM 3000 Try.func21 (see (p := K0G Try.prog glX 48 [V.lst 3 (fdl l)] fun v => onBool v fun b => ifB (!b) (R (iv (91 : Int))) (R (iv (0 : Int)))) (by kernel_rfl) ?_)
  refine parts48 hl (onBool_bv (ifB_mk (fun c => bad91 h (fun hp => by rw [dc_t hp] at c; cases c)) (fun c => ok91 h (dc_true (by simpa using c)))))
/-- Not great. -/
def Sm (b : Bt) (l : List Fd) : Prop := b.gs.length ≤ 12 ∧ b.bins.length ≤ 30 ∧ l.length ≤ 60 ∧ ∀ x ∈ l, x.2.2.length ≤ 20
theorem great15 {b : Bt} {l : List Fd} {R : V → Prop} (h : R (bv (dc (¬ Sm b l)))) : K0G Try.prog glX 15 [.agg (bel b), .lst 3 (fdl l)] R := by
  refine K0_of_WY0 hmX hcM 3000 Try.func15 (see (p := ifB (decide ((↑(gl b.4).length : Int) > (12 : Int))) (R (bv true)) (ifB (decide ((↑(nl b.5).length : Int) > (30 : Int))) (R (bv true)) (ifB (decide ((↑(fdl l).length : Int) > (60 : Int))) (R (bv true)) (La 0 [(1 : Tmp), (5 : Tmp)] (WY Try.prog cfM 2994 (Env.mk (Bs.mk 0 []) 0 none 34 15 0) (cdAt [1, 1, 0, 1, 0, 0] (bodyOf Try.f15))) (Qblk 0 (Qthen (WY Try.prog cfM 2997 (Env.mk (Bs.mk 0 []) 0 none 34 15 0) (cdAt [1, 1, 1] (bodyOf Try.f15)) (QendX Try.prog Try.f15 fun v h => R (frzW h v))) (QendX Try.prog Try.f15 fun v h => R (frzW h v)))) (St.mk (mkT [(1, V.lst 3 (fdl l)), (5, iv (0 : Int))]) (Hp.mk [] 0 [])))))) (by kernel_rfl) ?_)
  have yes : ¬ Sm b l → R (bv true) := fun hn => rt h hn
  refine ifB_mk (fun c => yes (fun hn => by have := hn.1; rw [gl_length] at c; have := of_decide_eq_true c; omega)) (fun c1 => ?_)
  refine ifB_mk (fun c => yes (fun hn => by have := hn.2.1; rw [nl_length] at c; have := of_decide_eq_true c; omega)) (fun c2 => ?_)
  refine ifB_mk (fun c => yes (fun hn => by have := hn.2.2.1; rw [fdl_length] at c; have := of_decide_eq_true c; omega)) (fun c3 => ?_)
  rw [gl_length] at c1; rw [nl_length] at c2; rw [fdl_length] at c3
  have c1 := of_decide_eq_false c1; have c2 := of_decide_eq_false c2; have c3 := of_decide_eq_false c3
  refine La.of (σ := Nat) (fun k => sh15 l k) (fun k => k ≤ l.length ∧ ∀ x ∈ l.take k, x.2.2.length ≤ 20) (fun k => l.length - k) 0 (by kernel_rfl) ⟨by simp, by simp⟩ ?_
  rintro k ⟨g1, g2⟩ J hJ
  refine see (p := ifB (decide ((↑k : Int) < (↑(fdl l).length : Int))) (onSome (fdl l)[k]? fun row => onSome row[2]? fun v => onLst v fun s es => ifB (decide ((↑es.length : Int) > (20 : Int))) (R (bv true)) (J (St.mk (mkT [(1, V.lst 3 (fdl l)), (5, iv (IntKind.i64.wrap ((↑k : Int) + (1 : Int))))]) (Hp.mk [] 0 [])))) (R (bv false))) (by kernel_rfl) ?_
  refine ifB_mk (fun hb => ?_) (fun hb => ?_)
  · have hlt : k < l.length := by rw [fdl_length] at hb; have := of_decide_eq_true hb; omega
    obtain ⟨x, hx⟩ := getI hlt
    rw [wr1i hlt (by omega)]
    refine fel2 hx ?_
    rw [nl_length]
    refine ifB_mk (fun c => yes (fun hn => by have := hn.2.2.2 x (mem_at hx); have := of_decide_eq_true c; omega)) (fun c => ?_)
    exact hJ (k + 1) ⟨hlt, all_take hx g2 (by have := of_decide_eq_false c; omega)⟩ (by omega)
  · have hk : l.length ≤ k := by rw [fdl_length] at hb; have := of_decide_eq_false hb; omega
    rw [List.take_of_length_le hk] at g2
    exact rf h (not_not_intro ⟨by omega, by omega, by omega, g2⟩)
theorem sm_rl {b : Bt} {l : List Fd} (h : Sm b l) : Rl l := fun x hx => by have := h.2.2.2 x hx; omega
theorem law3 {b : Bt} {l : List Fd} {r : List Int} {R : V → Prop} (h : R (bv true)) : K0G Try.prog glX 3 [.agg (bel b), .lst 3 (fdl l), .lst 1 (nl r)] R := by
  refine K0_of_WY0 hmX hcM 3000 Try.func3 (see (p := K0G Try.prog glX 15 [V.agg [iv b.1, iv b.2, iv b.3, V.lst 2 (gl b.4), V.lst 1 (nl b.5)], V.lst 3 (fdl l)] fun v => onBool v fun b_1 => ifB b_1 (R (bv true)) (ifB (decide ((↑(nl r).length : Int) > (20 : Int))) (R (bv true)) (K0G Try.prog glX 16 [V.lst 1 (nl r)] fun v => onTup v fun vs => onCons vs fun u r_1 => onIntK IntKind.i64 u fun n => onCons r_1 fun u r_2 => onIntK IntKind.i64 u fun n_1 => onNil r_2 (K0G Try.prog glX 17 [V.lst 1 (nl r)] fun v => onTup v fun vs => onCons vs fun u r => onIntK IntKind.i64 u fun n_2 => onCons r fun u r => onIntK IntKind.i64 u fun n_3 => onNil r (K0G Try.prog glX 18 [V.agg [iv b.1, iv b.2, iv b.3, V.lst 2 (gl b.4), V.lst 1 (nl b.5)]] fun v => onIntK IntKind.i64 v fun n_4 => K0G Try.prog glX 19 [V.agg [iv b.1, iv b.2, iv b.3, V.lst 2 (gl b.4), V.lst 1 (nl b.5)]] fun v => onIntK IntKind.i64 v fun n_5 => ifB (n_4 == n_5) (K0G Try.prog glX 20 [V.lst 3 (fdl l)] fun v => onIntK IntKind.i64 v fun n_6 => K0G Try.prog glX 21 [V.lst 3 (fdl l)] fun v => onIntK IntKind.i64 v fun n_7 => ifB (n_6 == n_7) (ifB (n == n_2) (R (bv (n_1 == n_3))) (R (bv false))) (R (bv false))) (R (bv false))))))) (by kernel_rfl) ?_)
  refine great15 (onBool_bv (ifB_mk (fun _ => h) (fun c => ?_)))
  have hs : Sm b l := Classical.not_not.1 (dc_false c)
  have hrl := sm_rl hs
  rw [nl_length]
  refine ifB_mk (fun _ => h) (fun c2 => ?_)
  have hr : r.length ≤ 1000 := by have := of_decide_eq_false c2; omega
  obtain ⟨x, e, hv⟩ : ∃ x e : Int, readV r = .tup [iv x, iv e] := by
    unfold readV
    split
    · exact ⟨_, _, rfl⟩
    · exact ⟨_, _, rfl⟩
  refine read16 hr ?_
  rw [hv]
  refine onTup_tup (onCons_cons (onIntK_iv (onCons_cons (onIntK_iv (onNil_nil ?_)))))
  refine read17 hr ?_
  rw [hv]
  refine onTup_tup (onCons_cons (onIntK_iv (onCons_cons (onIntK_iv (onNil_nil ?_)))))
  refine belt18 (b := b) (by have := hs.2.1; omega) (onIntK_iv (belt19 (b := b) (onIntK_iv (ifB_t (by simp) ?_))))
  refine fed20 hrl (onIntK_iv (fed21 hrl (onIntK_iv (ifB_t (by simp) (ifB_t (by simp) ?_)))))
  rw [beq_self_eq_true]
  exact h
end Go.Proofs.Ytmdimnmdoifkfaa
