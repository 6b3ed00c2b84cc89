/- The law SortCausal: the law. -/
import Derived.Test.YtmdimnmdoifkfaaXDXB
namespace Go.Proofs.Ytmdimnmdoifkfaa
open Go Go.Proofs.Ytmdimnmdoifkfaa.Clean
set_option linter.unusedVariables false
set_option linter.unusedSimpArgs false
set_option maxRecDepth 10000

noncomputable def sh10p (b : Bt) (l m : List Fd) (t : Int) (F : List Fd) (k : Nat) : St := match F with
  | [] => sh10a b l m t k
  | x :: f => sh10b b l m t (x :: f) k
theorem sh10p_b {b : Bt} {l m : List Fd} {t : Int} {F : List Fd} {k : Nat} (h : F ≠ []) : sh10p b l m t F k = sh10b b l m t F k := by cases F with | nil => exact (h rfl).elim | cons x f => rfl
noncomputable def sh10q (b : Bt) (l m : List Fd) (t : Int) (F : List Fd) (k : Nat) : St := match F with
  | [] => sh10c b l m t k
  | x :: f => sh10d b l m t (x :: f) k
theorem sh10q_d {b : Bt} {l m : List Fd} {t : Int} {F : List Fd} {k : Nat} (h : F ≠ []) : sh10q b l m t F k = sh10d b l m t F k := by cases F with | nil => exact (h rfl).elim | cons x f => rfl
theorem law10 {b : Bt} {l m : List Fd} {t : Int} {R : V → Prop} (h : R (bv true)) : K0G Try.prog glX 10 [.agg (bel b), .lst 3 (fdl l), .lst 3 (fdl m), iv t] R := by
  refine K0_of_WY0 hmX hcX 3000 Try.func10 (see (p := K0G Try.prog glX 44 [] fun v => onBool v fun b_1 => K0G Try.prog glX 15 [V.agg [iv b.1, iv b.2, iv b.3, V.lst 2 (gl b.4), V.lst 1 (nl b.5)], V.lst 3 (fdl l)] fun v => onBool v fun b_2 => ifB b_2 (R (bv b_1)) (ifB (decide ((↑(fdl m).length : Int) > (60 : Int))) (R (bv b_1)) (K0G Try.prog glX 15 [V.agg [iv b.1, iv b.2, iv b.3, V.lst 2 (gl b.4), V.lst 1 (nl b.5)], V.lst 3 (fdl m)] fun v => onBool v fun b_3 => ifB b_3 (R (bv b_1)) (ifB (decide (t < (-5000 : Int))) (R (bv b_1)) (ifB (decide (t > (5000 : Int))) (R (bv b_1)) (ifB (!b_1) (R (bv b_1)) (K0G Try.prog glX 18 [V.agg [iv b.1, iv b.2, iv b.3, V.lst 2 (gl b.4), V.lst 1 (nl b.5)]] fun v => onIntK IntKind.i64 v fun n => ifB (n != (0 : Int)) (R (bv b_1)) (La 0 [(1 : Tmp), (2 : Tmp), (3 : Tmp), (4 : Tmp), (9 : Tmp), (10 : Tmp), (50 : Tmp), (51 : Tmp), (52 : Tmp)] (WY Try.prog cfX 2991 (Env.mk (Bs.mk 0 []) 0 none 115 10 0) (cdAt [1, 1, 1, 1, 1, 0, 1, 0, 0] (bodyOf Try.f10))) (Qblk 0 (Qthen (WY Try.prog cfX 2994 (Env.mk (Bs.mk 0 []) 0 none 115 10 0) (cdAt [1, 1, 1, 1, 1, 1] (bodyOf Try.f10)) (QendX Try.prog Try.f10 fun v h => R (frzW h v))) (QendX Try.prog Try.f10 fun v h => R (frzW h v)))) (St.mk (mkT [(1, V.lst 3 (fdl l)), (2, V.lst 3 (fdl m)), (3, iv t), (4, V.ptr (Id.p 0) 0 0), (9, bv b_1), (10, nilS), (50, V.lst 3 (fdl l)), (51, iv (↑(fdl l).length : Int)), (52, iv (0 : Int))]) (Hp.mk [(0, O.rows 5 false [[iv b.1, iv b.2, iv b.3, V.lst 2 (gl b.4), V.lst 1 (nl b.5)]])] 1 [])))))))))) (by kernel_rfl) ?_)
  refine alive44 (onBool_bv (great15 (onBool_bv (ifB_mk (fun _ => h) (fun c => ifB_mk (fun _ => h) (fun c0 => great15 (onBool_bv (ifB_mk (fun _ => h) (fun c1 => ifB_mk (fun _ => h) (fun c2 => ifB_mk (fun _ => h) (fun c3 => ifB_f rfl ?_)))))))))))
  have hs : Sm b l := Classical.not_not.1 (dc_false c)
  have hsm : Sm b m := Classical.not_not.1 (dc_false c1)
  have c2 := of_decide_eq_false c2
  have c3 := of_decide_eq_false c3
  refine belt18 (sm_bins hs) (onIntK_iv (ifB_mk (fun _ => h) (fun c4 => ?_)))
  have hb : BtP b := Classical.byContradiction fun hn => by rw [beltE, if_neg (by rw [dc_f hn]; simp)] at c4; simp at c4
  obtain ⟨hC1, hC2, hC3, hC4⟩ := hb.1
  have hl60 : l.length ≤ 60 := hs.2.2.1
  have hm60 : m.length ≤ 60 := hsm.2.2.1
  have hrl := sm_rl hs
  have hrM : Rl (lo (t - b.C) l ++ hi (t - b.C) m) := fun x hx => by
    rcases List.mem_append.1 hx with hx | hx
    · exact hrl x ((List.mem_filter.1 hx).1)
    · exact sm_rl hsm x ((List.mem_filter.1 hx).1)
  have hw : IntKind.i64.wrap (t - b.C) = t - b.C := wr (by omega) (by omega)
  have hlen : ∀ k, (lo (t - b.C) l ++ hi (t - b.C) (m.take k)).length ≤ 120 := fun k => by
    have h1 : (lo (t - b.C) l).length ≤ l.length := List.length_filter_le ..
    have h2 : (hi (t - b.C) (m.take k)).length ≤ (m.take k).length := List.length_filter_le ..
    rw [List.length_take] at h2
    rw [List.length_append]
    omega
  have ca := fun (h1 : BtP b) (h2 : FdP l) (h3 : FdP (lo (t - b.C) l ++ hi (t - b.C) m)) => causal (t := t) h1 h2 h3
  have ta := @tail10 b l (lo (t - b.C) l ++ hi (t - b.C) m) t R (sm_bins hs) hrl hrM ca h
  -- the second loop, from where the first one leaves it
  have nx2 : ∀ (F : List Fd) (k : Nat) (K : St → Prop), k ≤ m.length → F = lo (t - b.C) l ++ hi (t - b.C) (m.take k) → (∀ s : List Fd × Nat, (s.2 ≤ m.length ∧ s.1 = lo (t - b.C) l ++ hi (t - b.C) (m.take s.2)) → m.length - s.2 < m.length - k → K (sh10q b l m t s.1 s.2)) → ∀ x, m[k]? = some x → k < m.length → K (sh10q b l m t (if x.1 > t - b.C then F ++ [x] else F) (k + 1)) := fun F k K g1 g2 hK x hx hk => hK (_, k + 1) ⟨hk, by
      show (if x.1 > t - b.C then F ++ [x] else F) = lo (t - b.C) l ++ hi (t - b.C) (m.take (k + 1))
      rw [take_succ' hx, hi_app]
      by_cases hq : x.1 > t - b.C
      · rw [if_pos hq, if_pos hq, g2, List.append_assoc]
      · rw [if_neg hq, if_neg hq]; exact g2⟩ (show m.length - (k + 1) < m.length - k from by omega)
  have r1 : ∀ (k : Nat) (K : St → Prop), k ≤ m.length → [] = lo (t - b.C) l ++ hi (t - b.C) (m.take k) → (∀ s : List Fd × Nat, (s.2 ≤ m.length ∧ s.1 = lo (t - b.C) l ++ hi (t - b.C) (m.take s.2)) → m.length - s.2 < m.length - k → K (sh10q b l m t s.1 s.2)) → (ifB (decide ((↑k : Int) < (↑(fdl m).length : Int))) (onSome (fdl m)[k]? fun row => onCons (List.drop 0 row) fun u r => onIntK IntKind.i64 u fun n => onCons r fun u r => onIntK IntKind.i64 u fun n_1 => onCons r fun u r => onLst u fun s es => ifB (decide (n > IntKind.i64.wrap (t - b.2))) (K (St.mk (mkT [(1, V.lst 3 (fdl l)), (3, iv t), (4, V.ptr (Id.p 0) 0 0), (9, bv true), (10, V.sl (Id.p 1) 0 1), (68, V.lst 3 (fdl m)), (69, iv (↑(fdl m).length : Int)), (70, iv (IntKind.i64.wrap ((↑k : Int) + (1 : Int))))]) (Hp.mk [(0, O.rows 5 false [[iv b.1, iv b.2, iv b.3, V.lst 2 (gl b.4), V.lst 1 (nl b.5)]]), (1, O.rows 3 true [[iv n, iv n_1, V.lst s es]])] 2 []))) (K (St.mk (mkT [(1, V.lst 3 (fdl l)), (3, iv t), (4, V.ptr (Id.p 0) 0 0), (9, bv true), (10, nilS), (68, V.lst 3 (fdl m)), (69, iv (↑(fdl m).length : Int)), (70, iv (IntKind.i64.wrap ((↑k : Int) + (1 : Int))))]) (Hp.mk [(0, O.rows 5 false [[iv b.1, iv b.2, iv b.3, V.lst 2 (gl b.4), V.lst 1 (nl b.5)]])] 1 [])))) (K0G Try.prog glX 24 [V.agg [iv b.1, iv b.2, iv b.3, V.lst 2 (gl b.4), V.lst 1 (nl b.5)], V.lst 3 (fdl l)] fun v => onTup v fun vs => onCons vs fun u r => onLst u fun s es => onCons r fun u r => onIntK IntKind.i64 u fun n => onNil r (K0G Try.prog glX 24 [V.agg [iv b.1, iv b.2, iv b.3, V.lst 2 (gl b.4), V.lst 1 (nl b.5)], nilS] fun v => onTup v fun vs => onCons vs fun u r => onLst u fun s_1 es_1 => onCons r fun u r => onIntK IntKind.i64 u fun n_1 => onNil r (ifB (n != (0 : Int)) (R (bv true)) (ifB (n_1 != (0 : Int)) (R (bv true)) (K0G Try.prog glX 47 [V.lst s es, iv t] fun v => onLst v fun s es => K0G Try.prog glX 47 [V.lst s_1 es_1, iv t] fun v => onLst v fun s_2 es_2 => K0G Try.prog glX 28 [V.lst s es, V.lst s_2 es_2] fun v => onBool v fun b => R (bv b)))))) : Prop) := by
    intro k K g1 g2 hK
    have nxt := nx2 [] k K g1 g2 hK
    refine ifB_mk (fun c => ?_) (fun c => ?_)
    · have hlt : k < m.length := by rw [fdl_length] at c; have := of_decide_eq_true c; omega
      obtain ⟨x, hx⟩ := getI hlt
      have g := nxt x hx hlt
      rw [wr1i hlt (by omega)]
      refine fel hx (ifB_mk (fun c1 => ?_) (fun c1 => ?_))
      · rw [if_pos (by rw [← hw]; exact of_decide_eq_true c1)] at g; exact g
      · rw [if_neg (by rw [← hw]; exact of_decide_eq_false c1)] at g; exact g
    · have hge : ¬ k < m.length := by rw [fdl_length] at c; have := of_decide_eq_false c; omega
      rw [List.take_of_length_le (by omega)] at g2
      exact ta nilS (fun hq => nil24 (by rw [g2]; exact hq))
  have r2 : ∀ (F : List Fd) (k : Nat) (K : St → Prop), F ≠ [] → k ≤ m.length → F = lo (t - b.C) l ++ hi (t - b.C) (m.take k) → (∀ s : List Fd × Nat, (s.2 ≤ m.length ∧ s.1 = lo (t - b.C) l ++ hi (t - b.C) (m.take s.2)) → m.length - s.2 < m.length - k → K (sh10q b l m t s.1 s.2)) → (ifB (decide ((↑k : Int) < (↑(fdl m).length : Int))) (onSome (fdl m)[k]? fun row => onCons (List.drop 0 row) fun u r => onIntK IntKind.i64 u fun n => onCons r fun u r => onIntK IntKind.i64 u fun n_1 => onCons r fun u r => onLst u fun s es => ifB (decide (n > IntKind.i64.wrap (t - b.2))) (need ((F.length + 1) * 40 ≤ 140737488355328) (K (St.mk (mkT [(1, V.lst 3 (fdl l)), (3, iv t), (4, V.ptr (Id.p 0) 0 0), (9, bv true), (10, V.sl (Id.p 1) 0 (F.length + 1)), (68, V.lst 3 (fdl m)), (69, iv (↑(fdl m).length : Int)), (70, iv (IntKind.i64.wrap ((↑k : Int) + (1 : Int))))]) (Hp.mk [(0, O.rows 5 false [[iv b.1, iv b.2, iv b.3, V.lst 2 (gl b.4), V.lst 1 (nl b.5)]]), (1, O.rows 3 true (List.take F.length (fdl F) ++ [[iv n, iv n_1, V.lst s es]]))] 2 [])))) (K (St.mk (mkT [(1, V.lst 3 (fdl l)), (3, iv t), (4, V.ptr (Id.p 0) 0 0), (9, bv true), (10, V.sl (Id.p 1) 0 F.length), (68, V.lst 3 (fdl m)), (69, iv (↑(fdl m).length : Int)), (70, iv (IntKind.i64.wrap ((↑k : Int) + (1 : Int))))]) (Hp.mk [(0, O.rows 5 false [[iv b.1, iv b.2, iv b.3, V.lst 2 (gl b.4), V.lst 1 (nl b.5)]]), (1, O.rows 3 true (fdl F))] 2 [])))) (K0G Try.prog glX 24 [V.agg [iv b.1, iv b.2, iv b.3, V.lst 2 (gl b.4), V.lst 1 (nl b.5)], V.lst 3 (fdl l)] fun v => onTup v fun vs => onCons vs fun u r => onLst u fun s es => onCons r fun u r => onIntK IntKind.i64 u fun n => onNil r (K0G Try.prog glX 24 [V.agg [iv b.1, iv b.2, iv b.3, V.lst 2 (gl b.4), V.lst 1 (nl b.5)], V.lst 3 (sub (fdl F) 0 F.length)] fun v => onTup v fun vs => onCons vs fun u r => onLst u fun s_1 es_1 => onCons r fun u r => onIntK IntKind.i64 u fun n_1 => onNil r (ifB (n != (0 : Int)) (R (bv true)) (ifB (n_1 != (0 : Int)) (R (bv true)) (K0G Try.prog glX 47 [V.lst s es, iv t] fun v => onLst v fun s es => K0G Try.prog glX 47 [V.lst s_1 es_1, iv t] fun v => onLst v fun s_2 es_2 => K0G Try.prog glX 28 [V.lst s es, V.lst s_2 es_2] fun v => onBool v fun b => R (bv b)))))) : Prop) := by
    intro F k K hF g1 g2 hK
    have nxt := nx2 F k K g1 g2 hK
    have hFl : F.length ≤ 120 := by rw [g2]; exact hlen k
    refine ifB_mk (fun c => ?_) (fun c => ?_)
    · have hlt : k < m.length := by rw [fdl_length] at c; have := of_decide_eq_true c; omega
      obtain ⟨x, hx⟩ := getI hlt
      have g := nxt x hx hlt
      rw [wr1i hlt (by omega)]
      refine fel hx (ifB_mk (fun c1 => need_mk ⟨by omega, ?_⟩) (fun c1 => ?_))
      · rw [if_pos (by rw [← hw]; exact of_decide_eq_true c1), sh10q_d (app_ne _ _)] at g
        rw [show List.take F.length (fdl F) = fdl F from List.take_of_length_le (by rw [fdl_length]; omega)]
        exact hJ' (by simp [sh10d, fdl, fdr, bel]) g
      · rw [if_neg (by rw [← hw]; exact of_decide_eq_false c1), sh10q_d hF] at g; exact g
    · have hge : ¬ k < m.length := by rw [fdl_length] at c; have := of_decide_eq_false c; omega
      rw [List.take_of_length_le (by omega)] at g2
      rw [sub_all (fdl_length F).symm]
      exact ta (.lst 3 (fdl F)) (fun hq => by rw [g2]; exact hq)
  clear ta ca nx2
  -- the first loop
  refine La.of (σ := Nat) (fun k => sh10p b l m t (lo (t - b.C) (l.take k)) k) (fun k => k ≤ l.length) (fun k => l.length - k) 0 (by kernel_rfl) (by omega) ?_
  rintro k g1 J hJ
  have hFl : (lo (t - b.C) (l.take k)).length ≤ k := Nat.le_trans (List.length_filter_le ..) (by rw [List.length_take]; omega)
  have nxt : ∀ x, l[k]? = some x → k < l.length → J (sh10p b l m t (if x.1 ≤ t - b.C then lo (t - b.C) (l.take k) ++ [x] else lo (t - b.C) (l.take k)) (k + 1)) := fun x hx hk => by
    have g := hJ (k + 1) hk (by omega)
    rw [take_succ' hx, lo_app] at g
    exact g
  have fin : ¬ k < l.length → lo (t - b.C) (l.take k) = lo (t - b.C) l := fun hk => by rw [List.take_of_length_le (by omega)]
  clear hJ
  generalize lo (t - b.C) (l.take k) = F at *
  by_cases hF : F = []
  · subst hF
    refine see (p := ifB (decide ((↑k : Int) < (↑(fdl l).length : Int))) (onSome (fdl l)[k]? fun row => onCons (List.drop 0 row) fun u r => onIntK IntKind.i64 u fun n => onCons r fun u r => onIntK IntKind.i64 u fun n_1 => onCons r fun u r => onLst u fun s es => ifB (decide (n ≤ IntKind.i64.wrap (t - b.2))) (J (St.mk (mkT [(1, V.lst 3 (fdl l)), (2, V.lst 3 (fdl m)), (3, iv t), (4, V.ptr (Id.p 0) 0 0), (9, bv true), (10, V.sl (Id.p 1) 0 1), (50, V.lst 3 (fdl l)), (51, iv (↑(fdl l).length : Int)), (52, iv (IntKind.i64.wrap ((↑k : Int) + (1 : Int))))]) (Hp.mk [(0, O.rows 5 false [[iv b.1, iv b.2, iv b.3, V.lst 2 (gl b.4), V.lst 1 (nl b.5)]]), (1, O.rows 3 true [[iv n, iv n_1, V.lst s es]])] 2 []))) (J (St.mk (mkT [(1, V.lst 3 (fdl l)), (2, V.lst 3 (fdl m)), (3, iv t), (4, V.ptr (Id.p 0) 0 0), (9, bv true), (10, nilS), (50, V.lst 3 (fdl l)), (51, iv (↑(fdl l).length : Int)), (52, iv (IntKind.i64.wrap ((↑k : Int) + (1 : Int))))]) (Hp.mk [(0, O.rows 5 false [[iv b.1, iv b.2, iv b.3, V.lst 2 (gl b.4), V.lst 1 (nl b.5)]])] 1 [])))) (La 0 [(1 : Tmp), (3 : Tmp), (4 : Tmp), (9 : Tmp), (10 : Tmp), (68 : Tmp), (69 : Tmp), (70 : Tmp)] (WY Try.prog cfX 2990 (Env.mk (Bs.mk 0 []) 0 none 115 10 2) (cdAt [1, 1, 1, 1, 1, 1, 0, 1, 0, 0] (bodyOf Try.f10))) (Qblk 2 (Qthen (WY Try.prog cfX 2993 (Env.mk (Bs.mk 0 []) 0 none 115 10 0) (cdAt [1, 1, 1, 1, 1, 1, 1] (bodyOf Try.f10)) (QendX Try.prog Try.f10 fun v h => R (frzW h v))) (QendX Try.prog Try.f10 fun v h => R (frzW h v)))) (St.mk (mkT [(1, V.lst 3 (fdl l)), (3, iv t), (4, V.ptr (Id.p 0) 0 0), (9, bv true), (10, nilS), (68, V.lst 3 (fdl m)), (69, iv (↑(fdl m).length : Int)), (70, iv (0 : Int))]) (Hp.mk [(0, O.rows 5 false [[iv b.1, iv b.2, iv b.3, V.lst 2 (gl b.4), V.lst 1 (nl b.5)]])] 1 [])))) (by kernel_rfl) ?_
    refine ifB_mk (fun c => ?_) (fun c => ?_)
    · have hlt : k < l.length := by rw [fdl_length] at c; have := of_decide_eq_true c; omega
      obtain ⟨x, hx⟩ := getI hlt
      have g := nxt x hx hlt
      rw [wr1i hlt (by omega)]
      refine fel hx (ifB_mk (fun c1 => ?_) (fun c1 => ?_))
      · rw [if_pos (by rw [← hw]; exact of_decide_eq_true c1)] at g; exact g
      · rw [if_neg (by rw [← hw]; exact of_decide_eq_false c1)] at g; exact g
    · have hge := fin (by rw [fdl_length] at c; have := of_decide_eq_false c; omega)
      refine La.of (σ := List Fd × Nat) (fun s => sh10q b l m t s.1 s.2) (fun s => s.2 ≤ m.length ∧ s.1 = lo (t - b.C) l ++ hi (t - b.C) (m.take s.2)) (fun s => m.length - s.2) ([], 0) (by kernel_rfl) ⟨Nat.zero_le _, by rw [← hge]; rfl⟩ ?_
      rintro ⟨F, k⟩ ⟨g1, g2⟩ K hK
      by_cases hF : F = []
      · subst hF
        exact see (by kernel_rfl) (r1 k K g1 g2 hK)
      · refine see ?_ (r2 F k K hF g1 g2 hK)
        rw [show sh10q b l m t (F, k).1 (F, k).2 = sh10d b l m t F k from sh10q_d hF]
        kernel_rfl
  · rw [sh10p_b hF]
    refine see (p := ifB (decide ((↑k : Int) < (↑(fdl l).length : Int))) (onSome (fdl l)[k]? fun row => onCons (List.drop 0 row) fun u r => onIntK IntKind.i64 u fun n => onCons r fun u r => onIntK IntKind.i64 u fun n_1 => onCons r fun u r => onLst u fun s es => ifB (decide (n ≤ IntKind.i64.wrap (t - b.2))) (need ((F.length + 1) * 40 ≤ 140737488355328) (J (St.mk (mkT [(1, V.lst 3 (fdl l)), (2, V.lst 3 (fdl m)), (3, iv t), (4, V.ptr (Id.p 0) 0 0), (9, bv true), (10, V.sl (Id.p 1) 0 (F.length + 1)), (50, V.lst 3 (fdl l)), (51, iv (↑(fdl l).length : Int)), (52, iv (IntKind.i64.wrap ((↑k : Int) + (1 : Int))))]) (Hp.mk [(0, O.rows 5 false [[iv b.1, iv b.2, iv b.3, V.lst 2 (gl b.4), V.lst 1 (nl b.5)]]), (1, O.rows 3 true (List.take F.length (fdl F) ++ [[iv n, iv n_1, V.lst s es]]))] 2 [])))) (J (St.mk (mkT [(1, V.lst 3 (fdl l)), (2, V.lst 3 (fdl m)), (3, iv t), (4, V.ptr (Id.p 0) 0 0), (9, bv true), (10, V.sl (Id.p 1) 0 F.length), (50, V.lst 3 (fdl l)), (51, iv (↑(fdl l).length : Int)), (52, iv (IntKind.i64.wrap ((↑k : Int) + (1 : Int))))]) (Hp.mk [(0, O.rows 5 false [[iv b.1, iv b.2, iv b.3, V.lst 2 (gl b.4), V.lst 1 (nl b.5)]]), (1, O.rows 3 true (fdl F))] 2 [])))) (La 0 [(1 : Tmp), (3 : Tmp), (4 : Tmp), (9 : Tmp), (10 : Tmp), (68 : Tmp), (69 : Tmp), (70 : Tmp)] (WY Try.prog cfX 2990 (Env.mk (Bs.mk 0 []) 0 none 115 10 2) (cdAt [1, 1, 1, 1, 1, 1, 0, 1, 0, 0] (bodyOf Try.f10))) (Qblk 2 (Qthen (WY Try.prog cfX 2993 (Env.mk (Bs.mk 0 []) 0 none 115 10 0) (cdAt [1, 1, 1, 1, 1, 1, 1] (bodyOf Try.f10)) (QendX Try.prog Try.f10 fun v h => R (frzW h v))) (QendX Try.prog Try.f10 fun v h => R (frzW h v)))) (St.mk (mkT [(1, V.lst 3 (fdl l)), (3, iv t), (4, V.ptr (Id.p 0) 0 0), (9, bv true), (10, V.sl (Id.p 1) 0 F.length), (68, V.lst 3 (fdl m)), (69, iv (↑(fdl m).length : Int)), (70, iv (0 : Int))]) (Hp.mk [(0, O.rows 5 false [[iv b.1, iv b.2, iv b.3, V.lst 2 (gl b.4), V.lst 1 (nl b.5)]]), (1, O.rows 3 true (fdl F))] 2 [])))) (by kernel_rfl) ?_
    refine ifB_mk (fun c => ?_) (fun c => ?_)
    · have hlt : k < l.length := by rw [fdl_length] at c; have := of_decide_eq_true c; omega
      obtain ⟨x, hx⟩ := getI hlt
      have g := nxt x hx hlt
      rw [wr1i hlt (by omega)]
      refine fel hx (ifB_mk (fun c1 => need_mk ⟨by omega, ?_⟩) (fun c1 => ?_))
      · rw [if_pos (by rw [← hw]; exact of_decide_eq_true c1), sh10p_b (app_ne _ _)] at g
        rw [show List.take F.length (fdl F) = fdl F from List.take_of_length_le (by rw [fdl_length]; omega)]
        exact hJ' (by simp [sh10b, fdl, fdr, bel]) g
      · rw [if_neg (by rw [← hw]; exact of_decide_eq_false c1), sh10p_b hF] at g; exact g
    · have hge := fin (by rw [fdl_length] at c; have := of_decide_eq_false c; omega)
      refine La.of (σ := List Fd × Nat) (fun s => sh10q b l m t s.1 s.2) (fun s => s.2 ≤ m.length ∧ s.1 = lo (t - b.C) l ++ hi (t - b.C) (m.take s.2)) (fun s => m.length - s.2) (F, 0) (by show _ = sh10q b l m t F 0; rw [sh10q_d hF]; kernel_rfl) ⟨Nat.zero_le _, by rw [← hge]; exact (List.append_nil F).symm⟩ ?_
      rintro ⟨F, k⟩ ⟨g1, g2⟩ K hK
      by_cases hF : F = []
      · subst hF
        exact see (by kernel_rfl) (r1 k K g1 g2 hK)
      · refine see ?_ (r2 F k K hF g1 g2 hK)
        rw [show sh10q b l m t (F, k).1 (F, k).2 = sh10d b l m t F k from sh10q_d hF]
        kernel_rfl
end Go.Proofs.Ytmdimnmdoifkfaa
