/- The law SortSorts. -/
import Derived.Test.YtmdimnmdoifkfaaXDWD
namespace Go.Proofs.Ytmdimnmdoifkfaa
open Go Go.Proofs.Ytmdimnmdoifkfaa.Clean
set_option linter.unusedVariables false
set_option linter.unusedSimpArgs false
set_option maxRecDepth 10000

theorem hcL : cfL.ok Try.prog := ⟨(cfgM_ok (P := Try.prog) (glob := glX) (mode := moT) (T := tyT) (enter := inN []) (kps := kpU)).c0, (cfgM_ok (P := Try.prog) (glob := glX) (mode := moT) (T := tyT) (enter := inN []) (kps := kpU)).known⟩
theorem fd_mono {l : List Fd} (hf : FdP l) {i j : Nat} (h : i < j) (hj : j < l.length) : (fd l i).1 < (fd l j).1 := by
  have := pw_at (fd_get hj) hf.2.2 (fd l i) (by
    have hg := fd_get (l := l) (i := i) (by omega)
    rw [← List.getElem?_take_of_lt h] at hg
    exact mem_at hg)
  exact this
/-- What is known of the swings of the parts before p. -/
def Bfr (b : Bt) (l : List Fd) (p : Nat) (F : List Sw) : Prop := Sorted F ∧ ∀ s ∈ F, ∃ i, i < p ∧ s.1 ≤ (fd l i).1 + (gt b s.2.1).1 + 1
theorem swings_eq {b : Bt} {l : List Fd} (hb : BtP b) (hf : FdP l) : rsw b l l.length = swings b l ∧ Sorted (swings b l) := by
  have hS := hb.2.1
  have := by_clusters (S := b.S) (l := l) (fun p => swings b l = swL b (clu b.S (l.drop p)) (rsw b l p) ∧ Bfr b l p (rsw b l p)) ⟨rfl, by simp [rsw, Sorted], fun s hs => by simp [rsw] at hs⟩ (fun p m h hp => by
    obtain ⟨hp1, hs1, hs2⟩ := hp
    have hB := h
    obtain ⟨b1, b2, b3, b4, b5⟩ := h
    have hcl : ((l.drop p).take m).length = m := by rw [List.length_take, List.length_drop]; omega
    have e0 : fd ((l.drop p).take m) 0 = fd l p := fd_sub l p m 0 (by omega)
    have e1 : fd ((l.drop p).take m) (((l.drop p).take m).length - 1) = fd l (p + m - 1) := by rw [hcl, fd_sub l p m (m - 1) (by omega), show p + (m - 1) = p + m - 1 from by omega]
    -- the parts behind the first one change nothing
    have rest : ∀ n, n + 1 ≤ m → rsw b l (p + 1 + n) = rsw b l (p + 1) := by
      intro n
      induction n with
      | zero => intro _; rfl
      | succ n ih =>
        intro hn
        rw [show p + 1 + (n + 1) = (p + 1 + n) + 1 from by omega, rsw, rstep, if_pos (.inr (by rw [first_blk hB (p + 1 + n) (by omega) (by omega)]; omega)), ih (by omega)]
    have hpm : rsw b l (p + m) = rstep b l (rsw b l p) p := by
      have := rest (m - 1) (by omega)
      rw [show p + 1 + (m - 1) = p + m from by omega] at this
      rw [this, rsw]
    have hso : sortI b l p = sortF b ((l.drop p).take m) := sort_blk hB (Nat.le_refl _) (by omega)
    have hfi : firstF b.S l p = p := first_blk hB p (Nat.le_refl _) (by omega)
    have hla : lastI b.S l p = p + m - 1 := lastI_blk hB (Nat.le_refl _) (by omega)
    have hsw : swings b l = swL b (clu b.S (l.drop (p + m))) (swC b (rsw b l p) ((l.drop p).take m)) := by rw [hp1, blk_clu hB]; rfl
    by_cases hg : sortI b l p = -1
    · have : rsw b l (p + m) = rsw b l p := by rw [hpm, rstep, if_pos (.inl hg)]
      rw [this]
      refine ⟨?_, hs1, fun s hs => ?_⟩
      · rw [hsw, swC, if_pos (hso ▸ hg)]
      · obtain ⟨i, i1, i2⟩ := hs2 s hs
        exact ⟨i, by omega, i2⟩
    · have hstep : rsw b l (p + m) = putF (putF (rsw b l p) (outI b l p (sortI b l p))) (backI b l p (sortI b l p)) := by rw [hpm, rstep, if_neg (by rintro (e | e); exact hg e; exact e hfi)]
      have ho : outS b ((l.drop p).take m) (sortF b ((l.drop p).take m)) = outI b l p (sortI b l p) := by rw [outS, outI, e0, hso]
      have hk : backS b ((l.drop p).take m) (sortF b ((l.drop p).take m)) = backI b l p (sortI b l p) := by rw [backS, backI, e1, hso, hla]
      have hc : swC b (rsw b l p) ((l.drop p).take m) = insF (insF (rsw b l p) (outI b l p (sortI b l p))) (backI b l p (sortI b l p)) := by rw [swC, if_neg (by rw [← hso]; exact hg), ho, hk]
      generalize sortI b l p = g at *
      -- the ticks of the gate's swings before
      have key : ∀ s ∈ rsw b l p, s.2.1 = g → s.1 < (fd l p).1 + (gt b g).1 - b.S := fun s hs hsg => by
        obtain ⟨i, i1, i2⟩ := hs2 s hs
        rw [hsg] at i2
        have hn : ¬ nearP b.S l p := b3.resolve_left (by omega)
        have h1 : (fd l i).1 ≤ (fd l (p - 1)).1 := by
          by_cases he : i = p - 1
          · rw [he]; omega
          · have := fd_mono hf (i := i) (j := p - 1) (by omega) (by omega); omega
        have h2 : 2 * b.S + 1 < (fd l p).1 - (fd l (p - 1)).1 := by unfold nearP at hn; omega
        omega
      have cmp : ∀ s x : Sw, (s.2.1 = x.2.1 → s.1 < x.1) → ltK s x ∨ ltK x s := fun s x hx => by
        by_cases e : s.2.1 = x.2.1
        · exact .inl (.inl (hx e))
        · unfold ltK
          omega
      obtain ⟨p1, p2, p3⟩ := ins_put (x := outI b l p g) hs1 (fun a ha => cmp a _ (fun e => key a ha e))
      have hlast : (fd l p).1 ≤ (fd l (p + m - 1)).1 := by
        by_cases he : p = p + m - 1
        · rw [← he]; omega
        · have := fd_mono hf (i := p) (j := p + m - 1) (by omega) (by omega); omega
      obtain ⟨q1, q2, q3⟩ := ins_put (x := backI b l p g) p2 (fun a ha => cmp a _ (fun e => by
        show a.1 < (fd l (lastI b.S l p)).1 + (gt b g).1 + 1
        rw [hla]
        rcases (p3 a).1 ha with rfl | ha
        · show (fd l p).1 + (gt b g).1 - b.S < _
          omega
        · have := key a ha e
          omega))
      rw [hstep, ← p1, ← q1]
      refine ⟨by rw [hsw, hc], q2, fun s hs => ?_⟩
      rcases (q3 s).1 hs with rfl | hs
      · exact ⟨p + m - 1, by omega, by show (fd l (lastI b.S l p)).1 + (gt b g).1 + 1 ≤ _; rw [hla]; exact Int.le_refl _⟩
      · rcases (p3 s).1 hs with rfl | hs
        · refine ⟨p, by omega, ?_⟩
          show (fd l p).1 + (gt b g).1 - b.S ≤ (fd l p).1 + (gt b g).1 + 1
          omega
        · obtain ⟨i, i1, i2⟩ := hs2 s hs
          exact ⟨i, by omega, i2⟩)
  obtain ⟨h1, h2, _⟩ := this
  rw [List.drop_length, clu_nil] at h1
  have h1 : swings b l = rsw b l l.length := h1
  exact ⟨h1.symm, by rw [h1]; exact h2⟩
theorem swings_len {b : Bt} {l : List Fd} (hb : BtP b) (hf : FdP l) : (swings b l).length ≤ 80 := by
  have := rsw_len b l l.length
  rw [(swings_eq hb hf).1] at this
  have := hf.1
  omega
theorem lsW_cases (F : List Sw) : ∃ s, (F = [] ∨ s = 3) ∧ ∀ k : Nat → List (List V) → Prop, k s (swl F) → onLst (lsW F) k := by
  cases F with
  | nil => exact ⟨0, .inl rfl, fun k h => h⟩
  | cons x t => exact ⟨3, .inr rfl, fun k h => h⟩
theorem law4 {b : Bt} {l : List Fd} {R : V → Prop} (h : R (bv true)) : K0G Try.prog glX 4 [.agg (bel b), .lst 3 (fdl l)] R := by
  refine K0_of_WY0 hmX hcL 3000 Try.func4 (see (p := K0G Try.prog glX 15 [V.agg [iv b.1, iv b.2, iv b.3, V.lst 2 (gl b.4), V.lst 1 (nl b.5)], V.lst 3 (fdl l)] fun v => onBool v fun b_1 => ifB b_1 (R (bv true)) (need ((0 + (fdl l).length) * 40 ≤ 140737488355328) (K0G Try.prog glX 22 [V.agg [iv b.1, iv b.2, iv b.3, V.lst 2 (gl b.4), V.lst 1 (nl b.5)], V.lst 3 (sub ([] ++ fdl l) 0 (0 + (fdl l).length))] fun v => onTup v fun vs => onCons vs fun u r => onLst u fun s es => onCons r fun u r => onIntK IntKind.i64 u fun n => onNil r (K0G Try.prog glX 23 [V.agg [iv b.1, iv b.2, iv b.3, V.lst 2 (gl b.4), V.lst 1 (nl b.5)], V.lst 3 (fdl l)] fun v => onTup v fun vs => onCons vs fun u r => onLst u fun s_1 es_1 => onCons r fun u r => onIntK IntKind.i64 u fun n_1 => onNil r (K0G Try.prog glX 24 [V.agg [iv b.1, iv b.2, iv b.3, V.lst 2 (gl b.4), V.lst 1 (nl b.5)], V.lst 3 (sub ([] ++ fdl l) 0 (0 + (fdl l).length))] fun v => onTup v fun vs => onCons vs fun u r => onLst u fun s_2 es_2 => onCons r fun u r => onIntK IntKind.i64 u fun n_2 => onNil r (K0G Try.prog glX 25 [V.agg [iv b.1, iv b.2, iv b.3, V.lst 2 (gl b.4), V.lst 1 (nl b.5)], V.lst 3 (fdl l)] fun v => onTup v fun vs => onCons vs fun u r => onLst u fun s_3 es_3 => onCons r fun u r => onIntK IntKind.i64 u fun n_3 => onNil r (La 0 [(1 : Tmp), (5 : Tmp), (6 : Tmp), (7 : Tmp), (8 : Tmp), (9 : Tmp), (10 : Tmp), (11 : Tmp), (12 : Tmp), (13 : Tmp), (46 : Tmp), (47 : Tmp)] (WY Try.prog cfL 2989 (Env.mk (Bs.mk 0 []) 0 none 107 4 0) (cdAt [1, 1, 1, 1, 1, 1, 1, 0, 1, 0, 0] (bodyOf Try.f4))) (Qblk 0 (Qthen (WY Try.prog cfL 2992 (Env.mk (Bs.mk 0 []) 0 none 107 4 0) (cdAt [1, 1, 1, 1, 1, 1, 1, 1] (bodyOf Try.f4)) (QendX Try.prog Try.f4 fun v h => R (frzW h v))) (QendX Try.prog Try.f4 fun v h => R (frzW h v)))) (St.mk (mkT [(1, V.lst 3 (fdl l)), (5, V.lst 3 (sub ([] ++ fdl l) 0 (0 + (fdl l).length))), (6, V.lst s es), (7, iv n), (8, V.lst s_1 es_1), (9, iv n_1), (10, V.lst s_2 es_2), (11, iv n_2), (12, V.lst s_3 es_3), (13, iv n_3), (46, iv (↑(fdl l).length : Int)), (47, iv (0 : Int))]) (Hp.mk [] 0 []))))))))) (by kernel_rfl) ?_)
  refine great15 (onBool_bv (ifB_mk (fun _ => h) (fun c => ?_)))
  have hs : Sm b l := Classical.not_not.1 (dc_false c)
  have hrl := sm_rl hs
  have hl60 : l.length ≤ 60 := hs.2.2.1
  rw [fdl_length]
  refine need_mk ⟨by omega, ?_⟩
  have hown : sub ([] ++ fdl l) 0 (0 + l.length) = fdl l := by rw [List.nil_append, Nat.zero_add, sub, List.drop_zero, List.take_of_length_le (by rw [fdl_length]; omega)]
  rw [hown]
  obtain ⟨x, u, e, hx, hy, hu, hv, hxl, hul⟩ : ∃ (x : List Ft) (u : List Sw) (e : Int), sortT b l = .tup [lsF x, iv e] ∧ refT b l = .tup [lsF x, iv e] ∧ swT b l = .tup [lsW u, iv e] ∧ refW b l = .tup [lsW u, iv e] ∧ x.length ≤ 900 ∧ u.length ≤ 900 := by
    by_cases hp : BtP b ∧ FdP l
    · refine ⟨fates b l, swings b l, 0, ?_, ?_, ?_, ?_, ?_, ?_⟩
      · rw [sortT, if_pos (dc_t hp)]
      · rw [refT, if_pos (dc_t hp), fates_eq]
      · rw [swT, if_pos (dc_t hp)]
      · rw [refW, if_pos (dc_t hp), (swings_eq hp.1 hp.2).1]
      · rw [fates_length]; omega
      · have := swings_len hp.1 hp.2; omega
    · refine ⟨[], [], askE b l, ?_, ?_, ?_, ?_, by simp, by simp⟩
      · rw [sortT, if_neg (by rw [dc_f hp]; simp)]; rfl
      · rw [refT, if_neg (by rw [dc_f hp]; simp)]; rfl
      · rw [swT, if_neg (by rw [dc_f hp]; simp)]; rfl
      · rw [refW, if_neg (by rw [dc_f hp]; simp)]; rfl
  obtain ⟨s, hs0, hs'⟩ := lsF_cases x
  obtain ⟨t, ht0, ht'⟩ := lsW_cases u
  refine sort22 (sm_bins hs) hrl ?_
  rw [hx]
  refine onTup_tup (onCons_cons (hs' _ (onCons_cons (onIntK_iv (onNil_nil ?_)))))
  refine sort23 hrl ?_
  rw [hy]
  refine onTup_tup (onCons_cons (hs' _ (onCons_cons (onIntK_iv (onNil_nil ?_)))))
  refine swings24 (sm_bins hs) hrl ?_
  rw [hu]
  refine onTup_tup (onCons_cons (ht' _ (onCons_cons (onIntK_iv (onNil_nil ?_)))))
  refine swings25 hrl ?_
  rw [hv]
  refine onTup_tup (onCons_cons (ht' _ (onCons_cons (onIntK_iv (onNil_nil ?_)))))
  refine La.of (σ := Nat) (fun k => sh4 l s s t t x x u u e e e e k) (fun k => k ≤ l.length) (fun k => l.length - k) 0 (by rw [← fdl_length]; kernel_rfl) (by omega) ?_
  rintro k g1 J hJ
  obtain ⟨s1, hs1⟩ : ∃ s1, s1 = s := ⟨_, rfl⟩
  obtain ⟨s2, hs2⟩ : ∃ s2, s2 = t := ⟨_, rfl⟩
  obtain ⟨s3, hs3⟩ : ∃ s3, s3 = t := ⟨_, rfl⟩
  obtain ⟨y, hyx⟩ : ∃ y, y = x := ⟨_, rfl⟩
  obtain ⟨v, hvu⟩ : ∃ v, v = u := ⟨_, rfl⟩
  obtain ⟨f, hfe⟩ : ∃ f, f = e := ⟨_, rfl⟩
  obtain ⟨g, hge⟩ : ∃ g, g = e := ⟨_, rfl⟩
  obtain ⟨i, hie⟩ : ∃ i, i = e := ⟨_, rfl⟩
  have hst : ∀ k, sh4 l s s t t x x u u e e e e k = sh4 l s s1 s2 s3 x y u v e f g i k := fun k => by rw [hs1, hs2, hs3, hyx, hvu, hfe, hge, hie]
  rw [hst]
  refine see (p := ifB (decide ((↑k : Int) < (↑(fdl l).length : Int))) (onSome (fdl l)[k]? fun row => onSome row[0]? fun v_1 => onIntK IntKind.i64 v_1 fun n => onSome (fdl l)[k]? fun row => onSome row[0]? fun v_2 => onIntK IntKind.i64 v_2 fun n_1 => ifB (n != n_1) (R (bv false)) (onSome (fdl l)[k]? fun row => onSome row[1]? fun v_3 => onIntK IntKind.i64 v_3 fun n => onSome (fdl l)[k]? fun row => onSome row[1]? fun v_4 => onIntK IntKind.i64 v_4 fun n_2 => ifB (n != n_2) (R (bv false)) (onSome (fdl l)[k]? fun row => onSome row[2]? fun v_5 => onLst v_5 fun s_1 es => onSome (fdl l)[k]? fun row => onSome row[2]? fun v_6 => onLst v_6 fun s_2 es_1 => K0G Try.prog glX 26 [V.lst s_1 es, V.lst s_2 es_1] fun v_7 => onBool v_7 fun b => ifB (!b) (R (bv false)) (J (St.mk (mkT [(1, V.lst 3 (fdl l)), (5, V.lst 3 (fdl l)), (6, V.lst s (ftl x)), (7, iv e), (8, V.lst s1 (ftl y)), (9, iv f), (10, V.lst s2 (swl u)), (11, iv g), (12, V.lst s3 (swl v)), (13, iv i), (46, iv (↑(fdl l).length : Int)), (47, iv (IntKind.i64.wrap ((↑k : Int) + (1 : Int))))]) (Hp.mk [] 0 [])))))) (K0G Try.prog glX 27 [V.lst s (ftl x), V.lst s1 (ftl y)] fun v_1 => onBool v_1 fun b => ifB b (ifB (e == f) (K0G Try.prog glX 28 [V.lst s2 (swl u), V.lst s3 (swl v)] fun v => onBool v fun b => ifB b (R (bv (g == i))) (R (bv false))) (R (bv false))) (R (bv false)))) (by kernel_rfl) ?_
  rw [fdl_length]
  refine ifB_mk (fun c => ?_) (fun c => ?_)
  · have hlt : k < l.length := by have := of_decide_eq_true c; omega
    obtain ⟨z, hz⟩ := getI hlt
    have hg : (fdl l)[k]? = some (fdr z) := by simp [fdl, hz]
    rw [wr1i hlt (by omega)]
    refine onSome_mk hg (onSome_mk (x := iv z.1) rfl (onIntK_iv (onSome_mk hg (onSome_mk (x := iv z.1) rfl (onIntK_iv (ifB_f (by simp) ?_))))))
    refine onSome_mk hg (onSome_mk (x := iv z.2.1) rfl (onIntK_iv (onSome_mk hg (onSome_mk (x := iv z.2.1) rfl (onIntK_iv (ifB_f (by simp) ?_))))))
    refine onSome_mk hg (onSome_mk (x := V.lst 1 (nl z.2.2)) rfl (onLst_lst (onSome_mk hg (onSome_mk (x := V.lst 1 (nl z.2.2)) rfl (onLst_lst (same26 (by have := hrl z (mem_at hz); have := hs.2.2.2 z (mem_at hz); omega) (onBool_bv (ifB_f rfl ?_))))))))
    have hn := hJ (k + 1) hlt (by omega)
    rw [hst] at hn
    exact hJ' (by simp [sh4, fdl_length]) hn
  · rw [hs1, hyx]
    refine same27 hxl hs0 hs0 (onBool_bv (ifB_t rfl (ifB_t (by rw [hfe]; simp) ?_)))
    rw [hs2, hs3, hvu]
    refine same28 hul ht0 ht0 (onBool_bv (ifB_t rfl ?_))
    rw [hge, hie, beq_self_eq_true]
    exact h
end Go.Proofs.Ytmdimnmdoifkfaa
