/- The laws SortOwn and SortApart. -/
import Derived.Test.YtmdimnmdoifkfaaXDTC
import Derived.Test.YtmdimnmdoifkfaaXDEAZ
import Derived.Test.YtmdimnmdoifkfaaXDU9R
namespace Go.Proofs.Ytmdimnmdoifkfaa
open Go Go.Proofs.Ytmdimnmdoifkfaa.Clean
set_option linter.unusedVariables false
set_option linter.unusedSimpArgs false
set_option maxRecDepth 10000

theorem hcU : cfU.ok Try.prog := cfgM_ok
theorem alive44 {R : V → Prop} (h : R (bv true)) : K0G Try.prog glX 44 [] R := K0G.mono' (show K0G Try.prog glX 44 [] fun v => v = bv true from t5) fun v hv => by rw [hv]; exact h
/-! what the fates are, part by part -/
theorem clu_join (S : Int) : ∀ (n : Nat) (l : List Fd), l.length ≤ n → (cluN S n l).flatten = l
  | 0, l, h => by rw [List.eq_nil_of_length_eq_zero (Nat.le_zero.1 h)]; rfl
  | n + 1, [], _ => rfl
  | n + 1, x :: r, h => by
    simp only [List.length_cons] at h
    have := cl1_len S r x
    simp only [cluN, List.flatten_cons, List.cons_append]
    rw [clu_join S n _ (by omega), cl1_app]
theorem clu_flat (S : Int) (l : List Fd) : (clu S l).flatten = l := clu_join S _ l (Nat.le_refl _)
theorem fat_len (b : Bt) : ∀ L : List (List Fd), (L.flatMap (fatC b)).length = L.flatten.length
  | [] => rfl
  | c :: L => by rw [List.flatMap_cons, List.flatten_cons, List.length_append, List.length_append, fat_len b L, fatC, List.length_map]
theorem fates_length (b : Bt) (l : List Fd) : (fates b l).length = l.length := by rw [fates, fat_len, clu_flat]
theorem fat_get (b : Bt) : ∀ (L : List (List Fd)) (i : Nat) (x : Fd), L.flatten[i]? = some x → ∃ c ∈ L, x ∈ c ∧ (L.flatMap (fatC b))[i]? = some (fateF b x (sortF b c))
  | [], i, x, h => by simp at h
  | c :: L, i, x, h => by
    rw [List.flatten_cons] at h
    rw [List.flatMap_cons]
    have hl : (fatC b c).length = c.length := by rw [fatC, List.length_map]
    by_cases hi : i < c.length
    · rw [List.getElem?_append_left hi] at h
      refine ⟨c, by simp, List.mem_of_getElem? h, ?_⟩
      rw [List.getElem?_append_left (by omega), fatC, List.getElem?_map, h]
      rfl
    · rw [List.getElem?_append_right (by omega)] at h
      obtain ⟨d, d1, d2, d3⟩ := fat_get b L _ x h
      refine ⟨d, by simp [d1], d2, ?_⟩
      rw [List.getElem?_append_right (by omega), hl, d3]
theorem fates_get {b : Bt} {l : List Fd} {i : Nat} {x : Fd} (h : l[i]? = some x) : ∃ c ∈ clu b.S l, x ∈ c ∧ (fates b l)[i]? = some (fateF b x (sortF b c)) := fat_get b _ i x (by rw [clu_flat]; exact h)
theorem ftel {F : List Ft} {i : Nat} {x : Ft} {k : Int → Int → Int → Prop} (h : F[i]? = some x) (hk : k x.1 x.2.1 x.2.2) : onSome (ftl F)[i]? fun row => onCons (List.drop 0 row) fun u r => onIntK IntKind.i64 u fun n => onCons r fun u r => onIntK IntKind.i64 u fun m => onCons r fun u r => onIntK IntKind.i64 u fun q => k n m q := onSome_mk (by simp [ftl, h] : (ftl F)[i]? = some (ftr x)) hk
theorem lsF_cases (F : List Ft) : ∃ s, (F = [] ∨ s = 3) ∧ ∀ k : Nat → List (List V) → Prop, k s (ftl F) → onLst (lsF F) k := by
  cases F with
  | nil => exact ⟨0, .inl rfl, fun k h => h⟩
  | cons x t => exact ⟨3, .inr rfl, fun k h => h⟩
/-- A gate that a cluster is sorted by is the gate of each of its parts. -/
theorem sort_gate {b : Bt} {c : List Fd} {x : Fd} (hx : x ∈ c) : sortF b c = -1 ∨ (sortF b c = gk b x ∧ gk b x ≠ -1) := by
  unfold sortF
  split
  · rename_i h
    have h := dc_true h
    exact .inr ⟨(h.2.2 x hx).symm, by rw [h.2.2 x hx]; exact h.1⟩
  · exact .inl rfl
theorem lead_gate {b : Bt} (hb : BtP b) {m : Nat} (hm : m < b.gs.length) : lead b (gt b m).2 = m := (lead_at (gt_get hm)).2 (fun y hy => (pw_at (gt_get hm) hb.2.2.2.2.1.2 y hy).2)
theorem sm_bins {b : Bt} {l : List Fd} (h : Sm b l) : b.bins.length ≤ 1000 := by have := h.2.1; omega
theorem law9 {b : Bt} {l : List Fd} {R : V → Prop} (h : R (bv true)) : K0G Try.prog glX 9 [.agg (bel b), .lst 3 (fdl l)] R := by
  refine K0_of_WY0 hmX hcU 3000 Try.func9 (see (p := K0G Try.prog glX 44 [] fun v => onBool v fun b_1 => K0G Try.prog glX 15 [V.agg [iv b.1, iv b.2, iv b.3, V.lst 2 (gl b.4), V.lst 1 (nl b.5)], V.lst 3 (fdl l)] fun v => onBool v fun b_2 => ifB b_2 (R (bv b_1)) (ifB (!b_1) (R (bv b_1)) (K0G Try.prog glX 22 [V.agg [iv b.1, iv b.2, iv b.3, V.lst 2 (gl b.4), V.lst 1 (nl b.5)], V.lst 3 (fdl l)] fun v => onTup v fun vs => onCons vs fun u r => onLst u fun s es => onCons r fun u r => onIntK IntKind.i64 u fun n => onNil r (ifB (n != (0 : Int)) (R (bv b_1)) (ifB ((↑es.length : Int) != (↑(fdl l).length : Int)) (R (bv false)) (K0G Try.prog glX 45 [V.agg [iv b.1, iv b.2, iv b.3, V.lst 2 (gl b.4), V.lst 1 (nl b.5)]] fun v => onBool v fun b_3 => ifB (!b_3) (R (bv false)) (La 0 [(1 : Tmp), (2 : Tmp), (5 : Tmp), (41 : Tmp), (42 : Tmp), (43 : Tmp)] (WY Try.prog cfU 2990 (Env.mk (Bs.mk 0 []) 0 none 126 9 0) (cdAt [1, 1, 1, 1, 1, 1, 0, 1, 0, 0] (bodyOf Try.f9))) (Qblk 0 (Qthen (WY Try.prog cfU 2993 (Env.mk (Bs.mk 0 []) 0 none 126 9 0) (cdAt [1, 1, 1, 1, 1, 1, 1] (bodyOf Try.f9)) (QendX Try.prog Try.f9 fun v h => R (frzW h v))) (QendX Try.prog Try.f9 fun v h => R (frzW h v)))) (St.mk (mkT [(1, V.lst 3 (fdl l)), (2, V.ptr (Id.p 0) 0 0), (5, bv b_1), (41, V.lst s es), (42, iv (↑es.length : Int)), (43, iv (0 : Int))]) (Hp.mk [(0, O.rows 5 false [[iv b.1, iv b.2, iv b.3, V.lst 2 (gl b.4), V.lst 1 (nl b.5)]])] 1 []))))))))) (by kernel_rfl) ?_)
  refine alive44 (onBool_bv (great15 (onBool_bv (ifB_mk (fun _ => h) (fun c => ifB_f rfl ?_)))))
  have hs : Sm b l := Classical.not_not.1 (dc_false c)
  refine sort22 (sm_bins hs) (sm_rl hs) ?_
  unfold sortT
  split
  rotate_left
  · rename_i hn
    have hn : ¬ (BtP b ∧ FdP l) := fun hp => hn (dc_t hp)
    refine onTup_tup (onCons_cons (onLst_nil (onCons_cons (onIntK_iv (onNil_nil (ifB_t ?_ h))))))
    by_cases hb : BtP b
    · have hf : ¬ FdP l := fun hf => hn ⟨hb, hf⟩
      rw [askE, if_pos (dc_t hb), fedE, if_neg (by rw [dc_f hf]; simp)]; rfl
    · rw [askE, if_neg (by rw [dc_f hb]; simp)]; rfl
  rename_i hp
  obtain ⟨hb, hf⟩ := dc_true hp
  obtain ⟨s, hs3, hls⟩ := lsF_cases (fates b l)
  have hFl := fates_length b l
  generalize hF : fates b l = F at hs3 hls hFl
  refine onTup_tup (onCons_cons (hls _ (onCons_cons (onIntK_iv (onNil_nil (ifB_f rfl ?_))))))
  rw [ftl_length, fdl_length, hFl]
  refine ifB_f (by simp) (belt45 (onBool_bv (ifB_f (by rw [dc_t hb]; rfl) ?_)))
  have hll : l.length ≤ 40 := hf.1
  have hbl := hb.2.2.2.2.2.1
  have hgl := hb.2.2.2.1
  refine La.of (σ := Nat) (fun k => sh9 b l s F k) (fun k => k ≤ l.length) (fun k => l.length - k) 0 (by rw [← hFl, ← ftl_length]; kernel_rfl) (by omega) ?_
  rintro k g1 J hJ
  refine see (p := ifB (decide ((↑k : Int) < (↑(ftl F).length : Int))) (need (s = 3) (onSome (ftl F)[k]? fun row => onCons (List.drop 0 row) fun u r => onIntK IntKind.i64 u fun n => onCons r fun u r => onIntK IntKind.i64 u fun n_1 => onCons r fun u r => onIntK IntKind.i64 u fun n_2 => onSome (fdl l)[k]? fun row => onSome row[2]? fun v => onLst v fun s_1 es => K0G Try.prog glX 16 [V.lst s_1 es] fun v => onTup v fun vs => onCons vs fun u r => onIntK IntKind.i64 u fun n_3 => onCons r fun u r => onIntK IntKind.i64 u fun n_4 => onNil r (ifB (n_4 != (0 : Int)) (R (bv false)) (ifB (n != n_3) (R (bv false)) (ifB (decide (n_1 < (0 : Int))) (onSome (fdl l)[k]? fun row => onSome row[0]? fun v => onIntK IntKind.i64 v fun n_5 => ifB (!(fun b => n == n_3 && b) ((fun b => n_1 == (-1 : Int) && b) ((fun b_1 => n_2 == IntKind.i64.wrap (n_5 + b.1) && b_1) true))) (R (bv false)) (J (St.mk (mkT [(1, V.lst 3 (fdl l)), (2, V.ptr (Id.p 0) 0 0), (5, bv true), (41, V.lst s (ftl F)), (42, iv (↑(ftl F).length : Int)), (43, iv (IntKind.i64.wrap ((↑k : Int) + (1 : Int))))]) (Hp.mk [(0, O.rows 5 false [[iv b.1, iv b.2, iv b.3, V.lst 2 (gl b.4), V.lst 1 (nl b.5)]])] 1 [])))) (K0G Try.prog glX 46 [V.agg [iv b.1, iv b.2, iv b.3, V.lst 2 (gl b.4), V.lst 1 (nl b.5)], iv n_1] fun v => onIntK IntKind.i64 v fun n => ifB (decide (n_3 < (0 : Int))) (R (bv false)) (ifB (decide (n_3 ≥ (↑(nl b.5).length : Int))) (R (bv false)) (ifB (decide (n < (0 : Int))) (R (bv false)) (onNat n_3 fun m => onSome (nl b.5)[m]? fun row => onSome row[0]? fun v => onIntK IntKind.i64 v fun n_5 => ifB (n_5 != n_1) (R (bv false)) (onSome (fdl l)[k]? fun row => onSome row[0]? fun v => onIntK IntKind.i64 v fun n_6 => onNat n fun m => onSome (gl b.4)[m]? fun row => onSome row[0]? fun v => onIntK IntKind.i64 v fun n => ifB (n_2 != IntKind.i64.wrap (n_6 + n)) (R (bv false)) (J (St.mk (mkT [(1, V.lst 3 (fdl l)), (2, V.ptr (Id.p 0) 0 0), (5, bv true), (41, V.lst s (ftl F)), (42, iv (↑(ftl F).length : Int)), (43, iv (IntKind.i64.wrap ((↑k : Int) + (1 : Int))))]) (Hp.mk [(0, O.rows 5 false [[iv b.1, iv b.2, iv b.3, V.lst 2 (gl b.4), V.lst 1 (nl b.5)]])] 1 []))))))))))))) (R (bv true))) (by kernel_rfl) ?_
  refine ifB_mk (fun c0 => ?_) (fun _ => h)
  have hlt : k < l.length := by rw [ftl_length, hFl] at c0; have := of_decide_eq_true c0; omega
  have s3 : s = 3 := hs3.resolve_left (fun he => by rw [he] at hFl; simp at hFl; omega)
  obtain ⟨x, hx⟩ := getI hlt
  obtain ⟨cl, _, hxc, hfx⟩ := fates_get (b := b) hx
  rw [hF] at hfx
  have fx := hf.2.1 x (mem_at hx)
  have rd := fx.2.2.2.2
  obtain ⟨hC1, hC2, hC3, hC4⟩ := hb.1
  have a1 := fx.1; have a2 := fx.2.1
  refine need_mk ⟨s3, ftel hfx (fel2 hx (read16 (by have := rd.2.1; omega) ?_))⟩
  rw [readV, if_pos (dc_t rd), wr1i hlt (by omega)]
  refine onTup_tup (onCons_cons (onIntK_iv (onCons_cons (onIntK_iv (onNil_nil (ifB_f rfl ?_))))))
  have hnext : J (sh9 b l s F (k + 1)) := hJ (k + 1) hlt (by omega)
  rcases sort_gate (b := b) hxc with hg | ⟨hg, hg1⟩
  · rw [show fateF b x (sortF b cl) = (kindOf x.2.2, -1, x.1 + b.L) from if_pos hg]
    refine ifB_f (by simp) (ifB_t rfl (fel0 hx ?_))
    rw [wr (by omega) (by omega)]
    exact ifB_f (by simp) hnext
  · obtain ⟨m, e1, e2, e3⟩ := (gate_rng b (kindOf x.2.2)).resolve_left hg1
    have hg' : sortF b cl = (m : Int) := hg.trans e1
    rw [show fateF b x (sortF b cl) = (kindOf x.2.2, (gt b m).2, x.1 + (gt b m).1) from by rw [hg']; exact if_neg (by omega)]
    have hk := kind_rng x.2.2
    have hk1 : kindOf x.2.2 ≠ -1 := fun h0 => hg1 (by show gateF b (kindOf x.2.2) = -1; rw [gateF, if_pos h0])
    have hk0 : 0 ≤ kindOf x.2.2 := by have := hk.1; omega
    obtain ⟨q, hq⟩ : ∃ q : Nat, kindOf x.2.2 = q := ⟨(kindOf x.2.2).toNat, by omega⟩
    have hq15 : q < b.bins.length := by have := hk.2; omega
    have hgm := hb.2.2.2.2.1.1 _ (mem_at (gt_get e2))
    have q1 := hgm.1; have q2 := hgm.2.1; have q3 := hgm.2.2.1
    have hbin : b.bins.getD q 0 = (gt b m).2 := by rw [e3, hq]; rfl
    refine ifB_f (by simp) (ifB_f (decide_eq_false (by simp only; omega)) (leads46 (by omega) (onIntK_iv ?_)))
    rw [lead_gate hb e2, nl_length]
    refine ifB_f (decide_eq_false (by omega)) (ifB_f (decide_eq_false (by simp only [ge_iff_le]; omega)) (ifB_f (decide_eq_false (by omega)) (onNat_mk hq (iel (getK (d := 0) hq15) (ifB_f (by rw [hbin]; simp) (fel0 hx (onNat_mk rfl (gel0 (gt_get e2) ?_))))))))
    rw [wr (by omega) (by omega)]
    exact ifB_f (by simp) hnext
def Apart (S : Int) (l : List Fd) : Prop := ∀ j, 1 ≤ j → j < l.length → ¬ nearP S l j
theorem clu_apart (S : Int) : ∀ (n : Nat) (l : List Fd), Apart S l → ∀ c ∈ cluN S n l, ∃ x, c = [x]
  | 0, _, _, c, h => by cases h
  | _ + 1, [], _, c, h => by cases h
  | n + 1, [x], _, c, h => by
    replace h : c ∈ [x] :: cluN S n [] := h
    rw [List.mem_cons] at h
    rcases h with rfl | h
    · exact ⟨x, rfl⟩
    · cases n <;> cases h
  | n + 1, x :: y :: r, ha, c, h => by
    have e : cl1 S x (y :: r) = ([], y :: r) := if_neg (ha 1 (by omega) (by simp))
    simp only [cluN, e, List.mem_cons] at h
    rcases h with rfl | h
    · exact ⟨x, rfl⟩
    · refine clu_apart S n (y :: r) (fun j h1 h2 => ?_) c h
      obtain ⟨i, rfl⟩ : ∃ i, j = i + 1 := ⟨j - 1, by omega⟩
      exact ha (i + 1 + 1) (by omega) (by simp only [List.length_cons] at h2 ⊢; omega)
theorem law11 {b : Bt} {l : List Fd} {R : V → Prop} (h : R (bv true)) : K0G Try.prog glX 11 [.agg (bel b), .lst 3 (fdl l)] R := by
  refine K0_of_WY0 hmX hcU 3000 Try.func11 (see (p := K0G Try.prog glX 44 [] fun v => onBool v fun b_1 => K0G Try.prog glX 15 [V.agg [iv b.1, iv b.2, iv b.3, V.lst 2 (gl b.4), V.lst 1 (nl b.5)], V.lst 3 (fdl l)] fun v => onBool v fun b_2 => ifB b_2 (R (bv b_1)) (K0G Try.prog glX 45 [V.agg [iv b.1, iv b.2, iv b.3, V.lst 2 (gl b.4), V.lst 1 (nl b.5)]] fun v => onBool v fun b_3 => ifB (!b_3) (R (bv b_1)) (K0G Try.prog glX 48 [V.lst 3 (fdl l)] fun v => onBool v fun b_4 => ifB (!b_4) (R (bv b_1)) (ifB (!b_1) (R (bv b_1)) (La 0 [(1 : Tmp), (2 : Tmp), (5 : Tmp), (6 : Tmp)] (WY Try.prog cfU 2993 (Env.mk (Bs.mk 0 []) 0 none 127 11 0) (cdAt [1, 1, 1, 0, 1, 0, 0] (bodyOf Try.f11))) (Qblk 0 (Qthen (WY Try.prog cfU 2996 (Env.mk (Bs.mk 0 []) 0 none 127 11 0) (cdAt [1, 1, 1, 1] (bodyOf Try.f11)) (QendX Try.prog Try.f11 fun v h => R (frzW h v))) (QendX Try.prog Try.f11 fun v h => R (frzW h v)))) (St.mk (mkT [(1, V.lst 3 (fdl l)), (2, V.ptr (Id.p 0) 0 0), (5, bv b_1), (6, iv (1 : Int))]) (Hp.mk [(0, O.rows 5 false [[iv b.1, iv b.2, iv b.3, V.lst 2 (gl b.4), V.lst 1 (nl b.5)]])] 1 []))))))) (by kernel_rfl) ?_)
  refine alive44 (onBool_bv (great15 (onBool_bv (ifB_mk (fun _ => h) (fun c => ?_)))))
  have hs : Sm b l := Classical.not_not.1 (dc_false c)
  refine belt45 (onBool_bv (ifB_mk (fun _ => h) (fun cb => parts48 (sm_rl hs) (onBool_bv (ifB_mk (fun _ => h) (fun cf => ifB_f rfl ?_))))))
  have hb : BtP b := dc_true (by simpa using cb)
  have hf : FdP l := dc_true (by simpa using cf)
  have hll : l.length ≤ 40 := hf.1
  have hbl := hb.2.2.2.2.2.1
  have hgl := hb.2.2.2.1
  have hS := hb.2.1
  have hS' := hb.2.2.1
  obtain ⟨hC1, hC2, hC3, hC4⟩ := hb.1
  refine La.of (σ := Nat) (fun k => sh11a b l k) (fun k => 1 ≤ k ∧ k ≤ l.length + 1 ∧ ∀ j, 1 ≤ j → j < k → j < l.length → ¬ nearP b.S l j) (fun k => l.length + 1 - k) 1 (by kernel_rfl) ⟨by omega, by omega, fun j a b => by omega⟩ ?_
  rintro k ⟨g1, g2, g3⟩ J hJ
  refine see (p := ifB (decide ((↑k : Int) < (↑(fdl l).length : Int))) (onSome (fdl l)[k]? fun row => onSome row[0]? fun v => onIntK IntKind.i64 v fun n => onNat (IntKind.i64.wrap ((↑k : Int) - (1 : Int))) fun m => onSome (fdl l)[m]? fun row => onSome row[0]? fun v => onIntK IntKind.i64 v fun n_1 => ifB (decide (IntKind.i64.wrap (n - n_1) ≤ IntKind.i64.wrap (IntKind.i64.wrap ((2 : Int) * b.3) + (1 : Int)))) (R (bv true)) (J (St.mk (mkT [(1, V.lst 3 (fdl l)), (2, V.ptr (Id.p 0) 0 0), (5, bv true), (6, iv (IntKind.i64.wrap ((↑k : Int) + (1 : Int))))]) (Hp.mk [(0, O.rows 5 false [[iv b.1, iv b.2, iv b.3, V.lst 2 (gl b.4), V.lst 1 (nl b.5)]])] 1 [])))) (K0G Try.prog glX 22 [V.agg [iv b.1, iv b.2, iv b.3, V.lst 2 (gl b.4), V.lst 1 (nl b.5)], V.lst 3 (fdl l)] fun v => onTup v fun vs => onCons vs fun u r => onLst u fun s es => onCons r fun u r => onIntK IntKind.i64 u fun n => onNil r (ifB (n != (0 : Int)) (R (bv false)) (ifB ((↑es.length : Int) != (↑(fdl l).length : Int)) (R (bv false)) (La 0 [(2 : Tmp), (5 : Tmp), (71 : Tmp), (72 : Tmp), (73 : Tmp)] (WY Try.prog cfU 2990 (Env.mk (Bs.mk 0 []) 0 none 127 11 2) (cdAt [1, 1, 1, 1, 1, 1, 0, 1, 0, 0] (bodyOf Try.f11))) (Qblk 2 (Qthen (WY Try.prog cfU 2993 (Env.mk (Bs.mk 0 []) 0 none 127 11 0) (cdAt [1, 1, 1, 1, 1, 1, 1] (bodyOf Try.f11)) (QendX Try.prog Try.f11 fun v h => R (frzW h v))) (QendX Try.prog Try.f11 fun v h => R (frzW h v)))) (St.mk (mkT [(2, V.ptr (Id.p 0) 0 0), (5, bv true), (71, V.lst s es), (72, iv (↑es.length : Int)), (73, iv (0 : Int))]) (Hp.mk [(0, O.rows 5 false [[iv b.1, iv b.2, iv b.3, V.lst 2 (gl b.4), V.lst 1 (nl b.5)]])] 1 []))))))) (by kernel_rfl) ?_
  refine ifB_mk (fun c0 => ?_) (fun c0 => ?_)
  · have hlt : k < l.length := by rw [fdl_length] at c0; have := of_decide_eq_true c0; omega
    have a := hf.2.1 _ (mem_at (fd_get hlt))
    have a' := hf.2.1 _ (mem_at (fd_get (l := l) (i := k - 1) (by omega)))
    have q1 := a.1; have q2 := a.2.1; have q3 := a'.1; have q4 := a'.2.1
    refine fel0 (fd_get hlt) ?_
    refine onNat_mk (m := k - 1) (by rw [wr (by omega) (by omega)]; omega) ?_
    refine fel0 (fd_get (l := l) (i := k - 1) (by omega)) ?_
    rw [wr (n := (fd l k).1 - (fd l (k - 1)).1) (by omega) (by omega), wr (n := 2 * b.S) (by omega) (by omega), wr (n := 2 * b.S + 1) (by omega) (by omega), wr1i hlt (by omega)]
    refine ifB_mk (fun _ => h) (fun c1 => hJ (k + 1) ⟨by omega, by omega, fun j h1 h2 h3 => ?_⟩ (by omega))
    rcases Nat.lt_succ_iff_lt_or_eq.1 h2 with e | e
    · exact g3 j h1 e h3
    · rw [e]
      have c1 := of_decide_eq_false c1
      exact c1
  have hk : l.length ≤ k := by rw [fdl_length] at c0; have := of_decide_eq_false c0; omega
  have hap : Apart b.S l := fun j h1 h2 => g3 j h1 (by omega) h2
  clear hJ
  refine sort22 (sm_bins hs) (sm_rl hs) ?_
  rw [sortT, if_pos (dc_t ⟨hb, hf⟩)]
  obtain ⟨s, hs3, hls⟩ := lsF_cases (fates b l)
  have hFl := fates_length b l
  generalize hF : fates b l = F at hs3 hls hFl
  refine onTup_tup (onCons_cons (hls _ (onCons_cons (onIntK_iv (onNil_nil (ifB_f rfl ?_))))))
  rw [ftl_length, fdl_length, hFl]
  refine ifB_f (by simp) ?_
  refine La.of (σ := Nat) (fun k => sh11b b s F k) (fun k => k ≤ l.length) (fun k => l.length - k) 0 (by rw [← hFl, ← ftl_length]; kernel_rfl) (by omega) ?_
  rintro m g1 K hK
  refine see (p := ifB (decide ((↑m : Int) < (↑(ftl F).length : Int))) (need (s = 3) (onSome (ftl F)[m]? fun row => onCons (List.drop 0 row) fun u r => onIntK IntKind.i64 u fun n => onCons r fun u r => onIntK IntKind.i64 u fun n_1 => onCons r fun u r => onIntK IntKind.i64 u fun n_2 => ifB (decide (n < (0 : Int))) (K (St.mk (mkT [(2, V.ptr (Id.p 0) 0 0), (5, bv true), (71, V.lst s (ftl F)), (72, iv (↑(ftl F).length : Int)), (73, iv (IntKind.i64.wrap ((↑m : Int) + (1 : Int))))]) (Hp.mk [(0, O.rows 5 false [[iv b.1, iv b.2, iv b.3, V.lst 2 (gl b.4), V.lst 1 (nl b.5)]])] 1 []))) (ifB (decide (n ≥ (↑(nl b.5).length : Int))) (K (St.mk (mkT [(2, V.ptr (Id.p 0) 0 0), (5, bv true), (71, V.lst s (ftl F)), (72, iv (↑(ftl F).length : Int)), (73, iv (IntKind.i64.wrap ((↑m : Int) + (1 : Int))))]) (Hp.mk [(0, O.rows 5 false [[iv b.1, iv b.2, iv b.3, V.lst 2 (gl b.4), V.lst 1 (nl b.5)]])] 1 []))) (onNat n fun m_1 => onSome (nl b.5)[m_1]? fun row => onSome row[0]? fun v => onIntK IntKind.i64 v fun n => K0G Try.prog glX 46 [V.agg [iv b.1, iv b.2, iv b.3, V.lst 2 (gl b.4), V.lst 1 (nl b.5)], iv n] fun v => onIntK IntKind.i64 v fun n_3 => ifB (decide (n ≥ (0 : Int))) (ifB (decide (n_3 ≥ (0 : Int))) (onNat n_3 fun m_2 => onSome (gl b.4)[m_2]? fun row => onSome row[0]? fun v => onIntK IntKind.i64 v fun n_4 => ifB (decide (IntKind.i64.wrap (n_4 - b.2) ≥ IntKind.i64.wrap (IntKind.i64.wrap ((3 : Int) * b.3) + (1 : Int)))) (ifB (n_1 != n) (R (bv false)) (K (St.mk (mkT [(2, V.ptr (Id.p 0) 0 0), (5, bv true), (71, V.lst s (ftl F)), (72, iv (↑(ftl F).length : Int)), (73, iv (IntKind.i64.wrap ((↑m : Int) + (1 : Int))))]) (Hp.mk [(0, O.rows 5 false [[iv b.1, iv b.2, iv b.3, V.lst 2 (gl b.4), V.lst 1 (nl b.5)]])] 1 [])))) (K (St.mk (mkT [(2, V.ptr (Id.p 0) 0 0), (5, bv true), (71, V.lst s (ftl F)), (72, iv (↑(ftl F).length : Int)), (73, iv (IntKind.i64.wrap ((↑m : Int) + (1 : Int))))]) (Hp.mk [(0, O.rows 5 false [[iv b.1, iv b.2, iv b.3, V.lst 2 (gl b.4), V.lst 1 (nl b.5)]])] 1 [])))) (K (St.mk (mkT [(2, V.ptr (Id.p 0) 0 0), (5, bv true), (71, V.lst s (ftl F)), (72, iv (↑(ftl F).length : Int)), (73, iv (IntKind.i64.wrap ((↑m : Int) + (1 : Int))))]) (Hp.mk [(0, O.rows 5 false [[iv b.1, iv b.2, iv b.3, V.lst 2 (gl b.4), V.lst 1 (nl b.5)]])] 1 [])))) (K (St.mk (mkT [(2, V.ptr (Id.p 0) 0 0), (5, bv true), (71, V.lst s (ftl F)), (72, iv (↑(ftl F).length : Int)), (73, iv (IntKind.i64.wrap ((↑m : Int) + (1 : Int))))]) (Hp.mk [(0, O.rows 5 false [[iv b.1, iv b.2, iv b.3, V.lst 2 (gl b.4), V.lst 1 (nl b.5)]])] 1 []))))))) (R (bv true))) (by kernel_rfl) ?_
  refine ifB_mk (fun c0 => ?_) (fun _ => h)
  have hlt : m < l.length := by rw [ftl_length, hFl] at c0; have := of_decide_eq_true c0; omega
  have s3 : s = 3 := hs3.resolve_left (fun he => by rw [he] at hFl; simp at hFl; omega)
  obtain ⟨x, hx⟩ := getI hlt
  obtain ⟨cl, hcl, hxc, hfx⟩ := fates_get (b := b) hx
  rw [hF] at hfx
  have fx := hf.2.1 x (mem_at hx)
  have hnext : K (sh11b b s F (m + 1)) := hK (m + 1) hlt (by omega)
  refine need_mk ⟨s3, ftel hfx ?_⟩
  rw [wr1i hlt (by omega)]
  refine ifB_mk (fun _ => hnext) (fun c1 => ifB_mk (fun _ => hnext) (fun c2 => ?_))
  have e1 : (fateF b x (sortF b cl)).1 = kindOf x.2.2 := by unfold fateF; split <;> rfl
  rw [e1] at c1 c2
  rw [nl_length] at c2
  have c1 := of_decide_eq_false c1
  have c2 := of_decide_eq_false c2
  obtain ⟨q, hq⟩ : ∃ q : Nat, kindOf x.2.2 = q := ⟨(kindOf x.2.2).toNat, by omega⟩
  have hq15 : q < b.bins.length := by omega
  refine onNat_mk (e1.trans hq) (iel (getK (d := 0) hq15) (leads46 (by omega) (onIntK_iv (ifB_mk (fun c3 => ifB_mk (fun c4 => ?_) (fun _ => hnext)) (fun _ => hnext)))))
  have c4 := of_decide_eq_true c4
  obtain ⟨i, e2, e3, e4⟩ := (lead_rng b (b.bins.getD q 0)).resolve_left (fun h0 => by omega)
  have hgi := hb.2.2.2.2.1.1 _ (mem_at (gt_get e3))
  have q1 := hgi.1; have q2 := hgi.2.1
  refine onNat_mk e2 (gel0 (gt_get e3) ?_)
  rw [wr (n := (gt b i).1 - b.C) (by omega) (by omega), wr (n := 3 * b.S) (by omega) (by omega), wr (n := 3 * b.S + 1) (by omega) (by omega)]
  refine ifB_mk (fun c5 => ?_) (fun _ => hnext)
  have c5 := of_decide_eq_true c5
  obtain ⟨y, rfl⟩ := clu_apart b.S _ l hap cl hcl
  obtain rfl : x = y := by simpa using hxc
  have hgk : gk b x = i := by
    show gateF b (kindOf x.2.2) = i
    rw [gateF, if_neg (by omega), hq]
    exact e2
  have hsr : sortF b [x] = i := by
    have : SrP b [x] := ⟨by show gk b x ≠ -1; omega, by show x.1 - x.1 + 3 * b.S + 1 ≤ (gt b (gk b x)).1 - b.C; rw [hgk]; omega, fun y hy => by rw [List.mem_singleton.1 hy]; rfl⟩
    rw [sortF, if_pos (dc_t this)]
    exact hgk
  have : (fateF b x (sortF b [x])).2.1 = b.bins.getD q 0 := by
    rw [hsr, fateF, if_neg (by omega)]
    exact e4
  rw [this]
  exact ifB_f (by simp) hnext
end Go.Proofs.Ytmdimnmdoifkfaa
