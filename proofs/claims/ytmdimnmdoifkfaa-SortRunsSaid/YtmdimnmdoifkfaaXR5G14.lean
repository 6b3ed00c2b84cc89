/- A part of the proof. -/
import Derived.Test.YtmdimnmdoifkfaaProg
import Derived.Test.YtmdimnmdoifkfaaXR5G10
import Derived.Test.YtmdimnmdoifkfaaXR5G11
import Derived.Test.YtmdimnmdoifkfaaXR5G13
namespace Go.Proofs.Ytmdimnmdoifkfaa
open Go Go.Proofs.Ytmdimnmdoifkfaa.Clean
set_option linter.unusedVariables false
set_option linter.unusedSimpArgs false
set_option maxRecDepth 10000
def tabF (b : Bt) (u : List Sw) : List (List Int) := (List.range b.gs.length).map fun g : Nat => mv u (g : Int)
theorem tabF_length (b : Bt) (u : List Sw) : (tabF b u).length = b.gs.length := by simp [tabF]
theorem tabF_get {b : Bt} {u : List Sw} {g : Nat} (h : g < b.gs.length) : (tabF b u).getD g [] = mv u (g : Int) := by
  rw [List.getD_eq_getElem?_getD, tabF, List.getElem?_map, List.getElem?_range h]; rfl
theorem mv_len (u : List Sw) (g : Int) : (mv u g).length ≤ u.length := by rw [mv, List.length_map]; exact List.length_filter_le ..
theorem rfN_done {b : Bt} {p : Int} {u : List Sw} {x : Ft} (h : 0 ≤ x.2.1) : ∀ n k, rfN b p u n k x = some x
  | 0, _ => rfl
  | n + 1, k => by rw [rfN, if_neg (by omega)]
def cdX (b : Bt) (T : List (List Int)) (x : Fd) : Option Ft := if (lvF b x T).2 = true then some (fateF b x (lvF b x T).1) else none
theorem lv_rf {b : Bt} {u : List Sw} {x : Fd} (hb : BtP b) (hu : SwP b u) : ∀ n k, k + n = b.gs.length → rfN b x.1 u n k (kindOf x.2.2, -1, x.1 + b.L) = (if (lvN b x (tabF b u) n k).2 = true then some (fateF b x (lvN b x (tabF b u) n k).1) else none)
  | 0, k, _ => by rw [rfN, lvN, if_pos rfl, fateF, if_pos rfl]
  | n + 1, k, h => by
    have hk : k < b.gs.length := by omega
    have hgm := hb.2.2.2.2.1.1 _ (mem_at (gt_get hk))
    have q3 := hgm.2.2.1
    have hst := st_eq hb.2.1 hu (k : Int) (x.1 + (gt b k).1)
    rw [rfN, lvN, tabF_get hk, hst, if_pos (show (-1 : Int) < 0 from by decide)]
    generalize pasN b.S k (x.1 + (gt b k).1) u false = p
    obtain ⟨p1, p2⟩ := p
    cases p1 with
    | true => rw [if_pos rfl, if_pos (show code3 (true, p2) = 2 from rfl)]; rfl
    | false =>
      rw [if_neg (by simp)]
      cases p2 with
      | true =>
        rw [if_pos rfl, if_neg (show ¬ code3 (false, true) = 2 from by decide), if_pos (show code3 (false, true) = 1 from rfl), rfN_done (by exact q3), if_pos rfl, fateF, if_neg (by omega)]
      | false =>
        rw [if_neg (by simp), if_neg (show ¬ code3 (false, false) = 2 from by decide), if_neg (show ¬ code3 (false, false) = 1 from by decide)]
        exact lv_rf hb hu n (k + 1) (by omega)
theorem cd_rf {b : Bt} {u : List Sw} {x : Fd} (hb : BtP b) (hu : SwP b u) : cdX b (tabF b u) x = rfX b u x := (lv_rf hb hu b.gs.length 0 (Nat.zero_add _)).symm
theorem lvN_ok {b : Bt} {x : Fd} {T : List (List Int)} : ∀ n k, k + n ≤ b.gs.length → GtOK b (lvN b x T n k).1
  | 0, k, _ => .inl rfl
  | n + 1, k, h => by
    rw [lvN]
    split
    · exact .inl rfl
    · split
      · exact .inr ⟨k, rfl, by omega⟩
      · exact lvN_ok n (k + 1) (by omega)
noncomputable def mvV (b : Bt) (u : List Sw) : V := if dc (SwP b u) = true then .tup [.lst 1 (tbl (tabF b u)), bv true] else .tup [nilS, bv false]
noncomputable def sh29 (b : Bt) (l : List Fd) (T : List (List Int)) (F : List Ft) (k : Nat) : St := match F with
  | [] => sh29a b l T k
  | x :: f => sh29b b l T (x :: f) k
theorem sh29_b {b : Bt} {l : List Fd} {T : List (List Int)} {F : List Ft} {k : Nat} (h : F ≠ []) : sh29 b l T F k = sh29b b l T F k := by cases F with | nil => exact (h rfl).elim | cons x f => rfl
theorem run29 {b : Bt} {l : List Fd} {s : Nat} {u : List Sw} {R : V → Prop} (hmv : BtP b → ∀ {Q : V → Prop}, Q (mvV b u) → K0G Try.prog glX 69 [.agg (bel b), .lst s (swl u)] Q) (hbl : b.bins.length ≤ 1000) (hrl : Rl l) (hu : u.length ≤ 900) (h : R (runV b l u (runR b u l))) : K0G Try.prog glX 29 [.agg (bel b), .lst 3 (fdl l), .lst s (swl u)] R := by
  refine K0_of_WY0 hmX hcY 3000 Try.func29 (see (p := K0G Try.prog glX 18 [V.agg [iv b.1, iv b.2, iv b.3, V.lst 2 (gl b.4), V.lst 1 (nl b.5)]] fun v => onIntK IntKind.i64 v fun n => K0G Try.prog glX 20 [V.lst 3 (fdl l)] fun v => onIntK IntKind.i64 v fun n_1 => ifB (n != (0 : Int)) (ifB (n != (0 : Int)) (R (V.tup [nilS, iv n])) (K0G Try.prog glX 69 [V.agg [iv b.1, iv b.2, iv b.3, V.lst 2 (gl b.4), V.lst 1 (nl b.5)], V.lst s (swl u)] fun v => onTup v fun vs => onCons vs fun u r => onLst u fun s es => onCons r fun u r => onBool u fun b_1 => onNil r (ifB (!b_1) (R (V.tup [nilS, iv (8 : Int)])) (La 0 [(3 : Tmp), (9 : Tmp), (11 : Tmp), (33 : Tmp), (34 : Tmp), (35 : Tmp)] (WY Try.prog cfY 2991 (Env.mk (Bs.mk 0 []) 0 none 57 29 0) (cdAt [1, 1, 1, 1, 1, 0, 1, 0, 0] (bodyOf Try.f29))) (Qblk 0 (Qthen (WY Try.prog cfY 2994 (Env.mk (Bs.mk 0 []) 0 none 57 29 0) (cdAt [1, 1, 1, 1, 1, 1] (bodyOf Try.f29)) (QendX Try.prog Try.f29 fun v h => R (frzW h v))) (QendX Try.prog Try.f29 fun v h => R (frzW h v)))) (St.mk (mkT [(3, V.ptr (Id.p 0) 0 0), (9, V.lst s es), (11, nilS), (33, V.lst 3 (fdl l)), (34, iv (↑(fdl l).length : Int)), (35, iv (0 : Int))]) (Hp.mk [(0, O.rows 5 false [[iv b.1, iv b.2, iv b.3, V.lst 2 (gl b.4), V.lst 1 (nl b.5)]])] 1 [])))))) (ifB (n_1 != (0 : Int)) (ifB (n_1 != (0 : Int)) (R (V.tup [nilS, iv n_1])) (K0G Try.prog glX 69 [V.agg [iv b.1, iv b.2, iv b.3, V.lst 2 (gl b.4), V.lst 1 (nl b.5)], V.lst s (swl u)] fun v => onTup v fun vs => onCons vs fun u r => onLst u fun s es => onCons r fun u r => onBool u fun b_1 => onNil r (ifB (!b_1) (R (V.tup [nilS, iv (8 : Int)])) (La 0 [(3 : Tmp), (9 : Tmp), (11 : Tmp), (33 : Tmp), (34 : Tmp), (35 : Tmp)] (WY Try.prog cfY 2991 (Env.mk (Bs.mk 0 []) 0 none 57 29 0) (cdAt [1, 1, 1, 1, 1, 0, 1, 0, 0] (bodyOf Try.f29))) (Qblk 0 (Qthen (WY Try.prog cfY 2994 (Env.mk (Bs.mk 0 []) 0 none 57 29 0) (cdAt [1, 1, 1, 1, 1, 1] (bodyOf Try.f29)) (QendX Try.prog Try.f29 fun v h => R (frzW h v))) (QendX Try.prog Try.f29 fun v h => R (frzW h v)))) (St.mk (mkT [(3, V.ptr (Id.p 0) 0 0), (9, V.lst s es), (11, nilS), (33, V.lst 3 (fdl l)), (34, iv (↑(fdl l).length : Int)), (35, iv (0 : Int))]) (Hp.mk [(0, O.rows 5 false [[iv b.1, iv b.2, iv b.3, V.lst 2 (gl b.4), V.lst 1 (nl b.5)]])] 1 [])))))) (K0G Try.prog glX 69 [V.agg [iv b.1, iv b.2, iv b.3, V.lst 2 (gl b.4), V.lst 1 (nl b.5)], V.lst s (swl u)] fun v => onTup v fun vs => onCons vs fun u r => onLst u fun s es => onCons r fun u r => onBool u fun b_1 => onNil r (ifB (!b_1) (R (V.tup [nilS, iv (8 : Int)])) (La 0 [(3 : Tmp), (9 : Tmp), (11 : Tmp), (33 : Tmp), (34 : Tmp), (35 : Tmp)] (WY Try.prog cfY 2991 (Env.mk (Bs.mk 0 []) 0 none 57 29 0) (cdAt [1, 1, 1, 1, 1, 0, 1, 0, 0] (bodyOf Try.f29))) (Qblk 0 (Qthen (WY Try.prog cfY 2994 (Env.mk (Bs.mk 0 []) 0 none 57 29 0) (cdAt [1, 1, 1, 1, 1, 1] (bodyOf Try.f29)) (QendX Try.prog Try.f29 fun v h => R (frzW h v))) (QendX Try.prog Try.f29 fun v h => R (frzW h v)))) (St.mk (mkT [(3, V.ptr (Id.p 0) 0 0), (9, V.lst s es), (11, nilS), (33, V.lst 3 (fdl l)), (34, iv (↑(fdl l).length : Int)), (35, iv (0 : Int))]) (Hp.mk [(0, O.rows 5 false [[iv b.1, iv b.2, iv b.3, V.lst 2 (gl b.4), V.lst 1 (nl b.5)]])] 1 []))))))) (by kernel_rfl) ?_)
  refine belt18 hbl (onIntK_iv (fed20 hrl (onIntK_iv (ifB_mk (fun c => ?_) (fun c => ?_)))))
  · have hb : ¬ BtP b := fun hb => by rw [beltE, if_pos (dc_t hb)] at c; simp at c
    rw [runV, if_neg (by rw [dc_f (fun hp => hb hp.1)]; simp), askE, if_neg (by rw [dc_f hb]; simp)] at h
    refine ifB_t c ?_
    rw [beltE, if_neg (by rw [dc_f hb]; simp)]
    exact h
  have hb : BtP b := Classical.byContradiction fun hb => by rw [beltE, if_neg (by rw [dc_f hb]; simp)] at c; simp at c
  refine ifB_mk (fun c1 => ?_) (fun c1 => ?_)
  · have hf : ¬ FdP l := fun hf => by rw [fedE, if_pos (dc_t hf)] at c1; simp at c1
    rw [runV, if_neg (by rw [dc_f (fun hp => hf hp.2)]; simp), askE, if_pos (dc_t hb)] at h
    exact ifB_t c1 h
  have hf : FdP l := Classical.byContradiction fun hf => by rw [fedE, if_neg (by rw [dc_f hf]; simp)] at c1; simp at c1
  rw [runV, if_pos (dc_t ⟨hb, hf⟩)] at h
  refine hmv hb ?_
  by_cases hsw : SwP b u
  rotate_left
  · rw [mvV, if_neg (by rw [dc_f hsw]; simp)]
    rw [if_neg (by rw [dc_f hsw]; simp)] at h
    exact onTup_tup (onCons_cons (onLst_nil (onCons_cons (onBool_bv (onNil_nil (ifB_t rfl h))))))
  rw [if_pos (dc_t hsw)] at h
  rw [mvV, if_pos (dc_t hsw)]
  refine onTup_tup (onCons_cons (onLst_lst (onCons_cons (onBool_bv (onNil_nil (ifB_f rfl ?_))))))
  have hT := tabF_length b u
  have hm : ∀ m ∈ tabF b u, m.length ≤ 1000 ∧ m.Pairwise (· < ·) := fun m hm => by
    rw [tabF, List.mem_map] at hm
    obtain ⟨g, _, rfl⟩ := hm
    exact ⟨by have := mv_len u (g : Int); omega, mv_up hb.2.1 hsw g⟩
  have hcd : ∀ x, cdX b (tabF b u) x = rfX b u x := fun x => cd_rf hb hsw
  generalize tabF b u = T at hT hm hcd ⊢
  have hl40 : l.length ≤ 40 := hf.1
  refine La.of (σ := List Ft × Nat) (fun s => sh29 b l T s.1 s.2) (fun s => s.2 ≤ l.length ∧ s.1.length = s.2 ∧ runR b u l = (runR b u (l.drop s.2)).map (s.1 ++ ·)) (fun s => l.length - s.2) ([], 0) (by kernel_rfl) ⟨Nat.zero_le _, rfl, by simp⟩ ?_
  rintro ⟨F, k⟩ ⟨g1, g2, g3⟩ J hJ
  simp only at g1 g2 g3
  have fin : ¬ k < l.length → R (.tup [lsF F, iv 0]) := fun hk => by
    rw [List.drop_of_length_le (by omega)] at g3
    rw [g3] at h
    simpa [runR, resV] using h
  have step : ∀ p, l[k]? = some p → k < l.length → (cdX b T p = none → R (.tup [nilS, iv 92])) ∧ ∀ f, cdX b T p = some f → J (sh29 b l T (F ++ [f]) (k + 1)) := fun p hp hk => by
    rw [List.drop_eq_getElem_cons hk, (List.getElem?_eq_some_iff.1 hp).2, runR] at g3
    rw [hcd]
    refine ⟨fun hn => ?_, fun f hs => ?_⟩
    · rw [hn] at g3
      rw [g3] at h
      exact h
    · rw [hs] at g3
      refine hJ (F ++ [f], k + 1) ⟨hk, by simp [g2], ?_⟩ (by simp only; omega)
      rw [g3]
      simp only [Option.map_map]
      congr 1
      funext z
      simp
  clear hJ h g3 c c1 hcd
  by_cases hF : F = []
  · subst hF
    refine see (p := ifB (decide ((↑k : Int) < (↑(fdl l).length : Int))) (onSome (fdl l)[k]? fun row => onCons (List.drop 0 row) fun u r => onIntK IntKind.i64 u fun n => onCons r fun u r => onIntK IntKind.i64 u fun n_1 => onCons r fun u r => onLst u fun s es => K0G Try.prog glX 70 [V.agg [iv b.1, iv b.2, iv b.3, V.lst 2 (gl b.4), V.lst 1 (nl b.5)], V.agg [iv n, iv n_1, V.lst s es], V.lst 1 (tbl T)] fun v => onTup v fun vs => onCons vs fun u r => onIntK IntKind.i64 u fun n_2 => onCons r fun u r => onBool u fun b_1 => onNil r (ifB (!b_1) (R (V.tup [nilS, iv (92 : Int)])) (K0G Try.prog glX 60 [V.agg [iv b.1, iv b.2, iv b.3, V.lst 2 (gl b.4), V.lst 1 (nl b.5)], V.agg [iv n, iv n_1, V.lst s es], iv n_2] fun v => onAgg v fun cs => onCons cs fun u r => onIntK IntKind.i64 u fun n => onCons r fun u r => onIntK IntKind.i64 u fun n_3 => onCons r fun u r => onIntK IntKind.i64 u fun n_4 => onNil r (J (St.mk (mkT [(3, V.ptr (Id.p 0) 0 0), (9, V.lst 1 (tbl T)), (11, V.sl (Id.p 1) 0 1), (33, V.lst 3 (fdl l)), (34, iv (↑(fdl l).length : Int)), (35, iv (IntKind.i64.wrap ((↑k : Int) + (1 : Int))))]) (Hp.mk [(0, O.rows 5 false [[iv b.1, iv b.2, iv b.3, V.lst 2 (gl b.4), V.lst 1 (nl b.5)]]), (1, O.rows 3 true [[iv n, iv n_3, iv n_4]])] 2 [])))))) (R (V.tup [nilS, iv (0 : Int)]))) (by kernel_rfl) ?_
    rw [fdl_length]
    refine ifB_mk (fun c => ?_) (fun c => ?_)
    rotate_left
    · have hk : ¬ k < l.length := by have := of_decide_eq_false c; omega
      exact fin hk
    have hlt : k < l.length := by have := of_decide_eq_true c; omega
    obtain ⟨p, hp⟩ := getI hlt
    obtain ⟨st1, st2⟩ := step p hp hlt
    have fx := hf.2.1 p (mem_at hp)
    rw [wr1i hlt (by omega)]
    refine fel hp (leave70 hb fx hT hm (onTup_tup (onCons_cons (onIntK_iv (onCons_cons (onBool_bv (onNil_nil (ifB_mk (fun e => ?_) (fun e => ?_)))))))))
    · exact st1 (by rw [cdX, if_neg (by simpa using e)])
    · have st := st2 _ (by rw [cdX, if_pos (by simpa using e)])
      refine fate60 hb fx (lvN_ok b.gs.length 0 (by omega)) ?_
      exact hJ' (J := J) (by simp [sh29, sh29b, fdl_length, ftl, ftr, bel]) st
  · rw [show sh29 b l T (F, k).1 (F, k).2 = sh29b b l T F k from sh29_b hF]
    refine see (p := ifB (decide ((↑k : Int) < (↑(fdl l).length : Int))) (onSome (fdl l)[k]? fun row => onCons (List.drop 0 row) fun u r => onIntK IntKind.i64 u fun n => onCons r fun u r => onIntK IntKind.i64 u fun n_1 => onCons r fun u r => onLst u fun s es => K0G Try.prog glX 70 [V.agg [iv b.1, iv b.2, iv b.3, V.lst 2 (gl b.4), V.lst 1 (nl b.5)], V.agg [iv n, iv n_1, V.lst s es], V.lst 1 (tbl T)] fun v => onTup v fun vs => onCons vs fun u r => onIntK IntKind.i64 u fun n_2 => onCons r fun u r => onBool u fun b_1 => onNil r (ifB (!b_1) (R (V.tup [nilS, iv (92 : Int)])) (K0G Try.prog glX 60 [V.agg [iv b.1, iv b.2, iv b.3, V.lst 2 (gl b.4), V.lst 1 (nl b.5)], V.agg [iv n, iv n_1, V.lst s es], iv n_2] fun v => onAgg v fun cs => onCons cs fun u r => onIntK IntKind.i64 u fun n => onCons r fun u r => onIntK IntKind.i64 u fun n_3 => onCons r fun u r => onIntK IntKind.i64 u fun n_4 => onNil r (need ((F.length + 1) * 24 ≤ 140737488355328) (J (St.mk (mkT [(3, V.ptr (Id.p 0) 0 0), (9, V.lst 1 (tbl T)), (11, V.sl (Id.p 1) 0 (F.length + 1)), (33, V.lst 3 (fdl l)), (34, iv (↑(fdl l).length : Int)), (35, iv (IntKind.i64.wrap ((↑k : Int) + (1 : Int))))]) (Hp.mk [(0, O.rows 5 false [[iv b.1, iv b.2, iv b.3, V.lst 2 (gl b.4), V.lst 1 (nl b.5)]]), (1, O.rows 3 true (List.take F.length (ftl F) ++ [[iv n, iv n_3, iv n_4]]))] 2 []))))))) (R (V.tup [V.lst 3 (sub (ftl F) 0 F.length), iv (0 : Int)]))) (by kernel_rfl) ?_
    rw [fdl_length]
    refine ifB_mk (fun c => ?_) (fun c => ?_)
    rotate_left
    · have hk : ¬ k < l.length := by have := of_decide_eq_false c; omega
      rw [sub_all (ftl_length F).symm]
      have := fin hk
      cases F with
      | nil => exact (hF rfl).elim
      | cons y f => exact this
    have hlt : k < l.length := by have := of_decide_eq_true c; omega
    obtain ⟨p, hp⟩ := getI hlt
    obtain ⟨st1, st2⟩ := step p hp hlt
    have fx := hf.2.1 p (mem_at hp)
    rw [wr1i hlt (by omega)]
    refine fel hp (leave70 hb fx hT hm (onTup_tup (onCons_cons (onIntK_iv (onCons_cons (onBool_bv (onNil_nil (ifB_mk (fun e => ?_) (fun e => ?_)))))))))
    · exact st1 (by rw [cdX, if_neg (by simpa using e)])
    · have st := st2 _ (by rw [cdX, if_pos (by simpa using e)])
      refine fate60 hb fx (lvN_ok b.gs.length 0 (by omega)) ?_
      exact need_mk ⟨by omega, hJ' (J := J) (by rw [ftl_take, sh29_b (app_ne _ _)]; simp [sh29b, fdl_length, ftl, ftr, bel]) st⟩
end Go.Proofs.Ytmdimnmdoifkfaa
namespace Go.Proofs.Ytmdimnmdoifkfaa
open Go Go.Proofs.Ytmdimnmdoifkfaa.Clean
set_option linter.unusedVariables false
set_option linter.unusedSimpArgs false
set_option maxRecDepth 10000
theorem runR_len {b : Bt} {u : List Sw} : ∀ {l : List Fd} {F : List Ft}, runR b u l = some F → F.length = l.length
  | [], F, h => by rw [runR] at h; cases h; rfl
  | x :: l, F, h => by
    rw [runR] at h
    cases hx : rfX b u x with
    | none => rw [hx] at h; cases h
    | some f =>
      rw [hx] at h
      cases hr : runR b u l with
      | none => rw [hr] at h; cases h
      | some G =>
        rw [hr] at h
        cases h
        simp [runR_len hr]
theorem runV_cases {b : Bt} {l : List Fd} {u : List Sw} : ∃ (F : List Ft) (e : Int), runV b l u (runR b u l) = .tup [lsF F, iv e] ∧ F.length ≤ l.length := by
  unfold runV
  split
  · split
    · cases h : runR b u l with
      | none => exact ⟨[], 92, rfl, by simp⟩
      | some F => exact ⟨F, 0, rfl, by rw [runR_len h]; exact Nat.le_refl _⟩
    · exact ⟨[], 8, rfl, by simp⟩
  · exact ⟨[], _, rfl, by simp⟩
theorem law5 (hmv : ∀ {b : Bt} {s : Nat} {u : List Sw}, BtP b → u.length ≤ 900 → (∀ x ∈ u, In64 x.1) → (u = [] ∨ s = 3) → ∀ {Q : V → Prop}, Q (mvV b u) → K0G Try.prog glX 69 [.agg (bel b), .lst s (swl u)] Q) {b : Bt} {l : List Fd} {u : List Sw} {R : V → Prop} (hI : ∀ x ∈ u, In64 x.1) (h : R (bv true)) : K0G Try.prog glX 5 [.agg (bel b), .lst 3 (fdl l), .lst 3 (swl u)] R := by
  refine K0_of_WY0 hmX hcY 3000 Try.func5 (see (p := K0G Try.prog glX 15 [V.agg [iv b.1, iv b.2, iv b.3, V.lst 2 (gl b.4), V.lst 1 (nl b.5)], V.lst 3 (fdl l)] fun v => onBool v fun b_1 => ifB b_1 (R (bv true)) (ifB (decide ((↑(swl u).length : Int) > (100 : Int))) (R (bv true)) (K0G Try.prog glX 29 [V.agg [iv b.1, iv b.2, iv b.3, V.lst 2 (gl b.4), V.lst 1 (nl b.5)], V.lst 3 (fdl l), V.lst 3 (swl u)] fun v => onTup v fun vs => onCons vs fun u_1 r => onLst u_1 fun s es => onCons r fun u_2 r => onIntK IntKind.i64 u_2 fun n => onNil r (K0G Try.prog glX 30 [V.agg [iv b.1, iv b.2, iv b.3, V.lst 2 (gl b.4), V.lst 1 (nl b.5)], V.lst 3 (fdl l), V.lst 3 (swl u)] fun v => onTup v fun vs => onCons vs fun u r => onLst u fun s_1 es_1 => onCons r fun u r => onIntK IntKind.i64 u fun n_1 => onNil r (K0G Try.prog glX 27 [V.lst s es, V.lst s_1 es_1] fun v => onBool v fun b => ifB b (R (bv (n == n_1))) (R (bv false))))))) (by kernel_rfl) ?_)
  refine great15 (onBool_bv (ifB_mk (fun _ => h) (fun c => ifB_mk (fun _ => h) (fun c1 => ?_))))
  have hs : Sm b l := Classical.not_not.1 (dc_false c)
  have hu : u.length ≤ 900 := by rw [swl_length] at c1; have := of_decide_eq_false c1; omega
  have hl60 : l.length ≤ 60 := hs.2.2.1
  obtain ⟨F, e, hv, hFl⟩ := runV_cases (b := b) (l := l) (u := u)
  obtain ⟨s, hs3, hls⟩ := lsF_cases F
  refine run29 (fun hb => hmv hb hu hI (.inr rfl)) (sm_bins hs) (sm_rl hs) hu ?_
  rw [hv]
  refine onTup_tup (onCons_cons (hls _ (onCons_cons (onIntK_iv (onNil_nil (run30 (sm_rl hs) hu hI ?_))))))
  rw [hv]
  refine onTup_tup (onCons_cons (hls _ (onCons_cons (onIntK_iv (onNil_nil (same27 (by omega) hs3 hs3 (onBool_bv (ifB_t rfl ?_))))))))
  rw [beq_self_eq_true]
  exact h
end Go.Proofs.Ytmdimnmdoifkfaa
namespace Go.Proofs.Ytmdimnmdoifkfaa
open Go Go.Proofs.Ytmdimnmdoifkfaa.Clean
set_option linter.unusedVariables false
set_option linter.unusedSimpArgs false
set_option maxRecDepth 10000
structure Cl (b : Bt) (l : List Fd) (i : Nat) (g : Int) (m : Nat) : Prop where
  blk : Blk b.S l i m
  gate : sortI b l i = g
  ok : g ≠ -1
end Go.Proofs.Ytmdimnmdoifkfaa
namespace Go.Proofs.Ytmdimnmdoifkfaa
open Go Go.Proofs.Ytmdimnmdoifkfaa.Clean
set_option linter.unusedVariables false
set_option linter.unusedSimpArgs false
set_option maxRecDepth 10000
end Go.Proofs.Ytmdimnmdoifkfaa
namespace Go.Proofs.Ytmdimnmdoifkfaa
open Go Go.Proofs.Ytmdimnmdoifkfaa.Clean
set_option linter.unusedVariables false
set_option linter.unusedSimpArgs false
set_option maxRecDepth 10000
end Go.Proofs.Ytmdimnmdoifkfaa
namespace Go.Proofs.Ytmdimnmdoifkfaa
open Go Go.Proofs.Ytmdimnmdoifkfaa.Clean
set_option linter.unusedVariables false
set_option maxRecDepth 100000
def kp69 : FuncId → Nat → Option (List Tmp) := slotsOf [(69, 0, [1, 2, 6, 14, 15, 16, 1000001])]
noncomputable def cf69 : Cfg := { cfgM Try.prog glX moT tyT (inN [54, 57, 61, 75, 95, 96, 97, 99, 109, 113, 114]) kp69 with fz := fun f t => inN [69] f && inN [1000050, 1000056, 1000067] t }
noncomputable def sh69 (b : Bt) (s : Nat) (u : List Sw) (L : Nat) (r : List (List V)) (ms : List (Option (List (List V)))) (k : Nat) : St := ⟨mkT [(1, V.lst s (swl u)), (2, V.ptr (Id.p 0) 0 0), (6, V.sl (Id.p 1) 0 L), (14, V.lst s (swl u)), (15, iv ((swl u).length : Int)), (16, iv (k : Int))], ⟨[(0, O.rows 5 false [bel b]), (1, O.rows 1 false r)], 2, [(0, ⟨1, ms⟩)]⟩⟩
end Go.Proofs.Ytmdimnmdoifkfaa
