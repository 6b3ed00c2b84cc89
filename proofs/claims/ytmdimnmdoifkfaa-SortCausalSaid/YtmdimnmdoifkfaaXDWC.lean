/- The reference's swings; lists that are the same. -/
import Derived.Test.YtmdimnmdoifkfaaXDWB
namespace Go.Proofs.Ytmdimnmdoifkfaa
open Go Go.Proofs.Ytmdimnmdoifkfaa.Clean
set_option linter.unusedVariables false
set_option linter.unusedSimpArgs false
set_option maxRecDepth 10000

theorem K0_args {P : Program} {G : Nat → Option (List V)} {f : FuncId} {args args' : List V} {R : V → Prop} (h : K0G P G f args R) (hr : ∀ F w xs, riL F w args' xs → riL F w args xs) : K0G P G f args' R := fun F w xs g1 g2 g3 => h F w xs g1 g2 (hr F w xs g3)
theorem putn67 {x : Sw} {R : V → Prop} (h : R (.lst 3 (swl (putF [] x)))) : K0G Try.prog glX 67 [nilS, .agg (swr x)] R :=
  K0_args (put67 (l := []) (x := x) (by simp) h) (fun F w xs hx => by
    simp [riL, ri, swl, riRows, nilS] at hx ⊢
    obtain ⟨a, c, h1, h2, h3⟩ := hx
    exact ⟨a, c, h1, .inl h2, h3⟩)
def outI (b : Bt) (l : List Fd) (k : Nat) (g : Int) : Sw := ((fd l k).1 + (gt b g).1 - b.S, g, true)
def backI (b : Bt) (l : List Fd) (k : Nat) (g : Int) : Sw := ((fd l (lastI b.S l k)).1 + (gt b g).1 + 1, g, false)
noncomputable def rstep (b : Bt) (l : List Fd) (F : List Sw) (k : Nat) : List Sw := if sortI b l k = -1 ∨ firstF b.S l k ≠ k then F else putF (putF F (outI b l k (sortI b l k))) (backI b l k (sortI b l k))
noncomputable def rsw (b : Bt) (l : List Fd) : Nat → List Sw
  | 0 => []
  | k + 1 => rstep b l (rsw b l k) k
theorem rsw_len (b : Bt) (l : List Fd) : ∀ k, (rsw b l k).length ≤ 2 * k
  | 0 => Nat.le_refl _
  | k + 1 => by
    have := rsw_len b l k
    rw [rsw, rstep]
    split
    · omega
    · rw [putF_length, putF_length]; omega
noncomputable def refW (b : Bt) (l : List Fd) : V := if dc (BtP b ∧ FdP l) = true then .tup [lsW (rsw b l l.length), iv 0] else .tup [nilS, iv (askE b l)]
noncomputable def sh25 (b : Bt) (l : List Fd) (s : List Sw × Nat) : St := match s.1 with
  | [] => sh25a b l s.2
  | x :: t => sh25b b l (x :: t) s.2
theorem sh25_b {b : Bt} {l : List Fd} {F : List Sw} {k : Nat} (h : F ≠ []) : sh25 b l (F, k) = sh25b b l F k := by cases F with | nil => exact (h rfl).elim | cons x t => rfl
theorem swings25 {b : Bt} {l : List Fd} {R : V → Prop} (hrl : Rl l) (h : R (refW b l)) : K0G Try.prog glX 25 [.agg (bel b), .lst 3 (fdl l)] R := by
  refine K0_of_WY0 hmX hcR 3000 Try.func25 (see (p := K0G Try.prog glX 45 [V.agg [iv b.1, iv b.2, iv b.3, V.lst 2 (gl b.4), V.lst 1 (nl b.5)]] fun v => onBool v fun b_1 => ifB (!b_1) (R (V.tup [nilS, iv (90 : Int)])) (K0G Try.prog glX 21 [V.lst 3 (fdl l)] fun v => onIntK IntKind.i64 v fun n => ifB (n != (0 : Int)) (R (V.tup [nilS, iv n])) (La 0 [(1 : Tmp), (2 : Tmp), (7 : Tmp), (8 : Tmp)] (WY Try.prog cfR 2993 (Env.mk (Bs.mk 0 []) 0 none 73 25 0) (cdAt [1, 1, 1, 0, 1, 0, 0] (bodyOf Try.f25))) (Qblk 0 (Qthen (WY Try.prog cfR 2996 (Env.mk (Bs.mk 0 []) 0 none 73 25 0) (cdAt [1, 1, 1, 1] (bodyOf Try.f25)) (QendX Try.prog Try.f25 fun v h => R (frzW h v))) (QendX Try.prog Try.f25 fun v h => R (frzW h v)))) (St.mk (mkT [(1, V.lst 3 (fdl l)), (2, V.ptr (Id.p 0) 0 0), (7, nilS), (8, iv (0 : Int))]) (Hp.mk [(0, O.rows 5 false [[iv b.1, iv b.2, iv b.3, V.lst 2 (gl b.4), V.lst 1 (nl b.5)]])] 1 []))))) (by kernel_rfl) ?_)
  have bad : ¬ (BtP b ∧ FdP l) → R (.tup [nilS, iv (askE b l)]) := fun hn => by rw [refW, if_neg (by rw [dc_f hn]; simp)] at h; exact h
  refine belt45 (onBool_bv (ifB_mk (fun c => ?_) (fun c => ?_)))
  · have hb : ¬ BtP b := fun hb => by rw [dc_t hb] at c; cases c
    have g := bad (fun hp => hb hp.1)
    rw [askE, if_neg (by rw [dc_f hb]; simp)] at g; exact g
  have hb : BtP b := dc_true (by simpa using c)
  refine fed21 hrl (onIntK_iv (ifB_mk (fun c => ?_) (fun c => ?_)))
  · have hf : ¬ FdP l := fun hf => by rw [fedE, if_pos (dc_t hf)] at c; cases c
    have g := bad (fun hp => hf hp.2)
    rw [askE, if_pos (dc_t hb)] at g; exact g
  have hf : FdP l := Classical.byContradiction (fun hf => by rw [fedE, if_neg (by rw [dc_f hf]; simp)] at c; cases c)
  rw [refW, if_pos (dc_t ⟨hb, hf⟩)] at h
  have hll : l.length ≤ 40 := hf.1
  have hS := hb.2.1
  have hS' := hb.2.2.1
  obtain ⟨hC1, hC2, hC3, hC4⟩ := hb.1
  refine La.of (σ := List Sw × Nat) (fun s => sh25 b l s) (fun s => s.2 ≤ l.length ∧ s.1 = rsw b l s.2) (fun s => l.length - s.2) ([], 0) (by kernel_rfl) ⟨by simp, rfl⟩ ?_
  rintro ⟨F, k⟩ ⟨g1, g2⟩ J hJ
  simp only at g1 g2
  have hlen := rsw_len b l k
  rw [← g2] at hlen
  have next : k < l.length → ∀ E, E = rstep b l F k → J (sh25 b l (E, k + 1)) := fun hk E hE => hJ (E, k + 1) ⟨hk, by simp only [rsw]; rw [← g2]; exact hE⟩ (by simp only; omega)
  have body : k < l.length → ∀ (A : V) (Q0 : Prop) (Q1 : Nat → List (List V) → Prop), (∀ (x : Sw) (R : V → Prop), R (.lst 3 (swl (putF F x))) → K0G Try.prog glX 67 [A, .agg (swr x)] R) → (J (sh25 b l (F, k + 1)) → Q0) → (∀ E, E ≠ [] → J (sh25b b l E (k + 1)) → Q1 3 (swl E)) →
      K0G Try.prog glX 62 [V.agg (bel b), V.lst 3 (fdl l), iv (k : Int)] fun v => onIntK IntKind.i64 v fun n => ifB (decide (n < (0 : Int))) Q0 (K0G Try.prog glX 66 [V.agg (bel b), V.lst 3 (fdl l), iv (k : Int)] fun v => onIntK IntKind.i64 v fun n_1 => ifB (n_1 != (k : Int)) Q0 (onNat n fun m => onSome (gl b.4)[m]? fun row => onSome row[0]? fun v => onIntK IntKind.i64 v fun n_2 => onSome (fdl l)[k]? fun row => onSome row[0]? fun v => onIntK IntKind.i64 v fun n_3 => K0G Try.prog glX 67 [A, V.agg [iv (IntKind.i64.wrap (IntKind.i64.wrap (n_3 + n_2) - b.3)), iv n, bv true]] fun v => onLst v fun s es => K0G Try.prog glX 68 [V.agg (bel b), V.lst 3 (fdl l), iv (k : Int)] fun v => onIntK IntKind.i64 v fun n_4 => onNat n_4 fun m => onSome (fdl l)[m]? fun row => onSome row[0]? fun v => onIntK IntKind.i64 v fun n_5 => K0G Try.prog glX 67 [V.lst s es, V.agg [iv (IntKind.i64.wrap (IntKind.i64.wrap (n_5 + n_2) + (1 : Int))), iv n, bv false]] fun v => onLst v fun s es => Q1 s es)) := fun hk A Q0 Q1 hA h0 h1 => by
    have hr := sortI_rng b l k
    have hst : ∀ E, E = rstep b l F k → J (sh25 b l (E, k + 1)) := next hk
    rw [rstep] at hst
    refine sorted62 hb hf hk (onIntK_iv ?_)
    generalize sortI b l k = g at hr hst
    refine ifB_mk (fun c => h0 (hst F (by rw [if_pos (.inl (hr.resolve_right (fun ⟨m, e, _⟩ => by have := of_decide_eq_true c; omega)))]))) (fun c => ?_)
    obtain ⟨m, hg, hm⟩ := hr.resolve_left (fun e => by have := of_decide_eq_false c; omega)
    refine first66 hb hf hk (onIntK_iv (ifB_mk (fun d => h0 (hst F (by rw [if_pos (.inr (fun e => by rw [e] at d; simp at d))]))) (fun d => ?_)))
    have hfk : firstF b.S l k = k := by have : ((firstF b.S l k : Nat) : Int) = k := by simpa using d
                                        omega
    have hgm := hb.2.2.2.2.1.1 _ (mem_at (gt_get hm))
    have a5 := hgm.1; have a6 := hgm.2.1
    have hgt : gt b g = gt b m := by rw [hg]
    obtain ⟨q1, q2⟩ := lastF_rng b.S l (l.length - k) k hk
    change lastI b.S l k < l.length at q2
    have fx := hf.2.1 _ (mem_at (fd_get hk))
    have fy := hf.2.1 _ (mem_at (fd_get q2))
    have a1 := fx.1; have a2 := fx.2.1; have a3 := fy.1; have a4 := fy.2.1
    refine onNat_mk hg (gel0 (gt_get hm) (fel0 (fd_get hk) ?_))
    rw [wr (n := (fd l k).1 + (gt b m).1) (by omega) (by omega), wr (n := (fd l k).1 + (gt b m).1 - b.S) (by omega) (by omega)]
    refine hA ((fd l k).1 + (gt b m).1 - b.S, g, true) _ (onLst_lst (last68 hb hf hk (onIntK_iv (onNat_mk rfl (fel0 (fd_get q2) ?_)))))
    rw [wr (n := (fd l (lastI b.S l k)).1 + (gt b m).1) (by omega) (by omega), wr (n := (fd l (lastI b.S l k)).1 + (gt b m).1 + 1) (by omega) (by omega)]
    refine put67 (x := ((fd l (lastI b.S l k)).1 + (gt b m).1 + 1, g, false)) (by rw [putF_length]; omega) (onLst_lst (h1 _ (putF_ne _ _) ?_))
    have g := hst (putF (putF F (outI b l k g)) (backI b l k g)) (by rw [if_neg (by rintro (e | e); omega; exact e hfk)])
    rw [sh25_b (putF_ne _ _), outI, backI, hgt] at g
    exact g
  by_cases hF : F = []
  · rw [show sh25 b l (F, k) = sh25a b l k from by subst hF; rfl]
    clear hJ
    refine see (p := ifB (decide ((↑k : Int) < (↑(fdl l).length : Int))) (K0G Try.prog glX 62 [V.agg [iv b.1, iv b.2, iv b.3, V.lst 2 (gl b.4), V.lst 1 (nl b.5)], V.lst 3 (fdl l), iv (↑k : Int)] fun v => onIntK IntKind.i64 v fun n => ifB (decide (n < (0 : Int))) (J (St.mk (mkT [(1, V.lst 3 (fdl l)), (2, V.ptr (Id.p 0) 0 0), (7, nilS), (8, iv (IntKind.i64.wrap ((↑k : Int) + (1 : Int))))]) (Hp.mk [(0, O.rows 5 false [[iv b.1, iv b.2, iv b.3, V.lst 2 (gl b.4), V.lst 1 (nl b.5)]])] 1 []))) (K0G Try.prog glX 66 [V.agg [iv b.1, iv b.2, iv b.3, V.lst 2 (gl b.4), V.lst 1 (nl b.5)], V.lst 3 (fdl l), iv (↑k : Int)] fun v => onIntK IntKind.i64 v fun n_1 => ifB (n_1 != (↑k : Int)) (J (St.mk (mkT [(1, V.lst 3 (fdl l)), (2, V.ptr (Id.p 0) 0 0), (7, nilS), (8, iv (IntKind.i64.wrap ((↑k : Int) + (1 : Int))))]) (Hp.mk [(0, O.rows 5 false [[iv b.1, iv b.2, iv b.3, V.lst 2 (gl b.4), V.lst 1 (nl b.5)]])] 1 []))) (onNat n fun m => onSome (gl b.4)[m]? fun row => onSome row[0]? fun v => onIntK IntKind.i64 v fun n_2 => onSome (fdl l)[k]? fun row => onSome row[0]? fun v => onIntK IntKind.i64 v fun n_3 => K0G Try.prog glX 67 [nilS, V.agg [iv (IntKind.i64.wrap (IntKind.i64.wrap (n_3 + n_2) - b.3)), iv n, bv true]] fun v => onLst v fun s es => K0G Try.prog glX 68 [V.agg [iv b.1, iv b.2, iv b.3, V.lst 2 (gl b.4), V.lst 1 (nl b.5)], V.lst 3 (fdl l), iv (↑k : Int)] fun v => onIntK IntKind.i64 v fun n_4 => onNat n_4 fun m => onSome (fdl l)[m]? fun row => onSome row[0]? fun v => onIntK IntKind.i64 v fun n_5 => K0G Try.prog glX 67 [V.lst s es, V.agg [iv (IntKind.i64.wrap (IntKind.i64.wrap (n_5 + n_2) + (1 : Int))), iv n, bv false]] fun v => onLst v fun s es => J (St.mk (mkT [(1, V.lst 3 (fdl l)), (2, V.ptr (Id.p 0) 0 0), (7, V.lst s es), (8, iv (IntKind.i64.wrap ((↑k : Int) + (1 : Int))))]) (Hp.mk [(0, O.rows 5 false [[iv b.1, iv b.2, iv b.3, V.lst 2 (gl b.4), V.lst 1 (nl b.5)]])] 1 []))))) (R (V.tup [nilS, iv (0 : Int)]))) (by kernel_rfl) ?_
    rw [fdl_length]
    refine ifB_mk (fun c => ?_) (fun c => ?_)
    · have hlt : k < l.length := by have := of_decide_eq_true c; omega
      rw [wr1i hlt (by omega)]
      refine body hlt nilS (J (St.mk (mkT [(1, V.lst 3 (fdl l)), (2, V.ptr (Id.p 0) 0 0), (7, nilS), (8, iv ((k + 1 : Nat) : Int))]) (Hp.mk [(0, O.rows 5 false [bel b])] 1 []))) (fun s es => J (St.mk (mkT [(1, V.lst 3 (fdl l)), (2, V.ptr (Id.p 0) 0 0), (7, V.lst s es), (8, iv ((k + 1 : Nat) : Int))]) (Hp.mk [(0, O.rows 5 false [bel b])] 1 []))) (fun x R' hx => putn67 (by rw [hF] at hx; exact hx)) (fun g => by rw [hF] at g; exact g) (fun E hE g => g)
    · have hkl : k = l.length := by have := of_decide_eq_false c; omega
      rw [← hkl, ← g2, hF] at h
      exact h
  · rw [sh25_b hF]
    clear hJ
    refine see (p := ifB (decide ((↑k : Int) < (↑(fdl l).length : Int))) (K0G Try.prog glX 62 [V.agg [iv b.1, iv b.2, iv b.3, V.lst 2 (gl b.4), V.lst 1 (nl b.5)], V.lst 3 (fdl l), iv (↑k : Int)] fun v => onIntK IntKind.i64 v fun n => ifB (decide (n < (0 : Int))) (J (St.mk (mkT [(1, V.lst 3 (fdl l)), (2, V.ptr (Id.p 0) 0 0), (7, V.lst 3 (swl F)), (8, iv (IntKind.i64.wrap ((↑k : Int) + (1 : Int))))]) (Hp.mk [(0, O.rows 5 false [[iv b.1, iv b.2, iv b.3, V.lst 2 (gl b.4), V.lst 1 (nl b.5)]])] 1 []))) (K0G Try.prog glX 66 [V.agg [iv b.1, iv b.2, iv b.3, V.lst 2 (gl b.4), V.lst 1 (nl b.5)], V.lst 3 (fdl l), iv (↑k : Int)] fun v => onIntK IntKind.i64 v fun n_1 => ifB (n_1 != (↑k : Int)) (J (St.mk (mkT [(1, V.lst 3 (fdl l)), (2, V.ptr (Id.p 0) 0 0), (7, V.lst 3 (swl F)), (8, iv (IntKind.i64.wrap ((↑k : Int) + (1 : Int))))]) (Hp.mk [(0, O.rows 5 false [[iv b.1, iv b.2, iv b.3, V.lst 2 (gl b.4), V.lst 1 (nl b.5)]])] 1 []))) (onNat n fun m => onSome (gl b.4)[m]? fun row => onSome row[0]? fun v => onIntK IntKind.i64 v fun n_2 => onSome (fdl l)[k]? fun row => onSome row[0]? fun v => onIntK IntKind.i64 v fun n_3 => K0G Try.prog glX 67 [V.lst 3 (swl F), V.agg [iv (IntKind.i64.wrap (IntKind.i64.wrap (n_3 + n_2) - b.3)), iv n, bv true]] fun v => onLst v fun s es => K0G Try.prog glX 68 [V.agg [iv b.1, iv b.2, iv b.3, V.lst 2 (gl b.4), V.lst 1 (nl b.5)], V.lst 3 (fdl l), iv (↑k : Int)] fun v => onIntK IntKind.i64 v fun n_4 => onNat n_4 fun m => onSome (fdl l)[m]? fun row => onSome row[0]? fun v => onIntK IntKind.i64 v fun n_5 => K0G Try.prog glX 67 [V.lst s es, V.agg [iv (IntKind.i64.wrap (IntKind.i64.wrap (n_5 + n_2) + (1 : Int))), iv n, bv false]] fun v => onLst v fun s es => J (St.mk (mkT [(1, V.lst 3 (fdl l)), (2, V.ptr (Id.p 0) 0 0), (7, V.lst s es), (8, iv (IntKind.i64.wrap ((↑k : Int) + (1 : Int))))]) (Hp.mk [(0, O.rows 5 false [[iv b.1, iv b.2, iv b.3, V.lst 2 (gl b.4), V.lst 1 (nl b.5)]])] 1 []))))) (R (V.tup [V.lst 3 (swl F), iv (0 : Int)]))) (by kernel_rfl) ?_
    rw [fdl_length]
    refine ifB_mk (fun c => ?_) (fun c => ?_)
    · have hlt : k < l.length := by have := of_decide_eq_true c; omega
      rw [wr1i hlt (by omega)]
      refine body hlt (V.lst 3 (swl F)) (J (St.mk (mkT [(1, V.lst 3 (fdl l)), (2, V.ptr (Id.p 0) 0 0), (7, V.lst 3 (swl F)), (8, iv ((k + 1 : Nat) : Int))]) (Hp.mk [(0, O.rows 5 false [bel b])] 1 []))) (fun s es => J (St.mk (mkT [(1, V.lst 3 (fdl l)), (2, V.ptr (Id.p 0) 0 0), (7, V.lst s es), (8, iv ((k + 1 : Nat) : Int))]) (Hp.mk [(0, O.rows 5 false [bel b])] 1 []))) (fun x R' hx => put67 (by omega) hx) (fun g => by rw [sh25_b hF] at g; exact g) (fun E hE g => g)
    · have hkl : k = l.length := by have := of_decide_eq_false c; omega
      rw [← hkl, ← g2] at h
      rw [show lsW F = .lst 3 (swl F) from by cases F with | nil => exact (hF rfl).elim | cons x t => rfl] at h
      exact h
theorem same27 {s s' : Nat} {l : List Ft} {R : V → Prop} (hl : l.length ≤ 900) (hs : l = [] ∨ s = 3) (hs' : l = [] ∨ s' = 3) (h : R (bv true)) : K0G Try.prog glX 27 [.lst s (ftl l), .lst s' (ftl l)] R := by
  obtain ⟨m, hm⟩ : ∃ m, m = l := ⟨l, rfl⟩
  rw [show [V.lst s (ftl l), V.lst s' (ftl l)] = [V.lst s (ftl l), V.lst s' (ftl m)] from by rw [hm]]
  refine K0_of_WY0 hmX hcR 3000 Try.func27 (see (p := ifB ((↑(ftl l).length : Int) != (↑(ftl m).length : Int)) (R (bv false)) (La 0 [(0 : Tmp), (1 : Tmp), (5 : Tmp)] (WY Try.prog cfR 2994 (Env.mk (Bs.mk 0 []) 0 none 26 27 0) (cdAt [1, 1, 0, 1, 0, 0] (bodyOf Try.f27))) (Qblk 0 (Qthen (WY Try.prog cfR 2997 (Env.mk (Bs.mk 0 []) 0 none 26 27 0) (cdAt [1, 1, 1] (bodyOf Try.f27)) (QendX Try.prog Try.f27 fun v h => R (frzW h v))) (QendX Try.prog Try.f27 fun v h => R (frzW h v)))) (St.mk (mkT [(0, V.lst s (ftl l)), (1, V.lst s' (ftl m)), (5, iv (0 : Int))]) (Hp.mk [] 0 [])))) (by kernel_rfl) ?_)
  refine ifB_f (by rw [hm]; simp) ?_
  refine La.of (σ := Nat) (fun k => sh27 s s' l m k) (fun k => k ≤ l.length) (fun k => l.length - k) 0 (by kernel_rfl) (by omega) ?_
  rintro k g1 J hJ
  refine see (p := ifB (decide ((↑k : Int) < (↑(ftl l).length : Int))) (need (s = 3) (onSome (ftl l)[k]? fun row => onCons (List.drop 0 row) fun u r => onIntK IntKind.i64 u fun n => onCons r fun u r => onIntK IntKind.i64 u fun n_1 => onCons r fun u r => onIntK IntKind.i64 u fun n_2 => need (s' = 3) (onSome (ftl m)[k]? fun row => onCons (List.drop 0 row) fun u r => onIntK IntKind.i64 u fun n_3 => onCons r fun u r => onIntK IntKind.i64 u fun n_4 => onCons r fun u r => onIntK IntKind.i64 u fun n_5 => ifB (!(fun b => n == n_3 && b) ((fun b => n_1 == n_4 && b) ((fun b => n_2 == n_5 && b) true))) (R (bv false)) (J (St.mk (mkT [(0, V.lst s (ftl l)), (1, V.lst s' (ftl m)), (5, iv (IntKind.i64.wrap ((↑k : Int) + (1 : Int))))]) (Hp.mk [] 0 [])))))) (R (bv true))) (by kernel_rfl) ?_
  refine ifB_mk (fun c => ?_) (fun _ => h)
  have hlt : k < l.length := by rw [ftl_length] at c; have := of_decide_eq_true c; omega
  have hne : l ≠ [] := fun e => by rw [e] at hlt; simp at hlt
  obtain ⟨x, hx⟩ := getI hlt
  rw [wr (n := (k : Int) + 1) (by omega) (by omega)]
  refine need_mk ⟨hs.resolve_left hne, ftel hx (need_mk ⟨hs'.resolve_left hne, ftel (F := m) (by rw [hm]; exact hx) (ifB_f (by simp) ?_)⟩)⟩
  exact hJ (k + 1) hlt (by omega)
theorem same28 {s s' : Nat} {l : List Sw} {R : V → Prop} (hl : l.length ≤ 900) (hs : l = [] ∨ s = 3) (hs' : l = [] ∨ s' = 3) (h : R (bv true)) : K0G Try.prog glX 28 [.lst s (swl l), .lst s' (swl l)] R := by
  obtain ⟨m, hm⟩ : ∃ m, m = l := ⟨l, rfl⟩
  rw [show [V.lst s (swl l), V.lst s' (swl l)] = [V.lst s (swl l), V.lst s' (swl m)] from by rw [hm]]
  refine K0_of_WY0 hmX hcR 3000 Try.func28 (see (p := ifB ((↑(swl l).length : Int) != (↑(swl m).length : Int)) (R (bv false)) (La 0 [(0 : Tmp), (1 : Tmp), (5 : Tmp)] (WY Try.prog cfR 2994 (Env.mk (Bs.mk 0 []) 0 none 26 28 0) (cdAt [1, 1, 0, 1, 0, 0] (bodyOf Try.f28))) (Qblk 0 (Qthen (WY Try.prog cfR 2997 (Env.mk (Bs.mk 0 []) 0 none 26 28 0) (cdAt [1, 1, 1] (bodyOf Try.f28)) (QendX Try.prog Try.f28 fun v h => R (frzW h v))) (QendX Try.prog Try.f28 fun v h => R (frzW h v)))) (St.mk (mkT [(0, V.lst s (swl l)), (1, V.lst s' (swl m)), (5, iv (0 : Int))]) (Hp.mk [] 0 [])))) (by kernel_rfl) ?_)
  refine ifB_f (by rw [hm]; simp) ?_
  refine La.of (σ := Nat) (fun k => sh28 s s' l m k) (fun k => k ≤ l.length) (fun k => l.length - k) 0 (by kernel_rfl) (by omega) ?_
  rintro k g1 J hJ
  refine see (p := ifB (decide ((↑k : Int) < (↑(swl l).length : Int))) (need (s = 3) (onSome (swl l)[k]? fun row => onCons (List.drop 0 row) fun u r => onIntK IntKind.i64 u fun n => onCons r fun u r => onIntK IntKind.i64 u fun n_1 => onCons r fun u r => onBool u fun b => need (s' = 3) (onSome (swl m)[k]? fun row => onCons (List.drop 0 row) fun u r => onIntK IntKind.i64 u fun n_2 => onCons r fun u r => onIntK IntKind.i64 u fun n_3 => onCons r fun u r => onBool u fun b_1 => ifB (!(fun b => n == n_2 && b) ((fun b => n_1 == n_3 && b) ((fun b_2 => b == b_1 && b_2) true))) (R (bv false)) (J (St.mk (mkT [(0, V.lst s (swl l)), (1, V.lst s' (swl m)), (5, iv (IntKind.i64.wrap ((↑k : Int) + (1 : Int))))]) (Hp.mk [] 0 [])))))) (R (bv true))) (by kernel_rfl) ?_
  refine ifB_mk (fun c => ?_) (fun _ => h)
  have hlt : k < l.length := by rw [swl_length] at c; have := of_decide_eq_true c; omega
  have hne : l ≠ [] := fun e => by rw [e] at hlt; simp at hlt
  obtain ⟨x, hx⟩ := getI hlt
  rw [wr (n := (k : Int) + 1) (by omega) (by omega)]
  refine need_mk ⟨hs.resolve_left hne, swel hx (need_mk ⟨hs'.resolve_left hne, swel (l := m) (by rw [hm]; exact hx) (ifB_f (by simp) ?_)⟩)⟩
  exact hJ (k + 1) hlt (by omega)
theorem same26 {l : List Int} {R : V → Prop} (hl : l.length ≤ 900) (h : R (bv true)) : K0G Try.prog glX 26 [.lst 1 (nl l), .lst 1 (nl l)] R := by
  obtain ⟨m, hm⟩ : ∃ m, m = l := ⟨l, rfl⟩
  rw [show [V.lst 1 (nl l), V.lst 1 (nl l)] = [V.lst 1 (nl l), V.lst 1 (nl m)] from by rw [hm]]
  refine K0_of_WY0 hmX hcU 3000 Try.func26 (see (p := ifB ((↑(nl l).length : Int) != (↑(nl m).length : Int)) (R (bv false)) (La 0 [(0 : Tmp), (1 : Tmp), (5 : Tmp)] (WY Try.prog cfU 2994 (Env.mk (Bs.mk 0 []) 0 none 26 26 0) (cdAt [1, 1, 0, 1, 0, 0] (bodyOf Try.f26))) (Qblk 0 (Qthen (WY Try.prog cfU 2997 (Env.mk (Bs.mk 0 []) 0 none 26 26 0) (cdAt [1, 1, 1] (bodyOf Try.f26)) (QendX Try.prog Try.f26 fun v h => R (frzW h v))) (QendX Try.prog Try.f26 fun v h => R (frzW h v)))) (St.mk (mkT [(0, V.lst 1 (nl l)), (1, V.lst 1 (nl m)), (5, iv (0 : Int))]) (Hp.mk [] 0 [])))) (by kernel_rfl) ?_)
  refine ifB_f (by rw [hm]; simp) ?_
  refine La.of (σ := Nat) (fun k => sh26 l m k) (fun k => k ≤ l.length) (fun k => l.length - k) 0 (by kernel_rfl) (by omega) ?_
  rintro k g1 J hJ
  refine see (p := ifB (decide ((↑k : Int) < (↑(nl l).length : Int))) (onSome (nl l)[k]? fun row => onSome row[0]? fun v => onIntK IntKind.i64 v fun n => onSome (nl m)[k]? fun row => onSome row[0]? fun v => onIntK IntKind.i64 v fun n_1 => ifB (n != n_1) (R (bv false)) (J (St.mk (mkT [(0, V.lst 1 (nl l)), (1, V.lst 1 (nl m)), (5, iv (IntKind.i64.wrap ((↑k : Int) + (1 : Int))))]) (Hp.mk [] 0 [])))) (R (bv true))) (by kernel_rfl) ?_
  refine ifB_mk (fun c => ?_) (fun _ => h)
  have hlt : k < l.length := by rw [nl_length] at c; have := of_decide_eq_true c; omega
  obtain ⟨x, hx⟩ := getI hlt
  rw [wr (n := (k : Int) + 1) (by omega) (by omega)]
  refine iel hx (iel (l := m) (by rw [hm]; exact hx) (ifB_f (by simp) ?_))
  exact hJ (k + 1) hlt (by omega)
end Go.Proofs.Ytmdimnmdoifkfaa
