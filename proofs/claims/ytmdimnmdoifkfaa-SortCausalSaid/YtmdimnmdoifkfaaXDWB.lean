/- The reference's fates and swings. -/
import Derived.Test.YtmdimnmdoifkfaaXDWA
namespace Go.Proofs.Ytmdimnmdoifkfaa
open Go Go.Proofs.Ytmdimnmdoifkfaa.Clean
set_option linter.unusedVariables false
set_option linter.unusedSimpArgs false
set_option maxRecDepth 10000

noncomputable def fateI (b : Bt) (l : List Fd) (i : Nat) : Ft := fateF b (fd l i) (sortI b l i)
noncomputable def fatR (b : Bt) (l : List Fd) (k : Nat) : List Ft := (List.range k).map (fateI b l)
theorem fatR_succ (b : Bt) (l : List Fd) (k : Nat) : fatR b l (k + 1) = fatR b l k ++ [fateI b l k] := by simp [fatR, List.range_succ]
theorem fatR_len (b : Bt) (l : List Fd) (k : Nat) : (fatR b l k).length = k := by simp [fatR]
noncomputable def refT (b : Bt) (l : List Fd) : V := if dc (BtP b ∧ FdP l) = true then .tup [lsF (fatR b l l.length), iv 0] else .tup [nilS, iv (askE b l)]
theorem sortI_rng (b : Bt) (l : List Fd) (i : Nat) : sortI b l i = -1 ∨ ∃ m : Nat, sortI b l i = m ∧ m < b.gs.length := by
  unfold sortI
  split
  · rcases gate_rng b (kindOf (fd l i).2.2) with h | ⟨m, h, h', _⟩
    · exact .inl h
    · exact .inr ⟨m, h, h'⟩
  · exact .inl rfl
noncomputable def sh23 (b : Bt) (l : List Fd) (k : Nat) : St := match k with
  | 0 => sh23a b l 0
  | n + 1 => sh23b b l (fatR b l (n + 1)) (n + 1)
theorem sort23 {b : Bt} {l : List Fd} {R : V → Prop} (hrl : Rl l) (h : R (refT b l)) : K0G Try.prog glX 23 [.agg (bel b), .lst 3 (fdl l)] R := by
  refine K0_of_WY0 hmX hcR 3000 Try.func23 (see (p := K0G Try.prog glX 45 [V.agg [iv b.1, iv b.2, iv b.3, V.lst 2 (gl b.4), V.lst 1 (nl b.5)]] fun v => onBool v fun b_1 => ifB (!b_1) (R (V.tup [nilS, iv (90 : Int)])) (K0G Try.prog glX 21 [V.lst 3 (fdl l)] fun v => onIntK IntKind.i64 v fun n => ifB (n != (0 : Int)) (R (V.tup [nilS, iv n])) (La 0 [(1 : Tmp), (2 : Tmp), (7 : Tmp), (8 : Tmp)] (WY Try.prog cfR 2993 (Env.mk (Bs.mk 0 []) 0 none 69 23 0) (cdAt [1, 1, 1, 0, 1, 0, 0] (bodyOf Try.f23))) (Qblk 0 (Qthen (WY Try.prog cfR 2996 (Env.mk (Bs.mk 0 []) 0 none 69 23 0) (cdAt [1, 1, 1, 1] (bodyOf Try.f23)) (QendX Try.prog Try.f23 fun v h => R (frzW h v))) (QendX Try.prog Try.f23 fun v h => R (frzW h v)))) (St.mk (mkT [(1, V.lst 3 (fdl l)), (2, V.ptr (Id.p 0) 0 0), (7, nilS), (8, iv (0 : Int))]) (Hp.mk [(0, O.rows 5 false [[iv b.1, iv b.2, iv b.3, V.lst 2 (gl b.4), V.lst 1 (nl b.5)]])] 1 []))))) (by kernel_rfl) ?_)
  have bad : ¬ (BtP b ∧ FdP l) → R (.tup [nilS, iv (askE b l)]) := fun hn => by rw [refT, if_neg (by rw [dc_f hn]; simp)] at h; exact h
  refine belt45 (onBool_bv (ifB_mk (fun c => ?_) (fun c => ?_)))
  · have hb : ¬ BtP b := fun hb => by rw [dc_t hb] at c; cases c
    have g := bad (fun hp => hb hp.1)
    rw [askE, if_neg (by rw [dc_f hb]; simp)] at g; exact g
  have hb : BtP b := dc_true (by simpa using c)
  refine fed21 hrl (onIntK_iv (ifB_mk (fun c => ?_) (fun c => ?_)))
  · have hf : ¬ FdP l := fun hf => by rw [fedE, if_pos (dc_t hf)] at c; cases c
    have g := bad (fun hp => hf hp.2)
    rw [askE, if_pos (dc_t hb)] at g; exact g
  have hf : FdP l := Classical.byContradiction (fun hf => by rw [fedE, if_neg (by rw [dc_f hf]; simp)] at c; cases c)
  rw [refT, if_pos (dc_t ⟨hb, hf⟩)] at h
  have hll : l.length ≤ 40 := hf.1
  obtain ⟨hC1, hC2, hC3, hC4⟩ := hb.1
  refine La.of (σ := Nat) (fun k => sh23 b l k) (fun k => k ≤ l.length) (fun k => l.length - k) 0 (by kernel_rfl) (by omega) ?_
  rintro k g1 J hJ
  have step : k < l.length → J (sh23b b l (fatR b l k ++ [fateI b l k]) (k + 1)) := fun hk => by
    have g := hJ (k + 1) hk (by omega)
    rw [show sh23 b l (k + 1) = sh23b b l (fatR b l (k + 1)) (k + 1) from rfl, fatR_succ] at g
    exact g
  have body : k < l.length → ∀ Q1 Q2 : Int → Int → Int → Prop, (∀ n m q, (n, m, q) = fateI b l k → Q1 n m q) → (∀ n m q, (n, m, q) = fateI b l k → Q2 n m q) → (onSome (fdl l)[k]? fun row => onSome row[2]? fun v => onLst v fun s es => onSome (fdl l)[k]? fun row => onSome row[0]? fun v => onIntK IntKind.i64 v fun n => K0G Try.prog glX 53 [V.lst s es] fun v => onIntK IntKind.i64 v fun n_1 => K0G Try.prog glX 62 [V.agg (bel b), V.lst 3 (fdl l), iv (k : Int)] fun v => onIntK IntKind.i64 v fun n_2 => ifB (decide (n_2 ≥ (0 : Int))) (onNat n_2 fun m => onSome (gl b.4)[m]? fun row => onSome row[1]? fun v => onIntK IntKind.i64 v fun n => onSome (fdl l)[k]? fun row => onSome row[0]? fun v => onIntK IntKind.i64 v fun n_3 => onNat n_2 fun m => onSome (gl b.4)[m]? fun row => onSome row[0]? fun v => onIntK IntKind.i64 v fun n_4 => Q1 n_1 n (IntKind.i64.wrap (n_3 + n_4))) (Q2 n_1 (-1) (IntKind.i64.wrap (n + b.1)))) := fun hk Q1 Q2 h1 h2 => by
    have fx := hf.2.1 _ (mem_at (fd_get hk))
    have a1 := fx.1; have a2 := fx.2.1
    refine fel2 (fd_get hk) (fel0 (fd_get hk) (seen53 (by have := fx.2.2.2.2.2.1; omega) (onIntK_iv (sorted62 hb hf hk (onIntK_iv ?_)))))
    have hr := sortI_rng b l k
    have hI : fateI b l k = fateF b (fd l k) (sortI b l k) := rfl
    generalize sortI b l k = g at hr hI
    refine ifB_mk (fun c => ?_) (fun c => ?_)
    · obtain ⟨m, rfl, hm⟩ := hr.resolve_left (fun e => by have := of_decide_eq_true c; omega)
      have hgm := hb.2.2.2.2.1.1 _ (mem_at (gt_get hm))
      have a5 := hgm.1; have a6 := hgm.2.1
      refine onNat_mk rfl (gel1 (gt_get hm) (fel0 (fd_get hk) (onNat_mk rfl (gel0 (gt_get hm) (h1 _ _ _ ?_)))))
      rw [hI, fateF, if_neg (by omega), wr (by omega) (by omega)]
    · have hg : g = -1 := by
        rcases hr with e | ⟨m, e, _⟩
        · exact e
        · have := of_decide_eq_false c; omega
      refine h2 _ _ _ ?_
      rw [hI, fateF, if_pos hg, wr (by omega) (by omega)]
  by_cases hk0 : k = 0
  · clear hJ
    rw [show sh23 b l k = sh23a b l k from by subst hk0; rfl]
    refine see (p := ifB (decide ((↑k : Int) < (↑(fdl l).length : Int))) (onSome (fdl l)[k]? fun row => onSome row[2]? fun v => onLst v fun s es => onSome (fdl l)[k]? fun row => onSome row[0]? fun v => onIntK IntKind.i64 v fun n => K0G Try.prog glX 53 [V.lst s es] fun v => onIntK IntKind.i64 v fun n_1 => K0G Try.prog glX 62 [V.agg [iv b.1, iv b.2, iv b.3, V.lst 2 (gl b.4), V.lst 1 (nl b.5)], V.lst 3 (fdl l), iv (↑k : Int)] fun v => onIntK IntKind.i64 v fun n_2 => ifB (decide (n_2 ≥ (0 : Int))) (onNat n_2 fun m => onSome (gl b.4)[m]? fun row => onSome row[1]? fun v => onIntK IntKind.i64 v fun n => onSome (fdl l)[k]? fun row => onSome row[0]? fun v => onIntK IntKind.i64 v fun n_3 => onNat n_2 fun m => onSome (gl b.4)[m]? fun row => onSome row[0]? fun v => onIntK IntKind.i64 v fun n_4 => J (St.mk (mkT [(1, V.lst 3 (fdl l)), (2, V.ptr (Id.p 0) 0 0), (7, V.sl (Id.p 1) 0 1), (8, iv (IntKind.i64.wrap ((↑k : Int) + (1 : Int))))]) (Hp.mk [(0, O.rows 5 false [[iv b.1, iv b.2, iv b.3, V.lst 2 (gl b.4), V.lst 1 (nl b.5)]]), (1, O.rows 3 true [[iv n_1, iv n, iv (IntKind.i64.wrap (n_3 + n_4))]])] 2 []))) (J (St.mk (mkT [(1, V.lst 3 (fdl l)), (2, V.ptr (Id.p 0) 0 0), (7, V.sl (Id.p 1) 0 1), (8, iv (IntKind.i64.wrap ((↑k : Int) + (1 : Int))))]) (Hp.mk [(0, O.rows 5 false [[iv b.1, iv b.2, iv b.3, V.lst 2 (gl b.4), V.lst 1 (nl b.5)]]), (1, O.rows 3 true [[iv n_1, iv (-1 : Int), iv (IntKind.i64.wrap (n + b.1))]])] 2 [])))) (R (V.tup [nilS, iv (0 : Int)]))) (by kernel_rfl) ?_
    rw [fdl_length]
    refine ifB_mk (fun c => ?_) (fun c => ?_)
    · have hlt : k < l.length := by have := of_decide_eq_true c; omega
      rw [wr1i hlt (by omega)]
      have st := step hlt
      rw [show fatR b l k = [] from by subst hk0; rfl, List.nil_append] at st
      refine body hlt (fun n m q => J (St.mk (mkT [(1, V.lst 3 (fdl l)), (2, V.ptr (Id.p 0) 0 0), (7, V.sl (Id.p 1) 0 1), (8, iv ((k + 1 : Nat) : Int))]) (Hp.mk [(0, O.rows 5 false [bel b]), (1, O.rows 3 true [[iv n, iv m, iv q]])] 2 []))) (fun n m q => J (St.mk (mkT [(1, V.lst 3 (fdl l)), (2, V.ptr (Id.p 0) 0 0), (7, V.sl (Id.p 1) 0 1), (8, iv ((k + 1 : Nat) : Int))]) (Hp.mk [(0, O.rows 5 false [bel b]), (1, O.rows 3 true [[iv n, iv m, iv q]])] 2 []))) ?_ ?_ <;> (intro n m q he; rw [← he] at st; exact st)
    · have hl0 : l.length = 0 := by have := of_decide_eq_false c; omega
      rw [hl0] at h
      exact h
  · clear hJ
    rw [show sh23 b l k = sh23b b l (fatR b l k) k from by cases k with | zero => exact (hk0 rfl).elim | succ j => rfl]
    have hFl := fatR_len b l k
    generalize hF : fatR b l k = F at *
    refine see (p := ifB (decide ((↑k : Int) < (↑(fdl l).length : Int))) (onSome (fdl l)[k]? fun row => onSome row[2]? fun v => onLst v fun s es => onSome (fdl l)[k]? fun row => onSome row[0]? fun v => onIntK IntKind.i64 v fun n => K0G Try.prog glX 53 [V.lst s es] fun v => onIntK IntKind.i64 v fun n_1 => K0G Try.prog glX 62 [V.agg [iv b.1, iv b.2, iv b.3, V.lst 2 (gl b.4), V.lst 1 (nl b.5)], V.lst 3 (fdl l), iv (↑k : Int)] fun v => onIntK IntKind.i64 v fun n_2 => ifB (decide (n_2 ≥ (0 : Int))) (onNat n_2 fun m => onSome (gl b.4)[m]? fun row => onSome row[1]? fun v => onIntK IntKind.i64 v fun n => onSome (fdl l)[k]? fun row => onSome row[0]? fun v => onIntK IntKind.i64 v fun n_3 => onNat n_2 fun m => onSome (gl b.4)[m]? fun row => onSome row[0]? fun v => onIntK IntKind.i64 v fun n_4 => need ((F.length + 1) * 24 ≤ 140737488355328) (J (St.mk (mkT [(1, V.lst 3 (fdl l)), (2, V.ptr (Id.p 0) 0 0), (7, V.sl (Id.p 1) 0 (F.length + 1)), (8, iv (IntKind.i64.wrap ((↑k : Int) + (1 : Int))))]) (Hp.mk [(0, O.rows 5 false [[iv b.1, iv b.2, iv b.3, V.lst 2 (gl b.4), V.lst 1 (nl b.5)]]), (1, O.rows 3 true (List.take F.length (ftl F) ++ [[iv n_1, iv n, iv (IntKind.i64.wrap (n_3 + n_4))]]))] 2 [])))) (need ((F.length + 1) * 24 ≤ 140737488355328) (J (St.mk (mkT [(1, V.lst 3 (fdl l)), (2, V.ptr (Id.p 0) 0 0), (7, V.sl (Id.p 1) 0 (F.length + 1)), (8, iv (IntKind.i64.wrap ((↑k : Int) + (1 : Int))))]) (Hp.mk [(0, O.rows 5 false [[iv b.1, iv b.2, iv b.3, V.lst 2 (gl b.4), V.lst 1 (nl b.5)]]), (1, O.rows 3 true (List.take F.length (ftl F) ++ [[iv n_1, iv (-1 : Int), iv (IntKind.i64.wrap (n + b.1))]]))] 2 []))))) (R (V.tup [V.lst 3 (sub (ftl F) 0 F.length), iv (0 : Int)]))) (by kernel_rfl) ?_
    rw [fdl_length]
    refine ifB_mk (fun c => ?_) (fun c => ?_)
    · have hlt : k < l.length := by have := of_decide_eq_true c; omega
      rw [wr1i hlt (by omega)]
      have st := step hlt
      rw [ftl_take]
      refine body hlt (fun n m q => need ((F.length + 1) * 24 ≤ 140737488355328) (J (St.mk (mkT [(1, V.lst 3 (fdl l)), (2, V.ptr (Id.p 0) 0 0), (7, V.sl (Id.p 1) 0 (F.length + 1)), (8, iv ((k + 1 : Nat) : Int))]) (Hp.mk [(0, O.rows 5 false [bel b]), (1, O.rows 3 true (ftl F ++ [[iv n, iv m, iv q]]))] 2 [])))) (fun n m q => need ((F.length + 1) * 24 ≤ 140737488355328) (J (St.mk (mkT [(1, V.lst 3 (fdl l)), (2, V.ptr (Id.p 0) 0 0), (7, V.sl (Id.p 1) 0 (F.length + 1)), (8, iv ((k + 1 : Nat) : Int))]) (Hp.mk [(0, O.rows 5 false [bel b]), (1, O.rows 3 true (ftl F ++ [[iv n, iv m, iv q]]))] 2 [])))) ?_ ?_ <;> (intro n m q he; rw [← he] at st; refine need_mk ⟨by omega, hJ' ?_ st⟩; simp [sh23b, ftl, ftr])
    · have hkl : k = l.length := by have := of_decide_eq_false c; omega
      rw [← hkl, hF] at h
      rw [show sub (ftl F) 0 F.length = ftl F from ftl_take F]
      rw [show lsF F = .lst 3 (ftl F) from by cases F with | nil => simp at hFl; omega | cons x t => rfl] at h
      exact h
/-- One swing is before another one. -/
def ltK (a x : Sw) : Prop := a.1 < x.1 ∨ (a.1 = x.1 ∧ a.2.1 < x.2.1)
instance (a x : Sw) : Decidable (ltK a x) := by unfold ltK; infer_instance
def putF : List Sw → Sw → List Sw
  | [], x => [x]
  | a :: l, x => if ltK a x then a :: putF l x else x :: a :: l
theorem putF_length (x : Sw) : ∀ l, (putF l x).length = l.length + 1
  | [] => rfl
  | a :: l => by
    unfold putF
    split
    · simp [putF_length x l]
    · rfl
theorem putF_ne (l : List Sw) (x : Sw) : putF l x ≠ [] := fun h => by have := putF_length x l; rw [h] at this; simp at this
noncomputable def sh67 (l : List Sw) (x : Sw) (k : Nat) : St := match k with
  | 0 => sh67a l x 0
  | n + 1 => sh67b l x (l.take (n + 1)) (n + 1)
theorem swel {l : List Sw} {i : Nat} {a : Sw} {k : Int → Int → Bool → Prop} (h : l[i]? = some a) (hk : k a.1 a.2.1 a.2.2) : onSome (swl l)[i]? fun row => onCons (List.drop 0 row) fun u r => onIntK IntKind.i64 u fun n => onCons r fun u r => onIntK IntKind.i64 u fun m => onCons r fun u r => onBool u fun q => k n m q := onSome_mk (by simp [swl, h] : (swl l)[i]? = some (swr a)) hk
theorem put67 {l : List Sw} {x : Sw} {R : V → Prop} (hl : l.length ≤ 900) (h : R (.lst 3 (swl (putF l x)))) : K0G Try.prog glX 67 [.lst 3 (swl l), .agg (swr x)] R := by
  refine K0_of_WY0 hmX hcR 3000 Try.func67 (see (p := La 0 [(0 : Tmp), (3 : Tmp), (5 : Tmp), (6 : Tmp)] (WY Try.prog cfR 2994 (Env.mk (Bs.mk 0 []) 0 none 36 67 0) (cdAt [1, 1, 1, 0, 0, 0] (bodyOf Try.f67))) (Qblk 0 (Qthen (WY Try.prog cfR 2996 (Env.mk (Bs.mk 0 []) 0 none 36 67 0) (cdAt [1, 1, 1, 1] (bodyOf Try.f67)) (QendX Try.prog Try.f67 fun v h => R (frzW h v))) (QendX Try.prog Try.f67 fun v h => R (frzW h v)))) (St.mk (mkT [(0, V.lst 3 (swl l)), (3, V.ptr (Id.p 0) 0 0), (5, nilS), (6, iv (0 : Int))]) (Hp.mk [(0, O.rows 3 false [[iv x.1, iv x.2.1, bv x.2.2]])] 1 []))) (by kernel_rfl) ?_)
  refine La.of (σ := Nat) (fun k => sh67 l x k) (fun k => k ≤ l.length ∧ putF l x = l.take k ++ putF (l.drop k) x) (fun k => l.length - k) 0 (by kernel_rfl) ⟨by omega, rfl⟩ ?_
  rintro k ⟨g1, g2⟩ J hJ
  have hsub : sub (swl l) k ((swl l).length - k) = swl (l.drop k) := by rw [sub, List.take_of_length_le (by simp), swl, ← List.map_drop]; rfl
  have stop : (∀ a, l[k]? = some a → ¬ ltK a x) → R (.lst 3 (swl (l.take k ++ [x] ++ l.drop k))) := fun hs => by
    have : putF (l.drop k) x = x :: l.drop k := by
      by_cases hk : k < l.length
      · rw [List.drop_eq_getElem_cons hk, putF, if_neg (hs _ (by simp [hk]))]
      · rw [List.drop_of_length_le (by omega)]; rfl
    rw [this] at g2
    rw [g2] at h
    simpa using h
  have go : ∀ a, l[k]? = some a → ltK a x → k < l.length → J (sh67b l x (l.take k ++ [a]) (k + 1)) := fun a ha hlt hk => by
    have g := hJ (k + 1) ⟨hk, by
      rw [g2, List.drop_eq_getElem_cons hk, (List.getElem?_eq_some_iff.1 ha).2, putF, if_pos hlt, take_succ' ha, List.append_assoc]; rfl⟩ (by omega)
    rw [show sh67 l x (k + 1) = sh67b l x (l.take (k + 1)) (k + 1) from rfl, take_succ' ha] at g
    exact g
  by_cases hk0 : k = 0
  · clear hJ
    rw [show sh67 l x k = sh67a l x k from by subst hk0; rfl]
    have fin : (∀ a, l[k]? = some a → ¬ ltK a x) → (need ((swl l).length ≤ (swl l).length) (need (k ≤ (swl l).length) (need ((1 + (sub (swl l) k ((swl l).length - k)).length) * 24 ≤ 140737488355328) (R (V.lst 3 (sub ([iv x.1, iv x.2.1, bv x.2.2] :: (List.append ((List.take 0) ((List.take 0) ((List.replicate 0) (List.map V.raw #[Value.int IntKind.i64 (0 : Int), Value.int IntKind.i64 (0 : Int), Value.bool false].toList))))) (sub (swl l) k ((swl l).length - k))) 0 (1 + (sub (swl l) k ((swl l).length - k)).length)))))) : Prop) := fun hs => by
      refine need_mk ⟨Nat.le_refl _, need_mk ⟨by rw [swl_length]; omega, need_mk ⟨by simp [sub, swl_length]; omega, ?_⟩⟩⟩
      have g := stop hs
      rw [show l.take k = [] from by subst hk0; rfl] at g
      refine (congrArg R ?_).mp g
      rw [hsub]
      show V.lst 3 (swl ([x] ++ l.drop k)) = V.lst 3 (sub (swr x :: swl (l.drop k)) 0 (1 + (swl (l.drop k)).length))
      rw [sub, List.drop_zero, List.take_of_length_le (by simp only [List.length_cons]; omega)]
      rfl
    refine see (p := ifB (decide ((↑k : Int) < (↑(swl l).length : Int))) (onSome (swl l)[k]? fun row => onCons (List.drop 0 row) fun u r => onIntK IntKind.i64 u fun n => onCons r fun u r => onIntK IntKind.i64 u fun n_1 => onCons r fun u r => onBool u fun b => ifB (decide (n < x.1)) (onSome (swl l)[k]? fun row => onCons (List.drop 0 row) fun u r => onIntK IntKind.i64 u fun n => onCons r fun u r => onIntK IntKind.i64 u fun n_2 => onCons r fun u r => onBool u fun b => J (St.mk (mkT [(0, V.lst 3 (swl l)), (3, V.ptr (Id.p 0) 0 0), (5, V.sl (Id.p 1) 0 1), (6, iv (IntKind.i64.wrap ((↑k : Int) + (1 : Int))))]) (Hp.mk [(0, O.rows 3 false [[iv x.1, iv x.2.1, bv x.2.2]]), (1, O.rows 3 true [[iv n, iv n_2, bv b]])] 2 []))) (ifB (n == x.1) (ifB (decide (n_1 < x.2.1)) (onSome (swl l)[k]? fun row => onCons (List.drop 0 row) fun u r => onIntK IntKind.i64 u fun n => onCons r fun u r => onIntK IntKind.i64 u fun n_2 => onCons r fun u r => onBool u fun b => J (St.mk (mkT [(0, V.lst 3 (swl l)), (3, V.ptr (Id.p 0) 0 0), (5, V.sl (Id.p 1) 0 1), (6, iv (IntKind.i64.wrap ((↑k : Int) + (1 : Int))))]) (Hp.mk [(0, O.rows 3 false [[iv x.1, iv x.2.1, bv x.2.2]]), (1, O.rows 3 true [[iv n, iv n_2, bv b]])] 2 []))) (need ((swl l).length ≤ (swl l).length) (need (k ≤ (swl l).length) (need ((1 + (sub (swl l) k ((swl l).length - k)).length) * 24 ≤ 140737488355328) (R (V.lst 3 (sub ([iv x.1, iv x.2.1, bv x.2.2] :: (List.append ((List.take 0) ((List.take 0) ((List.replicate 0) (List.map V.raw #[Value.int IntKind.i64 (0 : Int), Value.int IntKind.i64 (0 : Int), Value.bool false].toList))))) (sub (swl l) k ((swl l).length - k))) 0 (1 + (sub (swl l) k ((swl l).length - k)).length)))))))) (need ((swl l).length ≤ (swl l).length) (need (k ≤ (swl l).length) (need ((1 + (sub (swl l) k ((swl l).length - k)).length) * 24 ≤ 140737488355328) (R (V.lst 3 (sub ([iv x.1, iv x.2.1, bv x.2.2] :: (List.append ((List.take 0) ((List.take 0) ((List.replicate 0) (List.map V.raw #[Value.int IntKind.i64 (0 : Int), Value.int IntKind.i64 (0 : Int), Value.bool false].toList))))) (sub (swl l) k ((swl l).length - k))) 0 (1 + (sub (swl l) k ((swl l).length - k)).length))))))))) (need ((swl l).length ≤ (swl l).length) (need (k ≤ (swl l).length) (need ((1 + (sub (swl l) k ((swl l).length - k)).length) * 24 ≤ 140737488355328) (R (V.lst 3 (sub ([iv x.1, iv x.2.1, bv x.2.2] :: (List.append ((List.take 0) ((List.take 0) ((List.replicate 0) (List.map V.raw #[Value.int IntKind.i64 (0 : Int), Value.int IntKind.i64 (0 : Int), Value.bool false].toList))))) (sub (swl l) k ((swl l).length - k))) 0 (1 + (sub (swl l) k ((swl l).length - k)).length)))))))) (by kernel_rfl) ?_
    refine ifB_mk (fun c => ?_) (fun c => fin (fun a ha => by have := (List.getElem?_eq_some_iff.1 ha).1; rw [swl_length] at c; have := of_decide_eq_false c; omega))
    have hlt : k < l.length := by rw [swl_length] at c; have := of_decide_eq_true c; omega
    obtain ⟨a, ha⟩ := getI hlt
    have st : ltK a x → J (sh67b l x [a] (k + 1)) := fun hl => by
      have g := go a ha hl hlt
      rw [show l.take k = [] from by subst hk0; rfl] at g
      exact g
    have fin' : ¬ ltK a x → _ := fun hn => fin (fun a' ha' => by rw [ha] at ha'; cases ha'; exact hn)
    have hw : IntKind.i64.wrap ((k : Int) + 1) = ((k + 1 : Nat) : Int) := by rw [wr (by omega) (by omega)]; simp
    rw [hw]
    refine swel ha (ifB_mk (fun c1 => swel ha (st (.inl (of_decide_eq_true c1)))) (fun c1 => ?_))
    have c1 := of_decide_eq_false c1
    refine ifB_mk (fun c2 => ifB_mk (fun c3 => swel ha (st (.inr ⟨by simpa using c2, of_decide_eq_true c3⟩))) (fun c3 => fin' ?_)) (fun c2 => fin' ?_)
    · rintro (q | q)
      · exact c1 q
      · exact absurd q.2 (of_decide_eq_false c3)
    · rintro (q | q)
      · exact c1 q
      · simp at c2; exact c2 q.1
  · clear hJ
    rw [show sh67 l x k = sh67b l x (l.take k) k from by cases k with | zero => exact (hk0 rfl).elim | succ j => rfl]
    have hFl : (l.take k).length = k := by rw [List.length_take]; omega
    generalize hF : l.take k = F at *
    have fin : (∀ a, l[k]? = some a → ¬ ltK a x) → (need ((swl l).length ≤ (swl l).length) (need (k ≤ (swl l).length) (need ((F.length + 1) * 24 ≤ 140737488355328) (need ((F.length + 1 + (sub (swl l) k ((swl l).length - k)).length) * 24 ≤ 140737488355328) (R (V.lst 3 (sub (List.take (F.length + 1) (List.take F.length (swl F) ++ [[iv x.1, iv x.2.1, bv x.2.2]]) ++ sub (swl l) k ((swl l).length - k)) 0 (F.length + 1 + (sub (swl l) k ((swl l).length - k)).length))))))) : Prop) := fun hs => by
      refine need_mk ⟨Nat.le_refl _, need_mk ⟨by rw [swl_length]; omega, need_mk ⟨by omega, need_mk ⟨by simp [sub, swl_length]; omega, ?_⟩⟩⟩⟩
      have g := stop hs
      refine (congrArg R ?_).mp g
      rw [hsub, swl_take]
      show V.lst 3 (swl (F ++ [x] ++ l.drop k)) = V.lst 3 (sub (List.take (F.length + 1) (swl F ++ [swr x]) ++ swl (l.drop k)) 0 (F.length + 1 + (swl (l.drop k)).length))
      rw [List.take_of_length_le (by simp [swl_length]), sub, List.drop_zero, List.take_of_length_le (by simp [swl_length] <;> omega)]
      simp [swl]
    refine see (p := ifB (decide ((↑k : Int) < (↑(swl l).length : Int))) (onSome (swl l)[k]? fun row => onCons (List.drop 0 row) fun u r => onIntK IntKind.i64 u fun n => onCons r fun u r => onIntK IntKind.i64 u fun n_1 => onCons r fun u r => onBool u fun b => ifB (decide (n < x.1)) (onSome (swl l)[k]? fun row => onCons (List.drop 0 row) fun u r => onIntK IntKind.i64 u fun n => onCons r fun u r => onIntK IntKind.i64 u fun n_2 => onCons r fun u r => onBool u fun b => need ((F.length + 1) * 24 ≤ 140737488355328) (J (St.mk (mkT [(0, V.lst 3 (swl l)), (3, V.ptr (Id.p 0) 0 0), (5, V.sl (Id.p 1) 0 (F.length + 1)), (6, iv (IntKind.i64.wrap ((↑k : Int) + (1 : Int))))]) (Hp.mk [(0, O.rows 3 false [[iv x.1, iv x.2.1, bv x.2.2]]), (1, O.rows 3 true (List.take F.length (swl F) ++ [[iv n, iv n_2, bv b]]))] 2 [])))) (ifB (n == x.1) (ifB (decide (n_1 < x.2.1)) (onSome (swl l)[k]? fun row => onCons (List.drop 0 row) fun u r => onIntK IntKind.i64 u fun n => onCons r fun u r => onIntK IntKind.i64 u fun n_2 => onCons r fun u r => onBool u fun b => need ((F.length + 1) * 24 ≤ 140737488355328) (J (St.mk (mkT [(0, V.lst 3 (swl l)), (3, V.ptr (Id.p 0) 0 0), (5, V.sl (Id.p 1) 0 (F.length + 1)), (6, iv (IntKind.i64.wrap ((↑k : Int) + (1 : Int))))]) (Hp.mk [(0, O.rows 3 false [[iv x.1, iv x.2.1, bv x.2.2]]), (1, O.rows 3 true (List.take F.length (swl F) ++ [[iv n, iv n_2, bv b]]))] 2 [])))) (need ((swl l).length ≤ (swl l).length) (need (k ≤ (swl l).length) (need ((F.length + 1) * 24 ≤ 140737488355328) (need ((F.length + 1 + (sub (swl l) k ((swl l).length - k)).length) * 24 ≤ 140737488355328) (R (V.lst 3 (sub (List.take (F.length + 1) (List.take F.length (swl F) ++ [[iv x.1, iv x.2.1, bv x.2.2]]) ++ sub (swl l) k ((swl l).length - k)) 0 (F.length + 1 + (sub (swl l) k ((swl l).length - k)).length))))))))) (need ((swl l).length ≤ (swl l).length) (need (k ≤ (swl l).length) (need ((F.length + 1) * 24 ≤ 140737488355328) (need ((F.length + 1 + (sub (swl l) k ((swl l).length - k)).length) * 24 ≤ 140737488355328) (R (V.lst 3 (sub (List.take (F.length + 1) (List.take F.length (swl F) ++ [[iv x.1, iv x.2.1, bv x.2.2]]) ++ sub (swl l) k ((swl l).length - k)) 0 (F.length + 1 + (sub (swl l) k ((swl l).length - k)).length)))))))))) (need ((swl l).length ≤ (swl l).length) (need (k ≤ (swl l).length) (need ((F.length + 1) * 24 ≤ 140737488355328) (need ((F.length + 1 + (sub (swl l) k ((swl l).length - k)).length) * 24 ≤ 140737488355328) (R (V.lst 3 (sub (List.take (F.length + 1) (List.take F.length (swl F) ++ [[iv x.1, iv x.2.1, bv x.2.2]]) ++ sub (swl l) k ((swl l).length - k)) 0 (F.length + 1 + (sub (swl l) k ((swl l).length - k)).length))))))))) (by kernel_rfl) ?_
    refine ifB_mk (fun c => ?_) (fun c => fin (fun a ha => by have := (List.getElem?_eq_some_iff.1 ha).1; rw [swl_length] at c; have := of_decide_eq_false c; omega))
    have hlt : k < l.length := by rw [swl_length] at c; have := of_decide_eq_true c; omega
    obtain ⟨a, ha⟩ := getI hlt
    have st : ltK a x → J (sh67b l x (F ++ [a]) (k + 1)) := fun hl => go a ha hl hlt
    have fin' : ¬ ltK a x → _ := fun hn => fin (fun a' ha' => by rw [ha] at ha'; cases ha'; exact hn)
    have hw : IntKind.i64.wrap ((k : Int) + 1) = ((k + 1 : Nat) : Int) := by rw [wr (by omega) (by omega)]; simp
    rw [hw, swl_take]
    have st' : ltK a x → need ((F.length + 1) * 24 ≤ 140737488355328) (J (St.mk (mkT [(0, V.lst 3 (swl l)), (3, V.ptr (Id.p 0) 0 0), (5, V.sl (Id.p 1) 0 (F.length + 1)), (6, iv ((k + 1 : Nat) : Int))]) (Hp.mk [(0, O.rows 3 false [[iv x.1, iv x.2.1, bv x.2.2]]), (1, O.rows 3 true (swl F ++ [[iv a.1, iv a.2.1, bv a.2.2]]))] 2 []))) := fun hl => need_mk ⟨by omega, hJ' (by simp [sh67b, swl, swr]) (st hl)⟩
    rw [swl_take] at fin'
    refine swel ha (ifB_mk (fun c1 => swel ha (st' (.inl (of_decide_eq_true c1)))) (fun c1 => ?_))
    have c1 := of_decide_eq_false c1
    refine ifB_mk (fun c2 => ifB_mk (fun c3 => swel ha (st' (.inr ⟨by simpa using c2, of_decide_eq_true c3⟩))) (fun c3 => fin' ?_)) (fun c2 => fin' ?_)
    · rintro (q | q)
      · exact c1 q
      · exact absurd q.2 (of_decide_eq_false c3)
    · rintro (q | q)
      · exact c1 q
      · simp at c2; exact c2 q.1
end Go.Proofs.Ytmdimnmdoifkfaa
