/- A part of the proof. -/
import Derived.Test.YtbionhgjgcpogaaGreatDoorProg
import Derived.Test.YtbionhgjgcpogaaGreatDoorXK3G9
import Derived.Test.YtbionhgjgcpogaaGreatDoorXK3G10
import Derived.Test.YtbionhgjgcpogaaGreatDoorXK3G12
import Derived.Test.YtbionhgjgcpogaaGreatDoorXK3G13
import Derived.Test.YtbionhgjgcpogaaGreatDoorXK3G14
namespace Go.Proofs.YtbionhgjgcpogaaGreatDoor
open Go Go.Proofs.YtbionhgjgcpogaaGreatDoor.Clean
set_option linter.unusedVariables false
set_option linter.unusedSimpArgs false
set_option maxRecDepth 10000
theorem hcK : cfK.ok Tryz.prog := cfgG_ok (rtP_ok fN)
theorem hcE : cfE.ok Tryz.prog := by
  have h : (cfgG Tryz.prog glX moD poP (rtP fN) (inN [54, 94, 62, 78]) kpE).ok Tryz.prog := cfgG_ok (rtP_ok fN)
  exact ⟨h.1, h.2⟩
theorem KindP.put {q : Kd} (h : KindP q) (hr : KdR q) : KnbP q := by
  obtain ⟨⟨⟨c1, c2⟩, c3, c4⟩, ⟨k1, k2, k3⟩, w⟩ := h
  exact ⟨⟨c3, by omega, fun k hk => ⟨c3 _ (k2 k hk).2.2.1, (hr.1 k hk).1.1, (k2 k hk).1⟩, by omega⟩, k3⟩
theorem putb {l : List Kd} {b : Bk} (hK : KindsP l) (hl : ∀ q ∈ l, KdR q) (hB : BrickP l.length b) (hr : BkR b) : ∃ q n, PutB l b q n ∧ KnbP q ∧ Bd 1000 b.2.1 ∧ KindP q := by
  obtain ⟨⟨b1, b2⟩, b3, b4, b5⟩ := hB
  obtain ⟨q, hq⟩ := getI (l := l) (k := b.1.toNat) (by omega)
  have hm := mem_at hq
  have hP := (hK.2 q hm).put (hl q hm)
  exact ⟨q, b.2.2.1.toNat, ⟨hq, b1, hP.put, (hK.2 q hm).1.1.1, by have := hr.1.1; omega, by have := hr.1.1; omega, b3.mono (by omega)⟩, hP, b3, hK.2 q hm⟩
theorem sub_cl (l : List Cl) : sub (cll l) 0 (cll l).length = cll l := by rw [sub, List.drop_zero, List.take_length]
theorem sub_kl (l : List Kn) : sub (knl l) 0 (knl l).length = knl l := by rw [sub, List.drop_zero, List.take_length]
theorem body57B {l : List Kd} {b : Bk} {R : V → Prop} (hl : ∀ q ∈ l, KdR q) (hll : (l.length : Int) ≤ 1000000) (hr : BkR b) (h1 : ∀ e, askE l b e → e ≠ 0 → R (.tup [.agg [nilS, nilS], iv e])) (h2 : askE l b 0 → ∀ q n, PutB l b q n → R (.tup [.agg [.lst 3 (cll (plc q n b.2.1)), .lst 5 (knl (knb q n b.2.1))], iv 0])) : KB Tryz.prog glX 57 [.lst 3 (kdl l), .agg (bkr b)] ⟨[], 0, []⟩ R := by
  refine KB_of_WYB hmX hcK 3000 Tryz.func57 rfl (see (p := K0G Tryz.prog glX 16 [V.lst 3 (kdl l)] fun v => onIntK IntKind.i64 v fun n => ifB (n != (0 : Int)) (R (V.tup [V.agg [nilS, nilS], iv n])) (K0G Tryz.prog glX 98 [V.lst 3 (kdl l), V.agg [iv b.1, iv b.2.1.1, iv b.2.1.2.1, iv b.2.1.2.2, V.raw (Value.int IntKind.u8 b.2.2.1), V.raw (Value.int IntKind.u8 b.2.2.2)]] fun v => onBool v fun b_1 => ifB (!b_1) (R (V.tup [V.agg [nilS, nilS], iv (11 : Int)])) (onNat b.1 fun m => onSome (kdl l)[m]? fun row => onCons (List.drop 0 row) fun u r => onLst u fun s es => onCons r fun u r => onLst u fun s_1 es_1 => onCons r fun u r => onIntK IntKind.i64 u fun n => KB Tryz.prog glX 95 [V.agg [V.lst s es, V.lst s_1 es_1, iv n], iv (IntKind.i64.wrap b.2.2.1), V.agg [iv b.2.1.1, iv b.2.1.2.1, iv b.2.1.2.2]] (Hp.mk [] 0 []) fun v => onAgg v fun cs => onCons cs fun u r => onLst u fun s es => guardB (s.beq 3 || s.beq 0) (onCons r fun u r => onLst u fun s es_2 => guardB (s.beq 5 || s.beq 0) (onNil r (R (V.tup [V.agg [V.lst 3 (sub es 0 es.length), V.lst 5 (sub es_2 0 es_2.length)], iv (0 : Int)]))))))) (by kernel_rfl) ?_)
  refine kinds16 hl (fun hK => onIntK_iv (ifB_f rfl (brick98 hr hll (onBool_bv (ifB_mk (fun c => h1 11 (.inr (.inr (.inl ⟨hK, nbt c, rfl⟩))) (by decide)) (fun c => ?_)))))) (fun h16 => onIntK_iv (ifB_t rfl (h1 4 (.inl ⟨h16, rfl⟩) (by decide)))) (fun h16 hn => onIntK_iv (ifB_t rfl (h1 10 (.inr (.inl ⟨h16, hn, rfl⟩)) (by decide))))
  have hB := nb c
  obtain ⟨q, n, hP, _, _, _⟩ := putb hK hl hB hr
  refine onNat_mk (m := b.1.toNat) (by have := hP.k0; omega) (del hP.at_ ?_)
  rw [hP.turn, wr (by have := hP.t24; omega) (by have := hP.t24; omega)]
  refine pub95 (by_ := b.2.1) hP.t24 hP.put hP.bd (onAgg_agg (onCons_cons (onLst_lst (guardB_mk rfl (onCons_cons (onLst_lst (guardB_mk rfl (onNil_nil ?_))))))))
  rw [sub_cl, sub_kl]
  exact h2 (.inr (.inr (.inr ⟨hK, hB, rfl⟩))) q n hP
theorem cells21 {l : List Kd} {b : Bk} {R : V → Prop} (hl : ∀ q ∈ l, KdR q) (hll : (l.length : Int) ≤ 1000000) (hr : BkR b) (h1 : ∀ e, askE l b e → e ≠ 0 → R (.tup [.lst 3 [], iv e])) (h2 : askE l b 0 → ∀ q n, PutB l b q n → R (.tup [.lst 3 (cll (plc q n b.2.1)), iv 0])) : KB Tryz.prog glX 21 [.lst 3 (kdl l), .agg (bkr b)] ⟨[], 0, []⟩ R := by
  refine KB_of_WYB hmX hcK 3000 Tryz.func21 rfl (see (p := KB Tryz.prog glX 57 [V.lst 3 (kdl l), V.agg [iv b.1, iv b.2.1.1, iv b.2.1.2.1, iv b.2.1.2.2, V.raw (Value.int IntKind.u8 b.2.2.1), V.raw (Value.int IntKind.u8 b.2.2.2)]] (Hp.mk [] 0 []) fun v => onTup v fun vs => onCons vs fun u r => onAgg u fun cs => onCons cs fun u r_1 => onLst u fun s es => guardB (s.beq 3 || s.beq 0) (onCons r_1 fun u r_2 => onLst u fun s es_1 => guardB (s.beq 5 || s.beq 0) (onNil r_2 (onCons r fun u r => onIntK IntKind.i64 u fun n => onNil r (R (V.tup [V.lst 3 (sub es 0 es.length), iv n])))))) (by kernel_rfl) ?_)
  refine body57B hl hll hr (fun e he hne => onTup_tup (onCons_cons (onAgg_agg (onCons_cons (onLst_nil (guardB_mk rfl (onCons_cons (onLst_nil (guardB_mk rfl (onNil_nil (onCons_cons (onIntK_iv (onNil_nil (h1 e he hne))))))))))))) ) (fun h0 q n hP => onTup_tup (onCons_cons (onAgg_agg (onCons_cons (onLst_lst (guardB_mk rfl (onCons_cons (onLst_lst (guardB_mk rfl (onNil_nil (onCons_cons (onIntK_iv (onNil_nil ?_)))))))))))))
  rw [sub_cl]
  exact h2 h0 q n hP
theorem knobs24 {l : List Kd} {b : Bk} {R : V → Prop} (hl : ∀ q ∈ l, KdR q) (hll : (l.length : Int) ≤ 1000000) (hr : BkR b) (h1 : ∀ e, askE l b e → e ≠ 0 → R (.tup [.lst 5 [], iv e])) (h2 : askE l b 0 → ∀ q n, PutB l b q n → R (.tup [.lst 5 (knl (knb q n b.2.1)), iv 0])) : KB Tryz.prog glX 24 [.lst 3 (kdl l), .agg (bkr b)] ⟨[], 0, []⟩ R := by
  refine KB_of_WYB hmX hcK 3000 Tryz.func24 rfl (see (p := KB Tryz.prog glX 57 [V.lst 3 (kdl l), V.agg [iv b.1, iv b.2.1.1, iv b.2.1.2.1, iv b.2.1.2.2, V.raw (Value.int IntKind.u8 b.2.2.1), V.raw (Value.int IntKind.u8 b.2.2.2)]] (Hp.mk [] 0 []) fun v => onTup v fun vs => onCons vs fun u r => onAgg u fun cs => onCons cs fun u r_1 => onLst u fun s es => guardB (s.beq 3 || s.beq 0) (onCons r_1 fun u r_2 => onLst u fun s es => guardB (s.beq 5 || s.beq 0) (onNil r_2 (onCons r fun u r => onIntK IntKind.i64 u fun n => onNil r (R (V.tup [V.lst 5 (sub es 0 es.length), iv n])))))) (by kernel_rfl) ?_)
  refine body57B hl hll hr (fun e he hne => onTup_tup (onCons_cons (onAgg_agg (onCons_cons (onLst_nil (guardB_mk rfl (onCons_cons (onLst_nil (guardB_mk rfl (onNil_nil (onCons_cons (onIntK_iv (onNil_nil (h1 e he hne))))))))))))) ) (fun h0 q n hP => onTup_tup (onCons_cons (onAgg_agg (onCons_cons (onLst_lst (guardB_mk rfl (onCons_cons (onLst_lst (guardB_mk rfl (onNil_nil (onCons_cons (onIntK_iv (onNil_nil ?_)))))))))))))
  rw [sub_kl]
  exact h2 h0 q n hP
theorem body57 {l : List Kd} {b : Bk} {R : V → Prop} (hl : ∀ q ∈ l, KdR q) (hll : (l.length : Int) ≤ 1000000) (hr : BkR b) (h1 : ∀ e, askE l b e → e ≠ 0 → R (.tup [.agg [nilS, nilS], iv e])) (h2 : askE l b 0 → ∀ q n, PutB l b q n → KnbP q → Bd 1000 b.2.1 → R (.tup [.agg [.lst 3 (cll (plc q n b.2.1)), .lst 5 (knl (knb q n b.2.1))], iv 0])) : K0G Tryz.prog glX 57 [.lst 3 (kdl l), .agg (bkr b)] R := by
  refine K0_by hmX hcQ 3000 Tryz.func57 (p := K0G Tryz.prog glX 16 [V.lst 3 (kdl l)] fun v => onIntK IntKind.i64 v fun n => ifB (n != (0 : Int)) (R (V.tup [V.agg [nilS, nilS], iv n])) (K0G Tryz.prog glX 98 [V.lst 3 (kdl l), V.agg [iv b.1, iv b.2.1.1, iv b.2.1.2.1, iv b.2.1.2.2, V.raw (Value.int IntKind.u8 b.2.2.1), V.raw (Value.int IntKind.u8 b.2.2.2)]] fun v => onBool v fun b_1 => ifB (!b_1) (R (V.tup [V.agg [nilS, nilS], iv (11 : Int)])) (onNat b.1 fun m => onSome (kdl l)[m]? fun row => onCons (List.drop 0 row) fun u r => onLst u fun s es => onCons r fun u r => onLst u fun s_1 es_1 => onCons r fun u r => onIntK IntKind.i64 u fun n => K0G Tryz.prog glX 95 [V.agg [V.lst s es, V.lst s_1 es_1, iv n], iv (IntKind.i64.wrap b.2.2.1), V.agg [iv b.2.1.1, iv b.2.1.2.1, iv b.2.1.2.2]] fun v => onAgg v fun cs => onCons cs fun u r => onLst u fun s es => onCons r fun u r => onLst u fun s_2 es_2 => onNil r (R (V.tup [V.agg [V.lst s es, V.lst s_2 es_2], iv (0 : Int)]))))) (by kernel_rfl) ?_
  refine kinds16 hl (fun hK => onIntK_iv (ifB_f rfl (brick98 hr hll (onBool_bv (ifB_mk (fun c => h1 11 (.inr (.inr (.inl ⟨hK, nbt c, rfl⟩))) (by decide)) (fun c => ?_)))))) (fun h16 => onIntK_iv (ifB_t rfl (h1 4 (.inl ⟨h16, rfl⟩) (by decide)))) (fun h16 hn => onIntK_iv (ifB_t rfl (h1 10 (.inr (.inl ⟨h16, hn, rfl⟩)) (by decide))))
  have hB := nb c
  obtain ⟨q, n, hP, h3, h4, _⟩ := putb hK hl hB hr
  refine onNat_mk (m := b.1.toNat) (by have := hP.k0; omega) (del hP.at_ ?_)
  rw [hP.turn, wr (by have := hP.t24; omega) (by have := hP.t24; omega)]
  exact put95 (by_ := b.2.1) hP.t24 hP.put hP.bd (onAgg_agg (onCons_cons (onLst_lst (onCons_cons (onLst_lst (onNil_nil (h2 (.inr (.inr (.inr ⟨hK, hB, rfl⟩))) q n hP h3 h4)))))))
theorem cells22 {l : List Kd} {b : Bk} {R : V → Prop} (hl : ∀ q ∈ l, KdR q) (hll : (l.length : Int) ≤ 1000000) (hr : BkR b) (h1 : ∀ e, askE l b e → e ≠ 0 → R (.tup [nilS, iv e])) (h2 : askE l b 0 → ∀ q n, PutB l b q n → R (.tup [.lst 3 (cll (plc q n b.2.1)), iv 0])) : K0G Tryz.prog glX 22 [.lst 3 (kdl l), .agg (bkr b)] R := by
  refine K0_by hmX hcQ 3000 Tryz.func22 (p := K0G Tryz.prog glX 58 [V.lst 3 (kdl l), V.agg [iv b.1, iv b.2.1.1, iv b.2.1.2.1, iv b.2.1.2.2, V.raw (Value.int IntKind.u8 b.2.2.1), V.raw (Value.int IntKind.u8 b.2.2.2)]] fun v => onIntK IntKind.i64 v fun n => ifB (n != (0 : Int)) (R (V.tup [nilS, iv n])) (K0G Tryz.prog glX 59 [V.lst 3 (kdl l), V.agg [iv b.1, iv b.2.1.1, iv b.2.1.2.1, iv b.2.1.2.2, V.raw (Value.int IntKind.u8 b.2.2.1), V.raw (Value.int IntKind.u8 b.2.2.2)]] fun v => onLst v fun s es => R (V.tup [V.lst s es, iv (0 : Int)]))) (by kernel_rfl) ?_
  refine asked58 hl hll (fun e he => onIntK_iv (ifB_mk (fun c => h1 e he (by simpa using c)) (fun c => ?_)))
  have e0 : e = 0 := by simpa using c
  subst e0
  obtain ⟨hK, hB⟩ := he.ok
  obtain ⟨q, n, hP, _, _, _⟩ := putb hK hl hB hr
  exact placed59 hP (onLst_lst (h2 he q n hP))
theorem knobs25 {l : List Kd} {b : Bk} {R : V → Prop} (hl : ∀ q ∈ l, KdR q) (hll : (l.length : Int) ≤ 1000000) (hr : BkR b) (h1 : ∀ e, askE l b e → e ≠ 0 → R (.tup [nilS, iv e])) (h2 : askE l b 0 → ∀ q n, PutB l b q n → ∀ s, (s = 5 ∨ knb q n b.2.1 = []) → R (.tup [.lst s (knl (knb q n b.2.1)), iv 0])) : K0G Tryz.prog glX 25 [.lst 3 (kdl l), .agg (bkr b)] R := by
  refine K0_by hmX hcQ 3000 Tryz.func25 (p := K0G Tryz.prog glX 58 [V.lst 3 (kdl l), V.agg [iv b.1, iv b.2.1.1, iv b.2.1.2.1, iv b.2.1.2.2, V.raw (Value.int IntKind.u8 b.2.2.1), V.raw (Value.int IntKind.u8 b.2.2.2)]] fun v => onIntK IntKind.i64 v fun n => ifB (n != (0 : Int)) (R (V.tup [nilS, iv n])) (K0G Tryz.prog glX 60 [V.lst 3 (kdl l), V.agg [iv b.1, iv b.2.1.1, iv b.2.1.2.1, iv b.2.1.2.2, V.raw (Value.int IntKind.u8 b.2.2.1), V.raw (Value.int IntKind.u8 b.2.2.2)]] fun v => onLst v fun s es => R (V.tup [V.lst s es, iv (0 : Int)]))) (by kernel_rfl) ?_
  refine asked58 hl hll (fun e he => onIntK_iv (ifB_mk (fun c => h1 e he (by simpa using c)) (fun c => ?_)))
  have e0 : e = 0 := by simpa using c
  subst e0
  obtain ⟨hK, hB⟩ := he.ok
  obtain ⟨q, n, hP, _, _, _⟩ := putb hK hl hB hr
  exact knobbed60' hP (fun s hs => h2 he q n hP s hs)
def NormP (q : Kd) (n : Nat) (b r : Bk) : Prop := (∃ t, t < 24 ∧ LikeP q t n b.2.1 ∧ (∀ u, u < t → ¬ LikeP q u n b.2.1) ∧ ((Bd 1000 (cAt q t n b.2.1) ∧ r = (b.1, cAt q t n b.2.1, (t : Int), b.2.2.2)) ∨ (¬ Bd 1000 (cAt q t n b.2.1) ∧ r = b))) ∨ ((∀ u, u < 24 → ¬ LikeP q u n b.2.1) ∧ r = b)
theorem NormP.uniq {q : Kd} {n : Nat} {b r s : Bk} (h : NormP q n b r) (g : NormP q n b s) : r = s := by
  rcases h with ⟨t, h1, h2, h3, h4⟩ | ⟨h1, h2⟩ <;> rcases g with ⟨u, g1, g2, g3, g4⟩ | ⟨g1, g2⟩
  · have : t = u := by
      rcases Nat.lt_trichotomy t u with h | h | h
      · exact (g3 t h h2).elim
      · exact h
      · exact (h3 u h g2).elim
    subst this
    rcases h4 with ⟨a, b⟩ | ⟨a, b⟩ <;> rcases g4 with ⟨c, d⟩ | ⟨c, d⟩
    · rw [b, d]
    · exact (c a).elim
    · exact (a c).elim
    · rw [b, d]
  · exact (g1 t h1 h2).elim
  · exact (h1 u g1 g2).elim
  · rw [h2, g2]
theorem norm63 {l : List Kd} {b : Bk} {q : Kd} {n : Nat} {R : V → Prop} (hP : PutB l b q n) (hb1 : Bd 1000 b.2.1) (h : ∀ r, NormP q n b r → R (.agg (bkr r))) : K0G Tryz.prog glX 63 [.lst 3 (kdl l), .agg (bkr b)] R := by
  refine K0_by hmX hcD 3000 Tryz.func63 (p := La 0 [(0 : Tmp), (3 : Tmp), (4 : Tmp), (5 : Tmp)] (WY Tryz.prog cfD 2995 (Env.mk (Bs.mk 0 []) 0 none 27 63 0) (cdAt [1, 0, 1, 0, 0] (bodyOf Tryz.f63))) (Qblk 0 (Qthen (WY Tryz.prog cfD 2998 (Env.mk (Bs.mk 0 []) 0 none 27 63 0) (cdAt [1, 1] (bodyOf Tryz.f63)) (QendX Tryz.prog Tryz.f63 fun v h => R (frzW h v))) (QendX Tryz.prog Tryz.f63 fun v h => R (frzW h v)))) (St.mk (mkT [(0, V.lst 3 (kdl l)), (3, V.ptr (Id.p 0) 0 0), (4, V.ptr (Id.p 1) 0 0), (5, iv (0 : Int))]) (Hp.mk [(0, O.rows 6 false [[iv b.1, iv b.2.1.1, iv b.2.1.2.1, iv b.2.1.2.2, V.raw (Value.int IntKind.u8 b.2.2.1), V.raw (Value.int IntKind.u8 b.2.2.2)]]), (1, O.rows 6 false [[iv (0 : Int), iv (0 : Int), iv (0 : Int), iv (0 : Int), V.raw (Value.int IntKind.u8 (0 : Int)), V.raw (Value.int IntKind.u8 (0 : Int))]])] 2 []))) (by kernel_rfl) ?_
  refine La.of (σ := Nat) (fun i => sh63 l b i) (fun i => i ≤ 24 ∧ ∀ u, u < i → ¬ LikeP q u n b.2.1) (fun i => 24 - i) 0 (by kernel_rfl) ⟨by omega, fun u h => by omega⟩ ?_
  rintro i ⟨g1, g2⟩ J hJ
  obtain ⟨n0, hn0⟩ : ∃ n0, n0 = n := ⟨_, rfl⟩
  subst hn0
  refine see (p := ifB (decide ((↑i : Int) < (24 : Int))) (K0G Tryz.prog glX 56 [V.lst 3 (kdl l), V.agg [iv b.1, iv b.2.1.1, iv b.2.1.2.1, iv b.2.1.2.2, V.raw (Value.int IntKind.u8 b.2.2.1), V.raw (Value.int IntKind.u8 b.2.2.2)], iv (↑i : Int)] fun v => onTup v fun vs => onCons vs fun u r => onAgg u fun cs => onCons cs fun u r_1 => onIntK IntKind.i64 u fun n => onCons r_1 fun u r_2 => onIntK IntKind.i64 u fun n_1 => onCons r_2 fun u r_3 => onIntK IntKind.i64 u fun n_2 => onCons r_3 fun u r_4 => onIntK IntKind.i64 u fun n_3 => onCons r_4 fun u r_5 => onIntK IntKind.u8 u fun n_4 => onCons r_5 fun u r_6 => onIntK IntKind.u8 u fun n_5 => onNil r_6 (onCons r fun u r => onBool u fun b_1 => onNil r (ifB b_1 (K0G Tryz.prog glX 49 [V.agg [iv n_1, iv n_2, iv n_3], iv (-1000 : Int), iv (1000 : Int)] fun v => onBool v fun b_2 => ifB (!b_2) (R (V.agg [iv b.1, iv b.2.1.1, iv b.2.1.2.1, iv b.2.1.2.2, V.raw (Value.int IntKind.u8 b.2.2.1), V.raw (Value.int IntKind.u8 b.2.2.2)])) (R (V.agg [iv n, iv n_1, iv n_2, iv n_3, V.raw (Value.int IntKind.u8 n_4), V.raw (Value.int IntKind.u8 n_5)]))) (J (St.mk (mkT [(0, V.lst 3 (kdl l)), (3, V.ptr (Id.p 0) 0 0), (4, V.ptr (Id.p 1) 0 0), (5, iv (IntKind.i64.wrap ((↑i : Int) + (1 : Int))))]) (Hp.mk [(0, O.rows 6 false [[iv b.1, iv b.2.1.1, iv b.2.1.2.1, iv b.2.1.2.2, V.raw (Value.int IntKind.u8 b.2.2.1), V.raw (Value.int IntKind.u8 b.2.2.2)]]), (1, O.rows 6 false [[iv (0 : Int), iv (0 : Int), iv (0 : Int), iv (0 : Int), V.raw (Value.int IntKind.u8 (0 : Int)), V.raw (Value.int IntKind.u8 (0 : Int))]])] 2 [])))))) (R (V.agg [iv b.1, iv b.2.1.1, iv b.2.1.2.1, iv b.2.1.2.2, V.raw (Value.int IntKind.u8 b.2.2.1), V.raw (Value.int IntKind.u8 b.2.2.2)]))) (by kernel_rfl) ?_
  refine ifB_mk (fun c => ?_) (fun c => h b (.inr ⟨fun u hu => g2 u (by have := of_decide_eq_false c; omega), rfl⟩))
  have hi : i < 24 := by have := of_decide_eq_true c; omega
  refine like56 (b := b) hP hb1 hi rfl (onT2 ?_)
  refine ifB_mk (fun e => ?_) (fun e => ?_)
  · have e := dc_true e
    refine near49 (c := cAt q i n0 b.2.1) (onBool_bv (ifB_mk (fun f => h b (.inl ⟨i, hi, e, g2, .inr ⟨nbt f, rfl⟩⟩)) (fun f => h _ (.inl ⟨i, hi, e, g2, .inl ⟨nb f, rfl⟩⟩))))
  · rw [wr1i hi (by omega)]
    refine hJ (i + 1) ⟨hi, fun u hu => ?_⟩ (by omega)
    rcases Nat.lt_succ_iff_lt_or_eq.1 hu with hu | hu
    · exact g2 u hu
    · rw [hu]; exact dc_false e
theorem norm27 {l : List Kd} {b : Bk} {R : V → Prop} (hl : ∀ q ∈ l, KdR q) (hll : (l.length : Int) ≤ 1000000) (hr : BkR b) (h1 : ∀ e, askE l b e → e ≠ 0 → R (.tup [.agg (bkr (0, (0, 0, 0), 0, 0)), iv e])) (h2 : askE l b 0 → ∀ q n r, PutB l b q n → NormP q n b r → R (.tup [.agg (bkr r), iv 0])) : K0G Tryz.prog glX 27 [.lst 3 (kdl l), .agg (bkr b)] R := by
  refine K0_by hmX hcD 3000 Tryz.func27 (p := K0G Tryz.prog glX 58 [V.lst 3 (kdl l), V.agg [iv b.1, iv b.2.1.1, iv b.2.1.2.1, iv b.2.1.2.2, V.raw (Value.int IntKind.u8 b.2.2.1), V.raw (Value.int IntKind.u8 b.2.2.2)]] fun v => onIntK IntKind.i64 v fun n => ifB (n != (0 : Int)) (R (V.tup [V.agg [iv (0 : Int), iv (0 : Int), iv (0 : Int), iv (0 : Int), V.raw (Value.int IntKind.u8 (0 : Int)), V.raw (Value.int IntKind.u8 (0 : Int))], iv n])) (K0G Tryz.prog glX 63 [V.lst 3 (kdl l), V.agg [iv b.1, iv b.2.1.1, iv b.2.1.2.1, iv b.2.1.2.2, V.raw (Value.int IntKind.u8 b.2.2.1), V.raw (Value.int IntKind.u8 b.2.2.2)]] fun v => onAgg v fun cs => onCons cs fun u r => onIntK IntKind.i64 u fun n => onCons r fun u r => onIntK IntKind.i64 u fun n_1 => onCons r fun u r => onIntK IntKind.i64 u fun n_2 => onCons r fun u r => onIntK IntKind.i64 u fun n_3 => onCons r fun u r => onIntK IntKind.u8 u fun n_4 => onCons r fun u r => onIntK IntKind.u8 u fun n_5 => onNil r (R (V.tup [V.agg [iv n, iv n_1, iv n_2, iv n_3, V.raw (Value.int IntKind.u8 n_4), V.raw (Value.int IntKind.u8 n_5)], iv (0 : Int)])))) (by kernel_rfl) ?_
  refine asked58 hl hll (fun e he => onIntK_iv (ifB_mk (fun c => h1 e he (by simpa using c)) (fun c => ?_)))
  have e0 : e = 0 := by simpa using c
  subst e0
  obtain ⟨hK, hB⟩ := he.ok
  obtain ⟨q, n, hP, _, h4, _⟩ := putb hK hl hB hr
  exact norm63 hP h4 (fun r hr => h2 he q n r hP hr)
end Go.Proofs.YtbionhgjgcpogaaGreatDoor
namespace Go.Proofs.YtbionhgjgcpogaaGreatDoor
open Go Go.Proofs.YtbionhgjgcpogaaGreatDoor.Clean
set_option linter.unusedVariables false
set_option linter.unusedSimpArgs false
set_option maxRecDepth 10000
noncomputable def symF (q : Kd) (k : Nat) : List Int := ((List.range k).filter fun t => dc (LikeP q t 0 (0, 0, 0))).map fun t : Nat => (t : Int)
theorem symF_succ (q : Kd) (k : Nat) : symF q (k + 1) = if dc (LikeP q k 0 (0, 0, 0)) = true then symF q k ++ [(k : Int)] else symF q k := by
  unfold symF
  rw [List.range_succ, List.filter_append, List.map_append]
  split
  · rename_i h; simp [h]
  · rename_i h; simp [h]
theorem symF_len (q : Kd) (k : Nat) : (symF q k).length ≤ k := by
  unfold symF
  rw [List.length_map]
  exact Nat.le_trans (List.length_filter_le _ _) (by simp)
theorem symF_pos {q : Kd} (h : 1 ≤ q.1.length) : 0 < (symF q 24).length := by
  have : (0 : Int) ∈ symF q 24 := List.mem_map.2 ⟨0, List.mem_filter.2 ⟨List.mem_range.2 (by omega), dc_t (like_self h)⟩, rfl⟩
  exact List.length_pos_of_mem this
noncomputable def fam19 (q : Kd) (i : Nat) : St := match (symF q i).length with | 0 => sh19n q i | _ + 1 => sh19s q i (symF q i)
noncomputable def fam18 (q : Kd) (i : Nat) : St := match (symF q i).length with | 0 => sh18n q i | _ + 1 => sh18s q i (symF q i)
theorem nl_app (L : List Int) (x : Int) : List.take L.length (nl L) ++ [[iv x]] = nl (L ++ [x]) := by rw [← nl_length, List.take_length]; simp [nl]
theorem sub_nl (L : List Int) : sub (nl L) 0 L.length = nl L := by rw [sub, List.drop_zero, ← nl_length, List.take_length]
theorem putB0 {q : Kd} (hq : PutP q) (h1 : 1 ≤ q.1.length) : PutB [q] (0, (0, 0, 0), 0, 0) q 0 := ⟨rfl, by show (0 : Int) ≤ 0; omega, hq, h1, rfl, by omega, Bd0 _ (by omega)⟩
set_option maxHeartbeats 1000000 in
theorem sym19 {q : Kd} {R : V → Prop} (hr : KdR q) (h1 : KindP q → R (.tup [.lst 1 (nl (symF q 24)), iv 0])) (h2 : ¬ KindP q → R (.tup [nilS, iv 10])) : K0G Tryz.prog glX 19 [.agg (kdr q)] R := by
  refine K0_by hmX hcD 3000 Tryz.func19 (p := K0G Tryz.prog glX 53 [V.agg [V.lst 3 (cll q.1), V.lst 5 (knl q.2.1), iv q.2.2]] fun v => onBool v fun b => ifB (!b) (R (V.tup [nilS, iv (10 : Int)])) (La 0 [(1 : Tmp), (4 : Tmp), (5 : Tmp)] (WY Tryz.prog cfD 2993 (Env.mk (Bs.mk 0 []) 0 none 29 19 0) (cdAt [1, 1, 1, 0, 1, 0, 0] (bodyOf Tryz.f19))) (Qblk 0 (Qthen (WY Tryz.prog cfD 2996 (Env.mk (Bs.mk 0 []) 0 none 29 19 0) (cdAt [1, 1, 1, 1] (bodyOf Tryz.f19)) (QendX Tryz.prog Tryz.f19 fun v h => R (frzW h v))) (QendX Tryz.prog Tryz.f19 fun v h => R (frzW h v)))) (St.mk (mkT [(1, V.ptr (Id.p 0) 0 0), (4, nilS), (5, iv (0 : Int))]) (Hp.mk [(0, O.rows 3 false [[V.lst 3 (cll q.1), V.lst 5 (knl q.2.1), iv q.2.2]])] 1 [])))) (by kernel_rfl) ?_
  refine valid53 hr (onBool_bv (ifB_mk (fun c => h2 (nbt c)) (fun c => ?_)))
  have hK := nb c
  have hP := hK.put hr
  have hpos := hK.1.1.1
  refine La.of (σ := Nat) (fam19 q) (fun i => i ≤ 24) (fun i => 24 - i) 0 (by kernel_rfl) (by omega) ?_
  intro i g1 J hJ
  have like : ∀ {K : Int → Int → Int → Int → Int → Int → Bool → Prop}, i < 24 → (∀ a b c d e f, K a b c d e f (dc (LikeP q i 0 (0, 0, 0)))) → K0G Tryz.prog glX 56 [.lst 3 (kdl [q]), .agg (bkr (0, (0, 0, 0), 0, 0)), iv (i : Int)] (fun v => onTup v fun vs => onCons vs fun u r => onAgg u fun cs => onCons cs fun u r_1 => onIntK IntKind.i64 u fun n_1 => onCons r_1 fun u r_2 => onIntK IntKind.i64 u fun n_2 => onCons r_2 fun u r_3 => onIntK IntKind.i64 u fun n_3 => onCons r_3 fun u r_4 => onIntK IntKind.i64 u fun n_4 => onCons r_4 fun u r_5 => onIntK IntKind.u8 u fun n_5 => onCons r_5 fun u r_6 => onIntK IntKind.u8 u fun n_6 => onNil r_6 (onCons r fun u r => onBool u fun b_1 => onNil r (K n_1 n_2 n_3 n_4 n_5 n_6 b_1))) :=
    fun hi hk => like56 (putB0 hP.put hpos) (Bd0 _ (by omega)) hi rfl (onT2 (hk _ _ _ _ _ _))
  have hlen := symF_len q i
  have nxt := fun (hi : i < 24) => hJ (i + 1) hi (by omega)
  have hs := symF_succ q i
  cases hL : (symF q i).length with
  | zero =>
    have hnil : symF q i = [] := List.length_eq_zero_iff.1 hL
    have hst : fam19 q i = sh19n q i := by simp only [fam19, hL]
    rw [hst]
    refine see (p := ifB (decide ((↑i : Int) < (24 : Int))) (K0G Tryz.prog glX 56 [V.lst 3 [[V.lst 3 (cll q.1), V.lst 5 (knl q.2.1), iv q.2.2]], V.agg [iv (0 : Int), iv (0 : Int), iv (0 : Int), iv (0 : Int), V.raw (Value.int IntKind.u8 (0 : Int)), V.raw (Value.int IntKind.u8 (0 : Int))], iv (↑i : Int)] fun v => onTup v fun vs => onCons vs fun u r => onAgg u fun cs => onCons cs fun u r_1 => onIntK IntKind.i64 u fun n => onCons r_1 fun u r_2 => onIntK IntKind.i64 u fun n => onCons r_2 fun u r_3 => onIntK IntKind.i64 u fun n => onCons r_3 fun u r_4 => onIntK IntKind.i64 u fun n => onCons r_4 fun u r_5 => onIntK IntKind.u8 u fun n => onCons r_5 fun u r_6 => onIntK IntKind.u8 u fun n => onNil r_6 (onCons r fun u r => onBool u fun b => onNil r (ifB b (J (St.mk (mkT [(1, V.ptr (Id.p 0) 0 0), (4, V.sl (Id.p 1) 0 1), (5, iv (IntKind.i64.wrap ((↑i : Int) + (1 : Int))))]) (Hp.mk [(0, O.rows 3 false [[V.lst 3 (cll q.1), V.lst 5 (knl q.2.1), iv q.2.2]]), (1, O.rows 1 true [[iv (↑i : Int)]])] 2 []))) (J (St.mk (mkT [(1, V.ptr (Id.p 0) 0 0), (4, nilS), (5, iv (IntKind.i64.wrap ((↑i : Int) + (1 : Int))))]) (Hp.mk [(0, O.rows 3 false [[V.lst 3 (cll q.1), V.lst 5 (knl q.2.1), iv q.2.2]])] 1 [])))))) (R (V.tup [nilS, iv (0 : Int)]))) (by kernel_rfl) ?_
    refine ifB_mk (fun d => ?_) (fun d => ?_)
    · have hi : i < 24 := by have := of_decide_eq_true d; omega
      have nxt := nxt hi
      refine like hi (fun _ _ _ _ _ _ => ifB_mk (fun e => ?_) (fun e => ?_))
      · rw [if_pos e, hnil] at hs
        have hst : fam19 q (i + 1) = sh19s q (i + 1) [(i : Int)] := by simp only [fam19, hs]; rfl
        rw [hst] at nxt
        rw [wr1i hi (by omega)]
        exact nxt
      · rw [if_neg (by rw [e]; decide), hnil] at hs
        have hst : fam19 q (i + 1) = sh19n q (i + 1) := by simp only [fam19, hs]; rfl
        rw [hst] at nxt
        rw [wr1i hi (by omega)]
        exact nxt
    · have hi : i = 24 := by have := of_decide_eq_false d; omega
      subst hi
      have := symF_pos (q := q) hpos
      omega
  | succ m =>
    have hst : fam19 q i = sh19s q i (symF q i) := by simp only [fam19, hL]
    rw [hst]
    generalize hG : symF q i = L
    rw [hG] at hs hlen hL
    refine see (p := ifB (decide ((↑i : Int) < (24 : Int))) (K0G Tryz.prog glX 56 [V.lst 3 [[V.lst 3 (cll q.1), V.lst 5 (knl q.2.1), iv q.2.2]], V.agg [iv (0 : Int), iv (0 : Int), iv (0 : Int), iv (0 : Int), V.raw (Value.int IntKind.u8 (0 : Int)), V.raw (Value.int IntKind.u8 (0 : Int))], iv (↑i : Int)] fun v => onTup v fun vs => onCons vs fun u r => onAgg u fun cs => onCons cs fun u r_1 => onIntK IntKind.i64 u fun n => onCons r_1 fun u r_2 => onIntK IntKind.i64 u fun n_1 => onCons r_2 fun u r_3 => onIntK IntKind.i64 u fun n_2 => onCons r_3 fun u r_4 => onIntK IntKind.i64 u fun n_3 => onCons r_4 fun u r_5 => onIntK IntKind.u8 u fun n_4 => onCons r_5 fun u r_6 => onIntK IntKind.u8 u fun n_5 => onNil r_6 (onCons r fun u r => onBool u fun b => onNil r (ifB b (need ((L.length + 1) * 8 ≤ 140737488355328) (J (St.mk (mkT [(1, V.ptr (Id.p 0) 0 0), (4, V.sl (Id.p 1) 0 (L.length + 1)), (5, iv (IntKind.i64.wrap ((↑i : Int) + (1 : Int))))]) (Hp.mk [(0, O.rows 3 false [[V.lst 3 (cll q.1), V.lst 5 (knl q.2.1), iv q.2.2]]), (1, O.rows 1 true (List.take L.length (nl L) ++ [[iv (↑i : Int)]]))] 2 [])))) (J (St.mk (mkT [(1, V.ptr (Id.p 0) 0 0), (4, V.sl (Id.p 1) 0 L.length), (5, iv (IntKind.i64.wrap ((↑i : Int) + (1 : Int))))]) (Hp.mk [(0, O.rows 3 false [[V.lst 3 (cll q.1), V.lst 5 (knl q.2.1), iv q.2.2]]), (1, O.rows 1 true (nl L))] 2 [])))))) (R (V.tup [V.lst 1 (sub (nl L) 0 L.length), iv (0 : Int)]))) (by kernel_rfl) ?_
    refine ifB_mk (fun d => ?_) (fun d => ?_)
    · have hi : i < 24 := by have := of_decide_eq_true d; omega
      have nxt := nxt hi
      refine like hi (fun _ _ _ _ _ _ => ifB_mk (fun e => need_mk ⟨by omega, ?_⟩) (fun e => ?_))
      · rw [if_pos e] at hs
        have hst : fam19 q (i + 1) = sh19s q (i + 1) (L ++ [(i : Int)]) := by simp only [fam19, hs]; simp
        rw [hst] at nxt
        rw [wr1i hi (by omega), nl_app]
        exact hJ' (by simp [sh19s, kdr]) nxt
      · rw [if_neg (by rw [e]; decide)] at hs
        have hst : fam19 q (i + 1) = sh19s q (i + 1) L := by simp only [fam19, hs, hL]
        rw [hst] at nxt
        rw [wr1i hi (by omega)]
        exact nxt
    · have hi : i = 24 := by have := of_decide_eq_false d; omega
      subst hi
      rw [sub_nl, ← hG]
      exact h1 hK
theorem sortK_id {l : List Kn} (h : l.Pairwise BefK) : sortK l = l := (sortK_uniq (Fac.of h) (List.Perm.refl _) (h.imp (fun h => BefK.asy h))).symm
theorem plc_id {q : Kd} (h : CellsP q.1) : plc q 0 (0, 0, 0) = q.1 := by
  have : (q.1.map fun c => addC (tn 0 c) (0, 0, 0)) = q.1 := by
    conv => rhs; rw [← List.map_id q.1]
    exact List.map_congr_left fun c _ => by rw [addC_zero]; rfl
  unfold plc
  rw [this]
  exact (sortC_uniq (List.Perm.refl _) (h.2.2.imp (fun h => Bef.asy h))).symm
theorem knb_id {q : Kd} (h : PutP q) : knb q 0 (0, 0, 0) = q.2.1 := by
  unfold knb
  conv => rhs; rw [← List.map_id q.2.1]
  refine List.map_congr_left fun k hk => ?_
  rw [addC_zero, pt0 (h.2.2.1 k hk).2]
  rfl
theorem knb0_bd {q : Kd} {t : Nat} (hq : PutP q) : ∀ k ∈ knb q t (0, 0, 0), Bd 15 k.1 := fun k hk => by
  obtain ⟨x, hx, rfl⟩ := List.mem_map.1 hk
  exact (add_bd (tn_bd ((hq.2.2.1 x hx).1.mono (c := -15) (d := 15) (by omega) (by omega))) (Bd0 0 (by omega))).mono (by omega)
theorem walk {q : Kd} {t n : Nat} {at_ : Cl} {K : Int → Int → Int → Bool → Prop} (hP : KnbP q) (hpos : 1 ≤ q.1.length) (ht : t < 24) (hn : n < 24) (hb : Bd 1000 at_) (h1 : LikeP q t n at_ → K (cAt q t n at_).1 (cAt q t n at_).2.1 (cAt q t n at_).2.2 true) (h2 : ¬ LikeP q t n at_ → K 0 0 0 false) :
    K0G Tryz.prog glX 95 [.agg (kdr q), iv (t : Int), .agg (clr (0, 0, 0))] fun v => onAgg v fun cs => onCons cs fun u_1 r => onLst u_1 fun s es => onCons r fun u_2 r => onLst u_2 fun s_6 es_6 => onNil r (K0G Tryz.prog glX 61 [V.agg [V.lst s es, V.lst s_6 es_6]] fun v => onAgg v fun cs => onCons cs fun u_3 r => onLst u_3 fun s es => onCons r fun u_4 r => onLst u_4 fun s_7 es_7 => onNil r (K0G Tryz.prog glX 55 [V.agg [V.lst s es, V.lst s_7 es_7], V.agg [V.lst 3 (cll (plc q n at_)), V.lst 5 (knl (sortK (knb q n at_)))]] fun v => onTup v fun vs => onCons vs fun u_5 r => onAgg u_5 fun cs => onCons cs fun u_6 r_1 => onIntK IntKind.i64 u_6 fun n => onCons r_1 fun u_7 r_2 => onIntK IntKind.i64 u_7 fun n_2 => onCons r_2 fun u_8 r_3 => onIntK IntKind.i64 u_8 fun n_3 => onNil r_3 (onCons r fun u_9 r => onBool u_9 fun b_1 => onNil r (K n n_2 n_3 b_1)))) := by
  have hq := hP.put
  have h60 := hq.2.2.2
  have h30 := hq.2.1
  refine put95 (by_ := (0, 0, 0)) ht hq (Bd0 _ (by omega)) (onAgg_agg (onCons_cons (onLst_lst (onCons_cons (onLst_lst (onNil_nil ?_))))))
  refine sorted61 (by rw [knb_length]; omega) (knb_fac hP ht) (onAgg_agg (onCons_cons (onLst_lst (onCons_cons (onLst_lst (onNil_nil ?_))))))
  have key := look_iff (t := t) (n := n) (at_ := at_) hP ht hn
  refine stepTo55 (by rw [plc_length, plc_length]) (by rw [plc_length]; exact hpos) (by rw [plc_length]; omega) (by rw [sortK_length, sortK_length, knb_length, knb_length]) (by rw [sortK_length, knb_length]; omega) (fun c hc => (plc0_bd hq c hc).mono (by omega)) (fun c hc => (plc1_bd hq hb c hc).mono (by omega)) (fun k hk => (knb0_bd hq k ((sortK_perm _).mem_iff.1 hk)).mono (by omega)) (fun a b => ?_) (fun a => ?_)
  · exact h1 (key.1 ⟨a, b⟩)
  · exact h2 (fun x => a (key.2 x))
set_option maxHeartbeats 1000000 in
theorem sym18 {q : Kd} {R : V → Prop} (hr : KdR q) (h1 : KindP q → R (.tup [.lst 1 (nl (symF q 24)), iv 0])) (h2 : ¬ KindP q → R (.tup [nilS, iv 10])) : K0G Tryz.prog glX 18 [.agg (kdr q)] R := by
  refine K0_by hmX hcE 3000 Tryz.func18 (p := K0G Tryz.prog glX 14 [V.agg [V.lst 3 (cll q.1), V.lst 5 (knl q.2.1), iv q.2.2]] fun v => onIntK IntKind.i64 v fun n => ifB (n != (0 : Int)) (R (V.tup [nilS, iv n])) (La 4 [(0 : Tmp), (1 : Tmp), (4 : Tmp)] (WY Tryz.prog cfE 2990 (Env.mk (Bs.mk 0 (spared [] [V.yl (Id.p 3), V.ptr (Id.p 2) 0 0] ++ [])) 4 none 17 94 0) (cdAt [1, 0, 0] (bodyOf Tryz.f94))) (Qblk 0 (QendX Tryz.prog Tryz.f94 fun v h' => kontY (WY Tryz.prog cfE 2993) (Env.mk (Bs.mk 0 []) 0 none 35 18 0) (Qblk 0 (Qthen (WY Tryz.prog cfE 2996 (Env.mk (Bs.mk 0 []) 0 none 35 18 0) (cdAt [1, 1, 1, 1] (bodyOf Tryz.f18)) (QendX Tryz.prog Tryz.f18 fun v h => R (frzW h v))) (QendX Tryz.prog Tryz.f18 fun v h => R (frzW h v)))) (mkT [(0, V.agg [V.lst 3 (cll q.1), V.lst 5 (knl q.2.1), iv q.2.2]), (1, V.ptr (Id.p 0) 0 0), (2, nilS), (3, iv (0 : Int)), (4, iv n), (5, V.ptr (Id.p 1) 0 0), (10, V.agg [V.lst 3 (cll q.1), V.lst 5 (knl q.2.1), iv q.2.2]), (11, iv n), (12, iv n), (13, bv (n != (0 : Int))), (15, V.agg [V.lst 3 (cll q.1), V.lst 5 (knl q.2.1), iv q.2.2]), (16, V.fn (Fn.func 94) [] [V.ptr (Id.p 2) 0 0])]) 3 v (bif cfE.clean 94 then gcH 4 v h' else h'))) (St.mk (mkT [(0, V.yl (Id.p 3)), (1, V.ptr (Id.p 2) 0 0), (4, iv (0 : Int))]) (Hp.mk [(3, O.lp (Lr.mk LoopState.ready none (mkT [(0, V.agg [V.lst 3 (cll q.1), V.lst 5 (knl q.2.1), iv q.2.2]), (1, V.ptr (Id.p 0) 0 0), (2, nilS), (3, iv (0 : Int)), (4, iv n), (5, V.ptr (Id.p 1) 0 0), (10, V.agg [V.lst 3 (cll q.1), V.lst 5 (knl q.2.1), iv q.2.2]), (11, iv n), (12, iv n), (13, bv (n != (0 : Int))), (15, V.agg [V.lst 3 (cll q.1), V.lst 5 (knl q.2.1), iv q.2.2]), (16, V.fn (Fn.func 94) [] [V.ptr (Id.p 2) 0 0])]) 35 (Array.mk [17, 18]) (rfA (cdAt [1, 1, 1, 0, 1, 0] (bodyOf Tryz.f18))) (rfB (cdAt [1, 1, 1, 0, 1, 0] (bodyOf Tryz.f18))) 18)), (2, O.rows 3 false [[V.lst 3 (cll q.1), V.lst 5 (knl q.2.1), iv q.2.2]]), (1, O.rows 1 false [[nilS]]), (0, O.rows 3 false [[V.lst 3 (cll q.1), V.lst 5 (knl q.2.1), iv q.2.2]])] 4 [])))) (by kernel_rfl) ?_
  refine kind14 hr (fun hK => onIntK_iv (ifB_f rfl ?_)) (fun hn => onIntK_iv (ifB_t rfl (h2 hn)))
  have hP := hK.put hr
  have hpos := hK.1.1.1
  refine La.of (σ := Nat) (fam18 q) (fun i => i ≤ 24) (fun i => 24 - i) 0 (by kernel_rfl) (by omega) ?_
  intro i g1 J hJ
  have wk : ∀ {K : Int → Int → Int → Bool → Prop}, i < 24 → (LikeP q i 0 (0, 0, 0) → ∀ a b c, K a b c true) → (¬ LikeP q i 0 (0, 0, 0) → ∀ a b c, K a b c false) → _ := fun {K} hi k1 k2 => walk (K := K) (n := 0) (at_ := (0, 0, 0)) hP hpos hi (by omega) (Bd0 _ (by omega)) (fun a => k1 a _ _ _) (fun a => k2 a _ _ _)
  rw [plc_id hK.1, knb_id hP.put, sortK_id hP.pw] at wk
  have hlen := symF_len q i
  have nxt := fun (hi : i < 24) => hJ (i + 1) hi (by omega)
  have hs := symF_succ q i
  cases hL : (symF q i).length with
  | zero =>
    have hnil : symF q i = [] := List.length_eq_zero_iff.1 hL
    have hst : fam18 q i = sh18n q i := by simp only [fam18, hL]
    rw [hst]
    refine see (p := ifB (decide ((↑i : Int) < (24 : Int))) (K0G Tryz.prog glX 95 [V.agg [V.lst 3 (cll q.1), V.lst 5 (knl q.2.1), iv q.2.2], iv (↑i : Int), V.agg [iv (0 : Int), iv (0 : Int), iv (0 : Int)]] fun v => onAgg v fun cs => onCons cs fun u r => onLst u fun s es => onCons r fun u r => onLst u fun s_1 es_1 => onNil r (K0G Tryz.prog glX 61 [V.agg [V.lst s es, V.lst s_1 es_1]] fun v => onAgg v fun cs => onCons cs fun u r => onLst u fun s es => onCons r fun u r => onLst u fun s_2 es_2 => onNil r (K0G Tryz.prog glX 55 [V.agg [V.lst s es, V.lst s_2 es_2], V.agg [V.lst 3 (cll q.1), V.lst 5 (knl q.2.1)]] fun v => onTup v fun vs => onCons vs fun u r => onAgg u fun cs => onCons cs fun u r_1 => onIntK IntKind.i64 u fun n => onCons r_1 fun u r_2 => onIntK IntKind.i64 u fun n => onCons r_2 fun u r_3 => onIntK IntKind.i64 u fun n => onNil r_3 (onCons r fun u r => onBool u fun b => onNil r (ifB b (J (St.mk (mkT [(0, V.yl (Id.p 3)), (1, V.ptr (Id.p 2) 0 0), (4, iv (IntKind.i64.wrap ((↑i : Int) + (1 : Int))))]) (Hp.mk [(3, O.lp (Lr.mk LoopState.ready none (mkT [(0, V.agg [V.lst 3 (cll q.1), V.lst 5 (knl q.2.1), iv q.2.2]), (1, V.ptr (Id.p 0) 0 0), (2, nilS), (3, iv (0 : Int)), (4, iv (0 : Int)), (5, V.ptr (Id.p 1) 0 0), (10, V.agg [V.lst 3 (cll q.1), V.lst 5 (knl q.2.1), iv q.2.2]), (11, iv (0 : Int)), (12, iv (0 : Int)), (13, bv false), (15, V.agg [V.lst 3 (cll q.1), V.lst 5 (knl q.2.1), iv q.2.2]), (16, V.fn (Fn.func (94 : FuncId)) [] [V.ptr (Id.p 2) 0 0])]) 35 (Array.mk [17, 18]) (rfA (cdAt [1, 1, 1, 0, 1, 0] (bodyOf Tryz.f18))) (rfB (cdAt [1, 1, 1, 0, 1, 0] (bodyOf Tryz.f18))) 18)), (1, O.rows 1 false [[V.sl (Id.p 4) 0 1]]), (2, O.rows 3 false [[V.lst 3 (cll q.1), V.lst 5 (knl q.2.1), iv q.2.2]]), (0, O.rows 3 false [[V.lst 3 (cll q.1), V.lst 5 (knl q.2.1), iv q.2.2]]), (4, O.rows 1 true [[iv (↑i : Int)]])] 5 []))) (J (St.mk (mkT [(0, V.yl (Id.p 3)), (1, V.ptr (Id.p 2) 0 0), (4, iv (IntKind.i64.wrap ((↑i : Int) + (1 : Int))))]) (Hp.mk [(3, O.lp (Lr.mk LoopState.ready none (mkT [(0, V.agg [V.lst 3 (cll q.1), V.lst 5 (knl q.2.1), iv q.2.2]), (1, V.ptr (Id.p 0) 0 0), (2, nilS), (3, iv (0 : Int)), (4, iv (0 : Int)), (5, V.ptr (Id.p 1) 0 0), (10, V.agg [V.lst 3 (cll q.1), V.lst 5 (knl q.2.1), iv q.2.2]), (11, iv (0 : Int)), (12, iv (0 : Int)), (13, bv false), (15, V.agg [V.lst 3 (cll q.1), V.lst 5 (knl q.2.1), iv q.2.2]), (16, V.fn (Fn.func (94 : FuncId)) [] [V.ptr (Id.p 2) 0 0])]) 35 (Array.mk [17, 18]) (rfA (cdAt [1, 1, 1, 0, 1, 0] (bodyOf Tryz.f18))) (rfB (cdAt [1, 1, 1, 0, 1, 0] (bodyOf Tryz.f18))) 18)), (2, O.rows 3 false [[V.lst 3 (cll q.1), V.lst 5 (knl q.2.1), iv q.2.2]]), (1, O.rows 1 false [[nilS]]), (0, O.rows 3 false [[V.lst 3 (cll q.1), V.lst 5 (knl q.2.1), iv q.2.2]])] 4 [])))))))) (R (V.tup [nilS, iv (0 : Int)]))) (by kernel_rfl) ?_
    refine ifB_mk (fun d => ?_) (fun d => ?_)
    · have hi : i < 24 := by have := of_decide_eq_true d; omega
      have nxt := nxt hi
      refine wk hi (fun e _ _ _ => ifB_t rfl ?_) (fun e _ _ _ => ifB_f rfl ?_)
      · rw [if_pos (dc_t e), hnil] at hs
        have hst : fam18 q (i + 1) = sh18s q (i + 1) [(i : Int)] := by simp only [fam18, hs]; rfl
        rw [hst] at nxt
        rw [wr1i hi (by omega)]
        exact nxt
      · rw [if_neg (by rw [dc_f e]; decide), hnil] at hs
        have hst : fam18 q (i + 1) = sh18n q (i + 1) := by simp only [fam18, hs]; rfl
        rw [hst] at nxt
        rw [wr1i hi (by omega)]
        exact nxt
    · have hi : i = 24 := by have := of_decide_eq_false d; omega
      subst hi
      have := symF_pos (q := q) hpos
      omega
  | succ m =>
    have hst : fam18 q i = sh18s q i (symF q i) := by simp only [fam18, hL]
    rw [hst]
    generalize hG : symF q i = L
    rw [hG] at hs hlen hL
    refine see (p := ifB (decide ((↑i : Int) < (24 : Int))) (K0G Tryz.prog glX 95 [V.agg [V.lst 3 (cll q.1), V.lst 5 (knl q.2.1), iv q.2.2], iv (↑i : Int), V.agg [iv (0 : Int), iv (0 : Int), iv (0 : Int)]] fun v => onAgg v fun cs => onCons cs fun u r => onLst u fun s es => onCons r fun u r => onLst u fun s_1 es_1 => onNil r (K0G Tryz.prog glX 61 [V.agg [V.lst s es, V.lst s_1 es_1]] fun v => onAgg v fun cs => onCons cs fun u r => onLst u fun s_2 es_2 => onCons r fun u r => onLst u fun s_3 es_3 => onNil r (K0G Tryz.prog glX 55 [V.agg [V.lst s_2 es_2, V.lst s_3 es_3], V.agg [V.lst 3 (cll q.1), V.lst 5 (knl q.2.1)]] fun v => onTup v fun vs => onCons vs fun u r => onAgg u fun cs => onCons cs fun u r_1 => onIntK IntKind.i64 u fun n => onCons r_1 fun u r_2 => onIntK IntKind.i64 u fun n_1 => onCons r_2 fun u r_3 => onIntK IntKind.i64 u fun n_2 => onNil r_3 (onCons r fun u r => onBool u fun b => onNil r (ifB b (need ((L.length + 1) * 8 ≤ 140737488355328) (J (St.mk (mkT [(0, V.yl (Id.p 3)), (1, V.ptr (Id.p 2) 0 0), (4, iv (IntKind.i64.wrap ((↑i : Int) + (1 : Int))))]) (Hp.mk [(3, O.lp (Lr.mk LoopState.ready none (mkT [(0, V.agg [V.lst 3 (cll q.1), V.lst 5 (knl q.2.1), iv q.2.2]), (1, V.ptr (Id.p 0) 0 0), (2, nilS), (3, iv (0 : Int)), (4, iv (0 : Int)), (5, V.ptr (Id.p 1) 0 0), (10, V.agg [V.lst 3 (cll q.1), V.lst 5 (knl q.2.1), iv q.2.2]), (11, iv (0 : Int)), (12, iv (0 : Int)), (13, bv false), (15, V.agg [V.lst 3 (cll q.1), V.lst 5 (knl q.2.1), iv q.2.2]), (16, V.fn (Fn.func (94 : FuncId)) [] [V.ptr (Id.p 2) 0 0])]) 35 (Array.mk [17, 18]) (rfA (cdAt [1, 1, 1, 0, 1, 0] (bodyOf Tryz.f18))) (rfB (cdAt [1, 1, 1, 0, 1, 0] (bodyOf Tryz.f18))) 18)), (1, O.rows 1 false [[V.sl (Id.p 4) 0 (L.length + 1)]]), (2, O.rows 3 false [[V.lst 3 (cll q.1), V.lst 5 (knl q.2.1), iv q.2.2]]), (0, O.rows 3 false [[V.lst 3 (cll q.1), V.lst 5 (knl q.2.1), iv q.2.2]]), (4, O.rows 1 true (List.take L.length (nl L) ++ [[iv (↑i : Int)]]))] 5 [])))) (J (St.mk (mkT [(0, V.yl (Id.p 3)), (1, V.ptr (Id.p 2) 0 0), (4, iv (IntKind.i64.wrap ((↑i : Int) + (1 : Int))))]) (Hp.mk [(3, O.lp (Lr.mk LoopState.ready none (mkT [(0, V.agg [V.lst 3 (cll q.1), V.lst 5 (knl q.2.1), iv q.2.2]), (1, V.ptr (Id.p 0) 0 0), (2, nilS), (3, iv (0 : Int)), (4, iv (0 : Int)), (5, V.ptr (Id.p 1) 0 0), (10, V.agg [V.lst 3 (cll q.1), V.lst 5 (knl q.2.1), iv q.2.2]), (11, iv (0 : Int)), (12, iv (0 : Int)), (13, bv false), (15, V.agg [V.lst 3 (cll q.1), V.lst 5 (knl q.2.1), iv q.2.2]), (16, V.fn (Fn.func (94 : FuncId)) [] [V.ptr (Id.p 2) 0 0])]) 35 (Array.mk [17, 18]) (rfA (cdAt [1, 1, 1, 0, 1, 0] (bodyOf Tryz.f18))) (rfB (cdAt [1, 1, 1, 0, 1, 0] (bodyOf Tryz.f18))) 18)), (1, O.rows 1 false [[V.sl (Id.p 4) 0 L.length]]), (2, O.rows 3 false [[V.lst 3 (cll q.1), V.lst 5 (knl q.2.1), iv q.2.2]]), (0, O.rows 3 false [[V.lst 3 (cll q.1), V.lst 5 (knl q.2.1), iv q.2.2]]), (4, O.rows 1 true (nl L))] 5 [])))))))) (R (V.tup [V.lst 1 (sub (nl L) 0 L.length), iv (0 : Int)]))) (by kernel_rfl) ?_
    refine ifB_mk (fun d => ?_) (fun d => ?_)
    · have hi : i < 24 := by have := of_decide_eq_true d; omega
      have nxt := nxt hi
      refine wk hi (fun e _ _ _ => ifB_t rfl (need_mk ⟨by omega, ?_⟩)) (fun e _ _ _ => ifB_f rfl ?_)
      · rw [if_pos (dc_t e)] at hs
        have hst : fam18 q (i + 1) = sh18s q (i + 1) (L ++ [(i : Int)]) := by simp only [fam18, hs]; simp
        rw [hst] at nxt
        rw [wr1i hi (by omega), nl_app]
        exact hJ' (by simp [sh18s, kdr, rec18]) nxt
      · rw [if_neg (by rw [dc_f e]; decide)] at hs
        have hst : fam18 q (i + 1) = sh18s q (i + 1) L := by simp only [fam18, hs, hL]
        rw [hst] at nxt
        rw [wr1i hi (by omega)]
        exact nxt
    · have hi : i = 24 := by have := of_decide_eq_false d; omega
      subst hi
      rw [sub_nl, ← hG]
      exact h1 hK
set_option maxHeartbeats 1000000 in
theorem norm26 {l : List Kd} {b : Bk} {R : V → Prop} (hl : ∀ q ∈ l, KdR q) (hll : (l.length : Int) ≤ 1000000) (hr : BkR b) (h1 : ∀ e, askE l b e → e ≠ 0 → R (.tup [.agg (bkr (0, (0, 0, 0), 0, 0)), iv e])) (h2 : askE l b 0 → ∀ q n r, PutB l b q n → NormP q n b r → R (.tup [.agg (bkr r), iv 0])) : K0G Tryz.prog glX 26 [.lst 3 (kdl l), .agg (bkr b)] R := by
  refine K0_by hmX hcE 3000 Tryz.func26 (p := K0G Tryz.prog glX 57 [V.lst 3 (kdl l), V.agg [iv b.1, iv b.2.1.1, iv b.2.1.2.1, iv b.2.1.2.2, V.raw (Value.int IntKind.u8 b.2.2.1), V.raw (Value.int IntKind.u8 b.2.2.2)]] fun v => onTup v fun vs => onCons vs fun u r => onAgg u fun cs => onCons cs fun u r_1 => onLst u fun s es => onCons r_1 fun u r_2 => onLst u fun s_1 es_1 => onNil r_2 (onCons r fun u r => onIntK IntKind.i64 u fun n => onNil r (ifB (n != (0 : Int)) (R (V.tup [V.agg [iv (0 : Int), iv (0 : Int), iv (0 : Int), iv (0 : Int), V.raw (Value.int IntKind.u8 (0 : Int)), V.raw (Value.int IntKind.u8 (0 : Int))], iv n])) (K0G Tryz.prog glX 61 [V.agg [V.lst s es, V.lst s_1 es_1]] fun v => onAgg v fun cs => onCons cs fun u r => onLst u fun s_2 es_2 => onCons r fun u r => onLst u fun s_3 es_3 => onNil r (onNat b.1 fun m => onSome (kdl l)[m]? fun row => onCons (List.drop 0 row) fun u r => onLst u fun s_4 es_4 => onCons r fun u r => onLst u fun s_5 es_5 => onCons r fun u r => onIntK IntKind.i64 u fun n_1 => La 6 [(0 : Tmp), (1 : Tmp), (4 : Tmp)] (WY Tryz.prog cfE 2989 (Env.mk (Bs.mk 0 (spared [] [V.yl (Id.p 5), V.ptr (Id.p 4) 0 0] ++ [])) 6 none 17 94 0) (cdAt [1, 0, 0] (bodyOf Tryz.f94))) (Qblk 0 (QendX Tryz.prog Tryz.f94 fun v h' => kontY (WY Tryz.prog cfE 2992) (Env.mk (Bs.mk 0 []) 0 none 44 26 0) (Qblk 0 (Qthen (WY Tryz.prog cfE 2995 (Env.mk (Bs.mk 0 []) 0 none 44 26 0) (cdAt [1, 1, 1, 1, 1] (bodyOf Tryz.f26)) (QendX Tryz.prog Tryz.f26 fun v h => R (frzW h v))) (QendX Tryz.prog Tryz.f26 fun v h => R (frzW h v)))) (mkT [(0, V.lst 3 (kdl l)), (1, V.agg [iv b.1, iv b.2.1.1, iv b.2.1.2.1, iv b.2.1.2.2, V.raw (Value.int IntKind.u8 b.2.2.1), V.raw (Value.int IntKind.u8 b.2.2.2)]), (3, V.ptr (Id.p 0) 0 0), (4, V.ptr (Id.p 1) 0 0), (5, V.ptr (Id.p 2) 0 0), (6, V.ptr (Id.p 3) 0 0), (7, iv n), (12, V.tup [V.agg [V.lst s es, V.lst s_1 es_1], iv n]), (13, V.lst 3 (kdl l)), (14, V.agg [iv b.1, iv b.2.1.1, iv b.2.1.2.1, iv b.2.1.2.2, V.raw (Value.int IntKind.u8 b.2.2.1), V.raw (Value.int IntKind.u8 b.2.2.2)]), (15, V.tup [V.agg [V.lst s es, V.lst s_1 es_1], iv n]), (16, V.agg [V.lst s es, V.lst s_1 es_1]), (17, iv n), (18, iv n), (19, bv (n != (0 : Int))), (22, V.agg [V.lst s es, V.lst s_1 es_1]), (23, V.agg [V.lst s_2 es_2, V.lst s_3 es_3]), (24, V.lst 3 (kdl l)), (25, V.ptr (Id.p 0) 0 0), (26, iv b.1), (27, V.adr row 0), (28, V.agg [V.lst s_4 es_4, V.lst s_5 es_5, iv n_1]), (29, V.fn (Fn.func 94) [] [V.ptr (Id.p 4) 0 0])]) 5 v (bif cfE.clean 94 then gcH 6 v h' else h'))) (St.mk (mkT [(0, V.yl (Id.p 5)), (1, V.ptr (Id.p 4) 0 0), (4, iv (0 : Int))]) (Hp.mk [(5, O.lp (Lr.mk LoopState.ready none (mkT [(0, V.lst 3 (kdl l)), (1, V.agg [iv b.1, iv b.2.1.1, iv b.2.1.2.1, iv b.2.1.2.2, V.raw (Value.int IntKind.u8 b.2.2.1), V.raw (Value.int IntKind.u8 b.2.2.2)]), (3, V.ptr (Id.p 0) 0 0), (4, V.ptr (Id.p 1) 0 0), (5, V.ptr (Id.p 2) 0 0), (6, V.ptr (Id.p 3) 0 0), (7, iv n), (12, V.tup [V.agg [V.lst s es, V.lst s_1 es_1], iv n]), (13, V.lst 3 (kdl l)), (14, V.agg [iv b.1, iv b.2.1.1, iv b.2.1.2.1, iv b.2.1.2.2, V.raw (Value.int IntKind.u8 b.2.2.1), V.raw (Value.int IntKind.u8 b.2.2.2)]), (15, V.tup [V.agg [V.lst s es, V.lst s_1 es_1], iv n]), (16, V.agg [V.lst s es, V.lst s_1 es_1]), (17, iv n), (18, iv n), (19, bv (n != (0 : Int))), (22, V.agg [V.lst s es, V.lst s_1 es_1]), (23, V.agg [V.lst s_2 es_2, V.lst s_3 es_3]), (24, V.lst 3 (kdl l)), (25, V.ptr (Id.p 0) 0 0), (26, iv b.1), (27, V.adr row 0), (28, V.agg [V.lst s_4 es_4, V.lst s_5 es_5, iv n_1]), (29, V.fn (Fn.func 94) [] [V.ptr (Id.p 4) 0 0])]) 44 (Array.mk [30, 31]) (rfA (cdAt [1, 1, 1, 1, 0, 1, 0] (bodyOf Tryz.f26))) (rfB (cdAt [1, 1, 1, 1, 0, 1, 0] (bodyOf Tryz.f26))) 26)), (4, O.rows 3 false [[V.lst s_4 es_4, V.lst s_5 es_5, iv n_1]]), (3, O.rows 2 false [[V.lst s_2 es_2, V.lst s_3 es_3]]), (2, O.rows 1 false [[iv (0 : Int)]]), (1, O.rows 6 false [[iv (0 : Int), iv (0 : Int), iv (0 : Int), iv (0 : Int), V.raw (Value.int IntKind.u8 (0 : Int)), V.raw (Value.int IntKind.u8 (0 : Int))]]), (0, O.rows 6 false [[iv b.1, iv b.2.1.1, iv b.2.1.2.1, iv b.2.1.2.2, V.raw (Value.int IntKind.u8 b.2.2.1), V.raw (Value.int IntKind.u8 b.2.2.2)]])] 6 []))))))) (by kernel_rfl) ?_
  refine body57 hl hll hr (fun e he hne => onTup_tup (onCons_cons (onAgg_agg (onCons_cons (onLst_nil (onCons_cons (onLst_nil (onNil_nil (onCons_cons (onIntK_iv (onNil_nil (ifB_t (by simpa using hne) (h1 e he hne))))))))))))) (fun h0 q n hP hK hb => onTup_tup (onCons_cons (onAgg_agg (onCons_cons (onLst_lst (onCons_cons (onLst_lst (onNil_nil (onCons_cons (onIntK_iv (onNil_nil (ifB_f rfl ?_))))))))))))
  have h60 := hP.put.2.2.2
  refine sorted61 (by rw [knb_length]; omega) (knb_fac hK hP.t24) (onAgg_agg (onCons_cons (onLst_lst (onCons_cons (onLst_lst (onNil_nil ?_))))))
  have hrow : (kdl l)[b.1.toNat]? = some (kdr q) := by simp [kdl, hP.at_]
  refine onNat_mk (m := b.1.toNat) (by have := hP.k0; omega) (onSome_mk hrow (onCons_cons (onLst_lst (onCons_cons (onLst_lst (onCons_cons (onIntK_iv ?_)))))))
  obtain ⟨x, hx⟩ : ∃ x, x = plc q n b.2.1 := ⟨_, rfl⟩
  obtain ⟨u, hu⟩ : ∃ u, u = knb q n b.2.1 := ⟨_, rfl⟩
  obtain ⟨u', hu'⟩ : ∃ u', u' = sortK (knb q n b.2.1) := ⟨_, rfl⟩
  rw [← hx, ← hu', ← hu]
  refine La.of (σ := Nat) (fun i => sh26 l b q x u u' i) (fun i => i ≤ 24 ∧ ∀ t, t < i → ¬ LikeP q t n b.2.1) (fun i => 24 - i) 0 (by kernel_rfl) ⟨by omega, fun t h => by omega⟩ ?_
  rintro i ⟨g1, g2⟩ J hJ
  obtain ⟨n0, hn0⟩ : ∃ n0, n0 = n := ⟨_, rfl⟩
  subst hn0
  refine see (p := ifB (decide ((↑i : Int) < (24 : Int))) (K0G Tryz.prog glX 95 [V.agg [V.lst 3 (cll q.1), V.lst 5 (knl q.2.1), iv q.2.2], iv (↑i : Int), V.agg [iv (0 : Int), iv (0 : Int), iv (0 : Int)]] fun v => onAgg v fun cs => onCons cs fun u_1 r => onLst u_1 fun s es => onCons r fun u_2 r => onLst u_2 fun s_6 es_6 => onNil r (K0G Tryz.prog glX 61 [V.agg [V.lst s es, V.lst s_6 es_6]] fun v => onAgg v fun cs => onCons cs fun u_3 r => onLst u_3 fun s es => onCons r fun u_4 r => onLst u_4 fun s_7 es_7 => onNil r (K0G Tryz.prog glX 55 [V.agg [V.lst s es, V.lst s_7 es_7], V.agg [V.lst 3 (cll x), V.lst 5 (knl u')]] fun v => onTup v fun vs => onCons vs fun u_5 r => onAgg u_5 fun cs => onCons cs fun u_6 r_1 => onIntK IntKind.i64 u_6 fun n => onCons r_1 fun u_7 r_2 => onIntK IntKind.i64 u_7 fun n_2 => onCons r_2 fun u_8 r_3 => onIntK IntKind.i64 u_8 fun n_3 => onNil r_3 (onCons r fun u_9 r => onBool u_9 fun b_1 => onNil r (ifB b_1 (K0G Tryz.prog glX 84 [V.agg [iv n, iv n_2, iv n_3], iv (-1000 : Int), iv (1000 : Int)] fun v => onBool v fun b_2 => ifB (!b_2) (R (V.tup [V.agg [iv b.1, iv b.2.1.1, iv b.2.1.2.1, iv b.2.1.2.2, V.raw (Value.int IntKind.u8 b.2.2.1), V.raw (Value.int IntKind.u8 b.2.2.2)], iv (0 : Int)])) (R (V.tup [V.agg [iv b.1, iv n, iv n_2, iv n_3, V.raw (Value.int IntKind.u8 (IntKind.u8.wrap (↑i : Int))), V.raw (Value.int IntKind.u8 b.2.2.2)], iv (0 : Int)]))) (J (St.mk (mkT [(0, V.yl (Id.p 5)), (1, V.ptr (Id.p 4) 0 0), (4, iv (IntKind.i64.wrap ((↑i : Int) + (1 : Int))))]) (Hp.mk [(5, O.lp (Lr.mk LoopState.ready none (mkT [(0, V.lst 3 (kdl l)), (1, V.agg [iv b.1, iv b.2.1.1, iv b.2.1.2.1, iv b.2.1.2.2, V.raw (Value.int IntKind.u8 b.2.2.1), V.raw (Value.int IntKind.u8 b.2.2.2)]), (3, V.ptr (Id.p 0) 0 0), (4, V.ptr (Id.p 1) 0 0), (5, V.ptr (Id.p 2) 0 0), (6, V.ptr (Id.p 3) 0 0), (7, iv (0 : Int)), (12, V.tup [V.agg [V.lst 3 (cll x), V.lst 5 (knl u)], iv (0 : Int)]), (13, V.lst 3 (kdl l)), (14, V.agg [iv b.1, iv b.2.1.1, iv b.2.1.2.1, iv b.2.1.2.2, V.raw (Value.int IntKind.u8 b.2.2.1), V.raw (Value.int IntKind.u8 b.2.2.2)]), (15, V.tup [V.agg [V.lst 3 (cll x), V.lst 5 (knl u)], iv (0 : Int)]), (16, V.agg [V.lst 3 (cll x), V.lst 5 (knl u)]), (17, iv (0 : Int)), (18, iv (0 : Int)), (19, bv false), (22, V.agg [V.lst 3 (cll x), V.lst 5 (knl u)]), (23, V.agg [V.lst 3 (cll x), V.lst 5 (knl u')]), (24, V.lst 3 (kdl l)), (25, V.ptr (Id.p 0) 0 0), (26, iv b.1), (27, V.adr [V.lst 3 (cll q.1), V.lst 5 (knl q.2.1), iv q.2.2] 0), (28, V.agg [V.lst 3 (cll q.1), V.lst 5 (knl q.2.1), iv q.2.2]), (29, V.fn (Fn.func (94 : FuncId)) [] [V.ptr (Id.p 4) 0 0])]) 44 (Array.mk [30, 31]) (rfA (cdAt [1, 1, 1, 1, 0, 1, 0] (bodyOf Tryz.f26))) (rfB (cdAt [1, 1, 1, 1, 0, 1, 0] (bodyOf Tryz.f26))) 26)), (4, O.rows 3 false [[V.lst 3 (cll q.1), V.lst 5 (knl q.2.1), iv q.2.2]]), (3, O.rows 2 false [[V.lst 3 (cll x), V.lst 5 (knl u')]]), (2, O.rows 1 false [[iv (0 : Int)]]), (1, O.rows 6 false [[iv (0 : Int), iv (0 : Int), iv (0 : Int), iv (0 : Int), V.raw (Value.int IntKind.u8 (0 : Int)), V.raw (Value.int IntKind.u8 (0 : Int))]]), (0, O.rows 6 false [[iv b.1, iv b.2.1.1, iv b.2.1.2.1, iv b.2.1.2.2, V.raw (Value.int IntKind.u8 b.2.2.1), V.raw (Value.int IntKind.u8 b.2.2.2)]])] 6 [])))))))) (R (V.tup [V.agg [iv b.1, iv b.2.1.1, iv b.2.1.2.1, iv b.2.1.2.2, V.raw (Value.int IntKind.u8 b.2.2.1), V.raw (Value.int IntKind.u8 b.2.2.2)], iv (0 : Int)]))) (by kernel_rfl) ?_
  refine ifB_mk (fun c => ?_) (fun c => h2 h0 q n0 b hP (.inr ⟨fun t ht => g2 t (by have := of_decide_eq_false c; omega), rfl⟩))
  have hi : i < 24 := by have := of_decide_eq_true c; omega
  rw [hx, hu']
  refine walk hK hP.pos hi hP.t24 hb (fun e => ifB_t rfl ?_) (fun e => ifB_f rfl ?_)
  · refine near84 (c := cAt q i n0 b.2.1) (onBool_bv (ifB_mk (fun f => h2 h0 q n0 b hP (.inl ⟨i, hi, e, g2, .inr ⟨nbt f, rfl⟩⟩)) (fun f => ?_)))
    rw [u8w (by omega) (by omega)]
    exact h2 h0 q n0 _ hP (.inl ⟨i, hi, e, g2, .inl ⟨nb f, rfl⟩⟩)
  · rw [wr1i hi (by omega), ← hx, ← hu']
    refine hJ (i + 1) ⟨hi, fun t ht => ?_⟩ (by omega)
    rcases Nat.lt_succ_iff_lt_or_eq.1 ht with ht | ht
    · exact g2 t ht
    · rw [ht]; exact e
end Go.Proofs.YtbionhgjgcpogaaGreatDoor
namespace Go.Proofs.YtbionhgjgcpogaaGreatDoor
open Go Go.Proofs.YtbionhgjgcpogaaGreatDoor.Clean
set_option linter.unusedVariables false
set_option maxRecDepth 100000
noncomputable def sh3a (l : List Kd) (s : Nat) (es : List (List V)) (b : Bk) (L : List Cl) (m i : Nat) : St := ⟨mkT [(1, V.lst 3 (kdl l)), (5, V.ptr (Id.p 0) 0 0), (7, V.lst s es), (12, V.sl (Id.p 1) 0 m), (84, iv (m : Int)), (85, iv (i : Int))], ⟨[(0, O.rows 6 false [bkr b]), (1, O.rows 3 true (cll L))], 2, []⟩⟩
noncomputable def sh3b (l : List Kd) (s : Nat) (es : List (List V)) (b : Bk) (L : List Kn) (m i s' : Nat) (y : List Kn) : St := ⟨mkT [(1, V.lst 3 (kdl l)), (5, V.ptr (Id.p 0) 0 0), (7, V.lst s es), (15, V.sl (Id.p 1) 0 m), (16, V.lst s' (knl y)), (120, iv (m : Int)), (121, iv (i : Int))], ⟨[(0, O.rows 6 false [bkr b]), (1, O.rows 5 true (knl L))], 2, []⟩⟩
end Go.Proofs.YtbionhgjgcpogaaGreatDoor
