/- The reference's clusters, fates and swings. -/
import Derived.Test.YtmdimnmdoifkfaaXDVB
import Derived.Test.YtmdimnmdoifkfaaXDUA
import Derived.Test.YtmdimnmdoifkfaaXDW9R
namespace Go.Proofs.Ytmdimnmdoifkfaa
open Go Go.Proofs.Ytmdimnmdoifkfaa.Clean
set_option linter.unusedVariables false
set_option linter.unusedSimpArgs false
set_option maxRecDepth 10000

theorem hcR : cfR.ok Try.prog := cfgM_ok
instance (S : Int) (l : List Fd) (j : Nat) : Decidable (nearP S l j) := by unfold nearP; infer_instance
def firstF (S : Int) (l : List Fd) : Nat → Nat
  | 0 => 0
  | i + 1 => if nearP S l (i + 1) then firstF S l i else i + 1
def lastF (S : Int) (l : List Fd) : Nat → Nat → Nat
  | 0, i => i
  | n + 1, i => if i + 1 < l.length ∧ nearP S l (i + 1) then lastF S l n (i + 1) else i
def lastI (S : Int) (l : List Fd) (i : Nat) : Nat := lastF S l (l.length - i) i
theorem firstF_le (S : Int) (l : List Fd) : ∀ i, firstF S l i ≤ i
  | 0 => Nat.le_refl _
  | i + 1 => by
    unfold firstF
    split
    · have := firstF_le S l i; omega
    · omega
theorem lastF_rng (S : Int) (l : List Fd) : ∀ n i, i < l.length → i ≤ lastF S l n i ∧ lastF S l n i < l.length
  | 0, i, h => ⟨Nat.le_refl _, h⟩
  | n + 1, i, h => by
    unfold lastF
    split
    · rename_i hc
      have := lastF_rng S l n (i + 1) hc.1
      omega
    · exact ⟨Nat.le_refl _, h⟩
theorem nearW {b : Bt} {l : List Fd} (hb : BtP b) (hf : FdP l) {k : Nat} (h1 : 1 ≤ k) (h2 : k < l.length) : (IntKind.i64.wrap ((fd l k).1 - (fd l (k - 1)).1) ≤ IntKind.i64.wrap (IntKind.i64.wrap ((2 : Int) * b.3) + (1 : Int)) ↔ nearP b.S l k) := by
  have a := hf.2.1 _ (mem_at (fd_get (l := l) (i := k) h2))
  have a' := hf.2.1 _ (mem_at (fd_get (l := l) (i := k - 1) (by omega)))
  have q1 := a.1; have q2 := a.2.1; have q3 := a'.1; have q4 := a'.2.1
  have hS := hb.2.1
  have hS' := hb.2.2.1
  rw [wr (n := (fd l k).1 - (fd l (k - 1)).1) (by omega) (by omega), wr (n := 2 * b.S) (by omega) (by omega), wr (n := 2 * b.S + 1) (by omega) (by omega)]
  exact Iff.rfl
theorem first66 {b : Bt} {l : List Fd} {i : Nat} {R : V → Prop} (hb : BtP b) (hf : FdP l) (hi : i < l.length) (h : R (iv (firstF b.S l i : Int))) : K0G Try.prog glX 66 [.agg (bel b), .lst 3 (fdl l), iv (i : Int)] R := by
  refine K0_of_WY0 hmX hcR 3000 Try.func66 (see (p := La 0 [(1 : Tmp), (2 : Tmp), (3 : Tmp)] (WY Try.prog cfR 2996 (Env.mk (Bs.mk 0 []) 0 none 31 66 0) (cdAt [1, 0, 0, 0] (bodyOf Try.f66))) (Qblk 0 (Qthen (WY Try.prog cfR 2998 (Env.mk (Bs.mk 0 []) 0 none 31 66 0) (cdAt [1, 1] (bodyOf Try.f66)) (QendX Try.prog Try.f66 fun v h => R (frzW h v))) (QendX Try.prog Try.f66 fun v h => R (frzW h v)))) (St.mk (mkT [(1, V.lst 3 (fdl l)), (2, iv (↑i : Int)), (3, V.ptr (Id.p 0) 0 0)]) (Hp.mk [(0, O.rows 5 false [[iv b.1, iv b.2, iv b.3, V.lst 2 (gl b.4), V.lst 1 (nl b.5)]])] 1 []))) (by kernel_rfl) ?_)
  have hll : l.length ≤ 40 := hf.1
  refine La.of (σ := Nat) (fun k => sh66 b l k) (fun k => k ≤ i ∧ firstF b.S l k = firstF b.S l i) (fun k => k) i (by kernel_rfl) ⟨Nat.le_refl _, rfl⟩ ?_
  rintro k ⟨g1, g2⟩ J hJ
  refine see (p := ifB (decide ((↑k : Int) > (0 : Int))) (onSome (fdl l)[k]? fun row => onSome row[0]? fun v => onIntK IntKind.i64 v fun n => onNat (IntKind.i64.wrap ((↑k : Int) - (1 : Int))) fun m => onSome (fdl l)[m]? fun row => onSome row[0]? fun v => onIntK IntKind.i64 v fun n_1 => ifB (decide (IntKind.i64.wrap (n - n_1) ≤ IntKind.i64.wrap (IntKind.i64.wrap ((2 : Int) * b.3) + (1 : Int)))) (J (St.mk (mkT [(1, V.lst 3 (fdl l)), (2, iv (IntKind.i64.wrap ((↑k : Int) - (1 : Int)))), (3, V.ptr (Id.p 0) 0 0)]) (Hp.mk [(0, O.rows 5 false [[iv b.1, iv b.2, iv b.3, V.lst 2 (gl b.4), V.lst 1 (nl b.5)]])] 1 []))) (R (iv (↑k : Int)))) (R (iv (↑k : Int)))) (by kernel_rfl) ?_
  refine ifB_mk (fun c => ?_) (fun c => ?_)
  · obtain ⟨j, rfl⟩ : ∃ j, k = j + 1 := ⟨k - 1, by have := of_decide_eq_true c; omega⟩
    have hn := nearW hb hf (k := j + 1) (by omega) (by omega)
    refine fel0 (fd_get (by omega)) ?_
    refine onNat_mk (m := j) (by rw [wr (by omega) (by omega)]; omega) (fel0 (fd_get (by omega)) ?_)
    rw [firstF] at g2
    refine ifB_mk (fun d => ?_) (fun d => ?_)
    · rw [if_pos (hn.1 (of_decide_eq_true d))] at g2
      rw [show IntKind.i64.wrap (((j + 1 : Nat) : Int) - 1) = (j : Int) from by rw [wr (by omega) (by omega)]; omega]
      exact hJ j ⟨by omega, g2⟩ (by omega)
    · rw [if_neg (fun hp => absurd (hn.2 hp) (of_decide_eq_false d))] at g2
      rw [← g2] at h; exact h
  · have hk : k = 0 := by have := of_decide_eq_false c; omega
    subst hk
    rw [← g2] at h; exact h
theorem last68 {b : Bt} {l : List Fd} {i : Nat} {R : V → Prop} (hb : BtP b) (hf : FdP l) (hi : i < l.length) (h : R (iv (lastI b.S l i : Int))) : K0G Try.prog glX 68 [.agg (bel b), .lst 3 (fdl l), iv (i : Int)] R := by
  refine K0_of_WY0 hmX hcR 3000 Try.func68 (see (p := La 0 [(1 : Tmp), (2 : Tmp), (3 : Tmp)] (WY Try.prog cfR 2996 (Env.mk (Bs.mk 0 []) 0 none 34 68 0) (cdAt [1, 0, 0, 0] (bodyOf Try.f68))) (Qblk 0 (Qthen (WY Try.prog cfR 2998 (Env.mk (Bs.mk 0 []) 0 none 34 68 0) (cdAt [1, 1] (bodyOf Try.f68)) (QendX Try.prog Try.f68 fun v h => R (frzW h v))) (QendX Try.prog Try.f68 fun v h => R (frzW h v)))) (St.mk (mkT [(1, V.lst 3 (fdl l)), (2, iv (↑i : Int)), (3, V.ptr (Id.p 0) 0 0)]) (Hp.mk [(0, O.rows 5 false [[iv b.1, iv b.2, iv b.3, V.lst 2 (gl b.4), V.lst 1 (nl b.5)]])] 1 []))) (by kernel_rfl) ?_)
  have hll : l.length ≤ 40 := hf.1
  refine La.of (σ := Nat) (fun k => sh66 b l k) (fun k => k < l.length ∧ lastI b.S l k = lastI b.S l i) (fun k => l.length - k) i (by kernel_rfl) ⟨hi, rfl⟩ ?_
  rintro k ⟨g1, g2⟩ J hJ
  refine see (p := ifB (decide (IntKind.i64.wrap ((↑k : Int) + (1 : Int)) < (↑(fdl l).length : Int))) (onNat (IntKind.i64.wrap ((↑k : Int) + (1 : Int))) fun m => onSome (fdl l)[m]? fun row => onSome row[0]? fun v => onIntK IntKind.i64 v fun n => onSome (fdl l)[k]? fun row => onSome row[0]? fun v => onIntK IntKind.i64 v fun n_1 => ifB (decide (IntKind.i64.wrap (n - n_1) ≤ IntKind.i64.wrap (IntKind.i64.wrap ((2 : Int) * b.3) + (1 : Int)))) (J (St.mk (mkT [(1, V.lst 3 (fdl l)), (2, iv (IntKind.i64.wrap ((↑k : Int) + (1 : Int)))), (3, V.ptr (Id.p 0) 0 0)]) (Hp.mk [(0, O.rows 5 false [[iv b.1, iv b.2, iv b.3, V.lst 2 (gl b.4), V.lst 1 (nl b.5)]])] 1 []))) (R (iv (↑k : Int)))) (R (iv (↑k : Int)))) (by kernel_rfl) ?_
  rw [fdl_length, wr1i g1 (by omega)]
  obtain ⟨n, hn⟩ : ∃ n, l.length - k = n + 1 := ⟨l.length - k - 1, by omega⟩
  rw [lastI, hn, lastF] at g2
  refine ifB_mk (fun c => ?_) (fun c => ?_)
  · have hlt : k + 1 < l.length := by have := of_decide_eq_true c; omega
    have hw := nearW hb hf (k := k + 1) (by omega) hlt
    refine onNat_mk rfl (fel0 (fd_get hlt) (fel0 (fd_get g1) ?_))
    refine ifB_mk (fun d => ?_) (fun d => ?_)
    · rw [if_pos ⟨hlt, hw.1 (of_decide_eq_true d)⟩, show n = l.length - (k + 1) from by omega] at g2
      exact hJ (k + 1) ⟨hlt, g2⟩ (by omega)
    · rw [if_neg (fun hp => absurd (hw.2 hp.2) (of_decide_eq_false d))] at g2
      rw [← g2] at h; exact h
  · rw [if_neg (fun hp => by have := of_decide_eq_false c; omega)] at g2
    rw [← g2] at h; exact h
def SiP (b : Bt) (l : List Fd) (p q i : Nat) : Prop := (∀ k, p ≤ k → k ≤ q → gk b (fd l k) = gk b (fd l i)) ∧ gk b (fd l i) ≠ -1 ∧ (fd l q).1 - (fd l p).1 + 3 * b.S + 1 ≤ (gt b (gk b (fd l i))).1 - b.C
noncomputable def sortI (b : Bt) (l : List Fd) (i : Nat) : Int := if dc (SiP b l (firstF b.S l i) (lastI b.S l i) i) = true then gk b (fd l i) else -1
theorem sorted62 {b : Bt} {l : List Fd} {i : Nat} {R : V → Prop} (hb : BtP b) (hf : FdP l) (hi : i < l.length) (h : R (iv (sortI b l i))) : K0G Try.prog glX 62 [.agg (bel b), .lst 3 (fdl l), iv (i : Int)] R := by
  refine K0_of_WY0 hmX hcR 3000 Try.func62 (see (p := K0G Try.prog glX 66 [V.agg [iv b.1, iv b.2, iv b.3, V.lst 2 (gl b.4), V.lst 1 (nl b.5)], V.lst 3 (fdl l), iv (↑i : Int)] fun v => onIntK IntKind.i64 v fun n => K0G Try.prog glX 68 [V.agg [iv b.1, iv b.2, iv b.3, V.lst 2 (gl b.4), V.lst 1 (nl b.5)], V.lst 3 (fdl l), iv (↑i : Int)] fun v => onIntK IntKind.i64 v fun n_1 => onSome (fdl l)[i]? fun row => onSome row[2]? fun v => onLst v fun s es => K0G Try.prog glX 53 [V.lst s es] fun v => onIntK IntKind.i64 v fun n_2 => K0G Try.prog glX 92 [V.agg [iv b.1, iv b.2, iv b.3, V.lst 2 (gl b.4), V.lst 1 (nl b.5)], iv n_2] fun v => onIntK IntKind.i64 v fun n_3 => La 0 [(1 : Tmp), (3 : Tmp), (7 : Tmp), (8 : Tmp), (9 : Tmp), (10 : Tmp)] (WY Try.prog cfR 2993 (Env.mk (Bs.mk 0 []) 0 none 74 62 0) (cdAt [1, 1, 1, 0, 1, 0, 0] (bodyOf Try.f62))) (Qblk 0 (Qthen (WY Try.prog cfR 2996 (Env.mk (Bs.mk 0 []) 0 none 74 62 0) (cdAt [1, 1, 1, 1] (bodyOf Try.f62)) (QendX Try.prog Try.f62 fun v h => R (frzW h v))) (QendX Try.prog Try.f62 fun v h => R (frzW h v)))) (St.mk (mkT [(1, V.lst 3 (fdl l)), (3, V.ptr (Id.p 0) 0 0), (7, iv n), (8, iv n_1), (9, iv n_3), (10, iv n)]) (Hp.mk [(0, O.rows 5 false [[iv b.1, iv b.2, iv b.3, V.lst 2 (gl b.4), V.lst 1 (nl b.5)]])] 1 []))) (by kernel_rfl) ?_)
  have hll : l.length ≤ 40 := hf.1
  have hpi := firstF_le b.S l i
  obtain ⟨hq1, hq2⟩ := lastF_rng b.S l (l.length - i) i hi
  change i ≤ lastI b.S l i at hq1
  change lastI b.S l i < l.length at hq2
  refine first66 hb hf hi (onIntK_iv (last68 hb hf hi (onIntK_iv (fel2 (fd_get hi) ?_))))
  have no : ¬ SiP b l (firstF b.S l i) (lastI b.S l i) i → R (iv (-1)) := fun hn => by rw [sortI, if_neg (by rw [dc_f hn]; simp)] at h; exact h
  have yes : SiP b l (firstF b.S l i) (lastI b.S l i) i → R (iv (gk b (fd l i))) := fun hn => by rw [sortI, if_pos (dc_t hn)] at h; exact h
  generalize firstF b.S l i = p at *
  generalize lastI b.S l i = q at *
  have rd : ∀ x, F1 x → x.2.2.length ≤ 1000 := fun x hx => by have := hx.2.2.2.2.2.1; omega
  refine seen53 (rd _ (hf.2.1 _ (mem_at (fd_get hi)))) (onIntK_iv (gate92 hb (kind_rng _) (onIntK_iv ?_)))
  change La _ _ _ _ _
  have hgg : gateF b (kindOf (fd l i).2.2) = gk b (fd l i) := rfl
  generalize hgv : gk b (fd l i) = g at *
  refine La.of (σ := Nat) (fun k => sh62 b l p q g k) (fun k => p ≤ k ∧ k ≤ q + 1 ∧ ∀ j, p ≤ j → j < k → gk b (fd l j) = g) (fun k => q + 1 - k) p (by rw [hgg]; kernel_rfl) ⟨Nat.le_refl _, by omega, fun j a c => by omega⟩ ?_
  rintro k ⟨g1, g2, g3⟩ J hJ
  refine see (p := ifB (decide ((↑k : Int) ≤ (↑q : Int))) (onSome (fdl l)[k]? fun row => onSome row[2]? fun v => onLst v fun s es => K0G Try.prog glX 53 [V.lst s es] fun v => onIntK IntKind.i64 v fun n => K0G Try.prog glX 92 [V.agg [iv b.1, iv b.2, iv b.3, V.lst 2 (gl b.4), V.lst 1 (nl b.5)], iv n] fun v => onIntK IntKind.i64 v fun n => ifB (n != g) (R (iv (-1 : Int))) (J (St.mk (mkT [(1, V.lst 3 (fdl l)), (3, V.ptr (Id.p 0) 0 0), (7, iv (↑p : Int)), (8, iv (↑q : Int)), (9, iv g), (10, iv (IntKind.i64.wrap ((↑k : Int) + (1 : Int))))]) (Hp.mk [(0, O.rows 5 false [[iv b.1, iv b.2, iv b.3, V.lst 2 (gl b.4), V.lst 1 (nl b.5)]])] 1 [])))) (ifB (decide (g < (0 : Int))) (R (iv (-1 : Int))) (onSome (fdl l)[q]? fun row => onSome row[0]? fun v => onIntK IntKind.i64 v fun n => onSome (fdl l)[p]? fun row => onSome row[0]? fun v => onIntK IntKind.i64 v fun n_1 => onNat g fun m => onSome (gl b.4)[m]? fun row => onSome row[0]? fun v => onIntK IntKind.i64 v fun n_2 => ifB (decide (IntKind.i64.wrap (IntKind.i64.wrap (IntKind.i64.wrap (n - n_1) + IntKind.i64.wrap ((3 : Int) * b.3)) + (1 : Int)) > IntKind.i64.wrap (n_2 - b.2))) (R (iv (-1 : Int))) (R (iv g))))) (by kernel_rfl) ?_
  refine ifB_mk (fun c => ?_) (fun c => ?_)
  · have hkq : k ≤ q := by have := of_decide_eq_true c; omega
    have hkl : k < l.length := by omega
    rw [wr1i hkl (by omega)]
    refine fel2 (fd_get hkl) (seen53 (rd _ (hf.2.1 _ (mem_at (fd_get hkl)))) (onIntK_iv (gate92 hb (kind_rng _) (onIntK_iv ?_))))
    show ifB (gk b (fd l k) != g) _ _
    refine ifB_mk (fun d => no (fun hp => ?_)) (fun d => hJ (k + 1) ⟨by omega, by omega, fun j a c' => ?_⟩ (by omega))
    · have := hp.1 k g1 hkq
      rw [hgv] at this
      rw [this] at d; simp at d
    · rcases Nat.lt_succ_iff_lt_or_eq.1 c' with e | e
      · exact g3 j a e
      · rw [e]; simpa using d
  · have hk : k = q + 1 := by have := of_decide_eq_false c; omega
    have hall : ∀ j, p ≤ j → j ≤ q → gk b (fd l j) = gk b (fd l i) := fun j a c' => by rw [hgv]; exact g3 j a (by omega)
    refine ifB_mk (fun d => no (fun hp => hp.2.1 (by rw [hgv]; rcases gate_rng b (kindOf (fd l i).2.2) with e | ⟨m, e, _⟩ <;> (have := of_decide_eq_true d; rw [hgg] at e; omega)))) (fun d => ?_)
    obtain ⟨m, e1, e2, e3⟩ := (gate_rng b (kindOf (fd l i).2.2)).resolve_left (fun e => by have := of_decide_eq_false d; rw [hgg] at e; omega)
    rw [hgg] at e1
    have fq := hf.2.1 _ (mem_at (fd_get hq2))
    have fp := hf.2.1 _ (mem_at (fd_get (l := l) (i := p) (by omega)))
    have hS := hb.2.1
    have hS' := hb.2.2.1
    obtain ⟨hC1, hC2, hC3, hC4⟩ := hb.1
    have hgm := hb.2.2.2.2.1.1 _ (mem_at (gt_get e2))
    have a1 := fq.1; have a2 := fq.2.1; have a3 := fp.1; have a4 := fp.2.1; have a5 := hgm.1; have a6 := hgm.2.1
    refine fel0 (fd_get hq2) (fel0 (fd_get (by omega)) (onNat_mk e1 (gel0 (gt_get e2) ?_)))
    rw [wr (n := (fd l q).1 - (fd l p).1) (by omega) (by omega), wr (n := 3 * b.S) (by omega) (by omega), wr (n := (fd l q).1 - (fd l p).1 + 3 * b.S) (by omega) (by omega), wr (n := (fd l q).1 - (fd l p).1 + 3 * b.S + 1) (by omega) (by omega), wr (n := (gt b m).1 - b.C) (by omega) (by omega)]
    have hgt : gt b g = gt b m := by rw [e1]
    refine ifB_mk (fun d2 => no (fun hp => ?_)) (fun d2 => ?_)
    · have h3 := hp.2.2
      rw [hgv, hgt] at h3
      have := of_decide_eq_true d2
      omega
    · have := of_decide_eq_false d2
      exact yes ⟨hall, by rw [hgv]; omega, by rw [hgv, hgt]; omega⟩
end Go.Proofs.Ytmdimnmdoifkfaa
