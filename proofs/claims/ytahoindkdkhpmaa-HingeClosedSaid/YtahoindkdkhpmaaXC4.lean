/- C4: a part of the proof. -/
import Derived.Test.YtahoindkdkhpmaaXC3
namespace Go.Proofs.Ytahoindkdkhpmaa
open Go Go.Proofs.Ytahoindkdkhpmaa.Clean
set_option linter.unusedVariables false
set_option linter.unusedSimpArgs false
set_option maxRecDepth 20000

/-! swings: the specification -/
theorem rtW_ok : ∀ f us v k, rtW f us v k → ∃ v', k v' ∧ ∀ {F : Nat → Prop} {w : World} {ν : Nu} {x : Value}, rep F w ν v x → rep F w ν v' x := by
  intro f us v k h
  unfold rtW at h
  split at h
  · exact sameV_rep h
  · exact ⟨v, h, fun h => h⟩
theorem hW : CW.ok Try.prog := callsF_ok knows48 rtW_ok
theorem with94 {l : Li} {Q : V → Us → Prop} (hz : LiSz l) (h : Q (.agg [.lst 1 (l.1.map fun p => [pl p]), .sl 0 0 l.2.length]) [l.2.map hi, l.1.map fun p => [pl p]]) :
    KM Try.prog (fun _ => none) 94 [.agg (lk l), nilS] ⟨[], 0⟩ (postW 94) Q := by
  have z2 := hz.hs
  unfold KM
  generalize hR : (fun v h1 => ∃ us, h1 = postW 94 ⟨[], 0⟩ us ∧ Q v us) = R
  refine K_of_WK (kps := kw94) (kp := kwE94) hM hmH Try.func94 (fun _ => rfl) rfl (see (p := need ((0 + (List.map hi l.2).length) * 40 ≤ 140737488355328) (Lp (kw94 0) (W Try.prog CM 30 kw94 0 (cdAt [1, 1, 0, 1, 0, 0] (bodyOf Try.f94))) (Qblk 0 (Qseq (W Try.prog CM 30 kw94 0 (cdAt [1, 1, 1] (bodyOf Try.f94))) (QendK Try.prog Try.f94 kwE94 R))) (St.mk (mkT [(1, nilS), (4, V.ptr 1 0 0), (5, V.ptr 4 0 0), (6, iv (0 : Int))]) (Hp.mk [(1, O.rows 2 false [[nilS, nilS]]), (3, O.rows 5 true ([] ++ List.map hi l.2)), (4, O.rows 2 false [[V.lst 1 (List.map (fun p => [V.lst 2 (List.map sp p)]) l.1), V.sl 3 0 (0 + (List.map hi l.2).length)]])] 5)))) (by kernel_rfl) ?_)
  refine need_mk ⟨by rw [List.length_map]; omega, ?_⟩
  refine Lp.of (σ := Unit) (fun _ => ⟨mkT [(1, nilS), (4, .ptr 1 0 0), (5, .ptr 4 0 0), (6, iv (0 : Int))], ⟨[(1, .rows 2 false [[nilS, nilS]]), (3, .rows 5 true (l.2.map hi)), (4, .rows 2 false [[.lst 1 (l.1.map fun p => [pl p]), .sl 3 0 l.2.length]])], 5⟩⟩) (fun _ => True) (fun _ => 0) () (by rw [show (0 + (List.map hi l.2).length) = l.2.length by simp]; kernel_rfl) trivial ?_
  rintro _ _ J hJ
  refine see (p := R (V.agg [V.lst 1 (List.map (fun p => [V.lst 2 (List.map sp p)]) l.1), V.sl 0 0 l.2.length]) (Hp.mk [(0, O.rows 5 true (List.map hi l.2))] 1)) (by kernel_rfl) ?_
  rw [← hR]
  exact ⟨_, rfl, h⟩
theorem bent72 {l : Li} {m : Nat} {k : Int} {R : V → Prop} (hz : LiSz l) (hm : m < l.2.length) (h : R (.agg (lk (bent l m k)))) : K0 Try.prog 72 [.agg (lk l), iv (m : Int), iv k] R := by
  refine K0_of_W0 (kps := kp0) hW hmH Try.func72 (see (p := KM Try.prog (fun x => none) 94 [V.agg [V.lst 1 (List.map (fun p => [V.lst 2 (List.map sp p)]) l.1), V.lst 5 (List.map hi l.2)], nilS] (Hp.mk [] 0) (fun x us => Hp.mk [(0, O.rows 5 true (List.getD us 0 []))] 1) fun v us => sameV v (V.agg [V.lst 1 (List.getD us 1 []), V.sl 0 0 (List.getD us 0 []).length]) (need (m < (List.getD us 0 []).length) (onSome (List.getD us 0 [])[0 + m]? fun row => guardB ((4 + 1).ble row.length) (R (V.agg [V.lst 1 (List.getD us 1 []), V.lst 5 (sub ((List.getD us 0 []).set (0 + m) (List.take 4 row ++ [iv k] ++ List.drop 5 row)) 0 (List.getD us 0 []).length)]))))) (by kernel_rfl) ?_)
  refine with94 (l := l) hz ⟨?_, ?_⟩
  · simp only [List.getD_cons_zero, List.getD_cons_succ, List.length_map]
  · refine need_mk ⟨?_, onSome_mk (x := hi (l.2.getD m noHi)) ?_ (guardB_mk rfl ?_)⟩
    · simp only [List.getD_cons_zero, List.length_map]; exact hm
    · simp only [List.getD_cons_zero, Nat.zero_add]; simp [hm]
    · simp only [List.getD_cons_zero, List.getD_cons_succ]
      rw [hi_set hm, sub_all _ (by simp [hsa])]
      exact h
theorem swings40 {l : Li} {i : Int} {R : V → Prop} (hs : LiSz l) (h : R (swR l i)) : K0 Try.prog 40 [.agg (lk l), iv i] R := by
  refine K0_of_W0 (kps := kr40) hM hmH Try.func40 (see (p := K0 Try.prog 55 [V.agg [V.lst 1 (List.map (fun p => [V.lst 2 (List.map sp p)]) l.1), V.lst 5 (List.map hi l.2)]] fun v => onBool v fun b => ifB (!b) (R (V.tup [nilS, iv (50 : Int)])) (K0 Try.prog 49 [iv i, iv (0 : Int), iv (IntKind.i64.wrap ((↑(List.map hi l.2).length : Int) - (1 : Int)))] fun v => onBool v fun b => ifB (!b) (R (V.tup [nilS, iv (2 : Int)])) (Lp (kr40 0) (W Try.prog CM 40 kr40 0 (cdAt [1, 1, 1, 1, 0, 1, 0, 0] (bodyOf Try.f40))) (Qblk 0 (Qseq (W Try.prog CM 40 kr40 0 (cdAt [1, 1, 1, 1, 1] (bodyOf Try.f40))) (Qend0 Try.prog Try.f40 R))) (St.mk (mkT [(1, iv i), (2, V.ptr 0 0 0), (6, V.sl 1 0 0), (7, iv (0 : Int))]) (Hp.mk [(1, O.rows 1 true []), (0, O.rows 2 true [[V.lst 1 (List.map (fun p => [V.lst 2 (List.map sp p)]) l.1), V.lst 5 (List.map hi l.2)]])] 2))))) (by kernel_rfl) ?_)
  refine valid55 (l := l) hs (onBool_bv ?_)
  unfold swR at h
  cases hl : linB l with
  | false => rw [hl] at h; exact h
  | true =>
  rw [hl] at h
  rw [if_pos rfl] at h
  refine ifB_mk (fun hb => by simp at hb) (fun _ => ?_)
  rw [wr_len (by have := hs.hs; simpa using this), List.length_map]
  refine within49 (onBool_bv (ifB_mk (fun hb => ?_) (fun hb => ?_)))
  · rw [if_neg (by simpa using hb)] at h; exact h
  have hw : win i 0 (l.2.length - 1) = true := by simpa using hb
  rw [if_pos hw] at h
  have hw := win_iff.1 hw
  obtain ⟨m, rfl⟩ : ∃ m : Nat, i = (m : Int) := ⟨i.toNat, by omega⟩
  rw [Int.toNat_natCast] at h
  have hml : m < l.2.length := by omega
  refine Lp.of (σ := Nat × List Int) (fun s => ⟨mkT [(1, iv (m : Int)), (2, .ptr 0 0 0), (6, .sl 1 0 s.2.length), (7, iv (s.1 : Int))], ⟨[(1, .rows 1 true (il s.2)), (0, .rows 2 true [lk l])], 2⟩⟩)
    (fun s => s.1 ≤ 36 ∧ s.2 = swingsP l m s.1) (fun s => 36 - s.1) (0, []) (by kernel_rfl) ⟨by simp, rfl⟩ ?_
  rintro ⟨k, c⟩ ⟨hk, hc⟩ J hJ
  simp only at hk hc
  refine see (p := ifB (decide ((↑k : Int) < (36 : Int))) (K0 Try.prog 72 [V.agg [V.lst 1 (List.map (fun p => [V.lst 2 (List.map sp p)]) l.1), V.lst 5 (List.map hi l.2)], iv (↑m : Int), iv (↑k : Int)] fun v => onAgg v fun cs => onCons cs fun u r => onLst u fun s es => onCons r fun u r => onLst u fun s_1 es_1 => onNil r (K0 Try.prog 33 [V.agg [V.lst s es, V.lst s_1 es_1]] fun v => onTup v fun vs => onCons vs fun u r => onLst u fun s_2 es_2 => onCons r fun u r => onIntK IntKind.i64 u fun n => onNil r (ifB ((↑es_2.length : Int) == (0 : Int)) (need ((c.length + 1) * 8 ≤ 140737488355328) (J (St.mk (mkT [(1, iv (↑m : Int)), (2, V.ptr 0 0 0), (6, V.sl 1 0 (c.length + 1)), (7, iv (IntKind.i64.wrap ((↑k : Int) + (1 : Int))))]) (Hp.mk [(1, O.rows 1 true (List.take c.length (il c) ++ [[iv (↑k : Int)]])), (0, O.rows 2 true [[V.lst 1 (List.map (fun p => [V.lst 2 (List.map sp p)]) l.1), V.lst 5 (List.map hi l.2)]])] 2)))) (J (St.mk (mkT [(1, iv (↑m : Int)), (2, V.ptr 0 0 0), (6, V.sl 1 0 c.length), (7, iv (IntKind.i64.wrap ((↑k : Int) + (1 : Int))))]) (Hp.mk [(1, O.rows 1 true (il c)), (0, O.rows 2 true [[V.lst 1 (List.map (fun p => [V.lst 2 (List.map sp p)]) l.1), V.lst 5 (List.map hi l.2)]])] 2)))))) (R (V.tup [V.lst 1 (sub (il c) 0 c.length), iv (0 : Int)]))) (by kernel_rfl) ?_
  have hcl : c.length ≤ 36 := by rw [hc]; exact Nat.le_trans (swingsP_le _ _ _) hk
  refine ifB_mk (fun hb => ?_) (fun hb => ?_)
  · have hlt : k < 36 := by simp at hb; omega
    refine bent72 (l := l) (m := m) (k := (k : Int)) hs hml (onAgg_agg (onCons_cons (onLst_lst (onCons_cons (onLst_lst (onNil_nil (?_)))))))
    have hlb := linB_bent (m := m) (n := (k : Int)) hl (by omega) (by omega)
    refine clashes33 (l := bent l m (k : Int)) ⟨hs.ps, by simp only [bent, hsa_length]; exact hs.hs, hs.each⟩ ?_
    rw [if_pos hlb]
    refine (onTup_tup (onCons_cons (onLst_lst (onCons_cons (onIntK_iv (onNil_nil (?_)))))))
    have hsuc := swingsP_succ l m k
    rw [wr (by omega) (by omega)]
    refine ifB_mk (fun hb2 => need_mk ⟨by omega, ?_⟩) (fun hb2 => ?_)
    · have he : (clashesP (pans (bent l m (k : Int)))).isEmpty = true := by
        rw [List.length_map] at hb2
        cases hx : clashesP (pans (bent l m (k : Int))) with
        | nil => rfl
        | cons x y => rw [hx] at hb2; simp at hb2; omega
      rw [if_pos he] at hsuc
      have := hJ (k + 1, c ++ [(k : Int)]) ⟨hlt, by simp only; rw [hsuc, hc]⟩ (by omega)
      simp only [List.length_append, List.length_singleton] at this
      rw [List.take_of_length_le (by rw [il_length]; exact Nat.le_refl _), show il c ++ [[iv (k : Int)]] = il (c ++ [(k : Int)]) by simp [il]]
      exact this
    · have he : (clashesP (pans (bent l m (k : Int)))).isEmpty = false := by
        rw [List.length_map] at hb2
        cases hx : clashesP (pans (bent l m (k : Int))) with
        | nil => rw [hx] at hb2; simp at hb2
        | cons x y => rfl
      rw [he] at hsuc
      rw [if_neg (by decide), List.append_nil] at hsuc
      exact hJ (k + 1, c) ⟨hlt, by simp only; rw [hsuc, hc]⟩ (by omega)
  · have he : k = 36 := by simp at hb; omega
    subst he
    rw [sub_all _ (by rw [il_length]), hc]; exact h
theorem law5 {l : Li} {i : Int} {R : V → Prop} (h : R (bv true)) : K0 Try.prog 5 [.agg (lk l), iv i] R := by
  refine K0_of_W0 (kps := kp0) hT0 hmH Try.func5 (see (p := K0 Try.prog 15 [V.agg [V.lst 1 (List.map (fun p => [V.lst 2 (List.map sp p)]) l.1), V.lst 5 (List.map hi l.2)]] fun v => onBool v fun b => ifB b (R (bv true)) (K0 Try.prog 20 [V.agg [V.lst 1 (List.map (fun p => [V.lst 2 (List.map sp p)]) l.1), V.lst 5 (List.map hi l.2)]] fun v => onAgg v fun cs => onCons cs fun u r => onLst u fun s es => onCons r fun u r => onLst u fun s_1 es_1 => onNil r (K0 Try.prog 39 [V.agg [V.lst s es, V.lst s_1 es_1], iv i] fun v => onTup v fun vs => onCons vs fun u r => onLst u fun s_2 es_2 => onCons r fun u r => onIntK IntKind.i64 u fun n => onNil r (K0 Try.prog 40 [V.agg [V.lst 1 (List.map (fun p => [V.lst 2 (List.map sp p)]) l.1), V.lst 5 (List.map hi l.2)], iv i] fun v => onTup v fun vs => onCons vs fun u r => onLst u fun s_3 es_3 => onCons r fun u r => onIntK IntKind.i64 u fun n_1 => onNil r (K0 Try.prog 41 [V.lst s_2 es_2, V.lst s_3 es_3] fun v => onBool v fun b => ifB b (ifB (n == n_1) (K0 Try.prog 31 [V.agg [V.lst s es, V.lst s_1 es_1], V.agg [V.lst 1 (List.map (fun p => [V.lst 2 (List.map sp p)]) l.1), V.lst 5 (List.map hi l.2)]] fun v => onBool v fun b => R (bv b)) (R (bv false))) (R (bv false))))))) (by kernel_rfl) ?_)
  refine great15 (l := l) (onBool_bv (ifB_mk (fun _ => h) (fun hg => ?_)))
  have hs := greatB_sz hg
  have main : ∀ s : Nat, (l.1 ≠ [] → s = 1) → (∀ Q : V → Prop, K0 Try.prog 39 [.agg (lk l), iv i] Q → K0 Try.prog 39 [.agg [.lst s (l.1.map fun p => [pl p]), .lst 5 (l.2.map hi)], iv i] Q) →
      K0 Try.prog 39 [V.agg [.lst s (l.1.map fun p => [pl p]), .lst 5 (l.2.map hi)], iv i] fun v => onTup v fun vs => onCons vs fun u r => onLst u fun s_2 es_2 => onCons r fun u r => onIntK IntKind.i64 u fun n => onNil r (K0 Try.prog 40 [V.agg [V.lst 1 (List.map (fun p => [V.lst 2 (List.map sp p)]) l.1), V.lst 5 (List.map hi l.2)], iv i] fun v => onTup v fun vs => onCons vs fun u r => onLst u fun s_3 es_3 => onCons r fun u r => onIntK IntKind.i64 u fun n_1 =>
        onNil r (K0 Try.prog 41 [V.lst s_2 es_2, V.lst s_3 es_3] fun v => onBool v fun b => ifB b (ifB (n == n_1) (K0 Try.prog 31 [V.agg [.lst s (l.1.map fun p => [pl p]), .lst 5 (l.2.map hi)], V.agg [V.lst 1 (List.map (fun p => [V.lst 2 (List.map sp p)]) l.1), V.lst 5 (List.map hi l.2)]] fun v => onBool v fun b => R (bv b)) (R (bv false))) (R (bv false)))) := fun s hsz conv => by
    refine conv _ (swings39 (l := l) (i := i) hs ?_)
    have hle := swingsP_le l i.toNat 36
    by_cases hl : linB l = true
    · by_cases hw : win i 0 (l.2.length - 1) = true
      · unfold swR
        rw [if_pos hl, if_pos hw]
        refine (onTup_tup (onCons_cons (onLst_lst (onCons_cons (onIntK_iv (onNil_nil (?_)))))))
        refine swings40 (l := l) (i := i) hs ?_
        unfold swR
        rw [if_pos hl, if_pos hw]
        exact (onTup_tup (onCons_cons (onLst_lst (onCons_cons (onIntK_iv (onNil_nil (sameTail (b := true) hs hsz h _ (fun Q hq => sameInts41 (by omega) hq))))))))
      · unfold swR
        rw [if_pos hl, if_neg hw]
        refine (onTup_tup (onCons_cons (onLst_nil (onCons_cons (onIntK_iv (onNil_nil (?_)))))))
        refine swings40 (l := l) (i := i) hs ?_
        unfold swR
        rw [if_pos hl, if_neg hw]
        exact (onTup_tup (onCons_cons (onLst_nil (onCons_cons (onIntK_iv (onNil_nil (sameTail (b := true) hs hsz h _ (fun Q hq => sameInts41' hq))))))))
    · unfold swR
      rw [if_neg hl]
      refine (onTup_tup (onCons_cons (onLst_nil (onCons_cons (onIntK_iv (onNil_nil (?_)))))))
      refine swings40 (l := l) (i := i) hs ?_
      unfold swR
      rw [if_neg hl]
      exact (onTup_tup (onCons_cons (onLst_nil (onCons_cons (onIntK_iv (onNil_nil (sameTail (b := true) hs hsz h _ (fun Q hq => sameInts41' hq))))))))
  refine twinK20 (l := l) hs.ps hs.hs hs.each (fun hne => ?_) (fun h0 => ?_)
  · exact (onAgg_agg (onCons_cons (onLst_lst (onCons_cons (onLst_lst (onNil_nil (main 1 (fun _ => rfl) (fun Q hq => hq))))))))
  · have := main 0 (fun hn => absurd h0 hn) (fun Q hq => K0_args hq (fun F w xs hx => by rw [h0] at hx; exact riL_lk0 h0 hx))
    rw [h0] at this
    refine (onAgg_agg (onCons_cons (onLst_nil (onCons_cons (onLst_lst (onNil_nil (?_)))))))
    rw [h0]
    exact this
end Go.Proofs.Ytahoindkdkhpmaa
