/- D2: a part of the proof. -/
import Derived.Test.YtahoindkdkhpmaaXD1
import Derived.Test.YtahoindkdkhpmaaXB9
import Derived.Test.YtahoindkdkhpmaaXSeatR5
namespace Go.Proofs.Ytahoindkdkhpmaa
open Go Go.Proofs.Ytahoindkdkhpmaa.Clean
set_option linter.unusedVariables false
set_option linter.unusedSimpArgs false
set_option maxRecDepth 20000

/-! the law of a panel without one of its corners -/
theorem hP : CP.ok Try.prog := callsM_ok knowsA
theorem anySl_mk {k : Option Addr → Nat → Nat → Prop} (h : ∀ a n c, k a n c) : anySl k := h
theorem clashE {l : Li} {i k : Int} {K : Int → Prop} (hs : LiSz l) (h : K (clE l i k)) :
    K0 Try.prog 35 [.agg (lk l), iv i, iv k] fun v => onTup v fun vs => onCons vs fun u r => onAgg u fun cs => onCons cs fun u r_1 => onBool u fun b_1 => onCons r_1 fun u r_2 => onIntK IntKind.i64 u fun n => onCons r_2 fun u r_3 => onIntK IntKind.i64 u fun n => onCons r_3 fun u r_4 => onIntK IntKind.i64 u fun n => onCons r_4 fun u r_5 => onIntK IntKind.i64 u fun n => onCons r_5 fun u r_6 => onLst u fun s es_4 => onNil r_6 (onCons r fun u r => onIntK IntKind.i64 u fun n => onNil r (anySl fun a_1 n_1 c => K n)) := by
  refine clash35 (l := l) hs ?_
  unfold clashR
  unfold clE at h
  by_cases h1 : twoC l i k = 0
  · rw [if_pos h1] at h ⊢
    exact (onTup_tup (onCons_cons (onAgg_agg (onCons_cons (onBool_bv (onCons_cons (onIntK_iv (onCons_cons (onIntK_iv (onCons_cons (onIntK_iv (onCons_cons (onIntK_iv (onCons_cons (onLst_lst (onNil_nil (onCons_cons (onIntK_iv (onNil_nil (anySl_mk (fun _ _ _ => h)))))))))))))))))))))
  · rw [if_neg h1] at h ⊢
    exact (onTup_tup (onCons_cons (onAgg_agg (onCons_cons (onBool_bv (onCons_cons (onIntK_iv (onCons_cons (onIntK_iv (onCons_cons (onIntK_iv (onCons_cons (onIntK_iv (onCons_cons (onLst_nil (onNil_nil (onCons_cons (onIntK_iv (onNil_nil (anySl_mk (fun _ _ _ => h)))))))))))))))))))))
theorem lessL_sz {l : Li} (hs : LiSz l) {m c : Nat} (hm : m < l.1.length) : LiSz (lessL l m c) := by
  refine ⟨by rw [lessL_len]; exact hs.ps, hs.hs, fun p hp => ?_⟩
  rcases List.mem_or_eq_of_mem_set hp with h | h
  · exact hs.each p h
  · subst h
    have := hs.each _ (List.mem_of_getElem? (pan_getD hm))
    unfold del
    simp only [List.length_append, List.length_take, List.length_drop]; omega
theorem law10 {l : Li} {i k c : Int} {R : V → Prop} (h : R (bv true)) : K0 Try.prog 10 [.agg (lk l), iv i, iv k, iv c] R := by
  refine K0_of_W0 (kps := kp0) hP hmH Try.func10 (see (p := K0 Try.prog 15 [V.agg [V.lst 1 (List.map (fun p => [V.lst 2 (List.map sp p)]) l.1), V.lst 5 (List.map hi l.2)]] fun v => onBool v fun b => ifB b (R (bv true)) (ifB (decide (i < (0 : Int))) (R (bv true)) (ifB (decide (i ≥ (↑(List.map (fun p => [V.lst 2 (List.map sp p)]) l.1).length : Int))) (R (bv true)) (ifB (decide (c < (0 : Int))) (R (bv true)) (onNat i fun m => onSome (List.map (fun p => [V.lst 2 (List.map sp p)]) l.1)[m]? fun row => onSome row[0]? fun v => onLst v fun s es => ifB (decide (c ≥ (↑es.length : Int))) (R (bv true)) (KB Try.prog (fun x => none) 20 [V.agg [V.lst 1 (List.map (fun p => [V.lst 2 (List.map sp p)]) l.1), V.lst 5 (List.map hi l.2)]] (Hp.mk [] 0) fun v => onAgg v fun cs => onCons cs fun u r => onLst u fun s es => guardB (s.beq 1 || s.beq 0) (onCons r fun u r => onLst u fun s es_1 => guardB (s.beq 5 || s.beq 0) (onNil r (onNat i fun m => need (m < es.length) (onSome es[0 + m]? fun row => onSome row[0]? fun v => onLst v fun s es_2 => onNat c fun c_1 => onNat c fun b => need (c_1 ≤ es_2.length) (need (b = c_1) (guardB (s.beq 2 || es_2.isEmpty) (onNat i fun m => need (m < es.length) (onSome es[0 + m]? fun row => onSome row[0]? fun v => onLst v fun s_1 es_3 => onNat (IntKind.i64.wrap (c + (1 : Int))) fun a => need (es_3.length ≤ es_3.length) (need (a ≤ es_3.length) (guardB (s_1.beq 2 || es_3.isEmpty) (guardB (s_1.beq 2 || (sub es_3 a (es_3.length - a)).isEmpty) (guardB ((s.beq 2 || (sub es_2 0 (b - 0)).isEmpty) && true) (need (((sub es_2 0 (b - 0)).length + (sub es_3 a (es_3.length - a)).length) * 16 ≤ 140737488355328) (onNat i fun m => need (m < es.length) (onSome es[0 + m]? fun row => guardB ((0 + 1).ble row.length) (K0 Try.prog 35 [V.agg [V.lst 1 (List.map (fun p => [V.lst 2 (List.map sp p)]) l.1), V.lst 5 (List.map hi l.2)], iv i, iv k] fun v => onTup v fun vs => onCons vs fun u r => onAgg u fun cs => onCons cs fun u r_1 => onBool u fun b_1 => onCons r_1 fun u r_2 => onIntK IntKind.i64 u fun n => onCons r_2 fun u r_3 => onIntK IntKind.i64 u fun n => onCons r_3 fun u r_4 => onIntK IntKind.i64 u fun n => onCons r_4 fun u r_5 => onIntK IntKind.i64 u fun n => onCons r_5 fun u r_6 => onLst u fun s es_4 => onNil r_6 (onCons r fun u r => onIntK IntKind.i64 u fun n => onNil r (anySl fun a_1 n_1 c => K0 Try.prog 35 [V.agg [V.lst 1 (sub (es.set (0 + m) (V.lst 2 (sub es_2 0 (b - 0) ++ sub es_3 a (es_3.length - a)) :: (List.drop 1 row))) 0 es.length), V.lst 5 (sub es_1 0 es_1.length)], iv i, iv k] fun v => onTup v fun vs => onCons vs fun u r => onAgg u fun cs => onCons cs fun u r_7 => onBool u fun b_2 => onCons r_7 fun u r_8 => onIntK IntKind.i64 u fun n_2 => onCons r_8 fun u r_9 => onIntK IntKind.i64 u fun n_3 => onCons r_9 fun u r_10 => onIntK IntKind.i64 u fun n_4 => onCons r_10 fun u r_11 => onIntK IntKind.i64 u fun n_5 => onCons r_11 fun u r_12 => onLst u fun s es_5 => onNil r_12 (onCons r fun u r => onIntK IntKind.i64 u fun n_6 => onNil r (anySl fun a_2 n_7 c => ifB (n == (0 : Int)) (ifB (n_6 == (0 : Int)) (R (bv true)) (onNat i fun m_1 => need (m_1 < es.length) (onSome (es.set (0 + m) (V.lst 2 (sub es_2 0 (b - 0) ++ sub es_3 a (es_3.length - a)) :: (List.drop 1 row)))[0 + m_1]? fun row => onSome row[0]? fun v => onLst v fun s es => ifB (decide ((↑es.length : Int) < (3 : Int))) (R (bv (n_6 == (50 : Int)))) (R (bv false))))) (ifB (n_6 != (51 : Int)) (R (bv true)) (ifB (n == (51 : Int)) (R (bv true)) (onNat i fun m => onSome (List.map (fun p => [V.lst 2 (List.map sp p)]) l.1)[m]? fun row => onSome row[0]? fun v => onLst v fun s es => ifB (decide ((↑es.length : Int) > (8 : Int))) (R (bv true)) (R (bv (n == (50 : Int))))))))))))))))))))))))))))))))) (by kernel_rfl) ?_)
  refine great15 (l := l) (onBool_bv (ifB_mk (fun _ => h) (fun hg => ?_)))
  have hs := greatB_sz hg
  refine ifB_mk (fun _ => h) (fun h1 => ifB_mk (fun _ => h) (fun h2 => ifB_mk (fun _ => h) (fun h3 => ?_)))
  have i0 : 0 ≤ i := by simp at h1; omega
  have i1 : i < l.1.length := by simp at h2; omega
  have c0 : 0 ≤ c := by simp at h3; omega
  obtain ⟨m, rfl⟩ : ∃ m : Nat, i = (m : Int) := ⟨i.toNat, by omega⟩
  obtain ⟨e, rfl⟩ : ∃ e : Nat, c = (e : Int) := ⟨c.toNat, by omega⟩
  have hm : m < l.1.length := by omega
  obtain ⟨p, hp⟩ : ∃ p, p = l.1.getD m [] := ⟨_, rfl⟩
  have hpg : l.1[m]? = some p := by rw [hp]; exact pan_getD hm
  have hpl : p.length ≤ 1000000000 := hs.each p (List.mem_of_getElem? hpg)
  refine onNat_mk rfl (row_at (p := p) hpg (ifB_mk (fun _ => h) (fun h4 => ?_)))
  have he : e < p.length := by simp at h4; omega
  refine twin20 (l := l) hs.ps hs.hs hs.each (fun _ => ?_) (fun h0 => by rw [h0] at hm; simp at hm)
  refine onAgg_agg (onCons_cons (onLst_lst (guardB_mk rfl (onCons_cons (onLst_lst (guardB_mk rfl (onNil_nil (onNat_mk rfl (need_mk ⟨by rw [List.length_map]; exact hm, ?_⟩)))))))))
  simp only [Nat.zero_add]
  refine row_at (p := p) hpg (onNat_mk rfl (onNat_mk rfl (need_mk ⟨by rw [List.length_map]; omega, need_mk ⟨rfl, guardB_mk rfl (onNat_mk rfl (need_mk ⟨by rw [List.length_map]; exact hm, row_at (p := p) hpg (onNat_mk (m := e + 1) (by rw [wr (by omega) (by omega)]; omega) (need_mk ⟨Nat.le_refl _, need_mk ⟨by rw [List.length_map]; omega, ?_⟩⟩))⟩))⟩⟩)))
  refine guardB_mk rfl (guardB_mk rfl (guardB_mk rfl (need_mk ⟨?_, onNat_mk rfl (need_mk ⟨by rw [List.length_map]; exact hm, onSome_mk (x := [pl p]) (by simp [hpg, pl]) (guardB_mk rfl ?_)⟩)⟩)))
  · simp only [sub, List.length_take, List.length_drop, List.length_map]; omega
  have hd : V.lst 2 (sub (List.map sp p) 0 (e - 0) ++ sub (List.map sp p) (e + 1) ((List.map sp p).length - (e + 1))) = pl (del p e) := by
    have e1 : sub (List.map sp p) 0 (e - 0) = (p.take e).map sp := by simp [sub, List.map_take]
    have e2 : sub (List.map sp p) (e + 1) ((List.map sp p).length - (e + 1)) = (p.drop (e + 1)).map sp := by
      rw [sub_map]; congr 1; unfold sub; rw [List.take_of_length_le (by simp)]
    rw [e1, e2, ← List.map_append]; rfl
  simp only [hd]
  have hset : List.set (List.map (fun p => [pl p]) l.1) m (pl (del p e) :: List.drop 1 [pl p]) = (lessL l m e).1.map fun p => [pl p] := by
    unfold lessL
    rw [List.map_set, ← hp]; rfl
  simp only [hset]
  have hlk : V.agg [V.lst 1 (sub ((lessL l m e).1.map fun p => [pl p]) 0 (List.map (fun p => [pl p]) l.1).length), V.lst 5 (sub (List.map hi l.2) 0 (List.map hi l.2).length)] = .agg (lk (lessL l m e)) := by
    rw [sub_all _ rfl, sub_all _ (by rw [List.length_map, List.length_map, lessL_len])]; rfl
  simp only [hlk]
  refine clashE (l := l) hs (clashE (l := lessL l m e) (lessL_sz hs hm) ?_)
  obtain ⟨f1, f2, f3⟩ := cl_less (c := e) (k := k) hm (by rw [← hp]; exact he)
  rw [← hp] at f1 f2
  have hlg : (lessL l m e).1[m]? = some (del p e) := by
    have := pan_getD (ps := (lessL l m e).1) (i := m) (by rw [lessL_len]; exact hm)
    rw [lessL_get hm, if_pos rfl, ← hp] at this
    exact this
  have hdl := del_length he
  refine ifB_mk (fun q1 => ?_) (fun q1 => ?_)
  · have q1 : clE l m k = 0 := by simpa using q1
    refine ifB_mk (fun _ => h) (fun q2 => ?_)
    have q2 : clE (lessL l m e) m k ≠ 0 := by simpa using q2
    have h4 : p.length < 4 := Nat.lt_of_not_le fun hh => q2 (f1 q1 hh)
    refine onNat_mk rfl (need_mk ⟨by rw [List.length_map]; exact hm, row_at (p := del p e) hlg (ifB_mk (fun _ => ?_) (fun q3 => ?_))⟩)
    · rw [f2 q1 h4]; exact h
    · rw [List.length_map, hdl] at q3
      have := of_decide_eq_false q3
      omega
  · refine ifB_mk (fun _ => h) (fun q2 => ifB_mk (fun _ => h) (fun q3 => ?_))
    have q2 : clE (lessL l m e) m k = 51 := by simpa using q2
    have q3 : clE l m k ≠ 51 := by simpa using q3
    refine onNat_mk rfl (row_at (p := p) hpg (ifB_mk (fun _ => h) (fun _ => ?_)))
    rw [(f3 q2).resolve_left q3]; exact h
end Go.Proofs.Ytahoindkdkhpmaa
