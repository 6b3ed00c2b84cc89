/- B9: a part of the proof. -/
import Derived.Test.YtahoindkdkhpmaaXB8
import Derived.Test.YtahoindkdkhpmaaXA8
namespace Go.Proofs.Ytahoindkdkhpmaa
open Go Go.Proofs.Ytahoindkdkhpmaa.Clean
set_option linter.unusedVariables false
set_option linter.unusedSimpArgs false
set_option maxRecDepth 20000

/-! a linkage in new memory -/
theorem hT : CT.ok Try.prog := callsM_ok knowsA
theorem hT22 : CT22.ok Try.prog := callsM_ok knowsA
theorem twin20 {l : Li} {R : V → Prop} (h1 : l.1.length ≤ 1000000000) (h2 : l.2.length ≤ 1000000000) (h3 : ∀ p ∈ l.1, p.length ≤ 1000000000) (h : l.1 ≠ [] → R (.agg (lk l))) (h' : l.1 = [] → R (.agg [nilS, .lst 5 (l.2.map hi)])) :
    KB Try.prog (fun _ => none) 20 [.agg (lk l)] ⟨[], 0⟩ R := by
  refine KB_of_W (kps := kp20) hT22 hmH Try.func20 (fun _ => rfl) (fun _ => rfl) (see (p := need ((0 + (List.map hi l.2).length) * 40 ≤ 140737488355328) (Lp (kp20 0) (W Try.prog CT22 28 kp20 0 (cdAt [1, 1, 0, 1, 0, 0] (bodyOf Try.f20))) (Qblk 0 (Qseq (W Try.prog CT22 28 kp20 0 (cdAt [1, 1, 1] (bodyOf Try.f20))) (QendH Try.prog Try.f20 fun v h' => dataT (Hp.mk [] 0).nxt h' v R))) (St.mk (mkT [(2, V.ptr 1 0 0), (3, V.ptr 4 0 0), (12, V.lst 1 (List.map (fun p => [V.lst 2 (List.map sp p)]) l.1)), (13, iv (↑(List.map (fun p => [V.lst 2 (List.map sp p)]) l.1).length : Int)), (14, iv (0 : Int))]) (Hp.mk [(1, O.rows 2 false [[nilS, nilS]]), (3, O.rows 5 true ([] ++ List.map hi l.2)), (4, O.rows 2 false [[nilS, V.sl 3 0 (0 + (List.map hi l.2).length)]])] 6)))) (by kernel_rfl) ?_)
  refine need_mk ⟨by rw [List.length_map]; omega, ?_⟩
  have sh0 : ∀ n : Nat, n = l.2.length → True := fun _ _ => trivial
  refine Lp.of (σ := Option (Nat × List (List Sp))) (fun s => match s with
      | none => ⟨mkT [(2, .ptr 1 0 0), (3, .ptr 4 0 0), (12, .lst 1 (l.1.map fun p => [pl p])), (13, iv ((l.1.map fun p => [pl p]).length : Int)), (14, iv (0 : Int))], ⟨[(1, .rows 2 false [[nilS, nilS]]), (3, .rows 5 true (l.2.map hi)), (4, .rows 2 false [[nilS, .sl 3 0 l.2.length]])], 6⟩⟩
      | some (i, ps) => ⟨mkT [(2, .ptr 1 0 0), (3, .ptr 4 0 0), (12, .lst 1 (l.1.map fun p => [pl p])), (13, iv ((l.1.map fun p => [pl p]).length : Int)), (14, iv (i : Int))], ⟨[(1, .rows 2 false [[nilS, nilS]]), (3, .rows 5 true (l.2.map hi)), (4, .rows 2 false [[.sl 5 0 ps.length, .sl 3 0 l.2.length]]), (5, .rows 1 true (ps.map fun p => [pl p]))], 6⟩⟩)
    (fun s => match s with | none => True | some (i, ps) => 1 ≤ i ∧ i ≤ l.1.length ∧ ps = l.1.take i) (fun s => match s with | none => l.1.length + 1 | some (i, _) => l.1.length - i) none (by rw [show (0 + (List.map hi l.2).length) = l.2.length by simp]; kernel_rfl) trivial ?_
  rintro (_ | ⟨i, ps⟩) hI J hJ
  · refine see (p := ifB (decide ((0 : Int) < (↑(List.map (fun p => [V.lst 2 (List.map sp p)]) l.1).length : Int))) (onSome (List.map (fun p => [V.lst 2 (List.map sp p)]) l.1)[0]? fun row => onSome row[0]? fun v => onLst v fun s es => guardB (s.beq 2 || es.isEmpty) (need ((0 + es.length) * 16 ≤ 140737488355328) (J (St.mk (mkT [(2, V.ptr 1 0 0), (3, V.ptr 4 0 0), (12, V.lst 1 (List.map (fun p => [V.lst 2 (List.map sp p)]) l.1)), (13, iv (↑(List.map (fun p => [V.lst 2 (List.map sp p)]) l.1).length : Int)), (14, iv (1 : Int))]) (Hp.mk [(1, O.rows 2 false [[nilS, nilS]]), (3, O.rows 5 true (List.map hi l.2)), (4, O.rows 2 false [[V.sl 5 0 1, V.sl 3 0 l.2.length]]), (5, O.rows 1 true [[V.lst 2 (sub ([] ++ es) 0 (0 + es.length))]])] 6))))) (R (V.agg [nilS, V.lst 5 (sub (List.map hi l.2) 0 l.2.length)]))) (by kernel_rfl) ?_
    refine ifB_mk (fun hb => ?_) (fun hb => ?_)
    · have hlt : 0 < l.1.length := by simp at hb; exact hb
      refine row_at (p := l.1[0]) (List.getElem?_eq_getElem hlt) (guardB_mk rfl (need_mk ⟨?_, ?_⟩))
      · have := h3 l.1[0] (List.getElem_mem hlt); rw [List.length_map]; omega
      · rw [sub_all _ (by simp), List.nil_append]
        exact hJ (some (1, [l.1[0]])) ⟨Nat.le_refl _, hlt, by rw [List.take_succ_eq_append_getElem hlt]; simp⟩ (by simp only; omega)
    · have h0 : l.1 = [] := List.eq_nil_of_length_eq_zero (by rw [List.length_map] at hb; have := of_decide_eq_false hb; omega)
      rw [sub_all _ (by simp)]
      exact h' h0
  · obtain ⟨hi1, hi2, hps⟩ := hI
    refine see (p := ifB (decide ((↑i : Int) < (↑(List.map (fun p => [V.lst 2 (List.map sp p)]) l.1).length : Int))) (onSome (List.map (fun p => [V.lst 2 (List.map sp p)]) l.1)[i]? fun row => onSome row[0]? fun v => onLst v fun s es => guardB (s.beq 2 || es.isEmpty) (need ((0 + es.length) * 16 ≤ 140737488355328) (need ((ps.length + 1) * 24 ≤ 140737488355328) (J (St.mk (mkT [(2, V.ptr 1 0 0), (3, V.ptr 4 0 0), (12, V.lst 1 (List.map (fun p => [V.lst 2 (List.map sp p)]) l.1)), (13, iv (↑(List.map (fun p => [V.lst 2 (List.map sp p)]) l.1).length : Int)), (14, iv (IntKind.i64.wrap ((↑i : Int) + (1 : Int))))]) (Hp.mk [(1, O.rows 2 false [[nilS, nilS]]), (3, O.rows 5 true (List.map hi l.2)), (4, O.rows 2 false [[V.sl 5 0 (ps.length + 1), V.sl 3 0 l.2.length]]), (5, O.rows 1 true (List.take ps.length (List.map (fun p => [V.lst 2 (List.map sp p)]) ps) ++ [[V.lst 2 (sub ([] ++ es) 0 (0 + es.length))]]))] 6)))))) (R (V.agg [V.lst 1 (sub (List.map (fun p => [V.lst 2 (List.map sp p)]) ps) 0 ps.length), V.lst 5 (sub (List.map hi l.2) 0 l.2.length)]))) (by kernel_rfl) ?_
    have hpl : ps.length = i := by rw [hps]; simp; omega
    refine ifB_mk (fun hb => ?_) (fun hb => ?_)
    · have hlt : i < l.1.length := by simp at hb; omega
      refine row_at (p := l.1[i]) (List.getElem?_eq_getElem hlt) (guardB_mk rfl (need_mk ⟨?_, need_mk ⟨by omega, ?_⟩⟩))
      · have := h3 l.1[i] (List.getElem_mem hlt); rw [List.length_map]; omega
      · rw [sub_all _ (by simp), List.nil_append, wr (by omega) (by omega), List.take_of_length_le (by simp)]
        have := hJ (some (i + 1, ps ++ [l.1[i]])) ⟨by omega, hlt, by rw [List.take_succ_eq_append_getElem hlt, hps]⟩ (by simp only; omega)
        simp only [List.length_append, List.length_singleton, List.map_append] at this
        exact this
    · have he : i = l.1.length := by simp at hb; omega
      subst he
      rw [sub_all _ (by simp), sub_all _ (by simp)]
      rw [List.take_length] at hps
      subst hps
      exact h (fun hn => by rw [hn] at hi1; simp at hi1)
theorem swingsP_mem {l : Li} {m : Nat} {k : Int} (h0 : 0 ≤ k) (h1 : k < 36) : k ∈ swingsP l m 36 ↔ (clashesP (pans (bent l m k))).isEmpty = true := by
  obtain ⟨n, rfl⟩ : ∃ n : Nat, k = (n : Int) := ⟨k.toNat, by omega⟩
  unfold swingsP
  simp only [List.mem_map, List.mem_filter, List.mem_range]
  constructor
  · rintro ⟨a, ⟨_, h⟩, he⟩
    have : a = n := by omega
    subst this; exact h
  · intro h
    exact ⟨n, ⟨by omega, h⟩, rfl⟩
theorem swingsP_up (l : Li) (m k : Nat) : (swingsP l m k).Pairwise (· < ·) := by
  unfold swingsP
  rw [List.pairwise_map]
  refine ((List.pairwise_lt_range (n := k)).filter _).imp ?_
  intro a b h
  omega
theorem law12 {l : Li} {i k : Int} {R : V → Prop} (h : R (bv true)) : K0 Try.prog 12 [.agg (lk l), iv i, iv k] R := by
  refine K0_of_W0 (kps := kp12) hT hmH Try.func12 (see (p := K0 Try.prog 15 [V.agg [V.lst 1 (List.map (fun p => [V.lst 2 (List.map sp p)]) l.1), V.lst 5 (List.map hi l.2)]] fun v => onBool v fun b => ifB b (R (bv true)) (K0 Try.prog 39 [V.agg [V.lst 1 (List.map (fun p => [V.lst 2 (List.map sp p)]) l.1), V.lst 5 (List.map hi l.2)], iv i] fun v => onTup v fun vs => onCons vs fun u r => onLst u fun s es => onCons r fun u r => onIntK IntKind.i64 u fun n => onNil r (ifB (n != (0 : Int)) (R (bv ((↑es.length : Int) == (0 : Int)))) (ifB (decide (k < (0 : Int))) (R (bv true)) (ifB (decide (k ≥ (36 : Int))) (R (bv true)) (ifB (decide (i < (0 : Int))) (R (bv true)) (ifB (decide (i ≥ (↑(List.map hi l.2).length : Int))) (R (bv true)) (KB Try.prog (fun x => none) 20 [V.agg [V.lst 1 (List.map (fun p => [V.lst 2 (List.map sp p)]) l.1), V.lst 5 (List.map hi l.2)]] (Hp.mk [] 0) fun v => onAgg v fun cs => onCons cs fun u r => onLst u fun s_1 es_1 => guardB (s_1.beq 1 || s_1.beq 0) (onCons r fun u r => onLst u fun s_2 es_2 => guardB (s_2.beq 5 || s_2.beq 0) (onNil r (onNat i fun m => need (m < es_2.length) (onSome es_2[0 + m]? fun row => guardB ((4 + 1).ble row.length) (K0 Try.prog 32 [V.agg [V.lst 1 (sub es_1 0 es_1.length), V.lst 5 (sub (es_2.set (0 + m) (List.take 4 row ++ [iv k] ++ List.drop 5 row)) 0 es_2.length)]] fun v => onTup v fun vs => onCons vs fun u r => onLst u fun s_3 es_3 => onCons r fun u r => onIntK IntKind.i64 u fun n => onNil r (Lp (kp12 0) (W Try.prog CT 102 kp12 0 (cdAt [1, 1, 1, 1, 1, 1, 1, 1, 1, 1, 0, 1, 0, 0] (bodyOf Try.f12))) (Qblk 0 (Qseq (W Try.prog CT 102 kp12 0 (cdAt [1, 1, 1, 1, 1, 1, 1, 1, 1, 1, 1] (bodyOf Try.f12))) (Qend0 Try.prog Try.f12 R))) (St.mk (mkT [(2, iv k), (7, bv true), (8, V.lst s es), (11, V.lst s_3 es_3), (12, iv n), (13, bv false), (65, V.lst s es), (66, iv (↑es.length : Int)), (67, iv (0 : Int))]) (Hp.mk [] 0)))))))))))))))) (by kernel_rfl) ?_)
  refine great15 (l := l) (onBool_bv (ifB_mk (fun _ => h) (fun hg => ?_)))
  have hs := greatB_sz hg
  refine swings39 (l := l) (i := i) hs ?_
  unfold swR
  cases hl : linB l with
  | false => exact (onTup_tup (onCons_cons (onLst_nil (onCons_cons (onIntK_iv (onNil_nil (ifB_mk (fun _ => h) (fun hc => by simp at hc))))))))
  | true =>
  rw [if_pos rfl]
  by_cases hw : win i 0 (l.2.length - 1) = true
  · rw [if_pos hw]
    have hw := win_iff.1 hw
    obtain ⟨m, rfl⟩ : ∃ m : Nat, i = (m : Int) := ⟨i.toNat, by omega⟩
    rw [Int.toNat_natCast]
    have hml : m < l.2.length := by omega
    refine (onTup_tup (onCons_cons (onLst_lst (onCons_cons (onIntK_iv (onNil_nil (?_)))))))
    refine ifB_mk (fun hc => by simp at hc) (fun _ => ifB_mk (fun _ => h) (fun hk0 => ifB_mk (fun _ => h) (fun hk1 => ifB_mk (fun _ => h) (fun _ => ifB_mk (fun _ => h) (fun _ => ?_)))))
    have k0 : 0 ≤ k := by simp at hk0; exact hk0
    have k1 : k < 36 := by simp at hk1; exact hk1
    refine twin20 (l := l) hs.ps hs.hs hs.each (fun _ => ?_) (fun h0 => ?_)
    · refine onAgg_agg (onCons_cons (onLst_lst (guardB_mk rfl (onCons_cons (onLst_lst (guardB_mk rfl (onNil_nil (onNat_mk rfl (need_mk ⟨by rw [List.length_map]; exact hml, onSome_mk (x := hi (l.2.getD m noHi)) (by rw [Nat.zero_add]; simp [hml]) (guardB_mk rfl ?_)⟩)))))))))
      rw [hi_set hml, sub_all _ (by simp), sub_all _ (by simp [hsa])]
      refine clashes32 (l := bent l m k) ⟨hs.ps, by simp only [bent, hsa_length]; exact hs.hs, hs.each⟩ ?_
      have hlb := linB_bent (m := m) (n := k) hl k0 (by omega)
      rw [if_pos hlb]
      refine (onTup_tup (onCons_cons (onLst_lst (onCons_cons (onIntK_iv (onNil_nil (?_)))))))
      have hmem := swingsP_mem (l := l) (m := m) k0 k1
      have hup := swingsP_up l m 36
      have hle := swingsP_le l m 36
      obtain ⟨s, hsd⟩ : ∃ s, s = swingsP l m 36 := ⟨_, rfl⟩
      obtain ⟨e, hed⟩ : ∃ e, e = (clashesP (pans (bent l m k))).map pr := ⟨_, rfl⟩
      have hel : ((e.length : Int) == 0) = (clashesP (pans (bent l m k))).isEmpty := by
        rw [hed, List.length_map]
        cases clashesP (pans (bent l m k)) with
        | nil => rfl
        | cons x y => simp; omega
      rw [← hsd] at hmem hup hle ⊢
      rw [← hed]
      refine Lp.of (σ := Nat × Bool) (fun x => ⟨mkT [(2, iv k), (7, bv true), (8, .lst 1 (il s)), (11, .lst 2 e), (12, iv 0), (13, bv x.2), (65, .lst 1 (il s)), (66, iv ((il s).length : Int)), (67, iv (x.1 : Int))], ⟨[], 0⟩⟩) (fun x => x.1 ≤ s.length ∧ x.2 = decide (k ∈ s.take x.1)) (fun x => s.length - x.1) (0, false) (by kernel_rfl) ⟨by simp, by simp⟩ ?_
      rintro ⟨j, b⟩ ⟨hj, hb⟩ J hJ
      simp only at hj hb
      refine see (p := ifB (decide ((↑j : Int) < (↑(il s).length : Int))) (onSome (il s)[j]? fun row => onSome row[0]? fun v => onIntK IntKind.i64 v fun n => ifB b (ifB (decide ((↑j : Int) > (0 : Int))) (onNat (IntKind.i64.wrap ((↑j : Int) - (1 : Int))) fun m => onSome (il s)[m]? fun row => onSome row[0]? fun v => onIntK IntKind.i64 v fun n_1 => ifB (decide (n ≤ n_1)) (R (bv false)) (J (St.mk (mkT [(2, iv k), (7, bv true), (8, V.lst 1 (il s)), (11, V.lst 2 e), (12, iv (0 : Int)), (13, bv true), (65, V.lst 1 (il s)), (66, iv (↑(il s).length : Int)), (67, iv (IntKind.i64.wrap ((↑j : Int) + (1 : Int))))]) (Hp.mk [] 0)))) (J (St.mk (mkT [(2, iv k), (7, bv true), (8, V.lst 1 (il s)), (11, V.lst 2 e), (12, iv (0 : Int)), (13, bv true), (65, V.lst 1 (il s)), (66, iv (↑(il s).length : Int)), (67, iv (IntKind.i64.wrap ((↑j : Int) + (1 : Int))))]) (Hp.mk [] 0)))) (ifB (decide ((↑j : Int) > (0 : Int))) (onNat (IntKind.i64.wrap ((↑j : Int) - (1 : Int))) fun m => onSome (il s)[m]? fun row => onSome row[0]? fun v => onIntK IntKind.i64 v fun n_1 => ifB (decide (n ≤ n_1)) (R (bv false)) (J (St.mk (mkT [(2, iv k), (7, bv true), (8, V.lst 1 (il s)), (11, V.lst 2 e), (12, iv (0 : Int)), (13, bv (n == k)), (65, V.lst 1 (il s)), (66, iv (↑(il s).length : Int)), (67, iv (IntKind.i64.wrap ((↑j : Int) + (1 : Int))))]) (Hp.mk [] 0)))) (J (St.mk (mkT [(2, iv k), (7, bv true), (8, V.lst 1 (il s)), (11, V.lst 2 e), (12, iv (0 : Int)), (13, bv (n == k)), (65, V.lst 1 (il s)), (66, iv (↑(il s).length : Int)), (67, iv (IntKind.i64.wrap ((↑j : Int) + (1 : Int))))]) (Hp.mk [] 0))))) (R (bv (b == ((↑e.length : Int) == (0 : Int)))))) (by kernel_rfl) ?_
      rw [il_length]
      refine ifB_mk (fun hc => ?_) (fun hc => ?_)
      · have hlt : j < s.length := by simp at hc; exact hc
        refine el (List.getElem?_eq_getElem hlt) ?_
        rw [wr (n := (j : Int) + 1) (by omega) (by omega)]
        have go : ∀ b' : Bool, b' = decide (k ∈ s.take (j + 1)) → ifB (decide ((j : Int) > 0)) (onNat (IntKind.i64.wrap ((j : Int) - 1)) fun m => onSome (il s)[m]? fun row => onSome row[0]? fun v => onIntK IntKind.i64 v fun n_2 => ifB (decide (s[j] ≤ n_2)) (R (bv false)) (J (St.mk (mkT [(2, iv k), (7, bv true), (8, V.lst 1 (il s)), (11, V.lst 2 e), (12, iv 0), (13, bv b'), (65, V.lst 1 (il s)), (66, iv (s.length : Int)), (67, iv ((j : Int) + 1))]) (Hp.mk [] 0)))) (J (St.mk (mkT [(2, iv k), (7, bv true), (8, V.lst 1 (il s)), (11, V.lst 2 e), (12, iv 0), (13, bv b'), (65, V.lst 1 (il s)), (66, iv (s.length : Int)), (67, iv ((j : Int) + 1))]) (Hp.mk [] 0))) := fun b' hb' => by
          have nx := hJ (j + 1, b') ⟨hlt, hb'⟩ (by simp only; omega)
          simp only [il_length] at nx
          refine ifB_mk (fun hp => ?_) (fun _ => nx)
          have hj0 : 0 < j := by simp at hp; omega
          refine onNat_mk (m := j - 1) (by rw [wr (by omega) (by omega)]; omega) (el (List.getElem?_eq_getElem (by omega)) (ifB_mk (fun hle => ?_) (fun _ => nx)))
          have := List.pairwise_iff_getElem.1 hup (j - 1) j (by omega) hlt (by omega)
          simp at hle; omega
        have htk : decide (k ∈ s.take (j + 1)) = (b || (s[j] == k)) := by
          rw [hb, List.take_succ_eq_append_getElem hlt, Bool.eq_iff_iff]
          simp only [List.mem_append, List.mem_singleton, decide_eq_true_iff, Bool.or_eq_true, beq_iff_eq]
          exact ⟨fun h => h.imp id Eq.symm, fun h => h.imp id Eq.symm⟩
        refine ifB_mk (fun hbt => go true (by rw [htk, hbt]; rfl)) (fun hbf => go (s[j] == k) (by rw [htk, hbf]; rfl))
      · have he : j = s.length := by simp at hc; omega
        subst he
        rw [List.take_length] at hb
        rw [hel]
        have : b = (clashesP (pans (bent l m k))).isEmpty := by rw [hb, Bool.eq_iff_iff, decide_eq_true_iff]; exact hmem
        rw [this]
        simpa using h
    · have := (linB_ok hl).1
      rw [h0] at this; simp at this
  · rw [if_neg hw]
    exact (onTup_tup (onCons_cons (onLst_nil (onCons_cons (onIntK_iv (onNil_nil (ifB_mk (fun _ => h) (fun hc => by simp at hc))))))))
end Go.Proofs.Ytahoindkdkhpmaa
