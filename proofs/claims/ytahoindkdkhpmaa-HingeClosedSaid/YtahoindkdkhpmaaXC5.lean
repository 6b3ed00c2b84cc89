/- C5: a part of the proof. -/
import Derived.Test.YtahoindkdkhpmaaXC4
import Derived.Test.YtahoindkdkhpmaaXSeatR4
namespace Go.Proofs.Ytahoindkdkhpmaa
open Go Go.Proofs.Ytahoindkdkhpmaa.Clean
set_option linter.unusedVariables false
set_option linter.unusedSimpArgs false
set_option maxRecDepth 20000

/-! loops that close, with the first angles -/
/-- Hinges, the first i of them with other angles. -/
def WTH (h0 : List Hi) (o : List Int) (i : Nat) (hs : List Hi) : Prop := hs.length = h0.length ∧ ∀ j, hs.getD j noHi = if j < i then ((h0.getD j noHi).1, (h0.getD j noHi).2.1, o.getD j 0) else h0.getD j noHi
theorem WTH.zero (h0 : List Hi) (o : List Int) : WTH h0 o 0 h0 := ⟨rfl, fun j => by rw [if_neg (by omega)]⟩
theorem hsa_getD {hs : List Hi} {m : Nat} {v : Int} (h : m < hs.length) (j : Nat) : (hsa hs m v).getD j noHi = if j = m then ((hs.getD m noHi).1, (hs.getD m noHi).2.1, v) else hs.getD j noHi := by
  unfold hsa
  simp only [List.getD_eq_getElem?_getD, List.getElem?_set]
  by_cases hj : j = m
  · subst hj; simp [h]
  · rw [if_neg (fun he => hj he.symm), if_neg hj]
theorem WTH.step {h0 : List Hi} {o : List Int} {i : Nat} {hs : List Hi} (h : WTH h0 o i hs) (hi' : i < h0.length) : WTH h0 o (i + 1) (hsa hs i (o.getD i 0)) := by
  obtain ⟨h1, h2⟩ := h
  refine ⟨by rw [hsa_length]; exact h1, fun j => ?_⟩
  rw [hsa_getD (by omega), h2 j, h2 i]
  by_cases hj : j = i
  · subst hj
    rw [if_pos rfl]; simp
  · rw [if_neg hj]
    by_cases hj2 : j < i
    · rw [if_pos hj2, if_pos (by omega)]
    · rw [if_neg hj2, if_neg (by omega)]
theorem WTH.all {h0 : List Hi} {o : List Int} {hs : List Hi} (h : WTH h0 o h0.length hs) (hh : h0.all hiB = true) (ho : ∀ j, j < h0.length → 0 ≤ o.getD j 0 ∧ o.getD j 0 ≤ 35) : hs.all hiB = true := by
  rw [List.all_eq_true]
  intro x hx
  obtain ⟨j, hj, rfl⟩ := List.getElem_of_mem hx
  have hj' : j < h0.length := by rw [← h.1]; exact hj
  have := h.2 j
  rw [if_pos hj', show hs.getD j noHi = hs[j] by simp [List.getD, hj]] at this
  rw [this]
  have hq : hiB (h0.getD j noHi) = true := List.all_eq_true.1 hh _ (List.mem_of_getElem? (hi_getD hj'))
  unfold hiB at hq ⊢
  simp only [Bool.and_eq_true] at hq ⊢
  exact ⟨hq.1, win_iff.2 (ho j hj')⟩
def lexLe : List Int → List Int → Prop
  | [], _ => True
  | _ :: _, [] => False
  | x :: xs, y :: ys => x < y ∨ (x = y ∧ lexLe xs ys)
theorem lexLe_no : ∀ (i : Nat) (c o : List Int), lexLe c o → i < c.length → (∀ j, j < i → o.getD j 0 = c.getD j 0) → ¬ o.getD i 0 < c.getD i 0
  | i, [], o, h, hi', _ => by simp at hi'
  | i, x :: xs, [], h, hi', _ => by simp only [lexLe] at h
  | 0, x :: xs, y :: ys, h, hi', _ => by
    simp only [lexLe] at h
    simp only [List.getD_cons_zero]
    omega
  | i + 1, x :: xs, y :: ys, h, hi', he => by
    simp only [lexLe] at h
    have h0 := he 0 (by omega)
    simp only [List.getD_cons_zero] at h0
    have h1 := (h.resolve_left (by omega)).2
    simp only [List.getD_cons_succ]
    exact lexLe_no i xs ys h1 (by simpa using hi') (fun j hj => by
      have := he (j + 1) (by omega)
      simpa only [List.getD_cons_succ] using this)
theorem drop_getD {h0 : List Hi} {k : Nat} (hk : k < h0.length) : h0.drop k = h0.getD k noHi :: h0.drop (k + 1) := by
  rw [List.drop_eq_getElem_cons hk]
  congr 1
  simp [List.getD, hk]
theorem drop_getD' {o : List Int} {k : Nat} (hk : k < o.length) : o.drop k = o.getD k 0 :: o.drop (k + 1) := by
  rw [List.drop_eq_getElem_cons hk]
  congr 1
  simp [List.getD, hk]
theorem pz_wth {h0 : List Hi} {o : List Int} {hs : List Hi} (h : WTH h0 o h0.length hs) {k : Nat} (hk : k < h0.length) : pz hs (k + 1) = lowP (swingP (pz hs k) (h0.getD k noHi) (angT (o.getD k 0))) := by
  have := h.2 k
  rw [if_pos hk] at this
  show lowP (swingP (pz hs k) (hs.getD k noHi) (angT (hs.getD k noHi).2.2)) = _
  rw [this]; rfl
/-- Angles that close: none before the first that are found. -/
theorem closes_found {a b : Sp} {h0 : List Hi} {o : List Int} {hs : List Hi} (h : WTH h0 o h0.length hs) (hn : h0.length ≤ 3) (ha : hs.all hiB = true) (hol : o.length = h0.length) (ho : ∀ j, j < h0.length → 0 ≤ o.getD j 0 ∧ o.getD j 0 ≤ 35) (hg : gapZ (pz hs h0.length) a b = (0, 0)) :
    ∀ d k, k + d = h0.length → ∃ r, tryP a b (h0.drop k) (pz hs k) = some r ∧ lexLe r (o.drop k) := by
  intro d
  induction d with
  | zero =>
    intro k hk
    rw [show h0.drop k = [] from List.drop_eq_nil_of_le (by omega), show k = h0.length by omega]
    exact ⟨[], by simp only [tryP]; rw [if_pos hg], trivial⟩
  | succ d ih =>
    intro k hk
    have hkl : k < h0.length := by omega
    obtain ⟨r', h1, h2⟩ := ih (k + 1) (by omega)
    have hgood := pz_good ha k (by rw [h.1]; omega)
    have hx := List.all_eq_true.1 ha _ (List.mem_of_getElem? (hi_getD (hs := hs) (i := k) (by rw [h.1]; exact hkl)))
    have hxk := h.2 k
    rw [if_pos hkl] at hxk
    have hok : HiOK (h0.getD k noHi) := by
      have := (hiB_ok hx).1
      rw [hxk] at this
      exact ⟨this.1, this.2, this.3, this.4⟩
    rw [pz_wth h hkl, tryP_low (swing_good hgood hok (angT_ok _))] at h1
    obtain ⟨q0, q1⟩ := ho k hkl
    obtain ⟨m, hm⟩ : ∃ m : Nat, o.getD k 0 = (m : Int) := ⟨(o.getD k 0).toNat, by omega⟩
    rw [drop_getD hkl, drop_getD' (by omega : k < o.length), hm]
    rw [hm] at h1
    simp only [tryP]
    cases hf : (List.range 36).findSome? (fun (n : Nat) => (tryP a b (h0.drop (k + 1)) (swingP (pz hs k) (h0.getD k noHi) (angT (n : Int)))).map fun r => (n : Int) :: r) with
    | none =>
      rw [List.findSome?_eq_none_iff] at hf
      have := hf m (List.mem_range.2 (by omega))
      rw [h1] at this; cases this
    | some r =>
      refine ⟨r, rfl, ?_⟩
      rw [List.findSome?_eq_some_iff] at hf
      obtain ⟨l1, n, l2, e, f1, f2⟩ := hf
      rw [Option.map_eq_some_iff] at f1
      obtain ⟨r'', g1, rfl⟩ := f1
      simp only [lexLe]
      -- n is no later than m
      have hnm : n ≤ m := by
        refine Classical.byContradiction fun hc => ?_
        have hmem : m ∈ l1 := by
          have hlen : l1.length < 36 := by
            have := congrArg List.length e
            simp at this; omega
          have hn' : n = l1.length := by
            have h3 : (List.range 36)[l1.length]? = some n := by rw [e]; simp
            rw [List.getElem?_range hlen] at h3
            exact (Option.some.inj h3).symm
          have h3 : (List.range 36)[m]? = some m := List.getElem?_range (by omega)
          rw [e, List.getElem?_append_left (by omega)] at h3
          exact List.mem_of_getElem? h3
        have := f2 m hmem
        rw [h1] at this; cases this
      by_cases hlt : n < m
      · exact .inl (by omega)
      · have hnm : n = m := by omega
        subst hnm
        rw [h1] at g1
        rw [← Option.some.inj g1]
        exact .inr ⟨rfl, h2⟩
/-- The angles that are found close. -/
theorem found_closes {a b : Sp} {h0 : List Hi} {c : List Int} {hs : List Hi} (h : WTH h0 c h0.length hs) (hn : h0.length ≤ 3) (ha : hs.all hiB = true) :
    ∀ d k, k + d = h0.length → tryP a b (h0.drop k) (pz hs k) = some (c.drop k) → gapZ (pz hs h0.length) a b = (0, 0) := by
  intro d
  induction d with
  | zero =>
    intro k hk ht
    rw [show h0.drop k = [] from List.drop_eq_nil_of_le (by omega), show k = h0.length by omega] at ht
    simp only [tryP] at ht
    refine Classical.byContradiction fun hc => ?_
    rw [if_neg hc] at ht; cases ht
  | succ d ih =>
    intro k hk ht
    have hkl : k < h0.length := by omega
    rw [drop_getD hkl] at ht
    simp only [tryP, List.findSome?_eq_some_iff] at ht
    obtain ⟨l1, n, l2, e, f1, f2⟩ := ht
    rw [Option.map_eq_some_iff] at f1
    obtain ⟨r, g1, g2⟩ := f1
    have hkc : k < c.length := by
      refine Classical.byContradiction fun hc => ?_
      rw [List.drop_eq_nil_of_le (by omega)] at g2; cases g2
    rw [drop_getD' hkc] at g2
    simp only [List.cons.injEq] at g2
    obtain ⟨e1, e2⟩ := g2
    refine ih (k + 1) (by omega) ?_
    have hgood := pz_good ha k (by rw [h.1]; omega)
    have hx := List.all_eq_true.1 ha _ (List.mem_of_getElem? (hi_getD (hs := hs) (i := k) (by rw [h.1]; exact hkl)))
    have hxk := h.2 k
    rw [if_pos hkl] at hxk
    have hok : HiOK (h0.getD k noHi) := by
      have := (hiB_ok hx).1
      rw [hxk] at this
      exact ⟨this.1, this.2, this.3, this.4⟩
    rw [pz_wth h hkl, tryP_low (swing_good hgood hok (angT_ok _)), ← e1, g1, e2]
theorem tryP_range {a b : Sp} : ∀ (hs : List Hi) (z : Po) (c : List Int), tryP a b hs z = some c → ∀ j, j < hs.length → 0 ≤ c.getD j 0 ∧ c.getD j 0 ≤ 35
  | [], z, c, h, j, hj => by simp at hj
  | x :: hs, z, c, h, j, hj => by
    simp only [tryP, List.findSome?_eq_some_iff] at h
    obtain ⟨l1, n, l2, e, f1, f2⟩ := h
    rw [Option.map_eq_some_iff] at f1
    obtain ⟨r, g1, rfl⟩ := f1
    have hn : n < 36 := List.mem_range.1 (by rw [e]; simp)
    cases j with
    | zero => simp only [List.getD_cons_zero]; omega
    | succ j => simp only [List.getD_cons_succ]; exact tryP_range hs _ r g1 j (by simpa using hj)
theorem linB_with {l : Li} {hs : List Hi} (hl : linB l = true) (h1 : hs.length = l.2.length) (h2 : hs.all hiB = true) : linB (l.1, hs) = true := by
  unfold linB at hl ⊢
  simp only [Bool.and_eq_true, decide_eq_true_iff] at hl ⊢
  exact ⟨⟨⟨hl.1.1.1, by rw [h1]; exact hl.1.1.2⟩, hl.1.2⟩, h2⟩
theorem plcC_with {l : Li} {a b : Sp} {hs : List Hi} (hp : plcC l a b = 0) (h1 : hs.length = l.2.length) (h2 : hs.all hiB = true) : plcC (l.1, hs) a b = 0 := by
  have hl := (plcC_ok hp).1
  unfold plcC at hp ⊢
  rw [if_pos hl] at hp
  rw [if_pos (linB_with hl h1 h2)]
  exact hp
theorem gap_with {l : Li} {a b : Sp} {hs : List Hi} {k : Int → Int → Int → Int → Prop} (hz : LiSz l) (hp : plcC l a b = 0) (h1 : hs.length = l.2.length) (h2 : hs.all hiB = true) (hk : k (gapZ (pz hs l.2.length) a b).1 (gapZ (pz hs l.2.length) a b).2 (pz hs l.2.length).2.2.2.2 0) :
    K0 Try.prog 29 [V.agg [V.lst 1 (sub (List.map (fun p => [V.lst 2 (List.map sp p)]) l.1) 0 l.1.length), V.lst 5 (sub (List.map hi hs) 0 hs.length)], V.agg [iv a.1, iv a.2], V.agg [iv b.1, iv b.2]] fun v => onTup v fun vs => onCons vs fun u r => onIntK IntKind.i64 u fun n => onCons r fun u r => onIntK IntKind.i64 u fun n_1 => onCons r fun u r => onIntK IntKind.i64 u fun n_2 => onCons r fun u
      r => onIntK IntKind.i64 u fun n_3 => onNil r (k n n_1 n_2 n_3) := by
  rw [sub_all _ (by simp), sub_all _ (by simp)]
  have hzz : LiSz (l.1, hs) := ⟨hz.ps, by simp only; rw [h1]; exact hz.hs, hz.each⟩
  refine gap29 (l := (l.1, hs)) (a := a) (b := b) hzz ?_
  unfold gapR
  rw [if_pos (plcC_with hp h1 h2)]
  simp only [h1]
  exact (onTup_tup (onCons_cons (onIntK_iv (onCons_cons (onIntK_iv (onCons_cons (onIntK_iv (onCons_cons (onIntK_iv (onNil_nil (hk)))))))))))
theorem law13 {l : Li} {a b : Sp} {o : List Int} {R : V → Prop} (h : R (bv true)) : K0 Try.prog 13 [.agg (lk l), .agg (sp a), .agg (sp b), .lst 1 (il o)] R := by
  refine K0_of_W0 (kps := kp13) hT hmH Try.func13 (see (p := K0 Try.prog 15 [V.agg [V.lst 1 (List.map (fun p => [V.lst 2 (List.map sp p)]) l.1), V.lst 5 (List.map hi l.2)]] fun v => onBool v fun b_1 => ifB b_1 (R (bv true)) (K0 Try.prog 24 [V.agg [V.lst 1 (List.map (fun p => [V.lst 2 (List.map sp p)]) l.1), V.lst 5 (List.map hi l.2)]] fun v => onIntK IntKind.i64 v fun n => ifB (n != (0 : Int)) (R (bv true)) (K0 Try.prog 42 [V.agg [V.lst 1 (List.map (fun p => [V.lst 2 (List.map sp p)]) l.1), V.lst 5 (List.map hi l.2)], V.agg [iv a.1, iv a.2], V.agg [iv b.1, iv b.2]] fun v => onTup v fun vs => onCons vs fun u r => onLst u fun s es => onCons r fun u r => onIntK IntKind.i64 u fun n => onNil r (K0 Try.prog 29 [V.agg [V.lst 1 (List.map (fun p => [V.lst 2 (List.map sp p)]) l.1), V.lst 5 (List.map hi l.2)], V.agg [iv a.1, iv a.2], V.agg [iv b.1, iv b.2]] fun v => onTup v fun vs => onCons vs fun u r => onIntK IntKind.i64 u fun n_1 => onCons r fun u r => onIntK IntKind.i64 u fun n_2 => onCons r fun u r => onIntK IntKind.i64 u fun n_3 => onCons r fun u r => onIntK IntKind.i64 u fun n_4 => onNil r (ifB (n == (2 : Int)) (R (bv (n == n_4))) (ifB (n_4 != (0 : Int)) (R (bv (n == n_4))) (ifB (decide (n_3 < (1 : Int))) (R (bv false)) (ifB (n == (52 : Int)) (ifB (n_1 == (0 : Int)) (ifB (n_2 == (0 : Int)) (R (bv false)) (ifB (n != (0 : Int)) (ifB (n != (52 : Int)) (R (bv false)) (ifB (n == (0 : Int)) (ifB ((↑es.length : Int) != (↑(List.map hi l.2).length : Int)) (R (bv false)) (KB Try.prog (fun x => none) 20 [V.agg [V.lst 1 (List.map (fun p => [V.lst 2 (List.map sp p)]) l.1), V.lst 5 (List.map hi l.2)]] (Hp.mk [] 0) fun v => onAgg v fun cs => onCons cs fun u r => onLst u fun s_1 es_1 => guardB (s_1.beq 1 || s_1.beq 0) (onCons r fun u r => onLst u fun s_2 es_2 => guardB (s_2.beq 5 || s_2.beq 0) (onNil r (Lp (kp13 0) (W Try.prog CT 217 kp13 0 (cdAt [1, 1, 1, 1, 1, 1, 1, 0, 1, 0, 1, 1, 0, 1, 0, 0] (bodyOf Try.f13))) (Qblk 0 (Qseq (W Try.prog CT 217 kp13 0 (cdAt [1, 1, 1, 1, 1, 1, 1, 0, 1, 0, 1, 1, 1] (bodyOf Try.f13))) (Qseq (W Try.prog CT 217 kp13 0 (cdAt [1, 1, 1, 1, 1, 1, 1, 1] (bodyOf Try.f13))) (Qend0 Try.prog Try.f13 R)))) (St.mk (mkT [(3, V.lst 1 (il o)), (4, V.ptr 0 0 0), (5, V.ptr 1 0 0), (6, V.ptr 2 0 0), (9, bv true), (10, V.lst s es), (11, iv n), (16, V.ptr 9 0 0), (99, V.lst s es), (100, iv (↑es.length : Int)), (101, iv (0 : Int))]) (Hp.mk [(0, O.rows 2 true [[V.lst 1 (List.map (fun p => [V.lst 2 (List.map sp p)]) l.1), V.lst 5 (List.map hi l.2)]]), (1, O.rows 2 true [[iv a.1, iv a.2]]), (2, O.rows 2 true [[iv b.1, iv b.2]]), (3, O.rows 1 true es_1), (4, O.rows 5 true es_2), (9, O.rows 2 false [[V.sl 3 0 es_1.length, V.sl 4 0 es_2.length]])] 10))))))) (ifB ((↑(il o).length : Int) != (↑(List.map hi l.2).length : Int)) (R (bv true)) (KB Try.prog (fun x => none) 20 [V.agg [V.lst 1 (List.map (fun p => [V.lst 2 (List.map sp p)]) l.1), V.lst 5 (List.map hi l.2)]] (Hp.mk [] 0) fun v => onAgg v fun cs => onCons cs fun u r => onLst u fun s_1 es_1 => guardB (s_1.beq 1 || s_1.beq 0) (onCons r fun u r => onLst u fun s_2 es_2 => guardB (s_2.beq 5 || s_2.beq 0) (onNil r (Lp (kp13 2) (W Try.prog CT 217 kp13 2 (cdAt [1, 1, 1, 1, 1, 1, 1, 1, 1, 1, 1, 0, 1, 0, 0] (bodyOf Try.f13))) (Qblk 2 (Qseq (W Try.prog CT 217 kp13 0 (cdAt [1, 1, 1, 1, 1, 1, 1, 1, 1, 1, 1, 1] (bodyOf Try.f13))) (Qend0 Try.prog Try.f13 R))) (St.mk (mkT [(3, V.lst 1 (il o)), (5, V.ptr 1 0 0), (6, V.ptr 2 0 0), (9, bv true), (10, V.lst s es), (23, V.ptr 5 0 0), (24, bv (n == (52 : Int))), (143, V.lst 1 (il o)), (144, iv (↑(il o).length : Int)), (145, iv (0 : Int))]) (Hp.mk [(1, O.rows 2 true [[iv a.1, iv a.2]]), (2, O.rows 2 true [[iv b.1, iv b.2]]), (3, O.rows 1 true es_1), (4, O.rows 5 true es_2), (5, O.rows 2 false [[V.sl 3 0 es_1.length, V.sl 4 0 es_2.length]])] 6))))))))) (ifB (n == (0 : Int)) (ifB ((↑es.length : Int) != (↑(List.map hi l.2).length : Int)) (R (bv false)) (KB Try.prog (fun x => none) 20 [V.agg [V.lst 1 (List.map (fun p => [V.lst 2 (List.map sp p)]) l.1), V.lst 5 (List.map hi l.2)]] (Hp.mk [] 0) fun v => onAgg v fun cs => onCons cs fun u r => onLst u fun s_1 es_1 => guardB (s_1.beq 1 || s_1.beq 0) (onCons r fun u r => onLst u fun s_2 es_2 => guardB (s_2.beq 5 || s_2.beq 0) (onNil r (Lp (kp13 0) (W Try.prog CT 217 kp13 0 (cdAt [1, 1, 1, 1, 1, 1, 1, 0, 1, 0, 1, 1, 0, 1, 0, 0] (bodyOf Try.f13))) (Qblk 0 (Qseq (W Try.prog CT 217 kp13 0 (cdAt [1, 1, 1, 1, 1, 1, 1, 0, 1, 0, 1, 1, 1] (bodyOf Try.f13))) (Qseq (W Try.prog CT 217 kp13 0 (cdAt [1, 1, 1, 1, 1, 1, 1, 1] (bodyOf Try.f13))) (Qend0 Try.prog Try.f13 R)))) (St.mk (mkT [(3, V.lst 1 (il o)), (4, V.ptr 0 0 0), (5, V.ptr 1 0 0), (6, V.ptr 2 0 0), (9, bv true), (10, V.lst s es), (11, iv n), (16, V.ptr 9 0 0), (99, V.lst s es), (100, iv (↑es.length : Int)), (101, iv (0 : Int))]) (Hp.mk [(0, O.rows 2 true [[V.lst 1 (List.map (fun p => [V.lst 2 (List.map sp p)]) l.1), V.lst 5 (List.map hi l.2)]]), (1, O.rows 2 true [[iv a.1, iv a.2]]), (2, O.rows 2 true [[iv b.1, iv b.2]]), (3, O.rows 1 true es_1), (4, O.rows 5 true es_2), (9, O.rows 2 false [[V.sl 3 0 es_1.length, V.sl 4 0 es_2.length]])] 10))))))) (ifB ((↑(il o).length : Int) != (↑(List.map hi l.2).length : Int)) (R (bv true)) (KB Try.prog (fun x => none) 20 [V.agg [V.lst 1 (List.map (fun p => [V.lst 2 (List.map sp p)]) l.1), V.lst 5 (List.map hi l.2)]] (Hp.mk [] 0) fun v => onAgg v fun cs => onCons cs fun u r => onLst u fun s_1 es_1 => guardB (s_1.beq 1 || s_1.beq 0) (onCons r fun u r => onLst u fun s_2 es_2 => guardB (s_2.beq 5 || s_2.beq 0) (onNil r (Lp (kp13 2) (W Try.prog CT 217 kp13 2 (cdAt [1, 1, 1, 1, 1, 1, 1, 1, 1, 1, 1, 0, 1, 0, 0] (bodyOf Try.f13))) (Qblk 2 (Qseq (W Try.prog CT 217 kp13 0 (cdAt [1, 1, 1, 1, 1, 1, 1, 1, 1, 1, 1, 1] (bodyOf Try.f13))) (Qend0 Try.prog Try.f13 R))) (St.mk (mkT [(3, V.lst 1 (il o)), (5, V.ptr 1 0 0), (6, V.ptr 2 0 0), (9, bv true), (10, V.lst s es), (23, V.ptr 5 0 0), (24, bv (n == (52 : Int))), (143, V.lst 1 (il o)), (144, iv (↑(il o).length : Int)), (145, iv (0 : Int))]) (Hp.mk [(1, O.rows 2 true [[iv a.1, iv a.2]]), (2, O.rows 2 true [[iv b.1, iv b.2]]), (3, O.rows 1 true es_1), (4, O.rows 5 true es_2), (5, O.rows 2 false [[V.sl 3 0 es_1.length, V.sl 4 0 es_2.length]])] 6)))))))))) (ifB (n != (0 : Int)) (ifB (n != (52 : Int)) (R (bv false)) (ifB (n == (0 : Int)) (ifB ((↑es.length : Int) != (↑(List.map hi l.2).length : Int)) (R (bv false)) (KB Try.prog (fun x => none) 20 [V.agg [V.lst 1 (List.map (fun p => [V.lst 2 (List.map sp p)]) l.1), V.lst 5 (List.map hi l.2)]] (Hp.mk [] 0) fun v => onAgg v fun cs => onCons cs fun u r => onLst u fun s_1 es_1 => guardB (s_1.beq 1 || s_1.beq 0) (onCons r fun u r => onLst u fun s_2 es_2 => guardB (s_2.beq 5 || s_2.beq 0) (onNil r (Lp (kp13 0) (W Try.prog CT 217 kp13 0 (cdAt [1, 1, 1, 1, 1, 1, 1, 0, 1, 0, 1, 1, 0, 1, 0, 0] (bodyOf Try.f13))) (Qblk 0 (Qseq (W Try.prog CT 217 kp13 0 (cdAt [1, 1, 1, 1, 1, 1, 1, 0, 1, 0, 1, 1, 1] (bodyOf Try.f13))) (Qseq (W Try.prog CT 217 kp13 0 (cdAt [1, 1, 1, 1, 1, 1, 1, 1] (bodyOf Try.f13))) (Qend0 Try.prog Try.f13 R)))) (St.mk (mkT [(3, V.lst 1 (il o)), (4, V.ptr 0 0 0), (5, V.ptr 1 0 0), (6, V.ptr 2 0 0), (9, bv true), (10, V.lst s es), (11, iv n), (16, V.ptr 9 0 0), (99, V.lst s es), (100, iv (↑es.length : Int)), (101, iv (0 : Int))]) (Hp.mk [(0, O.rows 2 true [[V.lst 1 (List.map (fun p => [V.lst 2 (List.map sp p)]) l.1), V.lst 5 (List.map hi l.2)]]), (1, O.rows 2 true [[iv a.1, iv a.2]]), (2, O.rows 2 true [[iv b.1, iv b.2]]), (3, O.rows 1 true es_1), (4, O.rows 5 true es_2), (9, O.rows 2 false [[V.sl 3 0 es_1.length, V.sl 4 0 es_2.length]])] 10))))))) (ifB ((↑(il o).length : Int) != (↑(List.map hi l.2).length : Int)) (R (bv true)) (KB Try.prog (fun x => none) 20 [V.agg [V.lst 1 (List.map (fun p => [V.lst 2 (List.map sp p)]) l.1), V.lst 5 (List.map hi l.2)]] (Hp.mk [] 0) fun v => onAgg v fun cs => onCons cs fun u r => onLst u fun s_1 es_1 => guardB (s_1.beq 1 || s_1.beq 0) (onCons r fun u r => onLst u fun s_2 es_2 => guardB (s_2.beq 5 || s_2.beq 0) (onNil r (Lp (kp13 2) (W Try.prog CT 217 kp13 2 (cdAt [1, 1, 1, 1, 1, 1, 1, 1, 1, 1, 1, 0, 1, 0, 0] (bodyOf Try.f13))) (Qblk 2 (Qseq (W Try.prog CT 217 kp13 0 (cdAt [1, 1, 1, 1, 1, 1, 1, 1, 1, 1, 1, 1] (bodyOf Try.f13))) (Qend0 Try.prog Try.f13 R))) (St.mk (mkT [(3, V.lst 1 (il o)), (5, V.ptr 1 0 0), (6, V.ptr 2 0 0), (9, bv true), (10, V.lst s es), (23, V.ptr 5 0 0), (24, bv (n == (52 : Int))), (143, V.lst 1 (il o)), (144, iv (↑(il o).length : Int)), (145, iv (0 : Int))]) (Hp.mk [(1, O.rows 2 true [[iv a.1, iv a.2]]), (2, O.rows 2 true [[iv b.1, iv b.2]]), (3, O.rows 1 true es_1), (4, O.rows 5 true es_2), (5, O.rows 2 false [[V.sl 3 0 es_1.length, V.sl 4 0 es_2.length]])] 6))))))))) (ifB (n == (0 : Int)) (ifB ((↑es.length : Int) != (↑(List.map hi l.2).length : Int)) (R (bv false)) (KB Try.prog (fun x => none) 20 [V.agg [V.lst 1 (List.map (fun p => [V.lst 2 (List.map sp p)]) l.1), V.lst 5 (List.map hi l.2)]] (Hp.mk [] 0) fun v => onAgg v fun cs => onCons cs fun u r => onLst u fun s_1 es_1 => guardB (s_1.beq 1 || s_1.beq 0) (onCons r fun u r => onLst u fun s_2 es_2 => guardB (s_2.beq 5 || s_2.beq 0) (onNil r (Lp (kp13 0) (W Try.prog CT 217 kp13 0 (cdAt [1, 1, 1, 1, 1, 1, 1, 0, 1, 0, 1, 1, 0, 1, 0, 0] (bodyOf Try.f13))) (Qblk 0 (Qseq (W Try.prog CT 217 kp13 0 (cdAt [1, 1, 1, 1, 1, 1, 1, 0, 1, 0, 1, 1, 1] (bodyOf Try.f13))) (Qseq (W Try.prog CT 217 kp13 0 (cdAt [1, 1, 1, 1, 1, 1, 1, 1] (bodyOf Try.f13))) (Qend0 Try.prog Try.f13 R)))) (St.mk (mkT [(3, V.lst 1 (il o)), (4, V.ptr 0 0 0), (5, V.ptr 1 0 0), (6, V.ptr 2 0 0), (9, bv true), (10, V.lst s es), (11, iv n), (16, V.ptr 9 0 0), (99, V.lst s es), (100, iv (↑es.length : Int)), (101, iv (0 : Int))]) (Hp.mk [(0, O.rows 2 true [[V.lst 1 (List.map (fun p => [V.lst 2 (List.map sp p)]) l.1), V.lst 5 (List.map hi l.2)]]), (1, O.rows 2 true [[iv a.1, iv a.2]]), (2, O.rows 2 true [[iv b.1, iv b.2]]), (3, O.rows 1 true es_1), (4, O.rows 5 true es_2), (9, O.rows 2 false [[V.sl 3 0 es_1.length, V.sl 4 0 es_2.length]])] 10))))))) (ifB ((↑(il o).length : Int) != (↑(List.map hi l.2).length : Int)) (R (bv true)) (KB Try.prog (fun x => none) 20 [V.agg [V.lst 1 (List.map (fun p => [V.lst 2 (List.map sp p)]) l.1), V.lst 5 (List.map hi l.2)]] (Hp.mk [] 0) fun v => onAgg v fun cs => onCons cs fun u r => onLst u fun s_1 es_1 => guardB (s_1.beq 1 || s_1.beq 0) (onCons r fun u r => onLst u fun s_2 es_2 => guardB (s_2.beq 5 || s_2.beq 0) (onNil r (Lp (kp13 2) (W Try.prog CT 217 kp13 2 (cdAt [1, 1, 1, 1, 1, 1, 1, 1, 1, 1, 1, 0, 1, 0, 0] (bodyOf Try.f13))) (Qblk 2 (Qseq (W Try.prog CT 217 kp13 0 (cdAt [1, 1, 1, 1, 1, 1, 1, 1, 1, 1, 1, 1] (bodyOf Try.f13))) (Qend0 Try.prog Try.f13 R))) (St.mk (mkT [(3, V.lst 1 (il o)), (5, V.ptr 1 0 0), (6, V.ptr 2 0 0), (9, bv true), (10, V.lst s es), (23, V.ptr 5 0 0), (24, bv (n == (52 : Int))), (143, V.lst 1 (il o)), (144, iv (↑(il o).length : Int)), (145, iv (0 : Int))]) (Hp.mk [(1, O.rows 2 true [[iv a.1, iv a.2]]), (2, O.rows 2 true [[iv b.1, iv b.2]]), (3, O.rows 1 true es_1), (4, O.rows 5 true es_2), (5, O.rows 2 false [[V.sl 3 0 es_1.length, V.sl 4 0 es_2.length]])] 6)))))))))) (ifB (n != (0 : Int)) (ifB (n != (52 : Int)) (R (bv false)) (ifB (n == (0 : Int)) (ifB ((↑es.length : Int) != (↑(List.map hi l.2).length : Int)) (R (bv false)) (KB Try.prog (fun x => none) 20 [V.agg [V.lst 1 (List.map (fun p => [V.lst 2 (List.map sp p)]) l.1), V.lst 5 (List.map hi l.2)]] (Hp.mk [] 0) fun v => onAgg v fun cs => onCons cs fun u r => onLst u fun s_1 es_1 => guardB (s_1.beq 1 || s_1.beq 0) (onCons r fun u r => onLst u fun s_2 es_2 => guardB (s_2.beq 5 || s_2.beq 0) (onNil r (Lp (kp13 0) (W Try.prog CT 217 kp13 0 (cdAt [1, 1, 1, 1, 1, 1, 1, 0, 1, 0, 1, 1, 0, 1, 0, 0] (bodyOf Try.f13))) (Qblk 0 (Qseq (W Try.prog CT 217 kp13 0 (cdAt [1, 1, 1, 1, 1, 1, 1, 0, 1, 0, 1, 1, 1] (bodyOf Try.f13))) (Qseq (W Try.prog CT 217 kp13 0 (cdAt [1, 1, 1, 1, 1, 1, 1, 1] (bodyOf Try.f13))) (Qend0 Try.prog Try.f13 R)))) (St.mk (mkT [(3, V.lst 1 (il o)), (4, V.ptr 0 0 0), (5, V.ptr 1 0 0), (6, V.ptr 2 0 0), (9, bv true), (10, V.lst s es), (11, iv n), (16, V.ptr 9 0 0), (99, V.lst s es), (100, iv (↑es.length : Int)), (101, iv (0 : Int))]) (Hp.mk [(0, O.rows 2 true [[V.lst 1 (List.map (fun p => [V.lst 2 (List.map sp p)]) l.1), V.lst 5 (List.map hi l.2)]]), (1, O.rows 2 true [[iv a.1, iv a.2]]), (2, O.rows 2 true [[iv b.1, iv b.2]]), (3, O.rows 1 true es_1), (4, O.rows 5 true es_2), (9, O.rows 2 false [[V.sl 3 0 es_1.length, V.sl 4 0 es_2.length]])] 10))))))) (ifB ((↑(il o).length : Int) != (↑(List.map hi l.2).length : Int)) (R (bv true)) (KB Try.prog (fun x => none) 20 [V.agg [V.lst 1 (List.map (fun p => [V.lst 2 (List.map sp p)]) l.1), V.lst 5 (List.map hi l.2)]] (Hp.mk [] 0) fun v => onAgg v fun cs => onCons cs fun u r => onLst u fun s_1 es_1 => guardB (s_1.beq 1 || s_1.beq 0) (onCons r fun u r => onLst u fun s_2 es_2 => guardB (s_2.beq 5 || s_2.beq 0) (onNil r (Lp (kp13 2) (W Try.prog CT 217 kp13 2 (cdAt [1, 1, 1, 1, 1, 1, 1, 1, 1, 1, 1, 0, 1, 0, 0] (bodyOf Try.f13))) (Qblk 2 (Qseq (W Try.prog CT 217 kp13 0 (cdAt [1, 1, 1, 1, 1, 1, 1, 1, 1, 1, 1, 1] (bodyOf Try.f13))) (Qend0 Try.prog Try.f13 R))) (St.mk (mkT [(3, V.lst 1 (il o)), (5, V.ptr 1 0 0), (6, V.ptr 2 0 0), (9, bv true), (10, V.lst s es), (23, V.ptr 5 0 0), (24, bv (n == (52 : Int))), (143, V.lst 1 (il o)), (144, iv (↑(il o).length : Int)), (145, iv (0 : Int))]) (Hp.mk [(1, O.rows 2 true [[iv a.1, iv a.2]]), (2, O.rows 2 true [[iv b.1, iv b.2]]), (3, O.rows 1 true es_1), (4, O.rows 5 true es_2), (5, O.rows 2 false [[V.sl 3 0 es_1.length, V.sl 4 0 es_2.length]])] 6))))))))) (ifB (n == (0 : Int)) (ifB ((↑es.length : Int) != (↑(List.map hi l.2).length : Int)) (R (bv false)) (KB Try.prog (fun x => none) 20 [V.agg [V.lst 1 (List.map (fun p => [V.lst 2 (List.map sp p)]) l.1), V.lst 5 (List.map hi l.2)]] (Hp.mk [] 0) fun v => onAgg v fun cs => onCons cs fun u r => onLst u fun s_1 es_1 => guardB (s_1.beq 1 || s_1.beq 0) (onCons r fun u r => onLst u fun s_2 es_2 => guardB (s_2.beq 5 || s_2.beq 0) (onNil r (Lp (kp13 0) (W Try.prog CT 217 kp13 0 (cdAt [1, 1, 1, 1, 1, 1, 1, 0, 1, 0, 1, 1, 0, 1, 0, 0] (bodyOf Try.f13))) (Qblk 0 (Qseq (W Try.prog CT 217 kp13 0 (cdAt [1, 1, 1, 1, 1, 1, 1, 0, 1, 0, 1, 1, 1] (bodyOf Try.f13))) (Qseq (W Try.prog CT 217 kp13 0 (cdAt [1, 1, 1, 1, 1, 1, 1, 1] (bodyOf Try.f13))) (Qend0 Try.prog Try.f13 R)))) (St.mk (mkT [(3, V.lst 1 (il o)), (4, V.ptr 0 0 0), (5, V.ptr 1 0 0), (6, V.ptr 2 0 0), (9, bv true), (10, V.lst s es), (11, iv n), (16, V.ptr 9 0 0), (99, V.lst s es), (100, iv (↑es.length : Int)), (101, iv (0 : Int))]) (Hp.mk [(0, O.rows 2 true [[V.lst 1 (List.map (fun p => [V.lst 2 (List.map sp p)]) l.1), V.lst 5 (List.map hi l.2)]]), (1, O.rows 2 true [[iv a.1, iv a.2]]), (2, O.rows 2 true [[iv b.1, iv b.2]]), (3, O.rows 1 true es_1), (4, O.rows 5 true es_2), (9, O.rows 2 false [[V.sl 3 0 es_1.length, V.sl 4 0 es_2.length]])] 10))))))) (ifB ((↑(il o).length : Int) != (↑(List.map hi l.2).length : Int)) (R (bv true)) (KB Try.prog (fun x => none) 20 [V.agg [V.lst 1 (List.map (fun p => [V.lst 2 (List.map sp p)]) l.1), V.lst 5 (List.map hi l.2)]] (Hp.mk [] 0) fun v => onAgg v fun cs => onCons cs fun u r => onLst u fun s_1 es_1 => guardB (s_1.beq 1 || s_1.beq 0) (onCons r fun u r => onLst u fun s_2 es_2 => guardB (s_2.beq 5 || s_2.beq 0) (onNil r (Lp (kp13 2) (W Try.prog CT 217 kp13 2 (cdAt [1, 1, 1, 1, 1, 1, 1, 1, 1, 1, 1, 0, 1, 0, 0] (bodyOf Try.f13))) (Qblk 2 (Qseq (W Try.prog CT 217 kp13 0 (cdAt [1, 1, 1, 1, 1, 1, 1, 1, 1, 1, 1, 1] (bodyOf Try.f13))) (Qend0 Try.prog Try.f13 R))) (St.mk (mkT [(3, V.lst 1 (il o)), (5, V.ptr 1 0 0), (6, V.ptr 2 0 0), (9, bv true), (10, V.lst s es), (23, V.ptr 5 0 0), (24, bv (n == (52 : Int))), (143, V.lst 1 (il o)), (144, iv (↑(il o).length : Int)), (145, iv (0 : Int))]) (Hp.mk [(1, O.rows 2 true [[iv a.1, iv a.2]]), (2, O.rows 2 true [[iv b.1, iv b.2]]), (3, O.rows 1 true es_1), (4, O.rows 5 true es_2), (5, O.rows 2 false [[V.sl 3 0 es_1.length, V.sl 4 0 es_2.length]])] 6))))))))))))))))) (by kernel_rfl) ?_)
  refine great15 (l := l) (onBool_bv (ifB_mk (fun _ => h) (fun hg => ?_)))
  have hs := greatB_sz hg
  refine check24 (ps := l.1) (hs := l.2) hs.ps hs.hs hs.each (onIntK_iv ?_)
  cases hl : linB l with
  | false => exact ifB_mk (fun _ => h) (fun hc => by simp at hc)
  | true =>
  refine ifB_mk (fun hc => by simp at hc) (fun _ => ?_)
  obtain ⟨g1, g2, g3, g4, g5⟩ := linB_ok hl
  have hl3 : l.2.length ≤ 3 := by omega
  have gapOwn : ∀ k : Int → Int → Int → Int → Prop, plcC l a b = 0 → k (gapZ (pz l.2 l.2.length) a b).1 (gapZ (pz l.2 l.2.length) a b).2 (pz l.2 l.2.length).2.2.2.2 0 →
      K0 Try.prog 29 [V.agg [V.lst 1 (List.map (fun p => [V.lst 2 (List.map sp p)]) l.1), V.lst 5 (List.map hi l.2)], V.agg [iv a.1, iv a.2], V.agg [iv b.1, iv b.2]] fun v => onTup v fun vs => onCons vs fun u r => onIntK IntKind.i64 u fun n => onCons r fun u r => onIntK IntKind.i64 u fun n_1 => onCons r fun u r => onIntK IntKind.i64 u fun n_2 => onCons r fun u
        r => onIntK IntKind.i64 u fun n_3 => onNil r (k n n_1 n_2 n_3) := fun k hp hk => by
    refine gap29 (l := l) (a := a) (b := b) hs ?_
    unfold gapR
    rw [if_pos hp]
    exact (onTup_tup (onCons_cons (onIntK_iv (onCons_cons (onIntK_iv (onCons_cons (onIntK_iv (onCons_cons (onIntK_iv (onNil_nil (hk)))))))))))
  have tail : ∀ (s : Nat) (c : List Int) (e : Bool), plcC l a b = 0 → (c ≠ [] → s = 1) → (e = true → closeP l a b = none ∧ c = []) → (e = false → closeP l a b = some c) →
      ifB (((il o).length : Int) != ((List.map hi l.2).length : Int)) (R
        (bv true)) (KB Try.prog (fun x => none) 20 [V.agg [V.lst 1 (List.map (fun p => [V.lst 2 (List.map sp p)]) l.1), V.lst 5 (List.map hi l.2)]] (Hp.mk [] 0) fun v => onAgg v fun cs => onCons cs fun u r => onLst u fun s_1 es => guardB
        (s_1.beq 1 || s_1.beq 0) (onCons r fun u r => onLst u fun s_2 es_1 => guardB (s_2.beq 5 || s_2.beq 0) (onNil r (Lp (kp13 2) (W Try.prog CT 217 kp13 2 (cdAt [1, 1, 1, 1, 1, 1, 1, 1, 1, 1, 1, 0, 1, 0, 0] (bodyOf Try.f13))) (Qblk 2
        (Qseq (W Try.prog CT 217 kp13 0 (cdAt [1, 1, 1, 1, 1, 1, 1, 1, 1, 1, 1, 1] (bodyOf Try.f13))) (Qend0 Try.prog Try.f13 R))) (St.mk (mkT [(3, V.lst 1 (il o)), (5, V.ptr 1 0 0), (6, V.ptr 2 0 0), (9, bv true), (10, V.lst s (il c)),
        (23, V.ptr 5 0 0), (24, bv e), (143, V.lst 1 (il o)), (144, iv ((il o).length : Int)), (145, iv (0 : Int))]) (Hp.mk [(1, O.rows 2 true [[iv a.1, iv a.2]]), (2, O.rows 2 true [[iv b.1, iv b.2]]), (3, O.rows 1 true es), (4,
        O.rows 5 true es_1), (5, O.rows 2 false [[V.sl 3 0 es.length, V.sl 4 0 es_1.length]])] 6)))))) := fun s c e hp hsc he1 he0 => by
    refine ifB_mk (fun _ => h) (fun hol => ?_)
    have hol : o.length = l.2.length := by rw [il_length, List.length_map] at hol; simp at hol; omega
    refine twin20 (l := l) hs.ps hs.hs hs.each (fun _ => ?_) (fun h0 => by rw [h0] at g1; simp at g1)
    refine onAgg_agg (onCons_cons (onLst_lst (guardB_mk rfl (onCons_cons (onLst_lst (guardB_mk rfl (onNil_nil ?_)))))))
    rw [List.length_map, List.length_map]
    refine Lp.of (σ := Nat × List Hi) (fun x => ⟨mkT [(3, .lst 1 (il o)), (5, .ptr 1 0 0), (6, .ptr 2 0 0), (9, bv true), (10, .lst s (il c)), (23, .ptr 5 0 0), (24, bv e), (143, .lst 1 (il o)), (144, iv ((il o).length : Int)), (145, iv (x.1 : Int))], ⟨[(1, .rows 2 true [sp a]), (2, .rows 2 true [sp b]), (3, .rows 1 true (l.1.map fun p => [pl p])), (4, .rows 5 true (x.2.map hi)), (5, .rows 2 false [[.sl 3 0 l.1.length, .sl 4 0 x.2.length]])], 6⟩⟩)
      (fun x => x.1 ≤ l.2.length ∧ WTH l.2 o x.1 x.2 ∧ ∀ j, j < x.1 → 0 ≤ o.getD j 0 ∧ o.getD j 0 ≤ 35) (fun x => l.2.length - x.1) (0, l.2) (by kernel_rfl) ⟨by simp, WTH.zero _ _, by omega⟩ ?_
    rintro ⟨i, hs'⟩ ⟨hi', hw, hr⟩ J hJ
    simp only at hi' hw hr
    refine see (p := ifB (decide ((↑i : Int) < (↑(il o).length : Int))) (onSome (il o)[i]? fun row => onSome row[0]? fun v => onIntK IntKind.i64 v fun n => ifB (decide (n < (0 : Int))) (R (bv true)) (ifB (decide (n ≥ (36 : Int))) (R (bv true)) (need (i < hs'.length) (onSome (List.map hi hs')[0 + i]? fun row => guardB ((4 + 1).ble row.length) (J (St.mk (mkT [(3, V.lst 1 (il o)), (5, V.ptr 1 0 0), (6, V.ptr 2 0 0), (9, bv true), (10, V.lst s (il c)), (23, V.ptr 5 0 0), (24, bv e), (143, V.lst 1 (il o)), (144, iv (↑(il o).length : Int)), (145, iv (IntKind.i64.wrap ((↑i : Int) + (1 : Int))))]) (Hp.mk [(1, O.rows 2 true [[iv a.1, iv a.2]]), (2, O.rows 2 true [[iv b.1, iv b.2]]), (3, O.rows 1 true (List.map (fun p => [V.lst 2 (List.map sp p)]) l.1)), (4, O.rows 5 true ((List.map hi hs').set (0 + i) (List.take 4 row ++ [iv n] ++ List.drop 5 row))), (5, O.rows 2 false [[V.sl 3 0 l.1.length, V.sl 4 0 hs'.length]])] 6))))))) (Lp (kp13 4) (W Try.prog CT 217 kp13 4 (cdAt [1, 1, 1, 1, 1, 1, 1, 1, 1, 1, 1, 1, 0, 1, 0, 0] (bodyOf Try.f13))) (Qblk 4 (Qseq (W Try.prog CT 217 kp13 0 (cdAt [1, 1, 1, 1, 1, 1, 1, 1, 1, 1, 1, 1, 1] (bodyOf Try.f13))) (Qend0 Try.prog Try.f13 R))) (St.mk (mkT [(3, V.lst 1 (il o)), (5, V.ptr 1 0 0), (6, V.ptr 2 0 0), (9, bv true), (10, V.lst s (il c)), (23, V.ptr 5 0 0), (24, bv e), (165, iv (↑(il c).length : Int)), (166, iv (0 : Int))]) (Hp.mk [(1, O.rows 2 true [[iv a.1, iv a.2]]), (2, O.rows 2 true [[iv b.1, iv b.2]]), (3, O.rows 1 true (List.map (fun p => [V.lst 2 (List.map sp p)]) l.1)), (4, O.rows 5 true (List.map hi hs')), (5, O.rows 2 false [[V.sl 3 0 l.1.length, V.sl 4 0 hs'.length]])] 6)))) (by kernel_rfl) ?_
    have hlen' : hs'.length = l.2.length := hw.1
    refine ifB_mk (fun hc => ?_) (fun hc => ?_)
    · have hlt : i < l.2.length := by rw [il_length] at hc; simp at hc; omega
      refine el (int_getD (l := o) (by omega)) (ifB_mk (fun _ => h) (fun hn0 => ifB_mk (fun _ => h) (fun hn1 => need_mk ⟨by omega, onSome_mk (x := hi (hs'.getD i noHi)) (by rw [Nat.zero_add]; simp [hlen', hlt]) (guardB_mk rfl ?_)⟩)))
      rw [hi_set (by omega), wr (by omega) (by omega)]
      have := hJ (i + 1, hsa hs' i (o.getD i 0)) ⟨hlt, hw.step hlt, fun j hj => by
        by_cases hji : j = i
        · subst hji; have a1 := of_decide_eq_false hn0; have a2 := of_decide_eq_false hn1; omega
        · exact hr j (by omega)⟩ (by simp only; omega)
      simp only [hsa_length] at this
      exact this
    · have he : i = l.2.length := by rw [il_length] at hc; simp at hc; omega
      subst he
      have hall := hw.all g5 hr
      -- where angles that are earlier close, Close has found some that are no later
      have key : gapZ (pz hs' l.2.length) a b = (0, 0) → ∃ r, closeP l a b = some r ∧ lexLe r o := fun hg0 => by
        obtain ⟨r, q1, q2⟩ := closes_found hw hl3 hall hol hr hg0 l.2.length 0 (by omega)
        exact ⟨r, q1, q2⟩
      have nz : ∀ x y : Int, (x, y) = gapZ (pz hs' l.2.length) a b → gapZ (pz hs' l.2.length) a b ≠ (0, 0) → ifB (x != (0 : Int)) (R (bv true)) (R (bv (y != (0 : Int)))) := fun x y hxy hne => by
        refine ifB_mk (fun _ => h) (fun hx => ?_)
        have hx0 : x = 0 := by simpa using hx
        have hy : (y != (0 : Int)) = true := by
          rw [bne_iff_ne]
          intro hy0
          exact hne (by rw [← hxy, hx0, hy0])
        rw [hy]; exact h
      have hne_e : e = true → gapZ (pz hs' l.2.length) a b ≠ (0, 0) := fun het hg0 => by
        obtain ⟨r, q1, _⟩ := key hg0
        rw [(he1 het).1] at q1; cases q1
      refine Lp.of (σ := Nat) (fun i => ⟨mkT [(3, .lst 1 (il o)), (5, .ptr 1 0 0), (6, .ptr 2 0 0), (9, bv true), (10, .lst s (il c)), (23, .ptr 5 0 0), (24, bv e), (165, iv ((il c).length : Int)), (166, iv (i : Int))], ⟨[(1, .rows 2 true [sp a]), (2, .rows 2 true [sp b]), (3, .rows 1 true (l.1.map fun p => [pl p])), (4, .rows 5 true (hs'.map hi)), (5, .rows 2 false [[.sl 3 0 l.1.length, .sl 4 0 hs'.length]])], 6⟩⟩)
        (fun i => i ≤ c.length ∧ ∀ j, j < i → o.getD j 0 = c.getD j 0) (fun i => c.length - i) 0 (by kernel_rfl) ⟨by simp, by omega⟩ ?_
      rintro i ⟨hic, hsame⟩ J1 hJ1
      refine see (p := ifB (decide ((↑i : Int) < (↑(il c).length : Int))) (onSome (il o)[i]? fun row => onSome row[0]? fun v => onIntK IntKind.i64 v fun n => need (s = 1) (onSome (il c)[i]? fun row => onSome row[0]? fun v => onIntK IntKind.i64 v fun n_1 => ifB (n != n_1) (ifB e (K0 Try.prog 29 [V.agg [V.lst 1 (sub (List.map (fun p => [V.lst 2 (List.map sp p)]) l.1) 0 l.1.length), V.lst 5 (sub (List.map hi hs') 0 hs'.length)], V.agg [iv a.1, iv a.2], V.agg [iv b.1, iv b.2]] fun v => onTup v fun vs => onCons vs fun u r => onIntK IntKind.i64 u fun n => onCons r fun u r => onIntK IntKind.i64 u fun n_2 => onCons r fun u r => onIntK IntKind.i64 u fun n_3 => onCons r fun u r => onIntK IntKind.i64 u fun n_4 => onNil r (ifB (n_4 == (0 : Int)) (ifB (n != (0 : Int)) (R (bv true)) (R (bv (n_2 != (0 : Int))))) (R (bv false)))) (onSome (il o)[i]? fun row => onSome row[0]? fun v => onIntK IntKind.i64 v fun n => need (s = 1) (onSome (il c)[i]? fun row => onSome row[0]? fun v => onIntK IntKind.i64 v fun n_2 => K0 Try.prog 29 [V.agg [V.lst 1 (sub (List.map (fun p => [V.lst 2 (List.map sp p)]) l.1) 0 l.1.length), V.lst 5 (sub (List.map hi hs') 0 hs'.length)], V.agg [iv a.1, iv a.2], V.agg [iv b.1, iv b.2]] fun v => onTup v fun vs => onCons vs fun u r => onIntK IntKind.i64 u fun n_3 => onCons r fun u r => onIntK IntKind.i64 u fun n_4 => onCons r fun u r => onIntK IntKind.i64 u fun n_5 => onCons r fun u r => onIntK IntKind.i64 u fun n_6 => onNil r (ifB (n_6 == (0 : Int)) (ifB (!decide (n < n_2)) (R (bv true)) (ifB (n_3 != (0 : Int)) (R (bv true)) (R (bv (n_4 != (0 : Int)))))) (R (bv false)))))) (J1 (St.mk (mkT [(3, V.lst 1 (il o)), (5, V.ptr 1 0 0), (6, V.ptr 2 0 0), (9, bv true), (10, V.lst s (il c)), (23, V.ptr 5 0 0), (24, bv e), (165, iv (↑(il c).length : Int)), (166, iv (IntKind.i64.wrap ((↑i : Int) + (1 : Int))))]) (Hp.mk [(1, O.rows 2 true [[iv a.1, iv a.2]]), (2, O.rows 2 true [[iv b.1, iv b.2]]), (3, O.rows 1 true (List.map (fun p => [V.lst 2 (List.map sp p)]) l.1)), (4, O.rows 5 true (List.map hi hs')), (5, O.rows 2 false [[V.sl 3 0 l.1.length, V.sl 4 0 hs'.length]])] 6))))) (K0 Try.prog 29 [V.agg [V.lst 1 (sub (List.map (fun p => [V.lst 2 (List.map sp p)]) l.1) 0 l.1.length), V.lst 5 (sub (List.map hi hs') 0 hs'.length)], V.agg [iv a.1, iv a.2], V.agg [iv b.1, iv b.2]] fun v => onTup v fun vs => onCons vs fun u r => onIntK IntKind.i64 u fun n => onCons r fun u r => onIntK IntKind.i64 u fun n_1 => onCons r fun u r => onIntK IntKind.i64 u fun n_2 => onCons r fun u r => onIntK IntKind.i64 u fun n_3 => onNil r (ifB (n_3 == (0 : Int)) (ifB (!e) (R (bv true)) (ifB (n != (0 : Int)) (R (bv true)) (R (bv (n_1 != (0 : Int)))))) (R (bv false))))) (by kernel_rfl) ?_
      have hcl : c.length ≤ l.2.length := by
        cases het : e with
        | true => rw [(he1 het).2]; simp
        | false => rw [tryP_len a b _ _ _ (he0 het)]; exact Nat.le_refl _
      rw [il_length]
      refine ifB_mk (fun hc2 => ?_) (fun hc2 => ?_)
      · have hltc : i < c.length := by simp at hc2; omega
        have hs1 : s = 1 := hsc (fun hn => by rw [hn] at hltc; simp at hltc)
        refine el (int_getD (l := o) (by omega)) (need_mk ⟨hs1, el (int_getD (l := c) hltc) ?_⟩)
        refine ifB_mk (fun hd => ?_) (fun hd => ?_)
        · refine ifB_mk (fun het => ?_) (fun hef => ?_)
          · refine gap_with hs hp hlen' hall ?_
            exact ifB_mk (fun _ => nz _ _ rfl (hne_e het)) (fun hz => by simp at hz)
          · refine el (int_getD (l := o) (by omega)) (need_mk ⟨hs1, el (int_getD (l := c) hltc) ?_⟩)
            refine gap_with hs hp hlen' hall ?_
            refine ifB_mk (fun _ => ifB_mk (fun _ => h) (fun hlt => nz _ _ rfl (fun hg0 => ?_))) (fun hz => by simp at hz)
            obtain ⟨r, q1, q2⟩ := key hg0
            have : r = c := by rw [he0 hef] at q1; exact (Option.some.inj q1).symm
            subst this
            exact lexLe_no i r o q2 hltc hsame (by simpa using hlt)
        · rw [wr (by omega) (by omega)]
          have := hJ1 (i + 1) ⟨hltc, fun j hj => by
            by_cases hji : j = i
            · subst hji; simpa using hd
            · exact hsame j (by omega)⟩ (by omega)
          simp only [il_length] at this
          exact this
      · refine gap_with hs hp hlen' hall ?_
        refine ifB_mk (fun _ => ifB_mk (fun _ => h) (fun het => nz _ _ rfl (hne_e (by simpa using het)))) (fun hz => by simp at hz)
  refine close42 (l := l) (a := a) (b := b) hs (fun hp => ?_) (fun hp hn => ?_) (fun hp c hr => ?_)
  · refine (onTup_tup (onCons_cons (onLst_nil (onCons_cons (onIntK_iv (onNil_nil (?_)))))))
    refine gap29 (l := l) (a := a) (b := b) hs ?_
    unfold gapR
    rw [if_neg hp]
    refine (onTup_tup (onCons_cons (onIntK_iv (onCons_cons (onIntK_iv (onCons_cons (onIntK_iv (onCons_cons (onIntK_iv (onNil_nil (?_)))))))))))
    rw [show (plcC l a b == plcC l a b) = true by simp]
    exact ifB_mk (fun _ => h) (fun _ => ifB_mk (fun _ => h) (fun hz => by simp at hz; exact absurd hz hp))
  · refine (onTup_tup (onCons_cons (onLst_nil (onCons_cons (onIntK_iv (onNil_nil (?_)))))))
    refine gapOwn _ hp ?_
    have hd := (pz_good g5 l.2.length (Nat.le_refl _)).d1
    have hne : gapZ (pz l.2 l.2.length) a b ≠ (0, 0) := fun hg0 => by
      have hw : WTH l.2 (l.2.map (·.2.2)) l.2.length l.2 := ⟨rfl, fun j => by
        by_cases hj : j < l.2.length
        · rw [if_pos hj]
          have : (l.2.map (·.2.2)).getD j 0 = (l.2.getD j noHi).2.2 := by simp [List.getD, hj]
          rw [this]
        · rw [if_neg hj]⟩
      obtain ⟨r, q1, _⟩ := closes_found hw hl3 g5 (by simp) (fun j hj => by
        have : (l.2.map (·.2.2)).getD j 0 = (l.2.getD j noHi).2.2 := by simp [List.getD, hj]
        rw [this]
        exact (hi_getD_ok g5 hj).2) hg0 l.2.length 0 (by omega)
      have : closeP l a b = some r := q1
      rw [hn] at this; cases this
    have t := tail 0 [] true hp (fun hc => absurd rfl hc) (fun _ => ⟨hn, rfl⟩) (fun hc => by cases hc)
    refine ifB_mk (fun hz => by simp at hz) (fun _ => ifB_mk (fun hz => by simp at hz) (fun _ => ifB_mk (fun hz => by simp at hz; omega) (fun _ => ifB_mk (fun _ => ifB_mk (fun hx => ifB_mk (fun hy => ?_) (fun _ => ?_)) (fun _ => ?_)) (fun hz => by simp at hz))))
    · exfalso
      exact hne (Prod.ext (by simpa using hx) (by simpa using hy))
    · exact ifB_mk (fun _ => ifB_mk (fun hz => by simp at hz) (fun _ => ifB_mk (fun hz => by simp at hz) (fun _ => t))) (fun hz => by simp at hz)
    · exact ifB_mk (fun _ => ifB_mk (fun hz => by simp at hz) (fun _ => ifB_mk (fun hz => by simp at hz) (fun _ => t))) (fun hz => by simp at hz)
  · have hlen : c.length = l.2.length := tryP_len a b _ _ _ hr
    have hrng := tryP_range _ _ _ hr
    have hd := (pz_good g5 l.2.length (Nat.le_refl _)).d1
    have main : ∀ s : Nat, (c ≠ [] → s = 1) → K0 Try.prog 29 [V.agg [V.lst 1 (List.map (fun p => [V.lst 2 (List.map sp p)]) l.1), V.lst 5 (List.map hi l.2)], V.agg [iv a.1, iv a.2], V.agg [iv b.1, iv b.2]] fun v => onTup v fun vs => onCons vs fun u r => onIntK IntKind.i64 u fun n_1 => onCons r fun u r => onIntK IntKind.i64 u fun n_2 => onCons r fun u r => onIntK IntKind.i64 u fun n_3 => onCons r fun u r => onIntK IntKind.i64 u fun n_4 => onNil r ((fun (s : Nat) (es : List (List V)) (n : Int) => ifB (n == (2 : Int)) (R (bv (n == n_4))) (ifB (n_4 != (0 : Int)) (R (bv (n == n_4))) (ifB (decide (n_3 < (1 : Int))) (R (bv false)) (ifB (n == (52 : Int)) (ifB (n_1 == (0 : Int)) (ifB (n_2 == (0 : Int)) (R (bv false)) (ifB (n != (0 : Int)) (ifB (n != (52 : Int)) (R (bv false)) (ifB (n == (0 : Int)) (ifB ((↑es.length : Int) != (↑(List.map hi l.2).length : Int)) (R (bv false)) (KB Try.prog (fun x => none) 20 [V.agg [V.lst 1 (List.map (fun p => [V.lst 2 (List.map sp p)]) l.1), V.lst 5 (List.map hi l.2)]] (Hp.mk [] 0) fun v => onAgg v fun cs => onCons cs fun u r => onLst u fun s_1 es_1 => guardB (s_1.beq 1 || s_1.beq 0) (onCons r fun u r => onLst u fun s_2 es_2 => guardB (s_2.beq 5 || s_2.beq 0) (onNil r (Lp (kp13 0) (W Try.prog CT 217 kp13 0 (cdAt [1, 1, 1, 1, 1, 1, 1, 0, 1, 0, 1, 1, 0, 1, 0, 0] (bodyOf Try.f13))) (Qblk 0 (Qseq (W Try.prog CT 217 kp13 0 (cdAt [1, 1, 1, 1, 1, 1, 1, 0, 1, 0, 1, 1, 1] (bodyOf Try.f13))) (Qseq (W Try.prog CT 217 kp13 0 (cdAt [1, 1, 1, 1, 1, 1, 1, 1] (bodyOf Try.f13))) (Qend0 Try.prog Try.f13 R)))) (St.mk (mkT [(3, V.lst 1 (il o)), (4, V.ptr 0 0 0), (5, V.ptr 1 0 0), (6, V.ptr 2 0 0), (9, bv true), (10, V.lst s es), (11, iv n), (16, V.ptr 9 0 0), (99, V.lst s es), (100, iv (↑es.length : Int)), (101, iv (0 : Int))]) (Hp.mk [(0, O.rows 2 true [[V.lst 1 (List.map (fun p => [V.lst 2 (List.map sp p)]) l.1), V.lst 5 (List.map hi l.2)]]), (1, O.rows 2 true [[iv a.1, iv a.2]]), (2, O.rows 2 true [[iv b.1, iv b.2]]), (3, O.rows 1 true es_1), (4, O.rows 5 true es_2), (9, O.rows 2 false [[V.sl 3 0 es_1.length, V.sl 4 0 es_2.length]])] 10))))))) (ifB ((↑(il o).length : Int) != (↑(List.map hi l.2).length : Int)) (R (bv true)) (KB Try.prog (fun x => none) 20 [V.agg [V.lst 1 (List.map (fun p => [V.lst 2 (List.map sp p)]) l.1), V.lst 5 (List.map hi l.2)]] (Hp.mk [] 0) fun v => onAgg v fun cs => onCons cs fun u r => onLst u fun s_1 es_1 => guardB (s_1.beq 1 || s_1.beq 0) (onCons r fun u r => onLst u fun s_2 es_2 => guardB (s_2.beq 5 || s_2.beq 0) (onNil r (Lp (kp13 2) (W Try.prog CT 217 kp13 2 (cdAt [1, 1, 1, 1, 1, 1, 1, 1, 1, 1, 1, 0, 1, 0, 0] (bodyOf Try.f13))) (Qblk 2 (Qseq (W Try.prog CT 217 kp13 0 (cdAt [1, 1, 1, 1, 1, 1, 1, 1, 1, 1, 1, 1] (bodyOf Try.f13))) (Qend0 Try.prog Try.f13 R))) (St.mk (mkT [(3, V.lst 1 (il o)), (5, V.ptr 1 0 0), (6, V.ptr 2 0 0), (9, bv true), (10, V.lst s es), (23, V.ptr 5 0 0), (24, bv (n == (52 : Int))), (143, V.lst 1 (il o)), (144, iv (↑(il o).length : Int)), (145, iv (0 : Int))]) (Hp.mk [(1, O.rows 2 true [[iv a.1, iv a.2]]), (2, O.rows 2 true [[iv b.1, iv b.2]]), (3, O.rows 1 true es_1), (4, O.rows 5 true es_2), (5, O.rows 2 false [[V.sl 3 0 es_1.length, V.sl 4 0 es_2.length]])] 6))))))))) (ifB (n == (0 : Int)) (ifB ((↑es.length : Int) != (↑(List.map hi l.2).length : Int)) (R (bv false)) (KB Try.prog (fun x => none) 20 [V.agg [V.lst 1 (List.map (fun p => [V.lst 2 (List.map sp p)]) l.1), V.lst 5 (List.map hi l.2)]] (Hp.mk [] 0) fun v => onAgg v fun cs => onCons cs fun u r => onLst u fun s_1 es_1 => guardB (s_1.beq 1 || s_1.beq 0) (onCons r fun u r => onLst u fun s_2 es_2 => guardB (s_2.beq 5 || s_2.beq 0) (onNil r (Lp (kp13 0) (W Try.prog CT 217 kp13 0 (cdAt [1, 1, 1, 1, 1, 1, 1, 0, 1, 0, 1, 1, 0, 1, 0, 0] (bodyOf Try.f13))) (Qblk 0 (Qseq (W Try.prog CT 217 kp13 0 (cdAt [1, 1, 1, 1, 1, 1, 1, 0, 1, 0, 1, 1, 1] (bodyOf Try.f13))) (Qseq (W Try.prog CT 217 kp13 0 (cdAt [1, 1, 1, 1, 1, 1, 1, 1] (bodyOf Try.f13))) (Qend0 Try.prog Try.f13 R)))) (St.mk (mkT [(3, V.lst 1 (il o)), (4, V.ptr 0 0 0), (5, V.ptr 1 0 0), (6, V.ptr 2 0 0), (9, bv true), (10, V.lst s es), (11, iv n), (16, V.ptr 9 0 0), (99, V.lst s es), (100, iv (↑es.length : Int)), (101, iv (0 : Int))]) (Hp.mk [(0, O.rows 2 true [[V.lst 1 (List.map (fun p => [V.lst 2 (List.map sp p)]) l.1), V.lst 5 (List.map hi l.2)]]), (1, O.rows 2 true [[iv a.1, iv a.2]]), (2, O.rows 2 true [[iv b.1, iv b.2]]), (3, O.rows 1 true es_1), (4, O.rows 5 true es_2), (9, O.rows 2 false [[V.sl 3 0 es_1.length, V.sl 4 0 es_2.length]])] 10))))))) (ifB ((↑(il o).length : Int) != (↑(List.map hi l.2).length : Int)) (R (bv true)) (KB Try.prog (fun x => none) 20 [V.agg [V.lst 1 (List.map (fun p => [V.lst 2 (List.map sp p)]) l.1), V.lst 5 (List.map hi l.2)]] (Hp.mk [] 0) fun v => onAgg v fun cs => onCons cs fun u r => onLst u fun s_1 es_1 => guardB (s_1.beq 1 || s_1.beq 0) (onCons r fun u r => onLst u fun s_2 es_2 => guardB (s_2.beq 5 || s_2.beq 0) (onNil r (Lp (kp13 2) (W Try.prog CT 217 kp13 2 (cdAt [1, 1, 1, 1, 1, 1, 1, 1, 1, 1, 1, 0, 1, 0, 0] (bodyOf Try.f13))) (Qblk 2 (Qseq (W Try.prog CT 217 kp13 0 (cdAt [1, 1, 1, 1, 1, 1, 1, 1, 1, 1, 1, 1] (bodyOf Try.f13))) (Qend0 Try.prog Try.f13 R))) (St.mk (mkT [(3, V.lst 1 (il o)), (5, V.ptr 1 0 0), (6, V.ptr 2 0 0), (9, bv true), (10, V.lst s es), (23, V.ptr 5 0 0), (24, bv (n == (52 : Int))), (143, V.lst 1 (il o)), (144, iv (↑(il o).length : Int)), (145, iv (0 : Int))]) (Hp.mk [(1, O.rows 2 true [[iv a.1, iv a.2]]), (2, O.rows 2 true [[iv b.1, iv b.2]]), (3, O.rows 1 true es_1), (4, O.rows 5 true es_2), (5, O.rows 2 false [[V.sl 3 0 es_1.length, V.sl 4 0 es_2.length]])] 6)))))))))) (ifB (n != (0 : Int)) (ifB (n != (52 : Int)) (R (bv false)) (ifB (n == (0 : Int)) (ifB ((↑es.length : Int) != (↑(List.map hi l.2).length : Int)) (R (bv false)) (KB Try.prog (fun x => none) 20 [V.agg [V.lst 1 (List.map (fun p => [V.lst 2 (List.map sp p)]) l.1), V.lst 5 (List.map hi l.2)]] (Hp.mk [] 0) fun v => onAgg v fun cs => onCons cs fun u r => onLst u fun s_1 es_1 => guardB (s_1.beq 1 || s_1.beq 0) (onCons r fun u r => onLst u fun s_2 es_2 => guardB (s_2.beq 5 || s_2.beq 0) (onNil r (Lp (kp13 0) (W Try.prog CT 217 kp13 0 (cdAt [1, 1, 1, 1, 1, 1, 1, 0, 1, 0, 1, 1, 0, 1, 0, 0] (bodyOf Try.f13))) (Qblk 0 (Qseq (W Try.prog CT 217 kp13 0 (cdAt [1, 1, 1, 1, 1, 1, 1, 0, 1, 0, 1, 1, 1] (bodyOf Try.f13))) (Qseq (W Try.prog CT 217 kp13 0 (cdAt [1, 1, 1, 1, 1, 1, 1, 1] (bodyOf Try.f13))) (Qend0 Try.prog Try.f13 R)))) (St.mk (mkT [(3, V.lst 1 (il o)), (4, V.ptr 0 0 0), (5, V.ptr 1 0 0), (6, V.ptr 2 0 0), (9, bv true), (10, V.lst s es), (11, iv n), (16, V.ptr 9 0 0), (99, V.lst s es), (100, iv (↑es.length : Int)), (101, iv (0 : Int))]) (Hp.mk [(0, O.rows 2 true [[V.lst 1 (List.map (fun p => [V.lst 2 (List.map sp p)]) l.1), V.lst 5 (List.map hi l.2)]]), (1, O.rows 2 true [[iv a.1, iv a.2]]), (2, O.rows 2 true [[iv b.1, iv b.2]]), (3, O.rows 1 true es_1), (4, O.rows 5 true es_2), (9, O.rows 2 false [[V.sl 3 0 es_1.length, V.sl 4 0 es_2.length]])] 10))))))) (ifB ((↑(il o).length : Int) != (↑(List.map hi l.2).length : Int)) (R (bv true)) (KB Try.prog (fun x => none) 20 [V.agg [V.lst 1 (List.map (fun p => [V.lst 2 (List.map sp p)]) l.1), V.lst 5 (List.map hi l.2)]] (Hp.mk [] 0) fun v => onAgg v fun cs => onCons cs fun u r => onLst u fun s_1 es_1 => guardB (s_1.beq 1 || s_1.beq 0) (onCons r fun u r => onLst u fun s_2 es_2 => guardB (s_2.beq 5 || s_2.beq 0) (onNil r (Lp (kp13 2) (W Try.prog CT 217 kp13 2 (cdAt [1, 1, 1, 1, 1, 1, 1, 1, 1, 1, 1, 0, 1, 0, 0] (bodyOf Try.f13))) (Qblk 2 (Qseq (W Try.prog CT 217 kp13 0 (cdAt [1, 1, 1, 1, 1, 1, 1, 1, 1, 1, 1, 1] (bodyOf Try.f13))) (Qend0 Try.prog Try.f13 R))) (St.mk (mkT [(3, V.lst 1 (il o)), (5, V.ptr 1 0 0), (6, V.ptr 2 0 0), (9, bv true), (10, V.lst s es), (23, V.ptr 5 0 0), (24, bv (n == (52 : Int))), (143, V.lst 1 (il o)), (144, iv (↑(il o).length : Int)), (145, iv (0 : Int))]) (Hp.mk [(1, O.rows 2 true [[iv a.1, iv a.2]]), (2, O.rows 2 true [[iv b.1, iv b.2]]), (3, O.rows 1 true es_1), (4, O.rows 5 true es_2), (5, O.rows 2 false [[V.sl 3 0 es_1.length, V.sl 4 0 es_2.length]])] 6))))))))) (ifB (n == (0 : Int)) (ifB ((↑es.length : Int) != (↑(List.map hi l.2).length : Int)) (R (bv false)) (KB Try.prog (fun x => none) 20 [V.agg [V.lst 1 (List.map (fun p => [V.lst 2 (List.map sp p)]) l.1), V.lst 5 (List.map hi l.2)]] (Hp.mk [] 0) fun v => onAgg v fun cs => onCons cs fun u r => onLst u fun s_1 es_1 => guardB (s_1.beq 1 || s_1.beq 0) (onCons r fun u r => onLst u fun s_2 es_2 => guardB (s_2.beq 5 || s_2.beq 0) (onNil r (Lp (kp13 0) (W Try.prog CT 217 kp13 0 (cdAt [1, 1, 1, 1, 1, 1, 1, 0, 1, 0, 1, 1, 0, 1, 0, 0] (bodyOf Try.f13))) (Qblk 0 (Qseq (W Try.prog CT 217 kp13 0 (cdAt [1, 1, 1, 1, 1, 1, 1, 0, 1, 0, 1, 1, 1] (bodyOf Try.f13))) (Qseq (W Try.prog CT 217 kp13 0 (cdAt [1, 1, 1, 1, 1, 1, 1, 1] (bodyOf Try.f13))) (Qend0 Try.prog Try.f13 R)))) (St.mk (mkT [(3, V.lst 1 (il o)), (4, V.ptr 0 0 0), (5, V.ptr 1 0 0), (6, V.ptr 2 0 0), (9, bv true), (10, V.lst s es), (11, iv n), (16, V.ptr 9 0 0), (99, V.lst s es), (100, iv (↑es.length : Int)), (101, iv (0 : Int))]) (Hp.mk [(0, O.rows 2 true [[V.lst 1 (List.map (fun p => [V.lst 2 (List.map sp p)]) l.1), V.lst 5 (List.map hi l.2)]]), (1, O.rows 2 true [[iv a.1, iv a.2]]), (2, O.rows 2 true [[iv b.1, iv b.2]]), (3, O.rows 1 true es_1), (4, O.rows 5 true es_2), (9, O.rows 2 false [[V.sl 3 0 es_1.length, V.sl 4 0 es_2.length]])] 10))))))) (ifB ((↑(il o).length : Int) != (↑(List.map hi l.2).length : Int)) (R (bv true)) (KB Try.prog (fun x => none) 20 [V.agg [V.lst 1 (List.map (fun p => [V.lst 2 (List.map sp p)]) l.1), V.lst 5 (List.map hi l.2)]] (Hp.mk [] 0) fun v => onAgg v fun cs => onCons cs fun u r => onLst u fun s_1 es_1 => guardB (s_1.beq 1 || s_1.beq 0) (onCons r fun u r => onLst u fun s_2 es_2 => guardB (s_2.beq 5 || s_2.beq 0) (onNil r (Lp (kp13 2) (W Try.prog CT 217 kp13 2 (cdAt [1, 1, 1, 1, 1, 1, 1, 1, 1, 1, 1, 0, 1, 0, 0] (bodyOf Try.f13))) (Qblk 2 (Qseq (W Try.prog CT 217 kp13 0 (cdAt [1, 1, 1, 1, 1, 1, 1, 1, 1, 1, 1, 1] (bodyOf Try.f13))) (Qend0 Try.prog Try.f13 R))) (St.mk (mkT [(3, V.lst 1 (il o)), (5, V.ptr 1 0 0), (6, V.ptr 2 0 0), (9, bv true), (10, V.lst s es), (23, V.ptr 5 0 0), (24, bv (n == (52 : Int))), (143, V.lst 1 (il o)), (144, iv (↑(il o).length : Int)), (145, iv (0 : Int))]) (Hp.mk [(1, O.rows 2 true [[iv a.1, iv a.2]]), (2, O.rows 2 true [[iv b.1, iv b.2]]), (3, O.rows 1 true es_1), (4, O.rows 5 true es_2), (5, O.rows 2 false [[V.sl 3 0 es_1.length, V.sl 4 0 es_2.length]])] 6)))))))))) (ifB (n != (0 : Int)) (ifB (n != (52 : Int)) (R (bv false)) (ifB (n == (0 : Int)) (ifB ((↑es.length : Int) != (↑(List.map hi l.2).length : Int)) (R (bv false)) (KB Try.prog (fun x => none) 20 [V.agg [V.lst 1 (List.map (fun p => [V.lst 2 (List.map sp p)]) l.1), V.lst 5 (List.map hi l.2)]] (Hp.mk [] 0) fun v => onAgg v fun cs => onCons cs fun u r => onLst u fun s_1 es_1 => guardB (s_1.beq 1 || s_1.beq 0) (onCons r fun u r => onLst u fun s_2 es_2 => guardB (s_2.beq 5 || s_2.beq 0) (onNil r (Lp (kp13 0) (W Try.prog CT 217 kp13 0 (cdAt [1, 1, 1, 1, 1, 1, 1, 0, 1, 0, 1, 1, 0, 1, 0, 0] (bodyOf Try.f13))) (Qblk 0 (Qseq (W Try.prog CT 217 kp13 0 (cdAt [1, 1, 1, 1, 1, 1, 1, 0, 1, 0, 1, 1, 1] (bodyOf Try.f13))) (Qseq (W Try.prog CT 217 kp13 0 (cdAt [1, 1, 1, 1, 1, 1, 1, 1] (bodyOf Try.f13))) (Qend0 Try.prog Try.f13 R)))) (St.mk (mkT [(3, V.lst 1 (il o)), (4, V.ptr 0 0 0), (5, V.ptr 1 0 0), (6, V.ptr 2 0 0), (9, bv true), (10, V.lst s es), (11, iv n), (16, V.ptr 9 0 0), (99, V.lst s es), (100, iv (↑es.length : Int)), (101, iv (0 : Int))]) (Hp.mk [(0, O.rows 2 true [[V.lst 1 (List.map (fun p => [V.lst 2 (List.map sp p)]) l.1), V.lst 5 (List.map hi l.2)]]), (1, O.rows 2 true [[iv a.1, iv a.2]]), (2, O.rows 2 true [[iv b.1, iv b.2]]), (3, O.rows 1 true es_1), (4, O.rows 5 true es_2), (9, O.rows 2 false [[V.sl 3 0 es_1.length, V.sl 4 0 es_2.length]])] 10))))))) (ifB ((↑(il o).length : Int) != (↑(List.map hi l.2).length : Int)) (R (bv true)) (KB Try.prog (fun x => none) 20 [V.agg [V.lst 1 (List.map (fun p => [V.lst 2 (List.map sp p)]) l.1), V.lst 5 (List.map hi l.2)]] (Hp.mk [] 0) fun v => onAgg v fun cs => onCons cs fun u r => onLst u fun s_1 es_1 => guardB (s_1.beq 1 || s_1.beq 0) (onCons r fun u r => onLst u fun s_2 es_2 => guardB (s_2.beq 5 || s_2.beq 0) (onNil r (Lp (kp13 2) (W Try.prog CT 217 kp13 2 (cdAt [1, 1, 1, 1, 1, 1, 1, 1, 1, 1, 1, 0, 1, 0, 0] (bodyOf Try.f13))) (Qblk 2 (Qseq (W Try.prog CT 217 kp13 0 (cdAt [1, 1, 1, 1, 1, 1, 1, 1, 1, 1, 1, 1] (bodyOf Try.f13))) (Qend0 Try.prog Try.f13 R))) (St.mk (mkT [(3, V.lst 1 (il o)), (5, V.ptr 1 0 0), (6, V.ptr 2 0 0), (9, bv true), (10, V.lst s es), (23, V.ptr 5 0 0), (24, bv (n == (52 : Int))), (143, V.lst 1 (il o)), (144, iv (↑(il o).length : Int)), (145, iv (0 : Int))]) (Hp.mk [(1, O.rows 2 true [[iv a.1, iv a.2]]), (2, O.rows 2 true [[iv b.1, iv b.2]]), (3, O.rows 1 true es_1), (4, O.rows 5 true es_2), (5, O.rows 2 false [[V.sl 3 0 es_1.length, V.sl 4 0 es_2.length]])] 6))))))))) (ifB (n == (0 : Int)) (ifB ((↑es.length : Int) != (↑(List.map hi l.2).length : Int)) (R (bv false)) (KB Try.prog (fun x => none) 20 [V.agg [V.lst 1 (List.map (fun p => [V.lst 2 (List.map sp p)]) l.1), V.lst 5 (List.map hi l.2)]] (Hp.mk [] 0) fun v => onAgg v fun cs => onCons cs fun u r => onLst u fun s_1 es_1 => guardB (s_1.beq 1 || s_1.beq 0) (onCons r fun u r => onLst u fun s_2 es_2 => guardB (s_2.beq 5 || s_2.beq 0) (onNil r (Lp (kp13 0) (W Try.prog CT 217 kp13 0 (cdAt [1, 1, 1, 1, 1, 1, 1, 0, 1, 0, 1, 1, 0, 1, 0, 0] (bodyOf Try.f13))) (Qblk 0 (Qseq (W Try.prog CT 217 kp13 0 (cdAt [1, 1, 1, 1, 1, 1, 1, 0, 1, 0, 1, 1, 1] (bodyOf Try.f13))) (Qseq (W Try.prog CT 217 kp13 0 (cdAt [1, 1, 1, 1, 1, 1, 1, 1] (bodyOf Try.f13))) (Qend0 Try.prog Try.f13 R)))) (St.mk (mkT [(3, V.lst 1 (il o)), (4, V.ptr 0 0 0), (5, V.ptr 1 0 0), (6, V.ptr 2 0 0), (9, bv true), (10, V.lst s es), (11, iv n), (16, V.ptr 9 0 0), (99, V.lst s es), (100, iv (↑es.length : Int)), (101, iv (0 : Int))]) (Hp.mk [(0, O.rows 2 true [[V.lst 1 (List.map (fun p => [V.lst 2 (List.map sp p)]) l.1), V.lst 5 (List.map hi l.2)]]), (1, O.rows 2 true [[iv a.1, iv a.2]]), (2, O.rows 2 true [[iv b.1, iv b.2]]), (3, O.rows 1 true es_1), (4, O.rows 5 true es_2), (9, O.rows 2 false [[V.sl 3 0 es_1.length, V.sl 4 0 es_2.length]])] 10))))))) (ifB ((↑(il o).length : Int) != (↑(List.map hi l.2).length : Int)) (R (bv true)) (KB Try.prog (fun x => none) 20 [V.agg [V.lst 1 (List.map (fun p => [V.lst 2 (List.map sp p)]) l.1), V.lst 5 (List.map hi l.2)]] (Hp.mk [] 0) fun v => onAgg v fun cs => onCons cs fun u r => onLst u fun s_1 es_1 => guardB (s_1.beq 1 || s_1.beq 0) (onCons r fun u r => onLst u fun s_2 es_2 => guardB (s_2.beq 5 || s_2.beq 0) (onNil r (Lp (kp13 2) (W Try.prog CT 217 kp13 2 (cdAt [1, 1, 1, 1, 1, 1, 1, 1, 1, 1, 1, 0, 1, 0, 0] (bodyOf Try.f13))) (Qblk 2 (Qseq (W Try.prog CT 217 kp13 0 (cdAt [1, 1, 1, 1, 1, 1, 1, 1, 1, 1, 1, 1] (bodyOf Try.f13))) (Qend0 Try.prog Try.f13 R))) (St.mk (mkT [(3, V.lst 1 (il o)), (5, V.ptr 1 0 0), (6, V.ptr 2 0 0), (9, bv true), (10, V.lst s es), (23, V.ptr 5 0 0), (24, bv (n == (52 : Int))), (143, V.lst 1 (il o)), (144, iv (↑(il o).length : Int)), (145, iv (0 : Int))]) (Hp.mk [(1, O.rows 2 true [[iv a.1, iv a.2]]), (2, O.rows 2 true [[iv b.1, iv b.2]]), (3, O.rows 1 true es_1), (4, O.rows 5 true es_2), (5, O.rows 2 false [[V.sl 3 0 es_1.length, V.sl 4 0 es_2.length]])] 6))))))))))))) s (il c) 0) := fun s hsc => by
      refine gapOwn _ hp ?_
      simp only
      refine ifB_mk (fun hz => by simp at hz) (fun _ => ifB_mk (fun hz => by simp at hz) (fun _ => ifB_mk (fun hz => by simp at hz; omega) (fun _ => ifB_mk (fun hz => by simp at hz) (fun _ => ifB_mk (fun hz => by simp at hz) (fun _ => ifB_mk (fun _ => ifB_mk (fun hz => by rw [il_length, List.length_map] at hz; simp at hz; omega) (fun _ => ?_)) (fun hz => by simp at hz))))))
      refine twin20 (l := l) hs.ps hs.hs hs.each (fun _ => ?_) (fun h0 => by rw [h0] at g1; simp at g1)
      refine onAgg_agg (onCons_cons (onLst_lst (guardB_mk rfl (onCons_cons (onLst_lst (guardB_mk rfl (onNil_nil ?_)))))))
      rw [List.length_map, List.length_map]
      refine Lp.of (σ := Nat × List Hi) (fun x => ⟨mkT [(3, .lst 1 (il o)), (4, .ptr 0 0 0), (5, .ptr 1 0 0), (6, .ptr 2 0 0), (9, bv true), (10, .lst s (il c)), (11, iv 0), (16, .ptr 9 0 0), (99, .lst s (il c)), (100, iv ((il c).length : Int)), (101, iv (x.1 : Int))], ⟨[(0, .rows 2 true [lk l]), (1, .rows 2 true [sp a]), (2, .rows 2 true [sp b]), (3, .rows 1 true (l.1.map fun p => [pl p])), (4, .rows 5 true (x.2.map hi)), (9, .rows 2 false [[.sl 3 0 l.1.length, .sl 4 0 x.2.length]])], 10⟩⟩)
        (fun x => x.1 ≤ l.2.length ∧ WTH l.2 c x.1 x.2) (fun x => l.2.length - x.1) (0, l.2) (by kernel_rfl) ⟨by simp, WTH.zero _ _⟩ ?_
      rintro ⟨i, hs'⟩ ⟨hi', hw⟩ J hJ
      simp only at hi' hw
      refine see (p := ifB (decide ((↑i : Int) < (↑(il c).length : Int))) (need (s = 1) (onSome (il c)[i]? fun row => onSome row[0]? fun v => onIntK IntKind.i64 v fun n => need (i < hs'.length) (onSome (List.map hi hs')[0 + i]? fun row => guardB ((4 + 1).ble row.length) (J (St.mk (mkT [(3, V.lst 1 (il o)), (4, V.ptr 0 0 0), (5, V.ptr 1 0 0), (6, V.ptr 2 0 0), (9, bv true), (10, V.lst s (il c)), (11, iv (0 : Int)), (16, V.ptr 9 0 0), (99, V.lst s (il c)), (100, iv (↑(il c).length : Int)), (101, iv (IntKind.i64.wrap ((↑i : Int) + (1 : Int))))]) (Hp.mk [(0, O.rows 2 true [[V.lst 1 (List.map (fun p => [V.lst 2 (List.map sp p)]) l.1), V.lst 5 (List.map hi l.2)]]), (1, O.rows 2 true [[iv a.1, iv a.2]]), (2, O.rows 2 true [[iv b.1, iv b.2]]), (3, O.rows 1 true (List.map (fun p => [V.lst 2 (List.map sp p)]) l.1)), (4, O.rows 5 true ((List.map hi hs').set (0 + i) (List.take 4 row ++ [iv n] ++ List.drop 5 row))), (9, O.rows 2 false [[V.sl 3 0 l.1.length, V.sl 4 0 hs'.length]])] 10)))))) (K0 Try.prog 29 [V.agg [V.lst 1 (sub (List.map (fun p => [V.lst 2 (List.map sp p)]) l.1) 0 l.1.length), V.lst 5 (sub (List.map hi hs') 0 hs'.length)], V.agg [iv a.1, iv a.2], V.agg [iv b.1, iv b.2]] fun v => onTup v fun vs => onCons vs fun u r => onIntK IntKind.i64 u fun n => onCons r fun u r => onIntK IntKind.i64 u fun n_1 => onCons r fun u r => onIntK IntKind.i64 u fun n_2 => onCons r fun u r => onIntK IntKind.i64 u fun n_3 => onNil r (ifB (n_3 != (0 : Int)) (R (bv false)) (ifB (n != (0 : Int)) (R (bv false)) (ifB (n_1 != (0 : Int)) (R (bv false)) (ifB ((↑(il o).length : Int) != (↑(List.map hi l.2).length : Int)) (R (bv true)) (KB Try.prog (fun x => none) 20 [V.agg [V.lst 1 (List.map (fun p => [V.lst 2 (List.map sp p)]) l.1), V.lst 5 (List.map hi l.2)]] (Hp.mk [] 0) fun v => onAgg v fun cs => onCons cs fun u r => onLst u fun s_1 es => guardB (s_1.beq 1 || s_1.beq 0) (onCons r fun u r => onLst u fun s_2 es_1 => guardB (s_2.beq 5 || s_2.beq 0) (onNil r (Lp (kp13 2) (W Try.prog CT 217 kp13 2 (cdAt [1, 1, 1, 1, 1, 1, 1, 1, 1, 1, 1, 0, 1, 0, 0] (bodyOf Try.f13))) (Qblk 2 (Qseq (W Try.prog CT 217 kp13 0 (cdAt [1, 1, 1, 1, 1, 1, 1, 1, 1, 1, 1, 1] (bodyOf Try.f13))) (Qend0 Try.prog Try.f13 R))) (St.mk (mkT [(3, V.lst 1 (il o)), (5, V.ptr 1 0 0), (6, V.ptr 2 0 0), (9, bv true), (10, V.lst s (il c)), (23, V.ptr 5 0 0), (24, bv false), (143, V.lst 1 (il o)), (144, iv (↑(il o).length : Int)), (145, iv (0 : Int))]) (Hp.mk [(1, O.rows 2 true [[iv a.1, iv a.2]]), (2, O.rows 2 true [[iv b.1, iv b.2]]), (3, O.rows 1 true es), (4, O.rows 5 true es_1), (5, O.rows 2 false [[V.sl 3 0 es.length, V.sl 4 0 es_1.length]])] 6)))))))))))) (by kernel_rfl) ?_
      have hlen' : hs'.length = l.2.length := hw.1
      refine ifB_mk (fun hc => ?_) (fun hc => ?_)
      · have hlt : i < l.2.length := by rw [il_length] at hc; simp at hc; omega
        refine need_mk ⟨hsc (fun hn => by rw [hn] at hlen; simp at hlen; omega), el (int_getD (l := c) (by omega)) (need_mk ⟨by omega, onSome_mk (x := hi (hs'.getD i noHi)) (by rw [Nat.zero_add]; simp [hlen', hlt]) (guardB_mk rfl ?_)⟩)⟩
        rw [hi_set (by omega), wr (by omega) (by omega)]
        have := hJ (i + 1, hsa hs' i (c.getD i 0)) ⟨hlt, hw.step hlt⟩ (by simp only; omega)
        simp only [hsa_length] at this
        exact this
      · have he : i = l.2.length := by rw [il_length] at hc; simp at hc; omega
        subst he
        have hall := hw.all g5 hrng
        refine gap_with hs hp hlen' hall ?_
        have hz0 := found_closes hw hl3 hall l.2.length 0 (by omega) hr
        rw [hz0]
        refine ifB_mk (fun hz => by simp at hz) (fun _ => ifB_mk (fun hz => by simp at hz) (fun _ => ifB_mk (fun hz => by simp at hz) (fun _ => ?_)))
        exact tail s c false hp hsc (fun hc => by cases hc) (fun _ => hr)
    cases hemp : l.2.isEmpty with
    | true =>
      have hc0 : c = [] := List.eq_nil_of_length_eq_zero (by rw [hlen]; simpa using hemp)
      have := main 0 (fun hn => absurd hc0 hn)
      rw [hc0] at this
      exact (onTup_tup (onCons_cons (onLst_nil (onCons_cons (onIntK_iv (onNil_nil (this)))))))
    | false =>
      exact (onTup_tup (onCons_cons (onLst_lst (onCons_cons (onIntK_iv (onNil_nil (main 1 (fun _ => rfl))))))))
end Go.Proofs.Ytahoindkdkhpmaa
