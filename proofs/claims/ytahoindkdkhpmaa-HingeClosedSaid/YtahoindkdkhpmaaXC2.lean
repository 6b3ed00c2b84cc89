/- C2: a part of the proof. -/
import Derived.Test.YtahoindkdkhpmaaXC1
namespace Go.Proofs.Ytahoindkdkhpmaa
open Go Go.Proofs.Ytahoindkdkhpmaa.Clean
set_option linter.unusedVariables false
set_option linter.unusedSimpArgs false
set_option maxRecDepth 20000

/-! loops that close: the specification -/
def sc (g : Int) (z : Po) : Po := (g * z.1, g * z.2.1, g * z.2.2.1, g * z.2.2.2.1, g * z.2.2.2.2)
theorem swingP_sc (g : Int) (z : Po) (h : Hi) (t : Int × Int × Int) : swingP (sc g z) h t = sc g (swingP z h t) := by
  simp only [swingP, turnP, sc, place]
  ext <;> simp only <;> grind
theorem gapZ_sc (g : Int) (z : Po) (a b : Sp) : gapZ (sc g z) a b = (g * (gapZ z a b).1, g * (gapZ z a b).2) := by
  simp only [gapZ, sc, place]
  ext <;> simp only <;> grind
theorem tryP_sc {g : Int} (hg : 1 ≤ g) (a b : Sp) : ∀ (hs : List Hi) (z : Po), tryP a b hs (sc g z) = tryP a b hs z
  | [], z => by
    simp only [tryP, gapZ_sc]
    have : ((g * (gapZ z a b).1, g * (gapZ z a b).2) = ((0, 0) : Sp)) ↔ gapZ z a b = (0, 0) := by
      constructor
      · intro h
        have e1 := congrArg Prod.fst h
        have e2 := congrArg Prod.snd h
        simp only [Int.mul_eq_zero] at e1 e2
        exact Prod.ext (e1.resolve_left (by omega)) (e2.resolve_left (by omega))
      · intro h; rw [h]; simp
    by_cases h : gapZ z a b = (0, 0)
    · rw [if_pos (this.2 h), if_pos h]
    · rw [if_neg (fun hc => h (this.1 hc)), if_neg h]
  | h :: hs, z => by
    simp only [tryP]
    congr 1
    funext n
    rw [swingP_sc, tryP_sc hg a b hs]
theorem tryP_low {i : Nat} {z : Po} (hz : PoGood i z) (a b : Sp) (hs : List Hi) : tryP a b hs (lowP z) = tryP a b hs z := by
  obtain ⟨_, g, hg, he⟩ := low_good hz
  have : z = sc g (lowP z) := he
  rw [this, tryP_sc hg, ← this]
theorem tryP_angle (a b : Sp) (A B : Sp) (m m' : Int) (hs : List Hi) (z : Po) : tryP a b ((A, B, m) :: hs) z = tryP a b ((A, B, m') :: hs) z := rfl
theorem closing_leaf {z : Po} {a b : Sp} {u : V} {R : V → Prop} (hz : PoOK 16000 20000000 z) (ha : SpOK a) (hb : SpOK b) (h : R (.tup [u, bv (decide (gapZ z a b = (0, 0)))])) :
    K0 Try.prog 45 [.agg (po z), .agg (sp a)] fun v => onAgg v fun cs => onCons cs fun u' r => onIntK IntKind.i64 u' fun n => onCons r fun u' r => onIntK IntKind.i64 u' fun n_1 => onNil r (ifB (n == IntKind.i64.wrap (b.1 * z.2.2.2.2)) (R (V.tup [u, bv (n_1 == IntKind.i64.wrap (b.2 * z.2.2.2.2))])) (R (V.tup [u, bv false]))) := by
  refine at45 (p := z) (s := a) (hz.p.le (by decide)) (hz.q.le (by decide)) (hz.x.le (by decide)) (hz.y.le (by decide)) ha.1 ha.2 (onAgg_agg (onCons_cons (onIntK_iv (onCons_cons (onIntK_iv (onNil_nil (?_)))))))
  rw [(hb.1.mul hz.d).wr, (hb.2.mul hz.d).wr]
  have hd : decide (gapZ z a b = (0, 0)) = (((place z a).1 == b.1 * z.2.2.2.2) && ((place z a).2 == b.2 * z.2.2.2.2)) := by
    rw [Bool.eq_iff_iff]
    simp only [gapZ, decide_eq_true_iff, Bool.and_eq_true, beq_iff_eq, Prod.mk.injEq]
    omega
  rw [hd] at h
  refine ifB_mk (fun hc => ?_) (fun hc => ?_)
  · rw [hc, Bool.true_and] at h; exact h
  · rw [hc, Bool.false_and] at h; exact h
theorem closing76 {l : Li} {a b : Sp} (hl : l.2.length ≤ 3) (hh' : l.2.all hiB = true) (ha : SpOK a) (hb : SpOK b) : ∀ (d : Nat) (c : List Int), c.length + d = l.2.length → ∀ (z : Po) (R : V → Prop), PoGood c.length z →
    (tryP a b (l.2.drop c.length) z = none → ∀ v, v = nilS ∨ v = .lst 1 (il c) → R (.tup [v, bv false])) →
    (∀ r, tryP a b (l.2.drop c.length) z = some r → R (.tup [.lst 1 (il (c ++ r)), bv true])) →
    K0 Try.prog 76 [.agg (lk l), .agg (sp a), .agg (sp b), .lst 1 (il c), .agg (po z)] R := by
  intro d
  induction d with
  | zero =>
    intro c hc z R hz h0 h1
    refine K0_of_W0 (kps := kp76) hM hmH Try.func76 (see (p := ifB ((↑(il c).length : Int) == (↑(List.map hi l.2).length : Int)) (K0 Try.prog 45 [V.agg [iv z.1, iv z.2.1, iv z.2.2.1, iv z.2.2.2.1, iv z.2.2.2.2], V.agg [iv a.1, iv a.2]] fun v => onAgg v fun cs => onCons cs fun u r => onIntK IntKind.i64 u fun n => onCons r fun u r => onIntK IntKind.i64 u fun n_1 => onNil r (ifB (n == IntKind.i64.wrap (b.1 * z.2.2.2.2)) (R (V.tup [V.lst 1 (il c), bv (n_1 == IntKind.i64.wrap (b.2 * z.2.2.2.2))])) (R (V.tup [V.lst 1 (il c), bv false])))) (onSome (List.map hi l.2)[(il c).length]? fun row => onCons (List.drop 0 row) fun u r => onIntK IntKind.i64 u fun n => onCons r fun u r => onIntK IntKind.i64 u fun n_1 => onCons r fun u r => onIntK IntKind.i64 u fun n_2 => onCons r fun u r => onIntK IntKind.i64 u fun n_3 => onCons r fun u r => onIntK IntKind.i64 u fun n_4 => Lp (kp76 0) (W Try.prog CM 75 kp76 0 (cdAt [1, 1, 1, 0, 1, 0, 0] (bodyOf Try.f76))) (Qblk 0 (Qseq (W Try.prog CM 75 kp76 0 (cdAt [1, 1, 1, 1] (bodyOf Try.f76))) (Qend0 Try.prog Try.f76 R))) (St.mk (mkT [(3, V.lst 1 (il c)), (5, V.ptr 0 0 0), (6, V.ptr 1 0 0), (7, V.ptr 2 0 0), (9, V.ptr 3 0 0), (13, V.ptr 4 0 0), (14, iv (0 : Int))]) (Hp.mk [(0, O.rows 2 true [[V.lst 1 (List.map (fun p => [V.lst 2 (List.map sp p)]) l.1), V.lst 5 (List.map hi l.2)]]), (1, O.rows 2 true [[iv a.1, iv a.2]]), (2, O.rows 2 true [[iv b.1, iv b.2]]), (3, O.rows 5 true [[iv z.1, iv z.2.1, iv z.2.2.1, iv z.2.2.2.1, iv z.2.2.2.2]]), (4, O.rows 5 false [[iv n, iv n_1, iv n_2, iv n_3, iv n_4]])] 5)))) (by kernel_rfl) ?_)
    rw [List.length_map, il_length]
    refine ifB_mk (fun _ => ?_) (fun hc' => by simp at hc'; omega)
    rw [show l.2.drop c.length = [] from List.drop_eq_nil_of_le (by omega)] at h0 h1
    refine closing_leaf (z := z) (hz.ok (by omega)) ha hb ?_
    by_cases hg : gapZ z a b = (0, 0)
    · have := h1 [] (by simp only [tryP]; rw [if_pos hg])
      rw [decide_eq_true hg]
      simpa using this
    · rw [decide_eq_false hg]
      exact h0 (by simp only [tryP]; rw [if_neg hg]) _ (.inr rfl)
  | succ d ih =>
    intro c hc z R hz h0 h1
    refine K0_of_W0 (kps := kp76) hM hmH Try.func76 (see (p := ifB ((↑(il c).length : Int) == (↑(List.map hi l.2).length : Int)) (K0 Try.prog 45 [V.agg [iv z.1, iv z.2.1, iv z.2.2.1, iv z.2.2.2.1, iv z.2.2.2.2], V.agg [iv a.1, iv a.2]] fun v => onAgg v fun cs => onCons cs fun u r => onIntK IntKind.i64 u fun n => onCons r fun u r => onIntK IntKind.i64 u fun n_1 => onNil r (ifB (n == IntKind.i64.wrap (b.1 * z.2.2.2.2)) (R (V.tup [V.lst 1 (il c), bv (n_1 == IntKind.i64.wrap (b.2 * z.2.2.2.2))])) (R (V.tup [V.lst 1 (il c), bv false])))) (onSome (List.map hi l.2)[(il c).length]? fun row => onCons (List.drop 0 row) fun u r => onIntK IntKind.i64 u fun n => onCons r fun u r => onIntK IntKind.i64 u fun n_1 => onCons r fun u r => onIntK IntKind.i64 u fun n_2 => onCons r fun u r => onIntK IntKind.i64 u fun n_3 => onCons r fun u r => onIntK IntKind.i64 u fun n_4 => Lp (kp76 0) (W Try.prog CM 75 kp76 0 (cdAt [1, 1, 1, 0, 1, 0, 0] (bodyOf Try.f76))) (Qblk 0 (Qseq (W Try.prog CM 75 kp76 0 (cdAt [1, 1, 1, 1] (bodyOf Try.f76))) (Qend0 Try.prog Try.f76 R))) (St.mk (mkT [(3, V.lst 1 (il c)), (5, V.ptr 0 0 0), (6, V.ptr 1 0 0), (7, V.ptr 2 0 0), (9, V.ptr 3 0 0), (13, V.ptr 4 0 0), (14, iv (0 : Int))]) (Hp.mk [(0, O.rows 2 true [[V.lst 1 (List.map (fun p => [V.lst 2 (List.map sp p)]) l.1), V.lst 5 (List.map hi l.2)]]), (1, O.rows 2 true [[iv a.1, iv a.2]]), (2, O.rows 2 true [[iv b.1, iv b.2]]), (3, O.rows 5 true [[iv z.1, iv z.2.1, iv z.2.2.1, iv z.2.2.2.1, iv z.2.2.2.2]]), (4, O.rows 5 false [[iv n, iv n_1, iv n_2, iv n_3, iv n_4]])] 5)))) (by kernel_rfl) ?_)
    rw [List.length_map, il_length]
    refine ifB_mk (fun hc' => by simp at hc'; omega) (fun _ => ?_)
    have hil : c.length < l.2.length := by omega
    obtain ⟨k1, k2, k3⟩ := hi_getD_ok hh' hil
    have hdrop : l.2.drop c.length = l.2.getD c.length noHi :: l.2.drop (c.length + 1) := by
      rw [List.drop_eq_getElem_cons hil]
      congr 1
      simp [List.getD, hil]
    rw [hdrop] at h0 h1
    refine hi_at (hi_getD hil) ?_
    obtain ⟨h, hh⟩ : ∃ h, h = l.2.getD c.length noHi := ⟨_, rfl⟩
    rw [← hh] at k1 k2 k3 h0 h1 ⊢
    refine Lp.of (σ := Nat × Int) (fun s => ⟨mkT [(3, .lst 1 (il c)), (5, .ptr 0 0 0), (6, .ptr 1 0 0), (7, .ptr 2 0 0), (9, .ptr 3 0 0), (13, .ptr 4 0 0), (14, iv (s.1 : Int))], ⟨[(0, .rows 2 true [lk l]), (1, .rows 2 true [sp a]), (2, .rows 2 true [sp b]), (3, .rows 5 true [po z]), (4, .rows 5 false [hi (h.1, h.2.1, s.2)])], 5⟩⟩)
      (fun s => s.1 ≤ 36 ∧ ∀ n, n < s.1 → tryP a b (l.2.drop (c.length + 1)) (swingP z h (angT ((n : Nat) : Int))) = none) (fun s => 36 - s.1) (0, h.2.2) (by kernel_rfl) ⟨by simp, by omega⟩ ?_
    rintro ⟨k, m⟩ ⟨hk, hno⟩ J hJ
    simp only at hk hno
    refine see (p := ifB (decide ((↑k : Int) < (36 : Int))) (need ((0 + (il c).length) * 8 ≤ 140737488355328) (need ((0 + (il c).length + 1) * 8 ≤ 140737488355328) (K0 Try.prog 85 [V.agg [iv z.1, iv z.2.1, iv z.2.2.1, iv z.2.2.2.1, iv z.2.2.2.2], V.agg [iv h.1.1, iv h.1.2, iv h.2.1.1, iv h.2.1.2, iv (↑k : Int)]] fun v => onAgg v fun cs => onCons cs fun u r => onIntK IntKind.i64 u fun n => onCons r fun u r => onIntK IntKind.i64 u fun n_1 => onCons r fun u r => onIntK IntKind.i64 u fun n_2 => onCons r fun u r => onIntK IntKind.i64 u fun n_3 => onCons r fun u r => onIntK IntKind.i64 u fun n_4 => onNil r (K0 Try.prog 76 [V.agg [V.lst 1 (List.map (fun p => [V.lst 2 (List.map sp p)]) l.1), V.lst 5 (List.map hi l.2)], V.agg [iv a.1, iv a.2], V.agg [iv b.1, iv b.2], V.lst 1 (sub (List.take (0 + (il c).length) ([] ++ il c) ++ [[iv (↑k : Int)]]) 0 (0 + (il c).length + 1)), V.agg [iv n, iv n_1, iv n_2, iv n_3, iv n_4]] fun v => onTup v fun vs => onCons vs fun u r => onLst u fun s es => onCons r fun u r => onBool u fun b_1 => onNil r (ifB b_1 (R (V.tup [V.lst s es, bv true])) (J (St.mk (mkT [(3, V.lst 1 (il c)), (5, V.ptr 0 0 0), (6, V.ptr 1 0 0), (7, V.ptr 2 0 0), (9, V.ptr 3 0 0), (13, V.ptr 4 0 0), (14, iv (IntKind.i64.wrap ((↑k : Int) + (1 : Int))))]) (Hp.mk [(0, O.rows 2 true [[V.lst 1 (List.map (fun p => [V.lst 2 (List.map sp p)]) l.1), V.lst 5 (List.map hi l.2)]]), (1, O.rows 2 true [[iv a.1, iv a.2]]), (2, O.rows 2 true [[iv b.1, iv b.2]]), (3, O.rows 5 true [[iv z.1, iv z.2.1, iv z.2.2.1, iv z.2.2.2.1, iv z.2.2.2.2]]), (4, O.rows 5 false [[iv h.1.1, iv h.1.2, iv h.2.1.1, iv h.2.1.2, iv (↑k : Int)]])] 5)))))))) (R (V.tup [nilS, bv false]))) (by kernel_rfl) ?_
    rw [il_length, Nat.zero_add]
    refine ifB_mk (fun hc' => ?_) (fun hc' => ?_)
    · have hk36 : k < 36 := by simp at hc'; omega
      refine need_mk ⟨by omega, need_mk ⟨by omega, ?_⟩⟩
      have ht := angT_ok (k : Int)
      refine next85 (p := z) (h := (h.1, h.2.1, (k : Int))) ⟨c.length, by omega, hz⟩ ⟨k1.1, k1.2, k1.3, k1.4⟩ (by simp only; omega) (by simp only; omega) (onAgg_agg (onCons_cons (onIntK_iv (onCons_cons (onIntK_iv (onCons_cons (onIntK_iv (onCons_cons (onIntK_iv (onCons_cons (onIntK_iv (onNil_nil (?_)))))))))))))
      have hsw : swingP z (h.1, h.2.1, (k : Int)) (angT (k : Int)) = swingP z h (angT (k : Int)) := rfl
      have hgood := swing_good hz k1 ht
      have hrow : sub (List.take c.length ([] ++ il c) ++ [[iv (k : Int)]]) 0 (c.length + 1) = il (c ++ [(k : Int)]) := by
        rw [List.nil_append, List.take_of_length_le (by rw [il_length]; exact Nat.le_refl _), sub_all _ (by simp [il_length])]
        simp [il]
      rw [hrow]
      have hcl : (c ++ [(k : Int)]).length = c.length + 1 := by simp
      refine ih (c ++ [(k : Int)]) (by rw [hcl]; omega) (lowP (swingP z h (angT (k : Int)))) _ (by rw [hcl]; exact (low_good hgood).1) (fun hn v hv => ?_) (fun r hr => ?_)
      · rw [hcl, tryP_low hgood] at hn
        have nx : J (St.mk (mkT [(3, .lst 1 (il c)), (5, .ptr 0 0 0), (6, .ptr 1 0 0), (7, .ptr 2 0 0), (9, .ptr 3 0 0), (13, .ptr 4 0 0), (14, iv ((k + 1 : Nat) : Int))]) ⟨[(0, .rows 2 true [lk l]), (1, .rows 2 true [sp a]), (2, .rows 2 true [sp b]), (3, .rows 5 true [po z]), (4, .rows 5 false [hi (h.1, h.2.1, (k : Int))])], 5⟩) :=
          hJ (k + 1, (k : Int)) ⟨hk36, fun n hn' => by
            by_cases hnk : n = k
            · subst hnk; exact hn
            · exact hno n (by omega)⟩ (by simp only; omega)
        rw [wr (by omega) (by omega)]
        rcases hv with rfl | rfl
        · exact (onTup_tup (onCons_cons (onLst_nil (onCons_cons (onBool_bv (onNil_nil (ifB_mk (fun hc => by cases hc) (fun _ => nx))))))))
        · exact (onTup_tup (onCons_cons (onLst_lst (onCons_cons (onBool_bv (onNil_nil (ifB_mk (fun hc => by cases hc) (fun _ => nx))))))))
      · rw [hcl, tryP_low hgood] at hr
        refine (onTup_tup (onCons_cons (onLst_lst (onCons_cons (onBool_bv (onNil_nil (?_)))))))
        refine ifB_mk (fun _ => ?_) (fun hc => by cases hc)
        have := h1 ((k : Int) :: r) (by
          simp only [tryP]
          refine find36 hk36 (fun n hn => by rw [hno n hn]; rfl) ?_
          rw [hr]; rfl)
        rw [List.append_assoc]
        exact this
    · have he : k = 36 := by simp at hc'; omega
      subst he
      refine h0 ?_ _ (.inl rfl)
      simp only [tryP]
      exact find36_none fun n hn => by rw [hno n hn]; rfl
theorem closingN76 {l : Li} {a b : Sp} {R : V → Prop} (hl : l.2.length ≤ 3) (hh' : l.2.all hiB = true) (ha : SpOK a) (hb : SpOK b)
    (h0 : closeP l a b = none → R (.tup [nilS, bv false]))
    (h1 : ∀ r, closeP l a b = some r → R (.tup [bif l.2.isEmpty then nilS else .lst 1 (il r), bv true])) :
    K0 Try.prog 76 [.agg (lk l), .agg (sp a), .agg (sp b), nilS, .agg (po (1, 0, 0, 0, 1))] R := by
  obtain ⟨z, hzd⟩ : ∃ z : Po, z = (1, 0, 0, 0, 1) := ⟨_, rfl⟩
  have hz : PoGood 0 z := by rw [hzd]; exact start_good
  unfold closeP at h0 h1
  rw [← hzd] at h0 h1 ⊢
  refine K0_of_W0 (kps := kp76) hM hmH Try.func76 (see (p := ifB ((↑(0 : Nat) : Int) == (↑(List.map hi l.2).length : Int)) (K0 Try.prog 45 [V.agg [iv z.1, iv z.2.1, iv z.2.2.1, iv z.2.2.2.1, iv z.2.2.2.2], V.agg [iv a.1, iv a.2]] fun v => onAgg v fun cs => onCons cs fun u r => onIntK IntKind.i64 u fun n => onCons r fun u r => onIntK IntKind.i64 u fun n_1 => onNil r (ifB (n == IntKind.i64.wrap (b.1 * z.2.2.2.2)) (R (V.tup [nilS, bv (n_1 == IntKind.i64.wrap (b.2 * z.2.2.2.2))])) (R (V.tup [nilS, bv false])))) (onSome (List.map hi l.2)[0]? fun row => onCons (List.drop 0 row) fun u r => onIntK IntKind.i64 u fun n => onCons r fun u r => onIntK IntKind.i64 u fun n_1 => onCons r fun u r => onIntK IntKind.i64 u fun n_2 => onCons r fun u r => onIntK IntKind.i64 u fun n_3 => onCons r fun u r => onIntK IntKind.i64 u fun n_4 => Lp (kp76 0) (W Try.prog CM 75 kp76 0 (cdAt [1, 1, 1, 0, 1, 0, 0] (bodyOf Try.f76))) (Qblk 0 (Qseq (W Try.prog CM 75 kp76 0 (cdAt [1, 1, 1, 1] (bodyOf Try.f76))) (Qend0 Try.prog Try.f76 R))) (St.mk (mkT [(3, nilS), (5, V.ptr 0 0 0), (6, V.ptr 1 0 0), (7, V.ptr 2 0 0), (9, V.ptr 3 0 0), (13, V.ptr 4 0 0), (14, iv (0 : Int))]) (Hp.mk [(0, O.rows 2 true [[V.lst 1 (List.map (fun p => [V.lst 2 (List.map sp p)]) l.1), V.lst 5 (List.map hi l.2)]]), (1, O.rows 2 true [[iv a.1, iv a.2]]), (2, O.rows 2 true [[iv b.1, iv b.2]]), (3, O.rows 5 true [[iv z.1, iv z.2.1, iv z.2.2.1, iv z.2.2.2.1, iv z.2.2.2.2]]), (4, O.rows 5 false [[iv n, iv n_1, iv n_2, iv n_3, iv n_4]])] 5)))) (by kernel_rfl) ?_)
  rw [List.length_map]
  refine ifB_mk (fun hc' => ?_) (fun hc' => ?_)
  · have hnil : l.2 = [] := List.eq_nil_of_length_eq_zero (by simp at hc'; omega)
    rw [hnil] at h0 h1
    refine closing_leaf (z := z) (hz.ok (by omega)) ha hb ?_
    by_cases hg : gapZ z a b = (0, 0)
    · have := h1 [] (by simp only [tryP]; rw [if_pos hg])
      rw [decide_eq_true hg]
      exact this
    · rw [decide_eq_false hg]
      exact h0 (by simp only [tryP]; rw [if_neg hg])
  · have hil : 0 < l.2.length := by simp at hc'; omega
    have hemp : l.2.isEmpty = false := by
      cases hx : l.2 with
      | nil => rw [hx] at hil; simp at hil
      | cons x y => rfl
    rw [hemp] at h1
    obtain ⟨k1, k2, k3⟩ := hi_getD_ok hh' hil
    have hdrop : l.2 = l.2.getD 0 noHi :: l.2.drop 1 := by
      cases hl2 : l.2 with
      | nil => rw [hl2] at hil; simp at hil
      | cons x y => simp
    refine hi_at (hi_getD hil) ?_
    obtain ⟨h, hh⟩ : ∃ h, h = l.2.getD 0 noHi := ⟨_, rfl⟩
    rw [← hh] at k1 k2 k3 hdrop ⊢
    refine Lp.of (σ := Nat × Int) (fun s => ⟨mkT [(3, nilS), (5, .ptr 0 0 0), (6, .ptr 1 0 0), (7, .ptr 2 0 0), (9, .ptr 3 0 0), (13, .ptr 4 0 0), (14, iv (s.1 : Int))], ⟨[(0, .rows 2 true [lk l]), (1, .rows 2 true [sp a]), (2, .rows 2 true [sp b]), (3, .rows 5 true [po z]), (4, .rows 5 false [hi (h.1, h.2.1, s.2)])], 5⟩⟩)
      (fun s => s.1 ≤ 36 ∧ ∀ n, n < s.1 → tryP a b (l.2.drop 1) (swingP z h (angT ((n : Nat) : Int))) = none) (fun s => 36 - s.1) (0, h.2.2) (by kernel_rfl) ⟨by simp, by omega⟩ ?_
    rintro ⟨k, m⟩ ⟨hk, hno⟩ J hJ
    simp only at hk hno
    refine see (p := ifB (decide ((↑k : Int) < (36 : Int))) (K0 Try.prog 85 [V.agg [iv z.1, iv z.2.1, iv z.2.2.1, iv z.2.2.2.1, iv z.2.2.2.2], V.agg [iv h.1.1, iv h.1.2, iv h.2.1.1, iv h.2.1.2, iv (↑k : Int)]] fun v => onAgg v fun cs => onCons cs fun u r => onIntK IntKind.i64 u fun n => onCons r fun u r => onIntK IntKind.i64 u fun n_1 => onCons r fun u r => onIntK IntKind.i64 u fun n_2 => onCons r fun u r => onIntK IntKind.i64 u fun n_3 => onCons r fun u r => onIntK IntKind.i64 u fun n_4 => onNil r (K0 Try.prog 76 [V.agg [V.lst 1 (List.map (fun p => [V.lst 2 (List.map sp p)]) l.1), V.lst 5 (List.map hi l.2)], V.agg [iv a.1, iv a.2], V.agg [iv b.1, iv b.2], V.lst 1 [[iv (↑k : Int)]], V.agg [iv n, iv n_1, iv n_2, iv n_3, iv n_4]] fun v => onTup v fun vs => onCons vs fun u r => onLst u fun s es => onCons r fun u r => onBool u fun b_1 => onNil r (ifB b_1 (R (V.tup [V.lst s es, bv true])) (J (St.mk (mkT [(3, nilS), (5, V.ptr 0 0 0), (6, V.ptr 1 0 0), (7, V.ptr 2 0 0), (9, V.ptr 3 0 0), (13, V.ptr 4 0 0), (14, iv (IntKind.i64.wrap ((↑k : Int) + (1 : Int))))]) (Hp.mk [(0, O.rows 2 true [[V.lst 1 (List.map (fun p => [V.lst 2 (List.map sp p)]) l.1), V.lst 5 (List.map hi l.2)]]), (1, O.rows 2 true [[iv a.1, iv a.2]]), (2, O.rows 2 true [[iv b.1, iv b.2]]), (3, O.rows 5 true [[iv z.1, iv z.2.1, iv z.2.2.1, iv z.2.2.2.1, iv z.2.2.2.2]]), (4, O.rows 5 false [[iv h.1.1, iv h.1.2, iv h.2.1.1, iv h.2.1.2, iv (↑k : Int)]])] 5)))))) (R (V.tup [nilS, bv false]))) (by kernel_rfl) ?_
    refine ifB_mk (fun hc' => ?_) (fun hc' => ?_)
    · have hk36 : k < 36 := by simp at hc'; omega
      have ht := angT_ok (k : Int)
      refine next85 (p := z) (h := (h.1, h.2.1, (k : Int))) ⟨0, by omega, hz⟩ ⟨k1.1, k1.2, k1.3, k1.4⟩ (by simp only; omega) (by simp only; omega) (onAgg_agg (onCons_cons (onIntK_iv (onCons_cons (onIntK_iv (onCons_cons (onIntK_iv (onCons_cons (onIntK_iv (onCons_cons (onIntK_iv (onNil_nil (?_)))))))))))))
      have hgood := swing_good hz k1 ht
      refine closing76 hl hh' ha hb (l.2.length - 1) [(k : Int)] (by simp; omega) (lowP (swingP z h (angT (k : Int)))) _ (low_good hgood).1 (fun hn v hv => ?_) (fun r hr => ?_)
      · have hn : tryP a b (l.2.drop 1) (lowP (swingP z h (angT (k : Int)))) = none := hn
        rw [tryP_low hgood] at hn
        have nx : J (St.mk (mkT [(3, nilS), (5, .ptr 0 0 0), (6, .ptr 1 0 0), (7, .ptr 2 0 0), (9, .ptr 3 0 0), (13, .ptr 4 0 0), (14, iv ((k + 1 : Nat) : Int))]) ⟨[(0, .rows 2 true [lk l]), (1, .rows 2 true [sp a]), (2, .rows 2 true [sp b]), (3, .rows 5 true [po z]), (4, .rows 5 false [hi (h.1, h.2.1, (k : Int))])], 5⟩) :=
          hJ (k + 1, (k : Int)) ⟨hk36, fun n hn' => by
            by_cases hnk : n = k
            · subst hnk; exact hn
            · exact hno n (by omega)⟩ (by simp only; omega)
        rw [wr (by omega) (by omega)]
        rcases hv with rfl | rfl
        · exact (onTup_tup (onCons_cons (onLst_nil (onCons_cons (onBool_bv (onNil_nil (ifB_mk (fun hc => by cases hc) (fun _ => nx))))))))
        · exact (onTup_tup (onCons_cons (onLst_lst (onCons_cons (onBool_bv (onNil_nil (ifB_mk (fun hc => by cases hc) (fun _ => nx))))))))
      · have hr : tryP a b (l.2.drop 1) (lowP (swingP z h (angT (k : Int)))) = some r := hr
        rw [tryP_low hgood] at hr
        refine (onTup_tup (onCons_cons (onLst_lst (onCons_cons (onBool_bv (onNil_nil (?_)))))))
        refine ifB_mk (fun _ => ?_) (fun hc => by cases hc)
        exact h1 ((k : Int) :: r) (by
          rw [hdrop]
          simp only [tryP]
          refine find36 hk36 (fun n hn => by rw [hno n hn]; rfl) ?_
          rw [hr]; rfl)
    · have he : k = 36 := by simp at hc'; omega
      subst he
      refine h0 ?_
      rw [hdrop]
      simp only [tryP]
      exact find36_none fun n hn => by rw [hno n hn]; rfl
theorem close43 {l : Li} {a b : Sp} {R : V → Prop} (hs : LiSz l) (he : plcC l a b ≠ 0 → R (.tup [nilS, iv (plcC l a b)])) (h0 : plcC l a b = 0 → closeP l a b = none → R (.tup [nilS, iv 52]))
    (h1 : plcC l a b = 0 → ∀ r, closeP l a b = some r → R (.tup [bif l.2.isEmpty then .lst 0 [] else .lst 1 (il r), iv 0])) : K0 Try.prog 43 [.agg (lk l), .agg (sp a), .agg (sp b)] R := by
  refine K0_of_W0 (kps := kp0) hM hmH Try.func43 (see (p := K0 Try.prog 61 [V.agg [V.lst 1 (List.map (fun p => [V.lst 2 (List.map sp p)]) l.1), V.lst 5 (List.map hi l.2)], V.agg [iv a.1, iv a.2], V.agg [iv b.1, iv b.2]] fun v => onIntK IntKind.i64 v fun n => ifB (n != (0 : Int)) (R (V.tup [nilS, iv n])) (K0 Try.prog 76 [V.agg [V.lst 1 (List.map (fun p => [V.lst 2 (List.map sp p)]) l.1), V.lst 5 (List.map hi l.2)], V.agg [iv a.1, iv a.2], V.agg [iv b.1, iv b.2], nilS, V.agg [iv (1 : Int), iv (0 : Int), iv (0 : Int), iv (0 : Int), iv (1 : Int)]] fun v => onTup v fun vs => onCons vs fun u r => onLst u fun s es => onCons r fun u r => onBool u fun b => onNil r (ifB (!b) (R (V.tup [nilS, iv (52 : Int)])) (R (V.tup [V.lst s es, iv (0 : Int)]))))) (by kernel_rfl) ?_)
  refine asked61 (l := l) (a := a) (b := b) hs (onIntK_iv ?_)
  by_cases hp : plcC l a b = 0
  · obtain ⟨hl, ha, hb⟩ := plcC_ok hp
    obtain ⟨g1, g2, g3, g4, g5⟩ := linB_ok hl
    refine ifB_mk (fun hc => by rw [hp] at hc; simp at hc) (fun _ => ?_)
    refine closingN76 (l := l) (by omega) g5 ha hb (fun hn => ?_) (fun r hr => ?_)
    · exact (onTup_tup (onCons_cons (onLst_nil (onCons_cons (onBool_bv (onNil_nil (ifB_mk (fun _ => h0 hp hn) (fun hc => by simp at hc))))))))
    · have := h1 hp r hr
      cases hx : l.2.isEmpty with
      | true => rw [hx] at this; exact (onTup_tup (onCons_cons (onLst_nil (onCons_cons (onBool_bv (onNil_nil (ifB_mk (fun hc => by cases hc) (fun _ => this))))))))
      | false => rw [hx] at this; exact (onTup_tup (onCons_cons (onLst_lst (onCons_cons (onBool_bv (onNil_nil (ifB_mk (fun hc => by cases hc) (fun _ => this))))))))
  · exact ifB_mk (fun _ => he hp) (fun hc => by simp at hc; exact absurd hc hp)
end Go.Proofs.Ytahoindkdkhpmaa
