/- B8: a part of the proof. -/
import Derived.Test.YtahoindkdkhpmaaXB7
namespace Go.Proofs.Ytahoindkdkhpmaa
open Go Go.Proofs.Ytahoindkdkhpmaa.Clean
set_option linter.unusedVariables false
set_option linter.unusedSimpArgs false
set_option maxRecDepth 20000

theorem arlB_iff {l : List Int} {p q : Pd} : arlB l p q = true ↔ ∀ i, i < p.1.length → (win (l.getD i 0) 0 (q.1.length - 1) && lf p q (rot p.1 i) (q.1.getD (l.getD i 0).toNat (0, 0))) = true := by
  unfold arlB
  rw [List.all_eq_true]
  exact ⟨fun h i hi => h i (List.mem_range.2 hi), fun h i hi => h i (List.mem_range.1 hi)⟩
theorem getD_take {l : List Int} {n i : Nat} (h : i < n) : (l.take n).getD i 0 = l.getD i 0 := by
  simp [List.getD, List.getElem?_take, h]
theorem getD_drop {l : List Int} {n i : Nat} : (l.drop n).getD i 0 = l.getD (n + i) 0 := by
  simp [List.getD, List.getElem?_drop]
theorem int_getD {l : List Int} {i : Nat} (h : i < l.length) : l[i]? = some (l.getD i 0) := by simp [List.getD, List.getElem?_eq_getElem h]
/-- One edge of a proof that panels clash, as the specification looks at it. -/
theorem edge_look {p q : Pd} {i : Nat} {n : Int} {X Y : Prop} (hp : PdOK p) (hq : PdOK q) (hlt : i < p.1.length)
    (hX : (win n 0 (q.1.length - 1) && lf p q (rot p.1 i) (q.1.getD n.toNat (0, 0))) = false → X)
    (hY : (win n 0 (q.1.length - 1) && lf p q (rot p.1 i) (q.1.getD n.toNat (0, 0))) = true → Y) :
    K0 Try.prog 49 [iv n, iv (0 : Int), iv (IntKind.i64.wrap (((List.map sp q.1).length : Int) - (1 : Int)))] fun v => onBool v fun b => ifB (!b) X (onSome (List.map sp p.1)[i]? fun row => onCons (List.drop 0 row) fun u r => onIntK IntKind.i64 u fun n_1 => onCons r fun u r => onIntK IntKind.i64 u fun n_2 => need (((List.map sp p.1).length : Int) ≠ (0 : Int)) (onNat ((IntKind.i64.wrap ((i : Int) + (1 : Int))).tmod ((List.map sp p.1).length : Int)) fun m => onSome (List.map sp p.1)[m]? fun row => onCons (List.drop 0 row) fun u r => onIntK IntKind.i64 u fun n_3 => onCons r fun u r => onIntK IntKind.i64 u fun n_4 => onNat n fun m => onSome (List.map sp q.1)[m]? fun row => onCons (List.drop 0 row) fun u r => onIntK IntKind.i64 u fun n => onCons r fun u r => onIntK IntKind.i64 u fun n_5 => K0 Try.prog 93 [V.agg [iv n_1, iv n_2], V.agg [iv n_3, iv n_4], iv p.2, V.agg [iv n, iv n_5], iv q.2] fun v => onIntK IntKind.i64 v fun n => ifB (decide (n ≤ (0 : Int))) X Y)) := by
  have p3 := hp.len3
  have p8 := hp.len8
  have q8 := hq.len8
  rw [List.length_map, List.length_map, wr (n := (q.1.length : Int) - 1) (by omega) (by omega)]
  refine within49 (onBool_bv (ifB_mk (fun hb => hX ?_) (fun hb => ?_)))
  · have : win n 0 (q.1.length - 1) = false := by simpa using hb
    rw [this, Bool.false_and]
  have hw : win n 0 (q.1.length - 1) = true := by simpa using hb
  rw [hw, Bool.true_and] at hX hY
  have hw := win_iff.1 hw
  obtain ⟨m, rfl⟩ : ∃ m : Nat, n = (m : Int) := ⟨n.toNat, by omega⟩
  rw [Int.toNat_natCast] at hX hY
  have hml : m < q.1.length := by omega
  refine sp_at (s := p.1.getD i (0, 0)) (getD_some hlt) (need_mk ⟨by omega, ?_⟩)
  refine onNat_mk (succ_mod hlt (by omega)) ?_
  have hm : (i + 1) % p.1.length < p.1.length := Nat.mod_lt _ (by omega)
  refine sp_at (s := p.1.getD ((i + 1) % p.1.length) (0, 0)) (getD_some hm) ?_
  refine onNat_mk rfl (sp_at (s := q.1.getD m (0, 0)) (getD_some hml) ?_)
  refine beside93 (p := p) (q := q) hp hq (getD_mem hlt) (getD_mem hm) (getD_mem hml) (onIntK_iv ?_)
  rw [lf_side p3 hlt]
  exact ifB_mk (fun hc => hX (by simpa using hc)) (fun hc => hY (by simpa using hc))
theorem right70 {l : Li} {i k : Nat} {a : Ap} {R : V → Prop} (hl : linB l = true) (hil : i < l.1.length) (hkl : k < l.1.length) (h : R (bv (rightB a (panI l i) (panI l k)))) : K0 Try.prog 70 [.agg (lk l), iv (i : Int), iv (k : Int), apV a 1] R := by
  refine K0_of_W0 (kps := kp70) hM hmH Try.func70 (see (p := K0 Try.prog 58 [V.agg [V.lst 1 (List.map (fun p => [V.lst 2 (List.map sp p)]) l.1), V.lst 5 (List.map hi l.2)], iv i] fun v => onTup v fun vs => onCons vs fun u r => onLst u fun s es => onCons r fun u r => onIntK IntKind.i64 u fun n => onNil r (K0 Try.prog 58 [V.agg [V.lst 1 (List.map (fun p => [V.lst 2 (List.map sp p)]) l.1), V.lst 5 (List.map hi l.2)], iv k] fun v => onTup v fun vs => onCons vs fun u r => onLst u fun s_1 es_1 => onCons r fun u r => onIntK IntKind.i64 u fun n_1 => onNil r (ifB a.1 (K0 Try.prog 92 [V.agg [bv a.1, iv a.2.1, iv a.2.2.1, iv a.2.2.2.1, iv a.2.2.2.2.1, V.lst 1 (il a.2.2.2.2.2)], V.lst s es, iv n, V.lst s_1 es_1, iv n_1] fun v => onBool v fun b => R (bv b)) (ifB (a.2.1 != (0 : Int)) (R (bv false)) (ifB (a.2.2.1 != (0 : Int)) (R (bv false)) (ifB (a.2.2.2.1 != (0 : Int)) (R (bv false)) (ifB (a.2.2.2.2.1 != (0 : Int)) (R (bv false)) (ifB ((↑(il a.2.2.2.2.2).length : Int) != IntKind.i64.wrap ((↑es.length : Int) + (↑es_1.length : Int))) (R (bv false)) (Lp (kp70 0) (W Try.prog CM 147 kp70 0 (cdAt [1, 1, 1, 1, 1, 0, 1, 0, 0] (bodyOf Try.f70))) (Qblk 0 (Qseq (W Try.prog CM 147 kp70 0 (cdAt [1, 1, 1, 1, 1, 1] (bodyOf Try.f70))) (Qend0 Try.prog Try.f70 R))) (St.mk (mkT [(7, V.ptr 1 0 0), (9, V.lst s es), (10, iv n), (11, V.lst s_1 es_1), (12, iv n_1), (13, iv (0 : Int))]) (Hp.mk [(1, O.rows 6 true [[bv a.1, iv a.2.1, iv a.2.2.1, iv a.2.2.2.1, iv a.2.2.2.2.1, V.lst 1 (il a.2.2.2.2.2)]])] 2))))))))))) (by kernel_rfl) ?_)
  have hp := panI_ok (l := l) (i := (i : Int)) hl (by omega) (by omega)
  have hq := panI_ok (l := l) (i := (k : Int)) hl (by omega) (by omega)
  refine cornered58 (l := l) (n := i) hl hil (onTup_tup (onCons_cons (onLst_lst (onCons_cons (onIntK_iv (onNil_nil (?_)))))))
  refine cornered58 (l := l) (n := k) hl hkl (onTup_tup (onCons_cons (onLst_lst (onCons_cons (onIntK_iv (onNil_nil (?_)))))))
  change ifB a.1 (K0 Try.prog 92 [V.agg [bv a.1, iv a.2.1, iv a.2.2.1, iv a.2.2.2.1, iv a.2.2.2.2.1, V.lst 1 (il a.2.2.2.2.2)], pl (panI l i).1, iv (panI l i).2, pl (panI l k).1, iv (panI l k).2] fun v => onBool v fun b => R (bv b)) (ifB (a.2.1 != (0 : Int)) (R (bv false)) (ifB (a.2.2.1 != (0 : Int)) (R (bv false)) (ifB (a.2.2.2.1 != (0 : Int)) (R (bv false)) (ifB (a.2.2.2.2.1 != (0 : Int)) (R (bv false)) (ifB (((il a.2.2.2.2.2).length : Int) !=
    IntKind.i64.wrap (((List.map sp (panI l i).1).length : Int) + ((List.map sp (panI l k).1).length : Int))) (R (bv false)) (Lp (kp70 0) (W Try.prog CM 147 kp70 0 (cdAt [1, 1, 1, 1, 1, 0, 1, 0, 0] (bodyOf Try.f70))) (Qblk 0 (Qseq (W Try.prog CM 147 kp70 0 (cdAt [1, 1, 1, 1, 1,
    1] (bodyOf Try.f70))) (Qend0 Try.prog Try.f70 R))) (St.mk (mkT [(7, V.ptr 1 0 0), (9, pl (panI l i).1), (10, iv (panI l i).2), (11, pl (panI l k).1), (12, iv (panI l k).2), (13, iv (0 : Int))]) (Hp.mk [(1, O.rows 6 true [[bv a.1, iv a.2.1, iv a.2.2.1, iv
    a.2.2.2.1, iv a.2.2.2.2.1, V.lst 1 (il a.2.2.2.2.2)]])] 2))))))))
  generalize hpe : panI l i = p at h hp ⊢
  generalize hqe : panI l k = q at h hq ⊢
  clear hpe hqe
  have p8 := hp.len8
  have q8 := hq.len8
  unfold rightB at h
  refine ifB_mk (fun hc => ?_) (fun hc => ?_)
  · rw [if_pos hc] at h
    exact between92 (a := a) (s := 1) hp hq (onBool_bv h)
  rw [if_neg (by rw [hc]; simp)] at h
  have no : insB a p q = false → R (bv false) := fun hn => by rw [hn] at h; exact h
  refine ifB_mk (fun c1 => no (by unfold insB; simp at c1; simp [c1])) (fun c1 => ifB_mk (fun c2 => no (by unfold insB; simp at c2; simp [c2])) (fun c2 => ifB_mk (fun c3 => no (by unfold insB; simp at c3; simp [c3])) (fun c3 => ifB_mk (fun c4 => no (by unfold insB; simp at c4; simp [c4])) (fun c4 => ?_))))
  rw [il_length, List.length_map, List.length_map, wr (by omega) (by omega)]
  refine ifB_mk (fun c5 => no ?_) (fun c5 => ?_)
  · have : decide (a.2.2.2.2.2.length = p.1.length + q.1.length) = false := by rw [decide_eq_false_iff_not]; simp at c5; omega
    unfold insB; rw [this]; simp
  have hlen : a.2.2.2.2.2.length = p.1.length + q.1.length := by simp at c5; omega
  have hins : insB a p q = (arlB (a.2.2.2.2.2.take p.1.length) p q && arlB (a.2.2.2.2.2.drop p.1.length) q p) := by
    unfold insB
    rw [decide_eq_true hlen]
    simp at c1 c2 c3 c4
    simp [c1, c2, c3, c4]
  have gt : ∀ j, j < p.1.length → (a.2.2.2.2.2.take p.1.length).getD j 0 = a.2.2.2.2.2.getD j 0 := fun j hj => getD_take hj
  have gd : ∀ j, (a.2.2.2.2.2.drop p.1.length).getD j 0 = a.2.2.2.2.2.getD (p.1.length + j) 0 := fun j => getD_drop
  obtain ⟨L, hL⟩ : ∃ L, L = a.2.2.2.2.2 := ⟨_, rfl⟩
  rw [← hL] at hlen gt gd
  have no1 : ∀ j, j < p.1.length → (win (L.getD j 0) 0 (q.1.length - 1) && lf p q (rot p.1 j) (q.1.getD (L.getD j 0).toNat (0, 0))) = false → R (bv false) := fun j hj hn => no (by
    rw [hins, ← hL]
    have : arlB (L.take p.1.length) p q = false := by
      rw [Bool.eq_false_iff]
      intro hc
      have := arlB_iff.1 hc j hj
      rw [gt j hj, hn] at this; cases this
    rw [this, Bool.false_and])
  have no2 : ∀ j, j < q.1.length → (win (L.getD (p.1.length + j) 0) 0 (p.1.length - 1) && lf q p (rot q.1 j) (p.1.getD (L.getD (p.1.length + j) 0).toNat (0, 0))) = false → R (bv false) := fun j hj hn => no (by
    rw [hins, ← hL]
    have : arlB (L.drop p.1.length) q p = false := by
      rw [Bool.eq_false_iff]
      intro hc
      have := arlB_iff.1 hc j hj
      rw [gd j, hn] at this; cases this
    rw [this, Bool.and_false])
  refine Lp.of (σ := Nat) (fun i => ⟨mkT [(7, .ptr 1 0 0), (9, pl p.1), (10, iv p.2), (11, pl q.1), (12, iv q.2), (13, iv (i : Int))], ⟨[(1, .rows 6 true [[bv a.1, iv a.2.1, iv a.2.2.1, iv a.2.2.2.1, iv a.2.2.2.2.1, .lst 1 (il a.2.2.2.2.2)]])], 2⟩⟩) (fun i => i ≤ p.1.length ∧ ∀ j, j < i → (win (L.getD j 0) 0 (q.1.length - 1) && lf p q (rot p.1 j) (q.1.getD (L.getD j 0).toNat (0, 0))) = true) (fun i => p.1.length - i) 0 (by kernel_rfl) ⟨by simp, by omega⟩ ?_
  rintro i ⟨hi', hall⟩ J hJ
  refine see (p := ifB (decide ((↑i : Int) < (↑(List.map sp p.1).length : Int))) (onSome (il a.2.2.2.2.2)[i]? fun row => onSome row[0]? fun v => onIntK IntKind.i64 v fun n => K0 Try.prog 49 [iv n, iv (0 : Int), iv (IntKind.i64.wrap ((↑(List.map sp q.1).length : Int) - (1 : Int)))] fun v => onBool v fun b => ifB (!b) (R (bv false)) (onSome (List.map sp p.1)[i]? fun row => onCons (List.drop 0 row) fun u r => onIntK IntKind.i64 u fun n_1 => onCons r fun u r => onIntK IntKind.i64 u fun n_2 => need ((↑(List.map sp p.1).length : Int) ≠ (0 : Int)) (onNat ((IntKind.i64.wrap ((↑i : Int) + (1 : Int))).tmod (↑(List.map sp p.1).length : Int)) fun m => onSome (List.map sp p.1)[m]? fun row => onCons (List.drop 0 row) fun u r => onIntK IntKind.i64 u fun n_3 => onCons r fun u r => onIntK IntKind.i64 u fun n_4 => onNat n fun m => onSome (List.map sp q.1)[m]? fun row => onCons (List.drop 0 row) fun u r => onIntK IntKind.i64 u fun n => onCons r fun u r => onIntK IntKind.i64 u fun n_5 => K0 Try.prog 93 [V.agg [iv n_1, iv n_2], V.agg [iv n_3, iv n_4], iv p.2, V.agg [iv n, iv n_5], iv q.2] fun v => onIntK IntKind.i64 v fun n => ifB (decide (n ≤ (0 : Int))) (R (bv false)) (J (St.mk (mkT [(7, V.ptr 1 0 0), (9, V.lst 2 (List.map sp p.1)), (10, iv p.2), (11, V.lst 2 (List.map sp q.1)), (12, iv q.2), (13, iv (IntKind.i64.wrap ((↑i : Int) + (1 : Int))))]) (Hp.mk [(1, O.rows 6 true [[bv a.1, iv a.2.1, iv a.2.2.1, iv a.2.2.2.1, iv a.2.2.2.2.1, V.lst 1 (il a.2.2.2.2.2)]])] 2)))))) (Lp (kp70 2) (W Try.prog CM 147 kp70 2 (cdAt [1, 1, 1, 1, 1, 1, 0, 1, 0, 0] (bodyOf Try.f70))) (Qblk 2 (Qseq (W Try.prog CM 147 kp70 0 (cdAt [1, 1, 1, 1, 1, 1, 1] (bodyOf Try.f70))) (Qend0 Try.prog Try.f70 R))) (St.mk (mkT [(7, V.ptr 1 0 0), (9, V.lst 2 (List.map sp p.1)), (10, iv p.2), (11, V.lst 2 (List.map sp q.1)), (12, iv q.2), (15, iv (0 : Int))]) (Hp.mk [(1, O.rows 6 true [[bv a.1, iv a.2.1, iv a.2.2.1, iv a.2.2.2.1, iv a.2.2.2.2.1, V.lst 1 (il a.2.2.2.2.2)]])] 2)))) (by kernel_rfl) ?_
  rw [← hL] at hJ ⊢
  refine ifB_mk (fun hb => ?_) (fun hb => ?_)
  · have hlt : i < p.1.length := by simp at hb; omega
    refine el (int_getD (l := L) (by omega)) (edge_look hp hq hlt (no1 i hlt) (fun hy => ?_))
    rw [wr (by omega) (by omega)]
    refine hJ (i + 1) ⟨hlt, fun j hj => ?_⟩ (by omega)
    by_cases hji : j = i
    · subst hji; exact hy
    · exact hall j (by omega)
  · have he' : i = p.1.length := by simp at hb; omega
    subst he'
    have h1 : arlB (L.take p.1.length) p q = true := arlB_iff.2 fun j hj => by rw [gt j hj]; exact hall j hj
    rw [← hL, h1, Bool.true_and] at hins
    refine Lp.of (σ := Nat) (fun i => ⟨mkT [(7, .ptr 1 0 0), (9, pl p.1), (10, iv p.2), (11, pl q.1), (12, iv q.2), (15, iv (i : Int))], ⟨[(1, .rows 6 true [[bv a.1, iv a.2.1, iv a.2.2.1, iv a.2.2.2.1, iv a.2.2.2.2.1, .lst 1 (il L)]])], 2⟩⟩) (fun i => i ≤ q.1.length ∧ ∀ j, j < i → (win (L.getD (p.1.length + j) 0) 0 (p.1.length - 1) && lf q p (rot q.1 j) (p.1.getD (L.getD (p.1.length + j) 0).toNat (0, 0))) = true) (fun i => q.1.length - i) 0 (by kernel_rfl) ⟨by simp, by omega⟩ ?_
    rintro i ⟨hi', hall2⟩ J1 hJ1
    rw [hL] at hJ1 ⊢
    refine see (p := ifB (decide ((↑i : Int) < (↑(List.map sp q.1).length : Int))) (onNat (IntKind.i64.wrap ((↑(List.map sp p.1).length : Int) + (↑i : Int))) fun m => onSome (il a.2.2.2.2.2)[m]? fun row => onSome row[0]? fun v => onIntK IntKind.i64 v fun n => K0 Try.prog 49 [iv n, iv (0 : Int), iv (IntKind.i64.wrap ((↑(List.map sp p.1).length : Int) - (1 : Int)))] fun v => onBool v fun b => ifB (!b) (R (bv false)) (onSome (List.map sp q.1)[i]? fun row => onCons (List.drop 0 row) fun u r => onIntK IntKind.i64 u fun n_1 => onCons r fun u r => onIntK IntKind.i64 u fun n_2 => need ((↑(List.map sp q.1).length : Int) ≠ (0 : Int)) (onNat ((IntKind.i64.wrap ((↑i : Int) + (1 : Int))).tmod (↑(List.map sp q.1).length : Int)) fun m => onSome (List.map sp q.1)[m]? fun row => onCons (List.drop 0 row) fun u r => onIntK IntKind.i64 u fun n_3 => onCons r fun u r => onIntK IntKind.i64 u fun n_4 => onNat n fun m => onSome (List.map sp p.1)[m]? fun row => onCons (List.drop 0 row) fun u r => onIntK IntKind.i64 u fun n => onCons r fun u r => onIntK IntKind.i64 u fun n_5 => K0 Try.prog 93 [V.agg [iv n_1, iv n_2], V.agg [iv n_3, iv n_4], iv q.2, V.agg [iv n, iv n_5], iv p.2] fun v => onIntK IntKind.i64 v fun n => ifB (decide (n ≤ (0 : Int))) (R (bv false)) (J1 (St.mk (mkT [(7, V.ptr 1 0 0), (9, V.lst 2 (List.map sp p.1)), (10, iv p.2), (11, V.lst 2 (List.map sp q.1)), (12, iv q.2), (15, iv (IntKind.i64.wrap ((↑i : Int) + (1 : Int))))]) (Hp.mk [(1, O.rows 6 true [[bv a.1, iv a.2.1, iv a.2.2.1, iv a.2.2.2.1, iv a.2.2.2.2.1, V.lst 1 (il a.2.2.2.2.2)]])] 2)))))) (R (bv true))) (by kernel_rfl) ?_
    rw [← hL] at hJ1 ⊢
    refine ifB_mk (fun hb2 => ?_) (fun hb2 => ?_)
    · have hlt : i < q.1.length := by simp at hb2; omega
      refine onNat_mk (m := p.1.length + i) (by rw [List.length_map, wr (by omega) (by omega)]; omega) ?_
      refine el (int_getD (l := L) (by omega)) (edge_look hq hp hlt (no2 i hlt) (fun hy => ?_))
      rw [wr (by omega) (by omega)]
      refine hJ1 (i + 1) ⟨hlt, fun j hj => ?_⟩ (by omega)
      by_cases hji : j = i
      · subst hji; exact hy
      · exact hall2 j (by omega)
    · have he' : i = q.1.length := by simp at hb2; omega
      subst he'
      have h2 : arlB (L.drop p.1.length) q p = true := arlB_iff.2 fun j hj => by rw [gd j]; exact hall2 j hj
      rw [hins, h2] at h; exact h
theorem checkApart38 {l : Li} {i k : Int} {a : Ap} {R : V → Prop} (hs : LiSz l) (h : R (iv (chkC l i k a))) : K0 Try.prog 38 [.agg (lk l), iv i, iv k, apV a 1] R := by
  refine K0_of_W0 (kps := kp0) hM hmH Try.func38 (see (p := K0 Try.prog 67 [V.agg [V.lst 1 (List.map (fun p => [V.lst 2 (List.map sp p)]) l.1), V.lst 5 (List.map hi l.2)], iv i, iv k] fun v => onIntK IntKind.i64 v fun n => ifB (n != (0 : Int)) (R (iv n)) (K0 Try.prog 70 [V.agg [V.lst 1 (List.map (fun p => [V.lst 2 (List.map sp p)]) l.1), V.lst 5 (List.map hi l.2)], iv i, iv k, V.agg [bv a.1, iv a.2.1, iv a.2.2.1, iv a.2.2.2.1, iv a.2.2.2.2.1, V.lst 1 (il a.2.2.2.2.2)]] fun v => onBool v fun b => ifB (!b) (R (iv (31 : Int))) (R (iv (0 : Int))))) (by kernel_rfl) ?_)
  refine two67 (l := l) hs (onIntK_iv ?_)
  unfold chkC at h
  by_cases hc : twoC l i k = 0
  · rw [if_pos hc] at h
    obtain ⟨hl, i0, i1, k0, k1, _⟩ := twoC_ok hc
    obtain ⟨m, rfl⟩ := panI_nat (l := l) i0
    obtain ⟨n, rfl⟩ := panI_nat (l := l) k0
    refine ifB_mk (fun hb => by rw [hc] at hb; simp at hb) (fun _ => ?_)
    refine right70 (l := l) (i := m) (k := n) (a := a) hl (by omega) (by omega) (onBool_bv (ifB_mk (fun hb => ?_) (fun hb => ?_)))
    · rw [if_neg (by simpa using hb)] at h; exact h
    · rw [if_pos (by simpa using hb)] at h; exact h
  · rw [if_neg hc] at h
    exact ifB_mk (fun _ => h) (fun hb => by simp at hb; exact absurd hb hc)
theorem pans_getD {l : Li} {i : Nat} (hil : i < l.1.length) : (pans l).getD i ([], 0) = panI l (i : Int) := by
  rw [List.getD_eq_getElem?_getD, pans_get hil]; rfl
theorem clashes33 {l : Li} {R : V → Prop} (hs : LiSz l) (h : R (if linB l = true then .tup [.lst 2 ((clashesP (pans l)).map pr), iv 0] else .tup [nilS, iv 50])) : K0 Try.prog 33 [.agg (lk l)] R := by
  refine K0_of_W0 (kps := kp33) hM hmH Try.func33 (see (p := K0 Try.prog 55 [V.agg [V.lst 1 (List.map (fun p => [V.lst 2 (List.map sp p)]) l.1), V.lst 5 (List.map hi l.2)]] fun v => onBool v fun b => ifB (!b) (R (V.tup [nilS, iv (50 : Int)])) (Lp (kp33 0) (W Try.prog CM 37 kp33 0 (cdAt [1, 1, 1, 0, 1, 0, 0] (bodyOf Try.f33))) (Qblk 0 (Qseq (W Try.prog CM 37 kp33 0 (cdAt [1, 1, 1, 1] (bodyOf Try.f33))) (Qend0 Try.prog Try.f33 R))) (St.mk (mkT [(1, V.ptr 0 0 0), (4, V.sl 1 0 0), (5, iv (0 : Int))]) (Hp.mk [(1, O.rows 2 true []), (0, O.rows 2 true [[V.lst 1 (List.map (fun p => [V.lst 2 (List.map sp p)]) l.1), V.lst 5 (List.map hi l.2)]])] 2)))) (by kernel_rfl) ?_)
  refine valid55 (l := l) hs (onBool_bv ?_)
  cases hl : linB l with
  | false => rw [hl] at h; exact h
  | true =>
  rw [hl] at h
  rw [if_pos rfl] at h
  obtain ⟨p1, p2⟩ := pans_ok hl
  have pll : (pans l).length = l.1.length := by simp [pans]
  have l4 : l.1.length ≤ 4 := by omega
  refine ifB_mk (fun hb => by simp at hb) (fun _ => ?_)
  refine Lp.of (σ := Nat × List (Int × Int)) (fun s => ⟨mkT [(1, .ptr 0 0 0), (4, .sl 1 0 s.2.length), (5, iv (s.1 : Int))], ⟨[(1, .rows 2 true (s.2.map pr)), (0, .rows 2 true [lk l])], 2⟩⟩) (fun s => s.1 ≤ l.1.length ∧ s.2 = (List.range s.1).flatMap fun i => rowC (pans l) i l.1.length) (fun s => l.1.length - s.1) (0, []) (by kernel_rfl) ⟨by simp, by simp⟩ ?_
  rintro ⟨i, c⟩ ⟨hi', hc⟩ J hJ
  simp only at hi' hc
  refine see (p := ifB (decide ((↑i : Int) < (↑(List.map (fun p => [V.lst 2 (List.map sp p)]) l.1).length : Int))) (Lp (kp33 2) (W Try.prog CM 37 kp33 2 (cdAt [1, 1, 1, 0, 1, 0, 0, 1, 0, 0, 1, 0, 0] (bodyOf Try.f33))) (Qblk 2 (Qblk 1 (Qseq (W Try.prog CM 37 kp33 0 (cdAt [1, 1, 1, 0, 1, 0, 0, 1, 1] (bodyOf Try.f33))) (Qlp (kp33 0) J (Qblk 0 (Qseq (W Try.prog CM 37 kp33 0 (cdAt [1, 1, 1, 1] (bodyOf Try.f33))) (Qend0 Try.prog Try.f33 R))))))) (St.mk (mkT [(1, V.ptr 0 0 0), (4, V.sl 1 0 c.length), (5, iv (↑i : Int)), (6, iv (IntKind.i64.wrap ((↑i : Int) + (1 : Int))))]) (Hp.mk [(0, O.rows 2 true [[V.lst 1 (List.map (fun p => [V.lst 2 (List.map sp p)]) l.1), V.lst 5 (List.map hi l.2)]]), (1, O.rows 2 true (List.map pr c))] 2))) (R (V.tup [V.lst 2 (sub (List.map pr c) 0 c.length), iv (0 : Int)]))) (by kernel_rfl) ?_
  have hcl : c.length ≤ 16 := by
    rw [hc]
    refine Nat.le_trans (flat_le (pans l) i l.1.length) ?_
    exact Nat.mul_le_mul (show i ≤ 4 by omega) l4
  refine ifB_mk (fun hb => ?_) (fun hb => ?_)
  · have hlt : i < l.1.length := by simp at hb; omega
    rw [wr (n := (i : Int) + 1) (by omega) (by omega)]
    refine Lp.of (σ := Nat × List (Int × Int)) (fun s => ⟨mkT [(1, .ptr 0 0 0), (4, .sl 1 0 s.2.length), (5, iv (i : Int)), (6, iv (s.1 : Int))], ⟨[(0, .rows 2 true [lk l]), (1, .rows 2 true (s.2.map pr))], 2⟩⟩) (fun s => i < s.1 ∧ s.1 ≤ l.1.length ∧ s.2 = c ++ rowC (pans l) i s.1) (fun s => l.1.length - s.1) (i + 1, c) (by kernel_rfl) ⟨by simp, hlt, by rw [rowC_none _ _ _ (Nat.le_refl _), List.append_nil]⟩ ?_
    rintro ⟨k, c1⟩ ⟨hik, hk, hc1⟩ J1 hJ1
    simp only at hik hk hc1
    refine see (p := ifB (decide ((↑k : Int) < (↑(List.map (fun p => [V.lst 2 (List.map sp p)]) l.1).length : Int))) (K0 Try.prog 64 [V.agg [V.lst 1 (List.map (fun p => [V.lst 2 (List.map sp p)]) l.1), V.lst 5 (List.map hi l.2)], iv (↑i : Int), iv (↑k : Int)] fun v => onBool v fun b => ifB b (need ((c1.length + 1) * 16 ≤ 140737488355328) (J1 (St.mk (mkT [(1, V.ptr 0 0 0), (4, V.sl 1 0 (c1.length + 1)), (5, iv (↑i : Int)), (6, iv (IntKind.i64.wrap ((↑k : Int) + (1 : Int))))]) (Hp.mk [(0, O.rows 2 true [[V.lst 1 (List.map (fun p => [V.lst 2 (List.map sp p)]) l.1), V.lst 5 (List.map hi l.2)]]), (1, O.rows 2 true (List.take c1.length (List.map pr c1) ++ [[iv (↑i : Int), iv (↑k : Int)]]))] 2)))) (J1 (St.mk (mkT [(1, V.ptr 0 0 0), (4, V.sl 1 0 c1.length), (5, iv (↑i : Int)), (6, iv (IntKind.i64.wrap ((↑k : Int) + (1 : Int))))]) (Hp.mk [(0, O.rows 2 true [[V.lst 1 (List.map (fun p => [V.lst 2 (List.map sp p)]) l.1), V.lst 5 (List.map hi l.2)]]), (1, O.rows 2 true (List.map pr c1))] 2)))) (J (St.mk (mkT [(1, V.ptr 0 0 0), (4, V.sl 1 0 c1.length), (5, iv (IntKind.i64.wrap ((↑i : Int) + (1 : Int))))]) (Hp.mk [(1, O.rows 2 true (List.map pr c1)), (0, O.rows 2 true [[V.lst 1 (List.map (fun p => [V.lst 2 (List.map sp p)]) l.1), V.lst 5 (List.map hi l.2)]])] 2)))) (by kernel_rfl) ?_
    have hc1l : c1.length ≤ 20 := by rw [hc1, List.length_append]; have := rowC_le (pans l) i k; omega
    refine ifB_mk (fun hb2 => ?_) (fun hb2 => ?_)
    · have hkl : k < l.1.length := by simp at hb2; omega
      have hrow := rowC_succ (pans l) i k hik
      rw [pans_getD hlt, pans_getD hkl] at hrow
      refine clashing64 (l := l) (i := i) (k := k) hl hlt hkl (onBool_bv ?_)
      rw [wr (by omega) (by omega)]
      refine ifB_mk (fun hb3 => need_mk ⟨by omega, ?_⟩) (fun hb3 => ?_)
      · rw [if_pos hb3] at hrow
        have := hJ1 (k + 1, c1 ++ [((i : Int), (k : Int))]) ⟨by omega, hkl, by simp only; rw [hrow, hc1, List.append_assoc]⟩ (by omega)
        simp only [List.length_append, List.length_singleton, List.map_append] at this
        rw [List.take_of_length_le (by simp)]
        exact this
      · rw [hb3] at hrow
        rw [if_neg (by decide), List.append_nil] at hrow
        exact hJ1 (k + 1, c1) ⟨by omega, hkl, by simp only; rw [hrow, hc1]⟩ (by omega)
    · have hkl : k = l.1.length := by simp at hb2; omega
      subst hkl
      rw [wr (by omega) (by omega)]
      exact hJ (i + 1, c1) ⟨hlt, by simp only; rw [hc1, hc, List.range_succ, List.flatMap_append]; simp⟩ (by omega)
  · have he : i = l.1.length := by simp at hb; omega
    subst he
    rw [sub_all _ (by simp), hc]
    have : clashesP (pans l) = (List.range l.1.length).flatMap fun i => rowC (pans l) i l.1.length := by unfold clashesP; rw [pll]
    rw [this] at h; exact h
theorem pr_at {l : List (Int × Int)} {i : Nat} {s : Int × Int} {k : Int → Int → Prop} (h : l[i]? = some s) (hk : k s.1 s.2) :
    onSome (List.map pr l)[i]? fun row => onCons (List.drop 0 row) fun u r => onIntK .i64 u fun n => onCons r fun u r => onIntK .i64 u fun m => k n m := onSome_mk (x := pr s) (by simp [h]) hk
theorem samePairs34 {a : List (Int × Int)} {R : V → Prop} (hn : a.length ≤ 1000000000) (h : R (bv true)) : K0 Try.prog 34 [.lst 2 (a.map pr), .lst 2 (a.map pr)] R := by
  refine K0_of_W0 (kps := kp34) hM hmH Try.func34 (see (p := ifB ((↑(List.map pr a).length : Int) != (↑(List.map pr a).length : Int)) (R (bv false)) (Lp (kp34 0) (W Try.prog CM 26 kp34 0 (cdAt [1, 1, 0, 1, 0, 0] (bodyOf Try.f34))) (Qblk 0 (Qseq (W Try.prog CM 26 kp34 0 (cdAt [1, 1, 1] (bodyOf Try.f34))) (Qend0 Try.prog Try.f34 R))) (St.mk (mkT [(0, V.lst 2 (List.map pr a)), (1, V.lst 2 (List.map pr a)), (5, iv (0 : Int))]) (Hp.mk [] 0)))) (by kernel_rfl) ?_)
  refine ifB_mk (fun hb => by simp at hb) (fun _ => ?_)
  refine Lp.of (σ := Nat) (fun i => ⟨mkT [(0, .lst 2 (a.map pr)), (1, .lst 2 (a.map pr)), (5, iv (i : Int))], ⟨[], 0⟩⟩) (fun i => i ≤ a.length) (fun i => a.length - i) 0 (by kernel_rfl) (Nat.zero_le _) ?_
  intro i hi' J hJ
  refine see (p := ifB (decide ((↑i : Int) < (↑(List.map pr a).length : Int))) (onSome (List.map pr a)[i]? fun row => onCons (List.drop 0 row) fun u r => onIntK IntKind.i64 u fun n => onCons r fun u r => onIntK IntKind.i64 u fun n_1 => onSome (List.map pr a)[i]? fun row => onCons (List.drop 0 row) fun u r => onIntK IntKind.i64 u fun n_2 => onCons r fun u r => onIntK IntKind.i64 u fun n_3 => ifB (!(fun b => n == n_2 && b) ((fun b => n_1 == n_3 && b) true)) (R (bv false)) (J (St.mk (mkT [(0, V.lst 2 (List.map pr a)), (1, V.lst 2 (List.map pr a)), (5, iv (IntKind.i64.wrap ((↑i : Int) + (1 : Int))))]) (Hp.mk [] 0)))) (R (bv true))) (by kernel_rfl) ?_
  refine ifB_mk (fun hb => ?_) (fun _ => h)
  have hlt : i < a.length := by simp at hb; omega
  refine pr_at (List.getElem?_eq_getElem hlt) (pr_at (List.getElem?_eq_getElem hlt) ?_)
  rw [wr (by omega) (by omega)]
  exact ifB_mk (fun hc => by simp at hc) (fun _ => hJ (i + 1) hlt (by omega))
theorem samePairs34' {R : V → Prop} (h : R (bv true)) : K0 Try.prog 34 [.lst 0 [], .lst 0 []] R :=
  K0G.to (K0_ran hmH (fun _ => true) knows48 3000 Try.func34 (by kernel_rfl)) h
theorem law4 {l : Li} {i k : Int} {a : Ap} {R : V → Prop} (h : R (bv true)) : K0 Try.prog 4 [.agg (lk l), iv i, iv k, apV a 1] R := by
  refine K0_of_W0 (kps := kp0) hM hmH Try.func4 (see (p := K0 Try.prog 15 [V.agg [V.lst 1 (List.map (fun p => [V.lst 2 (List.map sp p)]) l.1), V.lst 5 (List.map hi l.2)]] fun v => onBool v fun b => ifB b (R (bv true)) (ifB (decide ((↑(il a.2.2.2.2.2).length : Int) > (100 : Int))) (R (bv true)) (K0 Try.prog 32 [V.agg [V.lst 1 (List.map (fun p => [V.lst 2 (List.map sp p)]) l.1), V.lst 5 (List.map hi l.2)]] fun v => onTup v fun vs => onCons vs fun u r => onLst u fun s es => onCons r fun u r => onIntK IntKind.i64 u fun n => onNil r (K0 Try.prog 33 [V.agg [V.lst 1 (List.map (fun p => [V.lst 2 (List.map sp p)]) l.1), V.lst 5 (List.map hi l.2)]] fun v => onTup v fun vs => onCons vs fun u r => onLst u fun s_1 es_1 => onCons r fun u r => onIntK IntKind.i64 u fun n_1 => onNil r (K0 Try.prog 34 [V.lst s es, V.lst s_1 es_1] fun v => onBool v fun b => ifB (!b) (R (bv false)) (ifB (n != n_1) (R (bv false)) (K0 Try.prog 35 [V.agg [V.lst 1 (List.map (fun p => [V.lst 2 (List.map sp p)]) l.1), V.lst 5 (List.map hi l.2)], iv i, iv k] fun v => onTup v fun vs => onCons vs fun u r => onAgg u fun cs => onCons cs fun u r_1 => onBool u fun b => onCons r_1 fun u r_2 => onIntK IntKind.i64 u fun n => onCons r_2 fun u r_3 => onIntK IntKind.i64 u fun n => onCons r_3 fun u r_4 => onIntK IntKind.i64 u fun n => onCons r_4 fun u r_5 => onIntK IntKind.i64 u fun n => onCons r_5 fun u r_6 => onLst u fun s es => onNil r_6 (onCons r fun u r => onIntK IntKind.i64 u fun n => onNil r (K0 Try.prog 36 [V.agg [V.lst 1 (List.map (fun p => [V.lst 2 (List.map sp p)]) l.1), V.lst 5 (List.map hi l.2)], iv i, iv k] fun v => onIntK IntKind.i64 v fun n_2 => ifB (n == n_2) (K0 Try.prog 37 [V.agg [V.lst 1 (List.map (fun p => [V.lst 2 (List.map sp p)]) l.1), V.lst 5 (List.map hi l.2)], iv i, iv k, V.agg [bv a.1, iv a.2.1, iv a.2.2.1, iv a.2.2.2.1, iv a.2.2.2.2.1, V.lst 1 (il a.2.2.2.2.2)]] fun v => onIntK IntKind.i64 v fun n => K0 Try.prog 38 [V.agg [V.lst 1 (List.map (fun p => [V.lst 2 (List.map sp p)]) l.1), V.lst 5 (List.map hi l.2)], iv i, iv k, V.agg [bv a.1, iv a.2.1, iv a.2.2.1, iv a.2.2.2.1, iv a.2.2.2.2.1, V.lst 1 (il a.2.2.2.2.2)]] fun v => onIntK IntKind.i64 v fun n_3 => R (bv (n == n_3))) (R (bv false))))))))))) (by kernel_rfl) ?_)
  refine great15 (l := l) (onBool_bv (ifB_mk (fun _ => h) (fun hg => ifB_mk (fun _ => h) (fun _ => ?_))))
  have hs := greatB_sz hg
  have tail : ∀ n : Int, ifB (n != n) (R (bv false)) (K0 Try.prog 35 [V.agg [V.lst 1 (List.map (fun p => [V.lst 2 (List.map sp p)]) l.1), V.lst 5 (List.map hi l.2)], iv i, iv k] fun v => onTup v fun vs => onCons vs fun u r => onAgg u fun cs => onCons cs fun u r_1 => onBool u fun b => onCons r_1 fun u r_2 => onIntK IntKind.i64 u fun n => onCons r_2 fun u r_3 => onIntK IntKind.i64 u fun n => onCons r_3 fun u r_4 => onIntK IntKind.i64 u fun n => onCons r_4 fun u r_5 => onIntK IntKind.i64 u fun n => onCons r_5 fun u r_6 => onLst u fun s es => onNil r_6 (onCons r fun u r => onIntK IntKind.i64 u fun n => onNil r (K0 Try.prog 36 [V.agg [V.lst 1 (List.map (fun p => [V.lst 2 (List.map sp p)]) l.1), V.lst 5 (List.map hi l.2)], iv i, iv k] fun v => onIntK IntKind.i64 v fun n_2 => ifB (n == n_2) (K0 Try.prog 37 [V.agg [V.lst 1 (List.map (fun p => [V.lst 2 (List.map sp p)]) l.1), V.lst 5 (List.map hi l.2)], iv i, iv k, V.agg [bv a.1, iv a.2.1, iv a.2.2.1, iv a.2.2.2.1, iv a.2.2.2.2.1, V.lst 1 (il a.2.2.2.2.2)]] fun v => onIntK IntKind.i64 v fun n => K0 Try.prog 38 [V.agg [V.lst 1 (List.map (fun p => [V.lst 2 (List.map sp p)]) l.1), V.lst 5 (List.map hi l.2)], iv i, iv k, V.agg [bv a.1, iv a.2.1, iv a.2.2.1, iv a.2.2.2.1, iv a.2.2.2.2.1, V.lst 1 (il a.2.2.2.2.2)]] fun v => onIntK IntKind.i64 v fun n_3 => R (bv (n == n_3))) (R (bv false))))) := fun n => by
    refine ifB_mk (fun hb => by simp at hb) (fun _ => ?_)
    refine clash35 (l := l) (i := i) (k := k) hs ?_
    have two : ∀ n : Int, n = (if twoC l i k = 0 then (bif (apartP (panI l i) (panI l k)).1 then 0 else 51) else twoC l i k) → (K0 Try.prog 36 [V.agg [V.lst 1 (List.map (fun p => [V.lst 2 (List.map sp p)]) l.1), V.lst 5 (List.map hi l.2)], iv i, iv k] fun v => onIntK IntKind.i64 v fun n_2 => ifB (n == n_2) (K0 Try.prog 37 [V.agg [V.lst 1 (List.map (fun p => [V.lst 2 (List.map sp p)]) l.1), V.lst 5 (List.map hi l.2)], iv i, iv k, V.agg [bv a.1, iv a.2.1, iv a.2.2.1, iv a.2.2.2.1, iv a.2.2.2.2.1, V.lst 1 (il a.2.2.2.2.2)]] fun v => onIntK IntKind.i64 v fun n => K0 Try.prog 38 [V.agg [V.lst 1 (List.map (fun p => [V.lst 2 (List.map sp p)]) l.1), V.lst 5 (List.map hi l.2)], iv i, iv k, V.agg [bv a.1, iv a.2.1, iv a.2.2.1, iv a.2.2.2.1, iv a.2.2.2.2.1, V.lst 1 (il a.2.2.2.2.2)]] fun v => onIntK IntKind.i64 v fun n_3 => R (bv (n == n_3))) (R (bv false))) := fun n hn => by
      refine clash36 (l := l) (i := i) (k := k) hs (onIntK_iv ?_)
      rw [← hn]
      refine ifB_mk (fun _ => ?_) (fun hb => by simp at hb)
      refine checkApart37 (l := l) (i := i) (k := k) (a := a) (s := 1) hs (.inl rfl) (onIntK_iv ?_)
      refine checkApart38 (l := l) (i := i) (k := k) (a := a) hs (onIntK_iv ?_)
      rw [show (chkC l i k a == chkC l i k a) = true by simp]
      exact h
    unfold clashR
    by_cases hc : twoC l i k = 0
    · rw [if_pos hc]
      exact (onTup_tup (onCons_cons (onAgg_agg (onCons_cons (onBool_bv (onCons_cons (onIntK_iv (onCons_cons (onIntK_iv (onCons_cons (onIntK_iv (onCons_cons (onIntK_iv (onCons_cons (onLst_lst (onNil_nil (onCons_cons (onIntK_iv (onNil_nil (two _ (by rw [if_pos hc])))))))))))))))))))))
    · rw [if_neg hc]
      exact (onTup_tup (onCons_cons (onAgg_agg (onCons_cons (onBool_bv (onCons_cons (onIntK_iv (onCons_cons (onIntK_iv (onCons_cons (onIntK_iv (onCons_cons (onIntK_iv (onCons_cons (onLst_nil (onNil_nil (onCons_cons (onIntK_iv (onNil_nil (two _ (by rw [if_neg hc])))))))))))))))))))))
  refine clashes32 (l := l) hs ?_
  cases hl : linB l with
  | true =>
    rw [if_pos rfl]
    refine (onTup_tup (onCons_cons (onLst_lst (onCons_cons (onIntK_iv (onNil_nil (?_)))))))
    refine clashes33 (l := l) hs ?_
    rw [hl, if_pos rfl]
    refine (onTup_tup (onCons_cons (onLst_lst (onCons_cons (onIntK_iv (onNil_nil (?_)))))))
    have hcl : (clashesP (pans l)).length ≤ 1000000000 := by
      have h4 := (pans_ok hl).1
      refine Nat.le_trans (flat_le (pans l) (pans l).length (pans l).length) ?_
      exact Nat.le_trans (Nat.mul_le_mul h4 h4) (by decide)
    refine samePairs34 hcl (onBool_bv (ifB_mk (fun hb => by simp at hb) (fun _ => tail _)))
  | false =>
    rw [if_neg (by simp)]
    refine (onTup_tup (onCons_cons (onLst_nil (onCons_cons (onIntK_iv (onNil_nil (?_)))))))
    refine clashes33 (l := l) hs ?_
    rw [hl, if_neg (by simp)]
    refine (onTup_tup (onCons_cons (onLst_nil (onCons_cons (onIntK_iv (onNil_nil (?_)))))))
    exact samePairs34' (onBool_bv (ifB_mk (fun hb => by simp at hb) (fun _ => tail _)))
end Go.Proofs.Ytahoindkdkhpmaa
