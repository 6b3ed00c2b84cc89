/- B7: a part of the proof. -/
import Derived.Test.YtahoindkdkhpmaaXB5
import Derived.Test.YtahoindkdkhpmaaXSeatR2
namespace Go.Proofs.Ytahoindkdkhpmaa
open Go Go.Proofs.Ytahoindkdkhpmaa.Clean
set_option linter.unusedVariables false
set_option linter.unusedSimpArgs false
set_option maxRecDepth 20000

/-! the specification's clashes -/
theorem sx_at {l : List Sp} {i : Nat} {s : Sp} {k : Int → Prop} (h : l[i]? = some s) (hk : k s.1) : onSome (List.map sp l)[i]? fun row => onSome row[0]? fun v => onIntK .i64 v k := onSome_mk (x := sp s) (by simp [h]) hk
theorem sy_at {l : List Sp} {i : Nat} {s : Sp} {k : Int → Prop} (h : l[i]? = some s) (hk : k s.2) : onSome (List.map sp l)[i]? fun row => onSome row[1]? fun v => onIntK .i64 v k := onSome_mk (x := sp s) (by simp [h]) hk
theorem beside93 {p q : Pd} {a b c : Sp} {R : V → Prop} (hp : PdOK p) (hq : PdOK q) (ha : a ∈ p.1) (hb : b ∈ p.1) (hc : c ∈ q.1) (h : R (iv (side a b p.2 c q.2))) : K0 Try.prog 93 [.agg (sp a), .agg (sp b), iv p.2, .agg (sp c), iv q.2] R := by
  obtain ⟨d, hd⟩ : ∃ d, d = p.2 := ⟨_, rfl⟩
  obtain ⟨o, ho⟩ : ∃ d, d = q.2 := ⟨_, rfl⟩
  have p1 := hp.d1
  have p2 := hp.d2
  have q1 := hq.d1
  have q2 := hq.d2
  have bd : Bd 16000 d := ⟨by omega, by omega⟩
  have bo : Bd 16000 o := ⟨by omega, by omega⟩
  rw [← hd, ← ho] at h ⊢
  refine K0_of_W0 (kps := kp0) hM hmH Try.func93 (see (p := R (iv (IntKind.i64.wrap (IntKind.i64.wrap (IntKind.i64.wrap (b.1 - a.1) * IntKind.i64.wrap (IntKind.i64.wrap (c.2 * d) - IntKind.i64.wrap (a.2 * o))) - IntKind.i64.wrap (IntKind.i64.wrap (b.2 - a.2) * IntKind.i64.wrap (IntKind.i64.wrap (c.1 * d) - IntKind.i64.wrap (a.1 * o))))))) (by kernel_rfl) ?_)
  have df := hp.df _ hb _ ha
  have h1 : Bd 4000000 (b.1 - a.1) := df.1.le (by decide)
  have h2 : Bd 4000000 (b.2 - a.2) := df.2.le (by decide)
  have ca := hp.c _ ha
  have cc := hq.c _ hc
  have ha1 : Bd 20000000 a.1 := ca.1.le (by decide)
  have ha2 : Bd 20000000 a.2 := ca.2.le (by decide)
  have hc1 : Bd 20000000 c.1 := cc.1.le (by decide)
  have hc2 : Bd 20000000 c.2 := cc.2.le (by decide)
  have x1' : Bd 640000000000 (c.2 * d - a.2 * o) := ((hc2.mul bd).sub (ha2.mul bo)).le (by decide)
  have x2' : Bd 640000000000 (c.1 * d - a.1 * o) := ((hc1.mul bd).sub (ha1.mul bo)).le (by decide)
  rw [h1.wr, h2.wr, (hc2.mul bd).wr, (ha2.mul bo).wr, (hc1.mul bd).wr, (ha1.mul bo).wr, x1'.wr, x2'.wr, (h1.mul x1').wr, (h2.mul x2').wr, ((h1.mul x1').sub (h2.mul x2')).wr]
  exact h
theorem lf_side {p q : Pd} {i : Nat} {c : Sp} (h3 : 3 ≤ p.1.length) (hi : i < p.1.length) : decide (side (p.1.getD i (0, 0)) (p.1.getD ((i + 1) % p.1.length) (0, 0)) p.2 c q.2 ≤ 0) = !lf p q (rot p.1 i) c := by
  have := lf_false (p := p) (q := q) (c := c) h3 hi
  cases hb : lf p q (rot p.1 i) c with
  | false => simpa using this.1 hb
  | true =>
    have : ¬ side (p.1.getD i (0, 0)) (p.1.getD ((i + 1) % p.1.length) (0, 0)) p.2 c q.2 ≤ 0 := fun hc => by rw [this.2 hc] at hb; cases hb
    simpa using this
theorem succ_mod {i n : Nat} (hi : i < n) (hn : n ≤ 1000) : (IntKind.i64.wrap ((i : Int) + 1)).tmod (n : Int) = (((i + 1) % n : Nat) : Int) := by
  rw [wr (by omega) (by omega)]
  exact (Int.ofNat_tmod (i + 1) n).symm
theorem all_take_succ' {l : List Sp} {f : Sp → Bool} {i : Nat} (h : i < l.length) : (l.take (i + 1)).all f = ((l.take i).all f && f l[i]) := by
  rw [List.take_succ_eq_append_getElem h, List.all_append]; simp
theorem parted87 {p q : Pd} {R : V → Prop} (hp : PdOK p) (hq : PdOK q) (h : R (bv (decide (0 ≤ fstI p q)))) : K0 Try.prog 87 [pl p.1, iv p.2, pl q.1, iv q.2] R := by
  have p3 := hp.len3
  have p8 := hp.len8
  have q8 := hq.len8
  refine K0_of_W0 (kps := kp87) hM hmH Try.func87 (see (p := Lp (kp87 0) (W Try.prog CM 48 kp87 0 (cdAt [1, 0, 1, 0, 0] (bodyOf Try.f87))) (Qblk 0 (Qseq (W Try.prog CM 48 kp87 0 (cdAt [1, 1] (bodyOf Try.f87))) (Qend0 Try.prog Try.f87 R))) (St.mk (mkT [(0, V.lst 2 (List.map sp p.1)), (1, iv p.2), (2, V.lst 2 (List.map sp q.1)), (3, iv q.2), (9, iv (0 : Int))]) (Hp.mk [] 0))) (by kernel_rfl) ?_)
  refine Lp.of (σ := Nat) (fun i => ⟨mkT [(0, pl p.1), (1, iv p.2), (2, pl q.1), (3, iv q.2), (9, iv (i : Int))], ⟨[], 0⟩⟩) (fun i => i ≤ p.1.length ∧ ∀ j, j < i → q.1.all (fun c => !lf p q (rot p.1 j) c) = false) (fun i => p.1.length - i) 0 (by kernel_rfl) ⟨by simp, by omega⟩ ?_
  rintro i ⟨hi', hall⟩ J hJ
  refine see (p := ifB (decide ((↑i : Int) < (↑(List.map sp p.1).length : Int))) (Lp (kp87 2) (W Try.prog CM 48 kp87 2 (cdAt [1, 0, 1, 0, 0, 1, 0, 0, 1, 0, 1, 0, 0] (bodyOf Try.f87))) (Qblk 2 (Qseq (W Try.prog CM 48 kp87 1 (cdAt [1, 0, 1, 0, 0, 1, 0, 0, 1, 1] (bodyOf Try.f87))) (Qblk 1 (Qseq (W Try.prog CM 48 kp87 0 (cdAt [1, 0, 1, 0, 0, 1, 1] (bodyOf Try.f87))) (Qlp (kp87 0) J (Qblk 0 (Qseq (W Try.prog CM 48 kp87 0 (cdAt [1, 1] (bodyOf Try.f87))) (Qend0 Try.prog Try.f87 R)))))))) (St.mk (mkT [(0, V.lst 2 (List.map sp p.1)), (1, iv p.2), (2, V.lst 2 (List.map sp q.1)), (3, iv q.2), (9, iv (↑i : Int)), (10, bv true), (11, iv (0 : Int))]) (Hp.mk [] 0))) (R (bv false))) (by kernel_rfl) ?_
  refine ifB_mk (fun hb => ?_) (fun hb => ?_)
  · have hlt : i < p.1.length := by simp at hb; omega
    refine Lp.of (σ := Nat × Bool) (fun s => ⟨mkT [(0, pl p.1), (1, iv p.2), (2, pl q.1), (3, iv q.2), (9, iv (i : Int)), (10, bv s.2), (11, iv (s.1 : Int))], ⟨[], 0⟩⟩) (fun s => s.1 ≤ q.1.length ∧ s.2 = (q.1.take s.1).all (fun c => !lf p q (rot p.1 i) c)) (fun s => q.1.length - s.1) (0, true) (by kernel_rfl) ⟨by simp, by simp⟩ ?_
    rintro ⟨k, b⟩ ⟨hk, hb2⟩ J1 hJ1
    simp only at hk hb2
    refine see (p := ifB (decide ((↑k : Int) < (↑(List.map sp q.1).length : Int))) (ifB b (onSome (List.map sp p.1)[i]? fun row => onCons (List.drop 0 row) fun u r => onIntK IntKind.i64 u fun n => onCons r fun u r => onIntK IntKind.i64 u fun n_1 => need ((↑(List.map sp p.1).length : Int) ≠ (0 : Int)) (onNat ((IntKind.i64.wrap ((↑i : Int) + (1 : Int))).tmod (↑(List.map sp p.1).length : Int)) fun m => onSome (List.map sp p.1)[m]? fun row => onCons (List.drop 0 row) fun u r => onIntK IntKind.i64 u fun n_2 => onCons r fun u r => onIntK IntKind.i64 u fun n_3 => onSome (List.map sp q.1)[k]? fun row => onCons (List.drop 0 row) fun u r => onIntK IntKind.i64 u fun n_4 => onCons r fun u r => onIntK IntKind.i64 u fun n_5 => K0 Try.prog 93 [V.agg [iv n, iv n_1], V.agg [iv n_2, iv n_3], iv p.2, V.agg [iv n_4, iv n_5], iv q.2] fun v => onIntK IntKind.i64 v fun n => J1 (St.mk (mkT [(0, V.lst 2 (List.map sp p.1)), (1, iv p.2), (2, V.lst 2 (List.map sp q.1)), (3, iv q.2), (9, iv (↑i : Int)), (10, bv (decide (n ≤ (0 : Int)))), (11, iv (IntKind.i64.wrap ((↑k : Int) + (1 : Int))))]) (Hp.mk [] 0)))) (J1 (St.mk (mkT [(0, V.lst 2 (List.map sp p.1)), (1, iv p.2), (2, V.lst 2 (List.map sp q.1)), (3, iv q.2), (9, iv (↑i : Int)), (10, bv false), (11, iv (IntKind.i64.wrap ((↑k : Int) + (1 : Int))))]) (Hp.mk [] 0)))) (ifB b (R (bv true)) (J (St.mk (mkT [(0, V.lst 2 (List.map sp p.1)), (1, iv p.2), (2, V.lst 2 (List.map sp q.1)), (3, iv q.2), (9, iv (IntKind.i64.wrap ((↑i : Int) + (1 : Int))))]) (Hp.mk [] 0))))) (by kernel_rfl) ?_
    refine ifB_mk (fun hc => ?_) (fun hc => ?_)
    · have hkl : k < q.1.length := by simp at hc; omega
      refine ifB_mk (fun hbt => ?_) (fun hbf => ?_)
      · refine sp_at (s := p.1.getD i (0, 0)) (getD_some hlt) (need_mk ⟨by rw [List.length_map]; omega, ?_⟩)
        refine onNat_mk (by rw [List.length_map]; exact succ_mod hlt (by omega)) ?_
        have hm : (i + 1) % p.1.length < p.1.length := Nat.mod_lt _ (by omega)
        refine sp_at (s := p.1.getD ((i + 1) % p.1.length) (0, 0)) (getD_some hm) ?_
        refine sp_at (s := q.1[k]) (List.getElem?_eq_getElem hkl) ?_
        refine beside93 (p := p) (q := q) hp hq (getD_mem hlt) (getD_mem hm) (List.getElem_mem hkl) (onIntK_iv ?_)
        rw [lf_side p3 hlt, wr (by omega) (by omega)]
        exact hJ1 (k + 1, !lf p q (rot p.1 i) q.1[k]) ⟨hkl, by simp only; rw [all_take_succ' hkl, ← hb2, hbt, Bool.true_and]⟩ (by omega)
      · rw [wr (by omega) (by omega)]
        exact hJ1 (k + 1, false) ⟨hkl, by simp only; rw [all_take_succ' hkl, ← hb2, hbf, Bool.false_and]⟩ (by omega)
    · have hkl : k = q.1.length := by simp at hc; omega
      subst hkl
      rw [List.take_length] at hb2
      refine ifB_mk (fun hbt => ?_) (fun hbf => ?_)
      · have : 0 ≤ fstI p q := fstI_free.2 ⟨i, hlt, fun c hc => by
          rw [hbt] at hb2
          have := List.all_eq_true.1 hb2.symm c hc
          simpa using this⟩
        rw [decide_eq_true this] at h; exact h
      · rw [wr (by omega) (by omega)]
        refine hJ (i + 1) ⟨hlt, fun j hj => ?_⟩ (by omega)
        by_cases hji : j = i
        · subst hji; rw [← hb2]; exact hbf
        · exact hall j (by omega)
  · have he : i = p.1.length := by simp at hb; omega
    subst he
    have : ¬ 0 ≤ fstI p q := fun hc => by
      obtain ⟨j, hj, hf⟩ := fstI_free.1 hc
      have h1 := hall j hj
      rw [List.all_eq_false] at h1
      obtain ⟨c, hc, hn⟩ := h1
      rw [hf c hc] at hn
      exact hn rfl
    rw [decide_eq_false this] at h; exact h
theorem clear_fst {p q : Pd} : (apartP p q).1 = (decide (0 ≤ fstI p q) || decide (0 ≤ fstI q p)) := by
  rw [Bool.eq_iff_iff, apart_clear, Bool.or_eq_true, decide_eq_true_iff, decide_eq_true_iff, fstI_free, fstI_free]
theorem clashing64 {l : Li} {i k : Nat} {R : V → Prop} (hl : linB l = true) (hil : i < l.1.length) (hkl : k < l.1.length) (h : R (bv (clsh (panI l i) (panI l k)))) : K0 Try.prog 64 [.agg (lk l), iv (i : Int), iv (k : Int)] R := by
  refine K0_of_W0 (kps := kp0) hM hmH Try.func64 (see (p := K0 Try.prog 58 [V.agg [V.lst 1 (List.map (fun p => [V.lst 2 (List.map sp p)]) l.1), V.lst 5 (List.map hi l.2)], iv i] fun v => onTup v fun vs => onCons vs fun u r => onLst u fun s es => onCons r fun u r => onIntK IntKind.i64 u fun n => onNil r (K0 Try.prog 58 [V.agg [V.lst 1 (List.map (fun p => [V.lst 2 (List.map sp p)]) l.1), V.lst 5 (List.map hi l.2)], iv k] fun v => onTup v fun vs => onCons vs fun u r => onLst u fun s_1 es_1 => onCons r fun u r => onIntK IntKind.i64 u fun n_1 => onNil r (K0 Try.prog 87 [V.lst s es, iv n, V.lst s_1 es_1, iv n_1] fun v => onBool v fun b => ifB (!b) (K0 Try.prog 87 [V.lst s_1 es_1, iv n_1, V.lst s es, iv n] fun v => onBool v fun b => R (bv !b)) (R (bv false))))) (by kernel_rfl) ?_)
  have hp := panI_ok (l := l) (i := (i : Int)) hl (by omega) (by omega)
  have hq := panI_ok (l := l) (i := (k : Int)) hl (by omega) (by omega)
  unfold clsh at h
  rw [clear_fst] at h
  refine cornered58 (l := l) (n := i) hl hil (onTup_tup (onCons_cons (onLst_lst (onCons_cons (onIntK_iv (onNil_nil (?_)))))))
  refine cornered58 (l := l) (n := k) hl hkl (onTup_tup (onCons_cons (onLst_lst (onCons_cons (onIntK_iv (onNil_nil (?_)))))))
  refine parted87 (p := panI l i) (q := panI l k) hp hq (onBool_bv (ifB_mk (fun hb => ?_) (fun hb => ?_)))
  · rw [Bool.not_eq_true'] at hb
    rw [hb, Bool.false_or] at h
    exact parted87 (p := panI l k) (q := panI l i) hq hp (onBool_bv h)
  · have hb : decide (0 ≤ fstI (panI l i) (panI l k)) = true := by simpa using hb
    rw [hb] at h; exact h
theorem two67 {l : Li} {i k : Int} {R : V → Prop} (hs : LiSz l) (h : R (iv (twoC l i k))) : K0 Try.prog 67 [.agg (lk l), iv i, iv k] R := by
  refine K0_of_W0 (kps := kp0) hM hmH Try.func67 (see (p := K0 Try.prog 55 [V.agg [V.lst 1 (List.map (fun p => [V.lst 2 (List.map sp p)]) l.1), V.lst 5 (List.map hi l.2)]] fun v => onBool v fun b => ifB (!b) (R (iv (50 : Int))) (K0 Try.prog 49 [iv i, iv (0 : Int), iv (IntKind.i64.wrap ((↑(List.map (fun p => [V.lst 2 (List.map sp p)]) l.1).length : Int) - (1 : Int)))] fun v => onBool v fun b => ifB (!b) (R (iv (2 : Int))) (K0 Try.prog 49 [iv k, iv (0 : Int), iv (IntKind.i64.wrap ((↑(List.map (fun p => [V.lst 2 (List.map sp p)]) l.1).length : Int) - (1 : Int)))] fun v => onBool v fun b => ifB (!b) (R (iv (2 : Int))) (ifB (i == k) (R (iv (2 : Int))) (R (iv (0 : Int))))))) (by kernel_rfl) ?_)
  refine valid55 (l := l) hs (onBool_bv ?_)
  unfold twoC at h
  cases hl : linB l with
  | false => rw [hl] at h; exact h
  | true =>
    rw [hl] at h
    rw [if_pos rfl] at h
    refine ifB_mk (fun hb => by simp at hb) (fun _ => ?_)
    rw [wr_len (by have := hs.ps; simpa using this), List.length_map]
    refine within49 (onBool_bv (ifB_mk (fun hb => ?_) (fun hb => within49 (onBool_bv (ifB_mk (fun hb2 => ?_) (fun hb2 => ifB_mk (fun hb3 => ?_) (fun hb3 => ?_)))))))
    · have hb : win i 0 (l.1.length - 1) = false := by simpa using hb
      rw [hb] at h; exact h
    · have hb : win k 0 (l.1.length - 1) = false := by simpa using hb2
      rw [hb, Bool.and_false] at h; exact h
    · rw [hb3, Bool.not_true, Bool.and_false] at h; exact h
    · have w1 : win i 0 (l.1.length - 1) = true := by simpa using hb
      have w2 : win k 0 (l.1.length - 1) = true := by simpa using hb2
      rw [w1, w2, hb3] at h; exact h
theorem panI_nat {l : Li} {i : Int} (h0 : 0 ≤ i) : ∃ m : Nat, i = (m : Int) := ⟨i.toNat, by omega⟩
theorem clash36 {l : Li} {i k : Int} {R : V → Prop} (hs : LiSz l) (h : R (iv (if twoC l i k = 0 then (bif (apartP (panI l i) (panI l k)).1 then 0 else 51) else twoC l i k))) : K0 Try.prog 36 [.agg (lk l), iv i, iv k] R := by
  refine K0_of_W0 (kps := kp0) hM hmH Try.func36 (see (p := K0 Try.prog 67 [V.agg [V.lst 1 (List.map (fun p => [V.lst 2 (List.map sp p)]) l.1), V.lst 5 (List.map hi l.2)], iv i, iv k] fun v => onIntK IntKind.i64 v fun n => ifB (n != (0 : Int)) (R (iv n)) (K0 Try.prog 64 [V.agg [V.lst 1 (List.map (fun p => [V.lst 2 (List.map sp p)]) l.1), V.lst 5 (List.map hi l.2)], iv i, iv k] fun v => onBool v fun b => ifB b (R (iv (51 : Int))) (R (iv (0 : Int))))) (by kernel_rfl) ?_)
  refine two67 (l := l) hs (onIntK_iv ?_)
  by_cases hc : twoC l i k = 0
  · rw [if_pos hc] at h
    obtain ⟨hl, i0, i1, k0, k1, _⟩ := twoC_ok hc
    obtain ⟨m, rfl⟩ := panI_nat (l := l) i0
    obtain ⟨n, rfl⟩ := panI_nat (l := l) k0
    refine ifB_mk (fun hb => by rw [hc] at hb; simp at hb) (fun _ => ?_)
    refine clashing64 (l := l) (i := m) (k := n) hl (by omega) (by omega) (onBool_bv (ifB_mk (fun hb => ?_) (fun hb => ?_)))
    · have : (apartP (panI l m) (panI l n)).1 = false := by simpa [clsh] using hb
      rw [this] at h; exact h
    · have : (apartP (panI l m) (panI l n)).1 = true := by simpa [clsh] using hb
      rw [this] at h; exact h
  · rw [if_neg hc] at h
    exact ifB_mk (fun _ => h) (fun hb => by simp at hb; exact absurd hb hc)
theorem between92 {a : Ap} {s : Nat} {p q : Pd} {R : V → Prop} (hp : PdOK p) (hq : PdOK q) (h : R (bv (btwB a p q))) : K0 Try.prog 92 [apV a s, pl p.1, iv p.2, pl q.1, iv q.2] R := by
  refine K0_of_W0 (kps := kp92) hM hmH Try.func92 (see (p := ifB (decide ((↑(il a.2.2.2.2.2).length : Int) > (0 : Int))) (R (bv false)) (K0 Try.prog 49 [iv a.2.1, iv (-10000000 : Int), iv (10000000 : Int)] fun v => onBool v fun b => ifB (!b) (R (bv false)) (K0 Try.prog 49 [iv a.2.2.1, iv (-10000000 : Int), iv (10000000 : Int)] fun v => onBool v fun b => ifB (!b) (R (bv false)) (ifB (a.2.1 == (0 : Int)) (ifB (a.2.2.1 == (0 : Int)) (R (bv false)) (K0 Try.prog 49 [iv a.2.2.2.1, iv (-100000000000000 : Int), iv (100000000000000 : Int)] fun v => onBool v fun b => ifB (!b) (R (bv false)) (K0 Try.prog 49 [iv a.2.2.2.2.1, iv (1 : Int), iv (20000 : Int)] fun v => onBool v fun b => ifB (!b) (R (bv false)) (Lp (kp92 0) (W Try.prog CM 113 kp92 0 (cdAt [1, 1, 0, 1, 0, 0] (bodyOf Try.f92))) (Qblk 0 (Qseq (W Try.prog CM 113 kp92 0 (cdAt [1, 1, 1] (bodyOf Try.f92))) (Qend0 Try.prog Try.f92 R))) (St.mk (mkT [(1, V.lst 2 (List.map sp p.1)), (2, iv p.2), (3, V.lst 2 (List.map sp q.1)), (4, iv q.2), (5, V.ptr 0 0 0), (11, iv (0 : Int))]) (Hp.mk [(0, O.rows 6 true [[bv a.1, iv a.2.1, iv a.2.2.1, iv a.2.2.2.1, iv a.2.2.2.2.1, V.lst s (il a.2.2.2.2.2)]])] 1)))))) (K0 Try.prog 49 [iv a.2.2.2.1, iv (-100000000000000 : Int), iv (100000000000000 : Int)] fun v => onBool v fun b => ifB (!b) (R (bv false)) (K0 Try.prog 49 [iv a.2.2.2.2.1, iv (1 : Int), iv (20000 : Int)] fun v => onBool v fun b => ifB (!b) (R (bv false)) (Lp (kp92 0) (W Try.prog CM 113 kp92 0 (cdAt [1, 1, 0, 1, 0, 0] (bodyOf Try.f92))) (Qblk 0 (Qseq (W Try.prog CM 113 kp92 0 (cdAt [1, 1, 1] (bodyOf Try.f92))) (Qend0 Try.prog Try.f92 R))) (St.mk (mkT [(1, V.lst 2 (List.map sp p.1)), (2, iv p.2), (3, V.lst 2 (List.map sp q.1)), (4, iv q.2), (5, V.ptr 0 0 0), (11, iv (0 : Int))]) (Hp.mk [(0, O.rows 6 true [[bv a.1, iv a.2.1, iv a.2.2.1, iv a.2.2.2.1, iv a.2.2.2.2.1, V.lst s (il a.2.2.2.2.2)]])] 1))))))))) (by kernel_rfl) ?_)
  have hp8 := hp.len8
  have hq8 := hq.len8
  have no : btwB a p q = false → R (bv false) := fun hn => by rw [hn] at h; exact h
  have rest : a.2.2.2.2.2 = [] → win a.2.1 (-10000000) 10000000 = true → win a.2.2.1 (-10000000) 10000000 = true → (a.2.1 == 0 && a.2.2.1 == 0) = false → K0 Try.prog 49 [iv a.2.2.2.1, iv (-100000000000000 : Int), iv (100000000000000 : Int)] fun v => onBool v fun b => ifB (!b) (R (bv false)) (K0 Try.prog 49 [iv a.2.2.2.2.1, iv (1 : Int), iv (20000 : Int)] fun v => onBool v fun b => ifB (!b) (R (bv false)) (Lp (kp92 0) (W Try.prog CM 113 kp92 0 (cdAt [1, 1, 0, 1, 0, 0] (bodyOf Try.f92))) (Qblk 0 (Qseq (W Try.prog CM 113 kp92 0 (cdAt [1, 1, 1] (bodyOf Try.f92))) (Qend0 Try.prog Try.f92 R))) (St.mk (mkT [(1, V.lst 2 (List.map sp p.1)), (2, iv p.2), (3, V.lst 2 (List.map sp q.1)), (4, iv q.2), (5, V.ptr 0 0 0), (11, iv (0 : Int))]) (Hp.mk [(0, O.rows 6 true [[bv a.1, iv a.2.1, iv a.2.2.1, iv a.2.2.2.1, iv a.2.2.2.2.1, V.lst s (il a.2.2.2.2.2)]])] 1)))) := fun he wa wb hz => by
    refine within49 (onBool_bv (ifB_mk (fun hc => no ?_) (fun hc => within49 (onBool_bv (ifB_mk (fun hd => no ?_) (fun hd => ?_))))))
    · have : win a.2.2.2.1 (-100000000000000) 100000000000000 = false := by simpa using hc
      simp [btwB, this]
    · have : win a.2.2.2.2.1 1 20000 = false := by simpa using hd
      simp [btwB, this]
    have wc : win a.2.2.2.1 (-100000000000000) 100000000000000 = true := by simpa using hc
    have wd : win a.2.2.2.2.1 1 20000 = true := by simpa using hd
    have hbt : btwB a p q = (p.1.all (fun c => decide (a.2.2.2.2.1 * (a.2.1 * c.1 + a.2.2.1 * c.2) ≤ a.2.2.2.1 * p.2)) && q.1.all (fun c => decide (a.2.2.2.1 * q.2 ≤ a.2.2.2.2.1 * (a.2.1 * c.1 + a.2.2.1 * c.2)))) := by
      unfold btwB; rw [he, hz, wa, wb, wc, wd]; simp
    have ba : Bd 10000000 a.2.1 := win_iff.1 wa
    have bb : Bd 10000000 a.2.2.1 := win_iff.1 wb
    have bc : Bd 100000000000000 a.2.2.2.1 := win_iff.1 wc
    have bd : Bd 20000 a.2.2.2.2.1 := by have := win_iff.1 wd; exact ⟨by omega, this.2⟩
    have val : ∀ (z : Pd), PdOK z → ∀ c ∈ z.1, IntKind.i64.wrap (a.2.2.2.2.1 * IntKind.i64.wrap (IntKind.i64.wrap (a.2.1 * c.1) + IntKind.i64.wrap (a.2.2.1 * c.2))) = a.2.2.2.2.1 * (a.2.1 * c.1 + a.2.2.1 * c.2) ∧ IntKind.i64.wrap (a.2.2.2.1 * z.2) = a.2.2.2.1 * z.2 := fun z hz c hc => by
      have cc := hz.c c hc
      have d1 := hz.d1
      have d2 := hz.d2
      have hd : Bd 15625 z.2 := ⟨by omega, d2⟩
      rw [(ba.mul cc.1).wr, (bb.mul cc.2).wr, ((ba.mul cc.1).add (bb.mul cc.2)).wr, (bd.mul ((ba.mul cc.1).add (bb.mul cc.2))).wr, (bc.mul hd).wr]
      exact ⟨rfl, rfl⟩
    refine Lp.of (σ := Nat) (fun i => ⟨mkT [(1, pl p.1), (2, iv p.2), (3, pl q.1), (4, iv q.2), (5, .ptr 0 0 0), (11, iv (i : Int))], ⟨[(0, .rows 6 true [[bv a.1, iv a.2.1, iv a.2.2.1, iv a.2.2.2.1, iv a.2.2.2.2.1, .lst s (il a.2.2.2.2.2)]])], 1⟩⟩) (fun i => i ≤ p.1.length ∧ ∀ c ∈ p.1.take i, decide (a.2.2.2.2.1 * (a.2.1 * c.1 + a.2.2.1 * c.2) ≤ a.2.2.2.1 * p.2) = true) (fun i => p.1.length - i) 0 (by kernel_rfl) ⟨by simp, by simp⟩ ?_
    rintro i ⟨hi', hall⟩ J hJ
    refine see (p := ifB (decide ((↑i : Int) < (↑(List.map sp p.1).length : Int))) (onSome (List.map sp p.1)[i]? fun row => onSome row[0]? fun v => onIntK IntKind.i64 v fun n => onSome (List.map sp p.1)[i]? fun row => onSome row[1]? fun v => onIntK IntKind.i64 v fun n_1 => ifB (decide (IntKind.i64.wrap (a.2.2.2.2.1 * IntKind.i64.wrap (IntKind.i64.wrap (a.2.1 * n) + IntKind.i64.wrap (a.2.2.1 * n_1))) > IntKind.i64.wrap (a.2.2.2.1 * p.2))) (R (bv false)) (J (St.mk (mkT [(1, V.lst 2 (List.map sp p.1)), (2, iv p.2), (3, V.lst 2 (List.map sp q.1)), (4, iv q.2), (5, V.ptr 0 0 0), (11, iv (IntKind.i64.wrap ((↑i : Int) + (1 : Int))))]) (Hp.mk [(0, O.rows 6 true [[bv a.1, iv a.2.1, iv a.2.2.1, iv a.2.2.2.1, iv a.2.2.2.2.1, V.lst s (il a.2.2.2.2.2)]])] 1)))) (Lp (kp92 2) (W Try.prog CM 113 kp92 2 (cdAt [1, 1, 1, 0, 1, 0, 0] (bodyOf Try.f92))) (Qblk 2 (Qseq (W Try.prog CM 113 kp92 0 (cdAt [1, 1, 1, 1] (bodyOf Try.f92))) (Qend0 Try.prog Try.f92 R))) (St.mk (mkT [(3, V.lst 2 (List.map sp q.1)), (4, iv q.2), (5, V.ptr 0 0 0), (12, iv (0 : Int))]) (Hp.mk [(0, O.rows 6 true [[bv a.1, iv a.2.1, iv a.2.2.1, iv a.2.2.2.1, iv a.2.2.2.2.1, V.lst s (il a.2.2.2.2.2)]])] 1)))) (by kernel_rfl) ?_
    refine ifB_mk (fun hb => ?_) (fun hb => ?_)
    · have hlt : i < p.1.length := by simp at hb; omega
      refine sx_at (s := p.1[i]) (List.getElem?_eq_getElem hlt) (sy_at (s := p.1[i]) (List.getElem?_eq_getElem hlt) ?_)
      obtain ⟨v1, v2⟩ := val p hp p.1[i] (List.getElem_mem hlt)
      rw [v1, v2]
      refine ifB_mk (fun hc => no ?_) (fun hc => ?_)
      · rw [hbt]
        have : p.1.all (fun c => decide (a.2.2.2.2.1 * (a.2.1 * c.1 + a.2.2.1 * c.2) ≤ a.2.2.2.1 * p.2)) = false := by
          rw [List.all_eq_false]
          exact ⟨p.1[i], List.getElem_mem hlt, by simp at hc ⊢; omega⟩
        rw [this, Bool.false_and]
      · rw [wr (by omega) (by omega)]
        exact hJ (i + 1) ⟨hlt, all_take_succ hlt (by simp at hc ⊢; omega) hall⟩ (by omega)
    · have he' : i = p.1.length := by simp at hb; omega
      subst he'
      rw [List.take_length] at hall
      have h1 : p.1.all (fun c => decide (a.2.2.2.2.1 * (a.2.1 * c.1 + a.2.2.1 * c.2) ≤ a.2.2.2.1 * p.2)) = true := List.all_eq_true.2 hall
      rw [h1, Bool.true_and] at hbt
      refine Lp.of (σ := Nat) (fun i => ⟨mkT [(3, pl q.1), (4, iv q.2), (5, .ptr 0 0 0), (12, iv (i : Int))], ⟨[(0, .rows 6 true [[bv a.1, iv a.2.1, iv a.2.2.1, iv a.2.2.2.1, iv a.2.2.2.2.1, .lst s (il a.2.2.2.2.2)]])], 1⟩⟩) (fun i => i ≤ q.1.length ∧ ∀ c ∈ q.1.take i, decide (a.2.2.2.1 * q.2 ≤ a.2.2.2.2.1 * (a.2.1 * c.1 + a.2.2.1 * c.2)) = true) (fun i => q.1.length - i) 0 (by kernel_rfl) ⟨by simp, by simp⟩ ?_
      rintro i ⟨hi', hall⟩ J hJ
      refine see (p := ifB (decide ((↑i : Int) < (↑(List.map sp q.1).length : Int))) (onSome (List.map sp q.1)[i]? fun row => onSome row[0]? fun v => onIntK IntKind.i64 v fun n => onSome (List.map sp q.1)[i]? fun row => onSome row[1]? fun v => onIntK IntKind.i64 v fun n_1 => ifB (decide (IntKind.i64.wrap (a.2.2.2.2.1 * IntKind.i64.wrap (IntKind.i64.wrap (a.2.1 * n) + IntKind.i64.wrap (a.2.2.1 * n_1))) < IntKind.i64.wrap (a.2.2.2.1 * q.2))) (R (bv false)) (J (St.mk (mkT [(3, V.lst 2 (List.map sp q.1)), (4, iv q.2), (5, V.ptr 0 0 0), (12, iv (IntKind.i64.wrap ((↑i : Int) + (1 : Int))))]) (Hp.mk [(0, O.rows 6 true [[bv a.1, iv a.2.1, iv a.2.2.1, iv a.2.2.2.1, iv a.2.2.2.2.1, V.lst s (il a.2.2.2.2.2)]])] 1)))) (R (bv true))) (by kernel_rfl) ?_
      refine ifB_mk (fun hb => ?_) (fun hb => ?_)
      · have hlt : i < q.1.length := by simp at hb; omega
        refine sx_at (s := q.1[i]) (List.getElem?_eq_getElem hlt) (sy_at (s := q.1[i]) (List.getElem?_eq_getElem hlt) ?_)
        obtain ⟨v1, v2⟩ := val q hq q.1[i] (List.getElem_mem hlt)
        rw [v1, v2]
        refine ifB_mk (fun hc => no ?_) (fun hc => ?_)
        · rw [hbt, List.all_eq_false]
          exact ⟨q.1[i], List.getElem_mem hlt, by simp at hc ⊢; omega⟩
        · rw [wr (by omega) (by omega)]
          exact hJ (i + 1) ⟨hlt, all_take_succ hlt (by simp at hc ⊢; omega) hall⟩ (by omega)
      · have he' : i = q.1.length := by simp at hb; omega
        subst he'
        rw [List.take_length] at hall
        rw [hbt, List.all_eq_true.2 hall] at h
        exact h
  refine ifB_mk (fun hb => no ?_) (fun hb => within49 (onBool_bv (ifB_mk (fun hw => no ?_) (fun hw => within49 (onBool_bv (ifB_mk (fun hv => no ?_) (fun hv => ?_)))))))
  · have : a.2.2.2.2.2.isEmpty = false := by
      rw [il_length] at hb
      simp at hb
      cases hx : a.2.2.2.2.2 with
      | nil => rw [hx] at hb; simp at hb
      | cons x y => rfl
    simp [btwB, this]
  · have : win a.2.1 (-10000000) 10000000 = false := by simpa using hw
    simp [btwB, this]
  · have : win a.2.2.1 (-10000000) 10000000 = false := by simpa using hv
    simp [btwB, this]
  have he : a.2.2.2.2.2 = [] := by
    rw [il_length] at hb
    simp at hb
    exact hb
  have wa : win a.2.1 (-10000000) 10000000 = true := by simpa using hw
  have wb : win a.2.2.1 (-10000000) 10000000 = true := by simpa using hv
  refine ifB_mk (fun c1 => ifB_mk (fun c2 => no ?_) (fun c2 => rest he wa wb ?_)) (fun c1 => rest he wa wb ?_)
  · simp [btwB, c1, c2]
  · simp [c2]
  · simp [c1]
end Go.Proofs.Ytahoindkdkhpmaa
