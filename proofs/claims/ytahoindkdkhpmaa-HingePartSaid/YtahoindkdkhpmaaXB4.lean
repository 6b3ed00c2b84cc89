/- B4: a part of the proof. -/
import Derived.Test.YtahoindkdkhpmaaXB3
namespace Go.Proofs.Ytahoindkdkhpmaa
open Go Go.Proofs.Ytahoindkdkhpmaa.Clean
set_option linter.unusedVariables false
set_option linter.unusedSimpArgs false
set_option maxRecDepth 20000

/-! panels where hinges are lent -/
theorem hS : CS.ok Try.prog := callsM_ok knows48
theorem hS1 : CS1.ok Try.prog := callsM_ok knows48
theorem hS38 : CS38.ok Try.prog := callsM_ok knows48
theorem kq54_base : ∀ i, (kq54 i).base 1 = true := fun _ => rfl
theorem kq54_all : ∀ i, (kq54 i).all 1 = true := fun _ => rfl
theorem kq57_base : ∀ i, (kq57 i).base 1 = true := fun i => by unfold kq57; split <;> rfl
theorem kq57_all : ∀ i, (kq57 i).all 1 = true := fun i => by unfold kq57; split <;> rfl
theorem posesL54 {ps : List (List Sp)} {hs : List Hi} {R : V → Prop} (hl : hs.length ≤ 3) (hh' : hs.all hiB = true) (h : R (.lst 5 ((pzs hs).map po))) : KB Try.prog (fun _ => none) 54 [tabV, lkh ps hs.length] (hh hs) R := by
  refine KB_of_W (kps := kq54) hS1 hmH Try.func54 kq54_base kq54_all (see (p := K0 Try.prog 75 [] fun v => onAgg v fun cs => onCons cs fun u r => onIntK IntKind.i64 u fun n => onCons r fun u r => onIntK IntKind.i64 u fun n_1 => onCons r fun u r => onIntK IntKind.i64 u fun n_2 => onCons r fun u r => onIntK IntKind.i64 u fun n_3 => onCons r fun u r => onIntK IntKind.i64 u fun n_4 => onNil r (Lp (kq54 0) (W Try.prog CS1 34 kq54 0 (cdAt [1, 1, 0, 1, 0, 0] (bodyOf Try.f54))) (Qblk 0 (Qseq (W Try.prog CS1 34 kq54 0 (cdAt [1, 1, 1] (bodyOf Try.f54))) (QendH Try.prog Try.f54 fun v h' => dataT (hh hs).nxt h' v R))) (St.mk (mkT [(2, V.ptr 1 0 0), (5, V.sl 2 0 1), (11, V.sl 0 0 hs.length), (12, iv (↑hs.length : Int)), (13, iv (0 : Int))]) (Hp.mk [(0, O.rows 5 true (List.map hi hs)), (1, O.rows 108 true [tabC]), (2, O.rows 5 true [[iv n, iv n_1, iv n_2, iv n_3, iv n_4]])] 4)))) (by kernel_rfl) ?_)
  refine start75 ?_
  refine Lp.of (σ := Nat × List Po) (fun s => ⟨mkT [(2, .ptr 1 0 0), (5, .sl 2 0 s.2.length), (11, .sl 0 0 hs.length), (12, iv (hs.length : Int)), (13, iv (s.1 : Int))], ⟨[(0, .rows 5 true (hs.map hi)), (1, .rows 108 true [tabC]), (2, .rows 5 true (s.2.map po))], 4⟩⟩) (fun s => s.1 ≤ hs.length ∧ s.2 = (List.range (s.1 + 1)).map (pz hs)) (fun s => hs.length - s.1) (0, [(1, 0, 0, 0, 1)]) (by kernel_rfl) ⟨by simp, rfl⟩ ?_
  rintro ⟨i, a⟩ ⟨hi', ha⟩ J hJ
  simp only at hi' ha
  refine see (p := ifB (decide ((↑i : Int) < (↑hs.length : Int))) (need (i < hs.length) (onSome (List.map hi hs)[0 + i]? fun row => onCons (List.drop 0 row) fun u r => onIntK IntKind.i64 u fun n => onCons r fun u r => onIntK IntKind.i64 u fun n_1 => onCons r fun u r => onIntK IntKind.i64 u fun n_2 => onCons r fun u r => onIntK IntKind.i64 u fun n_3 => onCons r fun u r => onIntK IntKind.i64 u fun n_4 => need (i < a.length) (onSome (List.map po a)[0 + i]? fun row => onCons (List.drop 0 row) fun u r => onIntK IntKind.i64 u fun n_5 => onCons r fun u r => onIntK IntKind.i64 u fun n_6 => onCons r fun u r => onIntK IntKind.i64 u fun n_7 => onCons r fun u r => onIntK IntKind.i64 u fun n_8 => onCons r fun u r => onIntK IntKind.i64 u fun n_9 => onNat n_4 fun m => need (m < 36) (onCons (List.drop (0 + m * 3) tabC) fun u r => onIntK IntKind.i64 u fun n_10 => onCons r fun u r => onIntK IntKind.i64 u fun n_11 => onCons r fun u r => onIntK IntKind.i64 u fun n_12 => K0 Try.prog 74 [V.agg [iv n_5, iv n_6, iv n_7, iv n_8, iv n_9], V.agg [iv n, iv n_1, iv n_2, iv n_3, iv n_4], V.agg [iv n_10, iv n_11, iv n_12]] fun v => onAgg v fun cs => onCons cs fun u r => onIntK IntKind.i64 u fun n => onCons r fun u r => onIntK IntKind.i64 u fun n_13 => onCons r fun u r => onIntK IntKind.i64 u fun n_14 => onCons r fun u r => onIntK IntKind.i64 u fun n_15 => onCons r fun u r => onIntK IntKind.i64 u fun n_16 => onNil r (K0 Try.prog 84 [V.agg [iv n, iv n_13, iv n_14, iv n_15, iv n_16]] fun v => onAgg v fun cs => onCons cs fun u r => onIntK IntKind.i64 u fun n => onCons r fun u r => onIntK IntKind.i64 u fun n_17 => onCons r fun u r => onIntK IntKind.i64 u fun n_18 => onCons r fun u r => onIntK IntKind.i64 u fun n_19 => onCons r fun u r => onIntK IntKind.i64 u fun n_20 => onNil r (need ((a.length + 1) * 40 ≤ 140737488355328) (J (St.mk (mkT [(2, V.ptr 1 0 0), (5, V.sl 2 0 (a.length + 1)), (11, V.sl 0 0 hs.length), (12, iv (↑hs.length : Int)), (13, iv (IntKind.i64.wrap ((↑i : Int) + (1 : Int))))]) (Hp.mk [(0, O.rows 5 true (List.map hi hs)), (1, O.rows 108 true [tabC]), (2, O.rows 5 true (List.take a.length (List.map po a) ++ [[iv n, iv n_17, iv n_18, iv n_19, iv n_20]]))] 4))))))))) (R (V.lst 5 (sub (List.map po a) 0 a.length)))) (by kernel_rfl) ?_
  have hal : a.length = i + 1 := by rw [ha]; simp
  refine ifB_mk (fun hb => ?_) (fun hb => ?_)
  · have hlt : i < hs.length := by simp at hb; omega
    obtain ⟨k1, k2, k3⟩ := hi_getD_ok hh' hlt
    have hg := pz_good hh' i hi'
    refine need_mk ⟨hlt, hi_at (by rw [Nat.zero_add]; exact hi_getD hlt) (need_mk ⟨by omega, po_at (x := pz hs i) (by rw [Nat.zero_add, ha]; simp) ?_⟩)⟩
    have ht := angT_ok (hs.getD i noHi).2.2
    have hm : (hs.getD i noHi).2.2 = (((hs.getD i noHi).2.2.toNat : Nat) : Int) := by omega
    refine onNat_mk hm (need_mk ⟨by omega, tu_at (by omega) ?_⟩)
    rw [← hm]
    refine swing74 (p := pz hs i) (h := hs.getD i noHi) (t := angT (hs.getD i noHi).2.2) (hg.ok (by omega)) k1 ht.ok ?_
    have hsw := swing_good hg k1 ht
    have hsok := hsw.ok (by omega)
    refine lowest84 (p := swingP (pz hs i) (hs.getD i noHi) (angT (hs.getD i noHi).2.2)) ⟨hsok.p.le (by decide), hsok.q.le (by decide), hsok.x.le (by decide), hsok.y.le (by decide), hsok.d.le (by decide)⟩ (gcdP_pos hsw.d1) ?_
    refine need_mk ⟨by omega, ?_⟩
    rw [wr (by omega) (by omega)]
    have := hJ (i + 1, a ++ [pz hs (i + 1)]) ⟨hlt, by simp only; rw [List.range_succ, List.map_append, ← ha]; rfl⟩ (by omega)
    simp only [List.length_append, List.length_singleton, List.map_append] at this
    rw [List.take_of_length_le (by simp)]
    exact this
  · have he : i = hs.length := by simp at hb; omega
    subst he
    rw [sub_all _ (by simp), ha]; exact h
theorem panelsL57 {ps : List (List Sp)} {hs : List Hi} {R : V → Prop} (hl : linB (ps, hs) = true) (h : R (.lst 2 ((pans (ps, hs)).map pd))) : KB Try.prog (fun _ => none) 57 [tabV, lkh ps hs.length] (hh hs) R := by
  obtain ⟨h1, h2, h3, h4, h5⟩ := linB_ok hl
  simp only at h1 h2 h3 h4 h5
  refine KB_of_W (kps := kq57) hS38 hmH Try.func57 kq57_base kq57_all (see (p := KB Try.prog (fun x => none) 54 [V.agg tabC, V.agg [V.lst 1 (List.map (fun p => [V.lst 2 (List.map sp p)]) ps), V.sl 0 0 hs.length]] (Hp.mk [(0, O.rows 5 true (List.map hi hs))] 1) fun v => onLst v fun s es => guardB (s.beq 5 || s.beq 0) (Lp (kq57 0) (W Try.prog CS38 46 kq57 0 (cdAt [1, 1, 0, 1, 0, 0] (bodyOf Try.f57))) (Qblk 0 (Qseq (W Try.prog CS38 46 kq57 0 (cdAt [1, 1, 1] (bodyOf Try.f57))) (QendH Try.prog Try.f57 fun v h' => dataT (hh hs).nxt h' v R))) (St.mk (mkT [(3, V.ptr 2 0 0), (5, V.sl 4 0 0), (13, V.sl 3 0 es.length), (14, iv (↑es.length : Int)), (15, iv (0 : Int))]) (Hp.mk [(4, O.rows 2 true []), (0, O.rows 5 true (List.map hi hs)), (1, O.rows 108 false [tabC]), (2, O.rows 2 false [[V.lst 1 (List.map (fun p => [V.lst 2 (List.map sp p)]) ps), V.sl 0 0 hs.length]]), (3, O.rows 5 true es)] 7)))) (by kernel_rfl) ?_)
  refine posesL54 (ps := ps) (hs := hs) (by omega) h5 (onLst_lst (guardB_mk rfl ?_))
  obtain ⟨z, hz⟩ : ∃ z, z = pzs hs := ⟨_, rfl⟩
  rw [← hz]
  have hzl : z.length = ps.length := by rw [hz, pzs_length]; exact h3
  refine Lp.of (σ := Nat × List Pd) (fun s => ⟨mkT [(3, .ptr 2 0 0), (5, .sl 4 0 s.2.length), (13, .sl 3 0 z.length), (14, iv (z.length : Int)), (15, iv (s.1 : Int))], ⟨[(4, .rows 2 true (s.2.map pd)), (0, .rows 5 true (hs.map hi)), (1, .rows 108 false [tabC]), (2, .rows 2 false [[.lst 1 (ps.map fun p => [pl p]), .sl 0 0 hs.length]]), (3, .rows 5 true (z.map po))], 7⟩⟩)
    (fun s => s.1 ≤ ps.length ∧ s.2 = (List.range s.1).map fun i => panAt (pz hs i) (ps.getD i [])) (fun s => ps.length - s.1) (0, []) (by rw [List.length_map]; kernel_rfl) ⟨by simp, rfl⟩ ?_
  rintro ⟨i, a⟩ ⟨hi', ha⟩ J hJ
  simp only at hi' ha
  refine see (p := ifB (decide ((↑i : Int) < (↑z.length : Int))) (need (i < z.length) (onSome (List.map po z)[0 + i]? fun row => onCons (List.drop 0 row) fun u r => onIntK IntKind.i64 u fun n => onCons r fun u r => onIntK IntKind.i64 u fun n_1 => onCons r fun u r => onIntK IntKind.i64 u fun n_2 => onCons r fun u r => onIntK IntKind.i64 u fun n_3 => onCons r fun u r => onIntK IntKind.i64 u fun n_4 => onSome (List.map (fun p => [V.lst 2 (List.map sp p)]) ps)[i]? fun row => onSome row[0]? fun v => onLst v fun s es => Lp (kq57 2) (W Try.prog CS38 46 kq57 2 (cdAt [1, 1, 0, 1, 0, 0, 1, 1, 0, 0, 1, 1, 0, 1, 0, 0] (bodyOf Try.f57))) (Qblk 2 (Qseq (W Try.prog CS38 46 kq57 1 (cdAt [1, 1, 0, 1, 0, 0, 1, 1, 0, 0, 1, 1, 1] (bodyOf Try.f57))) (Qblk 1 (Qseq (W Try.prog CS38 46 kq57 0 (cdAt [1, 1, 0, 1, 0, 0, 1, 1, 1] (bodyOf Try.f57))) (Qlp (kq57 0) J (Qblk 0 (Qseq (W Try.prog CS38 46 kq57 0 (cdAt [1, 1, 1] (bodyOf Try.f57))) (QendH Try.prog Try.f57 fun v h' => dataT (hh hs).nxt h' v R)))))))) (St.mk (mkT [(3, V.ptr 2 0 0), (5, V.sl 4 0 a.length), (7, V.ptr 5 0 0), (8, V.sl 6 0 0), (13, V.sl 3 0 z.length), (14, iv (↑z.length : Int)), (15, iv (↑i : Int)), (24, V.lst s es), (25, iv (↑es.length : Int)), (26, iv (0 : Int))]) (Hp.mk [(6, O.rows 2 true []), (0, O.rows 5 true (List.map hi hs)), (1, O.rows 108 false [tabC]), (2, O.rows 2 false [[V.lst 1 (List.map (fun p => [V.lst 2 (List.map sp p)]) ps), V.sl 0 0 hs.length]]), (3, O.rows 5 true (List.map po z)), (4, O.rows 2 true (List.map pd a)), (5, O.rows 5 true [[iv n, iv n_1, iv n_2, iv n_3, iv n_4]])] 8)))) (R (V.lst 2 (sub (List.map pd a) 0 a.length)))) (by kernel_rfl) ?_
  have hal : a.length = i := by rw [ha]; simp
  refine ifB_mk (fun hb => ?_) (fun hb => ?_)
  · have hlt : i < ps.length := by simp at hb; omega
    obtain ⟨p, hp⟩ : ∃ p, p = ps.getD i [] := ⟨_, rfl⟩
    obtain ⟨x, hx⟩ : ∃ x, x = pz hs i := ⟨_, rfl⟩
    have hpo := panB_ok (h4 p (by rw [hp]; exact List.mem_of_getElem? (pan_getD hlt)))
    have hgood := pz_good h5 i (by omega)
    rw [← hx] at hgood
    have hok := hgood.ok (by omega)
    refine need_mk ⟨by omega, po_at (x := x) (by rw [Nat.zero_add, hz, hx]; exact pzs_get (by omega)) (row_at (p := p) (by rw [hp]; exact pan_getD hlt) ?_)⟩
    refine Lp.of (σ := Nat × List Sp) (fun s => ⟨mkT [(3, .ptr 2 0 0), (5, .sl 4 0 a.length), (7, .ptr 5 0 0), (8, .sl 6 0 s.2.length), (13, .sl 3 0 z.length), (14, iv (z.length : Int)), (15, iv (i : Int)), (24, pl p), (25, iv ((p.map sp).length : Int)), (26, iv (s.1 : Int))], ⟨[(6, .rows 2 true (s.2.map sp)), (0, .rows 5 true (hs.map hi)), (1, .rows 108 false [tabC]), (2, .rows 2 false [[.lst 1 (ps.map fun p => [pl p]), .sl 0 0 hs.length]]), (3, .rows 5 true (z.map po)), (4, .rows 2 true (a.map pd)), (5, .rows 5 true [po x])], 8⟩⟩)
      (fun s => s.1 ≤ p.length ∧ s.2 = (p.take s.1).map (place x)) (fun s => p.length - s.1) (0, []) (by kernel_rfl) ⟨by simp, by simp⟩ ?_
    rintro ⟨j, c⟩ ⟨hj, hc⟩ J1 hJ1
    simp only at hj hc
    refine see (p := ifB (decide ((↑j : Int) < (↑(List.map sp p).length : Int))) (onSome (List.map sp p)[j]? fun row => onCons (List.drop 0 row) fun u r => onIntK IntKind.i64 u fun n => onCons r fun u r => onIntK IntKind.i64 u fun n_1 => K0 Try.prog 86 [V.agg [iv x.1, iv x.2.1, iv x.2.2.1, iv x.2.2.2.1, iv x.2.2.2.2], V.agg [iv n, iv n_1]] fun v => onAgg v fun cs => onCons cs fun u r => onIntK IntKind.i64 u fun n => onCons r fun u r => onIntK IntKind.i64 u fun n_2 => onNil r (need ((c.length + 1) * 16 ≤ 140737488355328) (J1 (St.mk (mkT [(3, V.ptr 2 0 0), (5, V.sl 4 0 a.length), (7, V.ptr 5 0 0), (8, V.sl 6 0 (c.length + 1)), (13, V.sl 3 0 z.length), (14, iv (↑z.length : Int)), (15, iv (↑i : Int)), (24, V.lst 2 (List.map sp p)), (25, iv (↑(List.map sp p).length : Int)), (26, iv (IntKind.i64.wrap ((↑j : Int) + (1 : Int))))]) (Hp.mk [(6, O.rows 2 true (List.take c.length (List.map sp c) ++ [[iv n, iv n_2]])), (0, O.rows 5 true (List.map hi hs)), (1, O.rows 108 false [tabC]), (2, O.rows 2 false [[V.lst 1 (List.map (fun p => [V.lst 2 (List.map sp p)]) ps), V.sl 0 0 hs.length]]), (3, O.rows 5 true (List.map po z)), (4, O.rows 2 true (List.map pd a)), (5, O.rows 5 true [[iv x.1, iv x.2.1, iv x.2.2.1, iv x.2.2.2.1, iv x.2.2.2.2]])] 8))))) (need ((a.length + 1) * 32 ≤ 140737488355328) (J (St.mk (mkT [(3, V.ptr 2 0 0), (5, V.sl 4 0 (a.length + 1)), (13, V.sl 3 0 z.length), (14, iv (↑z.length : Int)), (15, iv (IntKind.i64.wrap ((↑i : Int) + (1 : Int))))]) (Hp.mk [(4, O.rows 2 true (List.take a.length (List.map pd a) ++ [[V.lst 2 (sub (List.map sp c) 0 c.length), iv x.2.2.2.2]])), (0, O.rows 5 true (List.map hi hs)), (1, O.rows 108 false [tabC]), (2, O.rows 2 false [[V.lst 1 (List.map (fun p => [V.lst 2 (List.map sp p)]) ps), V.sl 0 0 hs.length]]), (3, O.rows 5 true (List.map po z))] 7))))) (by kernel_rfl) ?_
    have hcl : c.length = j := by rw [hc]; simp; omega
    refine ifB_mk (fun hb2 => ?_) (fun hb2 => ?_)
    · have hjl : j < p.length := by simp at hb2; omega
      have hso := hpo.2.2.1 p[j] (List.getElem_mem hjl)
      refine sp_at (List.getElem?_eq_getElem hjl) (place86 (p := x) (s := p[j]) (hok.p.le (by decide)) (hok.q.le (by decide)) (hok.x.le (by decide)) (hok.y.le (by decide)) hso.1 hso.2 ?_)
      refine need_mk ⟨by omega, ?_⟩
      rw [wr (by omega) (by omega)]
      have := hJ1 (j + 1, c ++ [place x p[j]]) ⟨hjl, by simp only; rw [List.take_succ_eq_append_getElem hjl, List.map_append, hc]; rfl⟩ (by omega)
      simp only [List.length_append, List.length_singleton, List.map_append] at this
      rw [List.take_of_length_le (by simp)]
      exact this
    · have hje : j = p.length := by simp at hb2; omega
      subst hje
      rw [List.take_length] at hc
      refine need_mk ⟨by omega, ?_⟩
      rw [wr (by omega) (by omega), sub_all _ (by simp)]
      have := hJ (i + 1, a ++ [panAt x p]) ⟨hlt, by simp only; rw [List.range_succ, List.map_append, ha, hx, hp]; rfl⟩ (by omega)
      simp only [List.length_append, List.length_singleton, List.map_append] at this
      rw [List.take_of_length_le (by simp)]
      rw [hc]
      exact this
  · have he : i = ps.length := by simp [hzl] at hb; omega
    subst he
    rw [sub_all _ (by simp), ha]; exact h

/-! swings -/
theorem clone71 {hs : List Hi} {R : V → Prop} (hl : hs.length ≤ 1000000000) (h : R (.lst 5 (hs.map hi))) (h0 : hs = [] → R nilS) : KB Try.prog (fun _ => none) 71 [.lst 5 (hs.map hi)] ⟨[], 0⟩ R := by
  refine KB_of_W (kps := kp0) hM hmH Try.func71 (fun _ => rfl) (fun _ => rfl) (see (p := nilN (List.map hi hs).length fun b => ifB b (R nilS) (need ((0 + (List.map hi hs).length) * 40 ≤ 140737488355328) (R (V.lst 5 (sub ([] ++ List.map hi hs) 0 (0 + (List.map hi hs).length)))))) (by kernel_rfl) ?_)
  refine nilN_mk (fun hn => ifB_mk (fun _ => h0 (by rw [List.length_map] at hn; exact List.eq_nil_of_length_eq_zero hn)) (fun hc => by simp at hc)) (ifB_mk (fun hc => by simp at hc) (fun _ => need_mk ⟨by rw [List.length_map]; omega, ?_⟩))
  rw [sub_all _ (by simp), List.nil_append]; exact h
/-- hinges with another angle -/
def hsa (hs : List Hi) (m : Nat) (n : Int) : List Hi := hs.set m ((hs.getD m noHi).1, (hs.getD m noHi).2.1, n)
def bent (l : Li) (m : Nat) (n : Int) : Li := (l.1, hsa l.2 m n)
theorem hsa_length (hs : List Hi) (m : Nat) (n : Int) : (hsa hs m n).length = hs.length := by simp [hsa]
theorem hsa_hsa (hs : List Hi) (m : Nat) (n k : Int) : hsa (hsa hs m n) m k = hsa hs m k := by
  unfold hsa
  by_cases h : m < hs.length
  · rw [List.set_set]; simp [List.getD, h]
  · simp only [List.set_eq_of_length_le (Nat.le_of_not_lt h)]
theorem linB_bent {l : Li} {m : Nat} {n : Int} (h : linB l = true) (h0 : 0 ≤ n) (h1 : n ≤ 35) : linB (bent l m n) = true := by
  unfold linB at h ⊢
  simp only [Bool.and_eq_true, decide_eq_true_iff] at h ⊢
  obtain ⟨⟨⟨a, b⟩, c⟩, d⟩ := h
  refine ⟨⟨⟨a, ?_⟩, c⟩, ?_⟩
  · simp only [bent, hsa_length]; exact b
  · simp only [bent]
    rw [List.all_eq_true] at d ⊢
    intro x hx
    unfold hsa at hx
    rcases List.mem_or_eq_of_mem_set hx with h | h
    · exact d x h
    · by_cases hm : m < l.2.length
      · have := d _ (List.mem_of_getElem? (hi_getD hm))
        unfold hiB at this ⊢
        rw [h]
        simp only [Bool.and_eq_true] at this ⊢
        exact ⟨this.1, win_iff.2 ⟨h0, h1⟩⟩
      · rw [List.set_eq_of_length_le (by omega)] at hx
        exact d x hx
def swingsP (l : Li) (m : Nat) (k : Nat) : List Int := ((List.range k).filter fun (n : Nat) => (clashesP (pans (bent l m (n : Int)))).isEmpty).map fun (n : Nat) => (n : Int)
theorem swingsP_succ (l : Li) (m k : Nat) : swingsP l m (k + 1) = swingsP l m k ++ (if (clashesP (pans (bent l m (k : Int)))).isEmpty = true then [(k : Int)] else []) := by
  unfold swingsP
  rw [List.range_succ, List.filter_append, List.map_append]
  congr 1
  simp only [List.filter_cons, List.filter_nil]
  split <;> simp
theorem swingsP_le (l : Li) (m k : Nat) : (swingsP l m k).length ≤ k := by
  unfold swingsP
  rw [List.length_map]
  exact Nat.le_trans (List.length_filter_le _ _) (by simp)
def swR (l : Li) (i : Int) : V := if linB l = true then (if win i 0 (l.2.length - 1) = true then .tup [.lst 1 (il (swingsP l i.toNat 36)), iv 0] else .tup [nilS, iv 2]) else .tup [nilS, iv 50]
theorem hi_set {hs : List Hi} {m : Nat} {n : Int} (h : m < hs.length) : (hs.map hi).set (0 + m) (List.take 4 (hi (hs.getD m noHi)) ++ [iv n] ++ List.drop 5 (hi (hs.getD m noHi))) = (hsa hs m n).map hi := by
  rw [Nat.zero_add]
  unfold hsa
  rw [List.map_set]; rfl
theorem swings39 {l : Li} {i : Int} {R : V → Prop} (hs : LiSz l) (h : R (swR l i)) : K0 Try.prog 39 [.agg (lk l), iv i] R := by
  refine K0_of_W0 (kps := kp39) hS hmH Try.func39 (see (p := K0 Try.prog 24 [V.agg [V.lst 1 (List.map (fun p => [V.lst 2 (List.map sp p)]) l.1), V.lst 5 (List.map hi l.2)]] fun v => onIntK IntKind.i64 v fun n => ifB (n != (0 : Int)) (R (V.tup [nilS, iv n])) (K0 Try.prog 47 [iv i, iv (0 : Int), iv (IntKind.i64.wrap ((↑(List.map hi l.2).length : Int) - (1 : Int)))] fun v => onBool v fun b => ifB (!b) (R (V.tup [nilS, iv (2 : Int)])) (KB Try.prog (fun x => none) 71 [V.lst 5 (List.map hi l.2)] (Hp.mk [] 0) fun v => onLst v fun s es => guardB (s.beq 5 || s.beq 0) (Lp (kp39 0) (W Try.prog CS 48 kp39 0 (cdAt [1, 1, 1, 1, 1, 1, 0, 1, 0, 0] (bodyOf Try.f39))) (Qblk 0 (Qseq (W Try.prog CS 48 kp39 0 (cdAt [1, 1, 1, 1, 1, 1, 1] (bodyOf Try.f39))) (Qend0 Try.prog Try.f39 R))) (St.mk (mkT [(1, iv i), (2, V.ptr 0 0 0), (7, V.ptr 1 0 0), (8, V.sl 3 0 0), (27, iv (0 : Int))]) (Hp.mk [(3, O.rows 1 true []), (0, O.rows 2 false [[V.lst 1 (List.map (fun p => [V.lst 2 (List.map sp p)]) l.1), V.sl 2 0 es.length]]), (1, O.rows 108 false [tabC]), (2, O.rows 5 true es)] 9)))))) (by kernel_rfl) ?_)
  refine check24 (ps := l.1) (hs := l.2) hs.ps hs.hs hs.each (onIntK_iv ?_)
  unfold swR at h
  cases hl : linB l with
  | false => rw [hl] at h; exact h
  | true =>
  rw [hl] at h
  rw [if_pos rfl] at h
  refine ifB_mk (fun hb => by simp at hb) (fun _ => ?_)
  rw [wr_len (by have := hs.hs; simpa using this), List.length_map]
  refine within47 (onBool_bv (ifB_mk (fun hb => ?_) (fun hb => ?_)))
  · rw [if_neg (by simpa using hb)] at h; exact h
  have hw : win i 0 (l.2.length - 1) = true := by simpa using hb
  rw [if_pos hw] at h
  have hw := win_iff.1 hw
  obtain ⟨m, hm⟩ : ∃ m : Nat, i = (m : Int) := ⟨i.toNat, by omega⟩
  subst hm
  rw [Int.toNat_natCast] at h
  obtain ⟨ps, hs0⟩ := l
  simp only at hw
  have hml : m < hs0.length := by omega
  refine clone71 hs.hs (onLst_lst (guardB_mk rfl ?_)) (fun h0 => by rw [show hs0 = [] from h0] at hml; simp at hml)
  refine Lp.of (σ := Nat × List Int × List Hi) (fun s => ⟨mkT [(1, iv (m : Int)), (2, .ptr 0 0 0), (7, .ptr 1 0 0), (8, .sl 3 0 s.2.1.length), (27, iv (s.1 : Int))], ⟨[(3, .rows 1 true (il s.2.1)), (0, .rows 2 false [[.lst 1 (ps.map fun p => [pl p]), .sl 2 0 s.2.2.length]]), (1, .rows 108 false [tabC]), (2, .rows 5 true (s.2.2.map hi))], 9⟩⟩)
    (fun s => s.1 ≤ 36 ∧ s.2.1 = swingsP (ps, hs0) m s.1 ∧ s.2.2.length = hs0.length ∧ ∀ n, hsa s.2.2 m n = hsa hs0 m n) (fun s => 36 - s.1) (0, [], hs0) (by rw [List.length_map]; kernel_rfl) ⟨by simp, rfl, rfl, fun _ => rfl⟩ ?_
  rintro ⟨k, c, hs1⟩ ⟨hk, hc, hlen, hsame⟩ J hJ
  simp only at hk hc hlen hsame
  refine see (p := ifB (decide ((↑k : Int) < (36 : Int))) (need (m < hs1.length) (onSome (List.map hi hs1)[0 + m]? fun row => guardB ((4 + 1).ble row.length) (KB Try.prog (fun x => none) 57 [V.agg tabC, V.agg [V.lst 1 (List.map (fun p => [V.lst 2 (List.map sp p)]) ps), V.sl 0 0 hs1.length]] (Hp.mk [(0, O.rows 5 true ((List.map hi hs1).set (0 + m) (List.take 4 row ++ [iv (↑k : Int)] ++ List.drop 5 row)))] 1) fun v => onLst v fun s es => guardB (s.beq 2 || s.beq 0) (K0 Try.prog 63 [V.lst 2 (sub es 0 es.length)] fun v => onLst v fun s es_1 => ifB ((↑es_1.length : Int) == (0 : Int)) (need ((c.length + 1) * 8 ≤ 140737488355328) (J (St.mk (mkT [(1, iv (↑m : Int)), (2, V.ptr 0 0 0), (7, V.ptr 1 0 0), (8, V.sl 3 0 (c.length + 1)), (27, iv (IntKind.i64.wrap ((↑k : Int) + (1 : Int))))]) (Hp.mk [(3, O.rows 1 true (List.take c.length (il c) ++ [[iv (↑k : Int)]])), (0, O.rows 2 false [[V.lst 1 (List.map (fun p => [V.lst 2 (List.map sp p)]) ps), V.sl 2 0 hs1.length]]), (1, O.rows 108 false [tabC]), (2, O.rows 5 true ((List.map hi hs1).set (0 + m) (List.take 4 row ++ [iv (↑k : Int)] ++ List.drop 5 row)))] 9)))) (J (St.mk (mkT [(1, iv (↑m : Int)), (2, V.ptr 0 0 0), (7, V.ptr 1 0 0), (8, V.sl 3 0 c.length), (27, iv (IntKind.i64.wrap ((↑k : Int) + (1 : Int))))]) (Hp.mk [(3, O.rows 1 true (il c)), (0, O.rows 2 false [[V.lst 1 (List.map (fun p => [V.lst 2 (List.map sp p)]) ps), V.sl 2 0 hs1.length]]), (1, O.rows 108 false [tabC]), (2, O.rows 5 true ((List.map hi hs1).set (0 + m) (List.take 4 row ++ [iv (↑k : Int)] ++ List.drop 5 row)))] 9))))))) (R (V.tup [V.lst 1 (sub (il c) 0 c.length), iv (0 : Int)]))) (by kernel_rfl) ?_
  have hcl : c.length ≤ 36 := by rw [hc]; exact Nat.le_trans (swingsP_le _ _ _) hk
  refine ifB_mk (fun hb => ?_) (fun hb => ?_)
  · have hlt : k < 36 := by simp at hb; omega
    have hml1 : m < hs1.length := by omega
    refine need_mk ⟨hml1, onSome_mk (x := hi (hs1.getD m noHi)) (by rw [Nat.zero_add]; simp [hml1]) (guardB_mk rfl ?_)⟩
    rw [hi_set hml1, hsame]
    have hl1 : hs1.length = (hsa hs0 m (k : Int)).length := by rw [hsa_length]; exact hlen
    rw [hl1]
    have hlb := linB_bent (m := m) (n := (k : Int)) hl (by omega) (by omega)
    obtain ⟨p1, p2⟩ := pans_ok hlb
    refine panelsL57 (ps := ps) (hs := hsa hs0 m (k : Int)) hlb (onLst_lst (guardB_mk rfl ?_))
    rw [sub_all _ rfl]
    refine clashes63 p1 p2 (onLst_lst ?_)
    have hsuc := swingsP_succ (ps, hs0) m k
    rw [show bent (ps, hs0) m (k : Int) = (ps, hsa hs0 m (k : Int)) from rfl] at hsuc
    rw [wr (by omega) (by omega)]
    refine ifB_mk (fun hb2 => need_mk ⟨by omega, ?_⟩) (fun hb2 => ?_)
    · have he : (clashesP (pans (ps, hsa hs0 m (k : Int)))).isEmpty = true := by
        rw [List.length_map] at hb2
        cases hx : clashesP (pans (ps, hsa hs0 m (k : Int))) with
        | nil => rfl
        | cons x y => rw [hx] at hb2; simp at hb2; omega
      rw [if_pos he] at hsuc
      have := hJ (k + 1, c ++ [(k : Int)], hsa hs0 m (k : Int)) ⟨hlt, by simp only; rw [hsuc, hc], hsa_length _ _ _, fun n => hsa_hsa _ _ _ _⟩ (by omega)
      simp only [List.length_append, List.length_singleton] at this
      rw [List.take_of_length_le (by rw [il_length]; exact Nat.le_refl _), show il c ++ [[iv (k : Int)]] = il (c ++ [(k : Int)]) by simp [il]]
      exact this
    · have he : (clashesP (pans (ps, hsa hs0 m (k : Int)))).isEmpty = false := by
        rw [List.length_map] at hb2
        cases hx : clashesP (pans (ps, hsa hs0 m (k : Int))) with
        | nil => rw [hx] at hb2; simp at hb2
        | cons x y => rfl
      rw [he] at hsuc
      rw [if_neg (by decide), List.append_nil] at hsuc
      exact hJ (k + 1, c, hsa hs0 m (k : Int)) ⟨hlt, by simp only; rw [hsuc, hc], hsa_length _ _ _, fun n => hsa_hsa _ _ _ _⟩ (by omega)
  · have he : k = 36 := by simp at hb; omega
    subst he
    rw [sub_all _ (by rw [il_length]), hc]; exact h
end Go.Proofs.Ytahoindkdkhpmaa
