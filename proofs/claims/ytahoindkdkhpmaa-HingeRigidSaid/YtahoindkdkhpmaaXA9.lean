/- A9: a part of the proof. -/
import Derived.Test.YtahoindkdkhpmaaXA8
namespace Go.Proofs.Ytahoindkdkhpmaa
open Go Go.Proofs.Ytahoindkdkhpmaa.Clean
set_option linter.unusedVariables false
set_option linter.unusedSimpArgs false
set_option maxRecDepth 20000

theorem sp_x {l : List Sp} {i : Nat} {s : Sp} {k : Int → Prop} (h : l[i]? = some s) (hk : k s.1) : onSome (List.map sp l)[i]? fun row => onSome row[0]? fun v => onIntK .i64 v k := onSome_mk (x := sp s) (by simp [h]) hk
theorem sp_y {l : List Sp} {i : Nat} {s : Sp} {k : Int → Prop} (h : l[i]? = some s) (hk : k s.2) : onSome (List.map sp l)[i]? fun row => onSome row[1]? fun v => onIntK .i64 v k := onSome_mk (x := sp s) (by simp [h]) hk
theorem po_d {l : List Po} {i : Nat} {s : Po} {k : Int → Prop} (h : l[i]? = some s) (hk : k s.2.2.2.2) : onSome (List.map po l)[i]? fun row => onSome row[4]? fun v => onIntK .i64 v k := onSome_mk (x := po s) (by simp [h]) hk
theorem hi_a {l : List Hi} {i : Nat} {x : Hi} {k : Int → Int → Prop} (h : l[i]? = some x) (hk : k x.1.1 x.1.2) :
    onSome (List.map hi l)[i]? fun row => onCons (List.drop 0 row) fun u r => onIntK .i64 u fun a => onCons r fun u r => onIntK .i64 u fun b => k a b := onSome_mk (x := hi x) (by simp [h]) hk
theorem hi_b {l : List Hi} {i : Nat} {x : Hi} {k : Int → Int → Prop} (h : l[i]? = some x) (hk : k x.2.1.1 x.2.1.2) :
    onSome (List.map hi l)[i]? fun row => onCons (List.drop 2 row) fun u r => onIntK .i64 u fun a => onCons r fun u r => onIntK .i64 u fun b => k a b := onSome_mk (x := hi x) (by simp [h]) hk
theorem dist_alg {P Q D a b c d X Y : Int} (h : P * P + Q * Q = D * D) :
    (P * a - Q * b + X - (P * c - Q * d + X)) * (P * a - Q * b + X - (P * c - Q * d + X)) + (Q * a + P * b + Y - (Q * c + P * d + Y)) * (Q * a + P * b + Y - (Q * c + P * d + Y)) = D * D * ((a - c) * (a - c) + (b - d) * (b - d)) := by
  rw [← h]; grind
theorem hold_alg {g D' X' pq1 R x D c : Int} (h0 : 1 ≤ g) (hD : R * D = g * D') (hX : R * x - (g * pq1) = g * X') : x * D' = (pq1 + X') * D := by
  have h1 : g * (x * D') = g * ((pq1 + X') * D) := by
    have : g * (x * D') = x * (R * D) := by rw [hD]; grind
    rw [this]
    have : g * ((pq1 + X') * D) = (g * pq1 + g * X') * D := by grind
    rw [this, ← hX]; grind
  exact Int.eq_of_mul_eq_mul_left (by omega) h1
theorem law8 {l : Li} {R : V → Prop} (h : R (bv true)) : K0 Try.prog 8 [.agg (lk l)] R := by
  refine K0_of_W0 (kps := kp8) hA hmH Try.func8 (see (p := K0 Try.prog 15 [V.agg [V.lst 1 (List.map (fun p => [V.lst 2 (List.map sp p)]) l.1), V.lst 5 (List.map hi l.2)]] fun v => onBool v fun b => ifB b (R (bv true)) (K0 Try.prog 21 [V.agg [V.lst 1 (List.map (fun p => [V.lst 2 (List.map sp p)]) l.1), V.lst 5 (List.map hi l.2)]] fun v => onTup v fun vs => onCons vs fun u r => onLst u fun s es => onCons r fun u r => onIntK IntKind.i64 u fun n => onNil r (ifB (n != (0 : Int)) (R (bv ((↑es.length : Int) == (0 : Int)))) (ifB ((↑es.length : Int) != (↑(List.map (fun p => [V.lst 2 (List.map sp p)]) l.1).length : Int)) (R (bv false)) (need (s = 5) (onSome es[0]? fun row => onCons (List.drop 0 row) fun u r => onIntK IntKind.i64 u fun n => onCons r fun u r => onIntK IntKind.i64 u fun n_1 => onCons r fun u r => onIntK IntKind.i64 u fun n_2 => onCons r fun u r => onIntK IntKind.i64 u fun n_3 => onCons r fun u r => onIntK IntKind.i64 u fun n_4 => ifB (!(fun b => n == (1 : Int) && b) ((fun b => n_1 == (0 : Int) && b) ((fun b => n_2 == (0 : Int) && b) ((fun b => n_3 == (0 : Int) && b) ((fun b => n_4 == (1 : Int) && b) true))))) (R (bv false)) (Lp (kp8 0) (W Try.prog CA 253 kp8 0 (cdAt [1, 1, 1, 1, 1, 1, 0, 1, 0, 0] (bodyOf Try.f8))) (Qblk 0 (Qseq (W Try.prog CA 253 kp8 0 (cdAt [1, 1, 1, 1, 1, 1, 1] (bodyOf Try.f8))) (Qend0 Try.prog Try.f8 R))) (St.mk (mkT [(1, V.ptr 0 0 0), (3, bv true), (4, V.lst s es), (49, V.lst s es), (50, iv (↑es.length : Int)), (51, iv (0 : Int))]) (Hp.mk [(0, O.rows 2 true [[V.lst 1 (List.map (fun p => [V.lst 2 (List.map sp p)]) l.1), V.lst 5 (List.map hi l.2)]])] 1))))))))) (by kernel_rfl) ?_)
  refine great15 (l := l) (onBool_bv (ifB_mk (fun _ => h) (fun hg => ?_)))
  have hs := greatB_sz hg
  refine poses21 (l := l) hs ?_
  cases hl : linB l with
  | false => exact onTup_tup (onCons_cons (onLst_nil (onCons_cons (onIntK_iv (onNil_nil (ifB_mk (fun _ => h) (fun hc => by simp at hc)))))))
  | true =>
  obtain ⟨h1, h2, h3, h4, h5⟩ := linB_ok hl
  refine onTup_tup (onCons_cons (onLst_lst (onCons_cons (onIntK_iv (onNil_nil (ifB_mk (fun hc => by simp at hc) (fun _ => ?_)))))))
  refine ifB_mk (fun hc => by simp [pzs_length] at hc; omega) (fun _ => need_mk ⟨rfl, ?_⟩)
  obtain ⟨z, hz⟩ : ∃ z, z = pzs l.2 := ⟨_, rfl⟩
  have hzl : z.length = l.1.length := by rw [hz, pzs_length]; exact h3
  rw [← hz]
  refine po_at (x := (1, 0, 0, 0, 1)) (by rw [hz]; exact pzs_get (Nat.zero_le _)) (ifB_mk (fun hc => by simp at hc) (fun _ => ?_))
  refine Lp.of (σ := Nat) (fun s => ⟨mkT [(1, .ptr 0 0 0), (3, bv true), (4, .lst 5 (z.map po)), (49, .lst 5 (z.map po)), (50, iv ((z.map po).length : Int)), (51, iv (s : Int))], ⟨[(0, .rows 2 true [lk l])], 1⟩⟩) (fun s => s ≤ l.1.length) (fun s => l.1.length - s) 0 (by kernel_rfl) (Nat.zero_le _) ?_
  intro i hi' J hJ
  refine see (p := ifB (decide ((↑i : Int) < (↑(List.map po z).length : Int))) (onSome (List.map po z)[i]? fun row => onCons (List.drop 0 row) fun u r => onIntK IntKind.i64 u fun n => onCons r fun u r => onIntK IntKind.i64 u fun n_1 => onCons r fun u r => onIntK IntKind.i64 u fun n_2 => onCons r fun u r => onIntK IntKind.i64 u fun n_3 => onCons r fun u r => onIntK IntKind.i64 u fun n_4 => ifB (decide (n_4 < (1 : Int))) (R (bv false)) (ifB (IntKind.i64.wrap (IntKind.i64.wrap (n * n) + IntKind.i64.wrap (n_1 * n_1)) != IntKind.i64.wrap (n_4 * n_4)) (R (bv false)) (K0 Try.prog 26 [V.agg [V.lst 1 (List.map (fun p => [V.lst 2 (List.map sp p)]) l.1), V.lst 5 (List.map hi l.2)], iv (↑i : Int)] fun v => onTup v fun vs => onCons vs fun u r => onLst u fun s es => onCons r fun u r => onIntK IntKind.i64 u fun n_5 => onCons r fun u r => onIntK IntKind.i64 u fun n_6 => onNil r (ifB (n_6 != (0 : Int)) (R (bv false)) (ifB (n_5 != n_4) (R (bv false)) (onSome (List.map (fun p => [V.lst 2 (List.map sp p)]) l.1)[i]? fun row => onSome row[0]? fun v => onLst v fun s_1 es_1 => ifB ((↑es.length : Int) != (↑es_1.length : Int)) (R (bv false)) (Lp (kp8 2) (W Try.prog CA 253 kp8 2 (cdAt [1, 1, 1, 1, 1, 1, 0, 1, 0, 0, 1, 1, 0, 0, 1, 1, 1, 1, 0, 1, 0, 0] (bodyOf Try.f8))) (Qblk 2 (Qseq (W Try.prog CA 253 kp8 1 (cdAt [1, 1, 1, 1, 1, 1, 0, 1, 0, 0, 1, 1, 0, 0, 1, 1, 1, 1, 1] (bodyOf Try.f8))) (Qblk 1 (Qseq (W Try.prog CA 253 kp8 0 (cdAt [1, 1, 1, 1, 1, 1, 0, 1, 0, 0, 1, 1, 1] (bodyOf Try.f8))) (Qlp (kp8 0) J (Qblk 0 (Qseq (W Try.prog CA 253 kp8 0 (cdAt [1, 1, 1, 1, 1, 1, 1] (bodyOf Try.f8))) (Qend0 Try.prog Try.f8 R)))))))) (St.mk (mkT [(1, V.ptr 0 0 0), (3, bv true), (4, V.lst 5 (List.map po z)), (6, iv (↑i : Int)), (7, V.ptr 1 0 0), (8, V.lst s es), (9, iv n_5), (49, V.lst 5 (List.map po z)), (50, iv (↑(List.map po z).length : Int)), (51, iv (↑i : Int)), (105, iv (↑es.length : Int)), (106, iv (0 : Int))]) (Hp.mk [(0, O.rows 2 true [[V.lst 1 (List.map (fun p => [V.lst 2 (List.map sp p)]) l.1), V.lst 5 (List.map hi l.2)]]), (1, O.rows 5 true [[iv n, iv n_1, iv n_2, iv n_3, iv n_4]])] 2))))))))) (R (bv true))) (by kernel_rfl) ?_
  refine ifB_mk (fun hb => ?_) (fun _ => h)
  have hlt : i < l.1.length := by simp at hb; omega
  obtain ⟨x, hxx⟩ : ∃ x, x = pz l.2 i := ⟨_, rfl⟩
  have hx := pz_good h5 i (by omega)
  have gx : z[i]? = some x := by rw [hz, hxx]; exact pzs_get (by omega)
  rw [← hxx] at hx
  have ox := hx.ok (by omega)
  obtain ⟨p, hp⟩ : ∃ p, p = l.1.getD i [] := ⟨_, rfl⟩
  have hpg : l.1[i]? = some p := by rw [hp]; exact pan_getD hlt
  have hpo := panB_ok (h4 p (List.mem_of_getElem? hpg))
  obtain ⟨c, hc⟩ : ∃ c, c = p.map (place x) := ⟨_, rfl⟩
  have hcl : c.length = p.length := by rw [hc, List.length_map]
  have dle : x.2.2.2.2 ≤ 15625 := hx.dle (by omega)
  have d1 := hx.d1
  refine po_at gx (ifB_mk (fun hc => absurd d1 (by simp at hc; omega)) (fun _ => ?_))
  rw [(ox.p.mul ox.p).wr, (ox.q.mul ox.q).wr, (ox.d.mul ox.d).wr, ((ox.p.mul ox.p).add (ox.q.mul ox.q)).wr]
  refine ifB_mk (fun hc => absurd hx.sq (by simpa using hc)) (fun _ => ?_)
  refine corners26 (l := l) hs ?_
  unfold cornR
  rw [if_pos hl, if_pos (win_iff.2 (by omega)), Int.toNat_natCast, ← hxx, ← hp]
  have hpa : (panAt x p).1 = c := hc.symm
  rw [hpa]
  refine onTup_tup (onCons_cons (onLst_lst (onCons_cons (onIntK_iv (onCons_cons (onIntK_iv (onNil_nil (ifB_mk (fun hc => by simp at hc) (fun _ => ?_)))))))))
  refine ifB_mk (fun hc => by simp at hc) (fun _ => row_at hpg (ifB_mk (fun hc => by simp [hcl] at hc) (fun _ => ?_)))
  refine Lp.of (σ := Nat) (fun s => ⟨mkT [(1, .ptr 0 0 0), (3, bv true), (4, .lst 5 (z.map po)), (6, iv (i : Int)), (7, .ptr 1 0 0), (8, .lst 2 (c.map sp)), (9, iv x.2.2.2.2), (49, .lst 5 (z.map po)), (50, iv ((z.map po).length : Int)), (51, iv (i : Int)), (105, iv ((c.map sp).length : Int)), (106, iv (s : Int))], ⟨[(0, .rows 2 true [lk l]), (1, .rows 5 true [po x])], 2⟩⟩) (fun s => s ≤ p.length) (fun s => p.length - s) 0 (by kernel_rfl) (Nat.zero_le _) ?_
  intro j hj J1 hJ1
  refine see (p := ifB (decide ((↑j : Int) < (↑(List.map sp c).length : Int))) (Lp (kp8 4) (W Try.prog CA 253 kp8 4 (cdAt [1, 1, 1, 1, 1, 1, 0, 1, 0, 0, 1, 1, 0, 0, 1, 1, 1, 1, 0, 1, 0, 0, 1, 1, 0, 0, 1, 1, 0, 0] (bodyOf Try.f8))) (Qblk 4 (Qblk 3 (Qseq (W Try.prog CA 253 kp8 2 (cdAt [1, 1, 1, 1, 1, 1, 0, 1, 0, 0, 1, 1, 0, 0, 1, 1, 1, 1, 0, 1, 0, 0, 1, 1, 1] (bodyOf Try.f8))) (Qlp (kp8 2) J1 (Qblk 2 (Qseq (W Try.prog CA 253 kp8 1 (cdAt [1, 1, 1, 1, 1, 1, 0, 1, 0, 0, 1, 1, 0, 0, 1, 1, 1, 1, 1] (bodyOf Try.f8))) (Qblk 1 (Qseq (W Try.prog CA 253 kp8 0 (cdAt [1, 1, 1, 1, 1, 1, 0, 1, 0, 0, 1, 1, 1] (bodyOf Try.f8))) (Qlp (kp8 0) J (Qblk 0 (Qseq (W Try.prog CA 253 kp8 0 (cdAt [1, 1, 1, 1, 1, 1, 1] (bodyOf Try.f8))) (Qend0 Try.prog Try.f8 R)))))))))))) (St.mk (mkT [(1, V.ptr 0 0 0), (3, bv true), (4, V.lst 5 (List.map po z)), (6, iv (↑i : Int)), (7, V.ptr 1 0 0), (8, V.lst 2 (List.map sp c)), (9, iv x.2.2.2.2), (11, iv (↑j : Int)), (49, V.lst 5 (List.map po z)), (50, iv (↑(List.map po z).length : Int)), (51, iv (↑i : Int)), (105, iv (↑(List.map sp c).length : Int)), (106, iv (↑j : Int)), (110, iv (↑(List.map sp c).length : Int)), (111, iv (0 : Int))]) (Hp.mk [(0, O.rows 2 true [[V.lst 1 (List.map (fun p => [V.lst 2 (List.map sp p)]) l.1), V.lst 5 (List.map hi l.2)]]), (1, O.rows 5 true [[iv x.1, iv x.2.1, iv x.2.2.1, iv x.2.2.2.1, iv x.2.2.2.2]])] 2))) (ifB ((↑i : Int) == (0 : Int)) (J (St.mk (mkT [(1, V.ptr 0 0 0), (3, bv true), (4, V.lst 5 (List.map po z)), (49, V.lst 5 (List.map po z)), (50, iv (↑(List.map po z).length : Int)), (51, iv (IntKind.i64.wrap ((↑i : Int) + (1 : Int))))]) (Hp.mk [(0, O.rows 2 true [[V.lst 1 (List.map (fun p => [V.lst 2 (List.map sp p)]) l.1), V.lst 5 (List.map hi l.2)]])] 1))) (onNat (IntKind.i64.wrap ((↑i : Int) - (1 : Int))) fun m => onSome (List.map po z)[m]? fun row => onCons (List.drop 0 row) fun u r => onIntK IntKind.i64 u fun n => onCons r fun u r => onIntK IntKind.i64 u fun n_1 => onCons r fun u r => onIntK IntKind.i64 u fun n_2 => onCons r fun u r => onIntK IntKind.i64 u fun n_3 => onCons r fun u r => onIntK IntKind.i64 u fun n_4 => onNat (IntKind.i64.wrap ((↑i : Int) - (1 : Int))) fun m => onSome (List.map hi l.2)[m]? fun row => onCons (List.drop 0 row) fun u r => onIntK IntKind.i64 u fun n_5 => onCons r fun u r => onIntK IntKind.i64 u fun n_6 => onNat (IntKind.i64.wrap ((↑i : Int) - (1 : Int))) fun m => onSome (List.map hi l.2)[m]? fun row => onCons (List.drop 2 row) fun u r => onIntK IntKind.i64 u fun n_7 => onCons r fun u r => onIntK IntKind.i64 u fun n_8 => K0 Try.prog 45 [V.agg [iv n, iv n_1, iv n_2, iv n_3, iv n_4], V.agg [iv n_5, iv n_6]] fun v => onAgg v fun cs => onCons cs fun u r => onIntK IntKind.i64 u fun n => onCons r fun u r => onIntK IntKind.i64 u fun n_9 => onNil r (K0 Try.prog 45 [V.agg [iv x.1, iv x.2.1, iv x.2.2.1, iv x.2.2.2.1, iv x.2.2.2.2], V.agg [iv n_7, iv n_8]] fun v => onAgg v fun cs => onCons cs fun u r => onIntK IntKind.i64 u fun n_10 => onCons r fun u r => onIntK IntKind.i64 u fun n_11 => onNil r (onNat (IntKind.i64.wrap ((↑i : Int) - (1 : Int))) fun m => onSome (List.map po z)[m]? fun row => onSome row[4]? fun v => onIntK IntKind.i64 v fun n_12 => ifB (IntKind.i64.wrap (n * x.2.2.2.2) != IntKind.i64.wrap (n_10 * n_12)) (R (bv false)) (onNat (IntKind.i64.wrap ((↑i : Int) - (1 : Int))) fun m => onSome (List.map po z)[m]? fun row => onSome row[4]? fun v => onIntK IntKind.i64 v fun n => ifB (IntKind.i64.wrap (n_9 * x.2.2.2.2) != IntKind.i64.wrap (n_11 * n)) (R (bv false)) (J (St.mk (mkT [(1, V.ptr 0 0 0), (3, bv true), (4, V.lst 5 (List.map po z)), (49, V.lst 5 (List.map po z)), (50, iv (↑(List.map po z).length : Int)), (51, iv (IntKind.i64.wrap ((↑i : Int) + (1 : Int))))]) (Hp.mk [(0, O.rows 2 true [[V.lst 1 (List.map (fun p => [V.lst 2 (List.map sp p)]) l.1), V.lst 5 (List.map hi l.2)]])] 1))))))))) (by kernel_rfl) ?_
  refine ifB_mk (fun hb1 => ?_) (fun _ => ?_)
  · have hjl : j < p.length := by simp at hb1; omega
    refine Lp.of (σ := Nat) (fun s => ⟨mkT [(1, .ptr 0 0 0), (3, bv true), (4, .lst 5 (z.map po)), (6, iv (i : Int)), (7, .ptr 1 0 0), (8, .lst 2 (c.map sp)), (9, iv x.2.2.2.2), (11, iv (j : Int)), (49, .lst 5 (z.map po)), (50, iv ((z.map po).length : Int)), (51, iv (i : Int)), (105, iv ((c.map sp).length : Int)), (106, iv (j : Int)), (110, iv ((c.map sp).length : Int)), (111, iv (s : Int))], ⟨[(0, .rows 2 true [lk l]), (1, .rows 5 true [po x])], 2⟩⟩) (fun s => s ≤ p.length) (fun s => p.length - s) 0 (by kernel_rfl) (Nat.zero_le _) ?_
    intro k hk J2 hJ2
    refine see (p := ifB (decide ((↑k : Int) < (↑(List.map sp c).length : Int))) (onSome (List.map sp c)[j]? fun row => onSome row[0]? fun v => onIntK IntKind.i64 v fun n => onSome (List.map sp c)[k]? fun row => onSome row[0]? fun v => onIntK IntKind.i64 v fun n_1 => onSome (List.map sp c)[j]? fun row => onSome row[1]? fun v => onIntK IntKind.i64 v fun n_2 => onSome (List.map sp c)[k]? fun row => onSome row[1]? fun v => onIntK IntKind.i64 v fun n_3 => onSome (List.map (fun p => [V.lst 2 (List.map sp p)]) l.1)[i]? fun row => onSome row[0]? fun v => onLst v fun s es => need (s = 2) (onSome es[j]? fun row => onSome row[0]? fun v => onIntK IntKind.i64 v fun n_4 => onSome (List.map (fun p => [V.lst 2 (List.map sp p)]) l.1)[i]? fun row => onSome row[0]? fun v => onLst v fun s es => need (s = 2) (onSome es[k]? fun row => onSome row[0]? fun v => onIntK IntKind.i64 v fun n_5 => onSome (List.map (fun p => [V.lst 2 (List.map sp p)]) l.1)[i]? fun row => onSome row[0]? fun v => onLst v fun s es => need (s = 2) (onSome es[j]? fun row => onSome row[1]? fun v => onIntK IntKind.i64 v fun n_6 => onSome (List.map (fun p => [V.lst 2 (List.map sp p)]) l.1)[i]? fun row => onSome row[0]? fun v => onLst v fun s es => need (s = 2) (onSome es[k]? fun row => onSome row[1]? fun v => onIntK IntKind.i64 v fun n_7 => ifB (IntKind.i64.wrap (IntKind.i64.wrap (IntKind.i64.wrap (n - n_1) * IntKind.i64.wrap (n - n_1)) + IntKind.i64.wrap (IntKind.i64.wrap (n_2 - n_3) * IntKind.i64.wrap (n_2 - n_3))) != IntKind.i64.wrap (IntKind.i64.wrap (x.2.2.2.2 * x.2.2.2.2) * IntKind.i64.wrap (IntKind.i64.wrap (IntKind.i64.wrap (n_4 - n_5) * IntKind.i64.wrap (n_4 - n_5)) + IntKind.i64.wrap (IntKind.i64.wrap (n_6 - n_7) * IntKind.i64.wrap (n_6 - n_7))))) (R (bv false)) (J2 (St.mk (mkT [(1, V.ptr 0 0 0), (3, bv true), (4, V.lst 5 (List.map po z)), (6, iv (↑i : Int)), (7, V.ptr 1 0 0), (8, V.lst 2 (List.map sp c)), (9, iv x.2.2.2.2), (11, iv (↑j : Int)), (49, V.lst 5 (List.map po z)), (50, iv (↑(List.map po z).length : Int)), (51, iv (↑i : Int)), (105, iv (↑(List.map sp c).length : Int)), (106, iv (↑j : Int)), (110, iv (↑(List.map sp c).length : Int)), (111, iv (IntKind.i64.wrap ((↑k : Int) + (1 : Int))))]) (Hp.mk [(0, O.rows 2 true [[V.lst 1 (List.map (fun p => [V.lst 2 (List.map sp p)]) l.1), V.lst 5 (List.map hi l.2)]]), (1, O.rows 5 true [[iv x.1, iv x.2.1, iv x.2.2.1, iv x.2.2.2.1, iv x.2.2.2.2]])] 2)))))))) (J1 (St.mk (mkT [(1, V.ptr 0 0 0), (3, bv true), (4, V.lst 5 (List.map po z)), (6, iv (↑i : Int)), (7, V.ptr 1 0 0), (8, V.lst 2 (List.map sp c)), (9, iv x.2.2.2.2), (49, V.lst 5 (List.map po z)), (50, iv (↑(List.map po z).length : Int)), (51, iv (↑i : Int)), (105, iv (↑(List.map sp c).length : Int)), (106, iv (IntKind.i64.wrap ((↑j : Int) + (1 : Int))))]) (Hp.mk [(0, O.rows 2 true [[V.lst 1 (List.map (fun p => [V.lst 2 (List.map sp p)]) l.1), V.lst 5 (List.map hi l.2)]]), (1, O.rows 5 true [[iv x.1, iv x.2.1, iv x.2.2.1, iv x.2.2.2.1, iv x.2.2.2.2]])] 2)))) (by kernel_rfl) ?_
    refine ifB_mk (fun hb2 => ?_) (fun _ => ?_)
    · have hkl : k < p.length := by simp at hb2; omega
      obtain ⟨a, ha⟩ : ∃ a, a = p[j] := ⟨_, rfl⟩
      obtain ⟨b, hb'⟩ : ∃ b, b = p[k] := ⟨_, rfl⟩
      have pa : p[j]? = some a := by rw [ha]; exact List.getElem?_eq_getElem hjl
      have pb : p[k]? = some b := by rw [hb']; exact List.getElem?_eq_getElem hkl
      have ca : c[j]? = some (place x a) := by rw [hc, List.getElem?_map, pa]; rfl
      have cb : c[k]? = some (place x b) := by rw [hc, List.getElem?_map, pb]; rfl
      have sa := hpo.2.2.1 a (List.mem_of_getElem? pa)
      have sb := hpo.2.2.1 b (List.mem_of_getElem? pb)
      refine sp_x ca (sp_x cb (sp_y ca (sp_y cb (row_at hpg (need_mk ⟨rfl, sp_x pa (row_at hpg (need_mk ⟨rfl, sp_x pb (row_at hpg (need_mk ⟨rfl, sp_y pa (row_at hpg (need_mk ⟨rfl, sp_y pb ?_⟩))⟩))⟩))⟩)))))
      have ba := place_bd ox.p ox.q ox.x ox.y sa.1 sa.2
      have bb := place_bd ox.p ox.q ox.x ox.y sb.1 sb.2
      have u1 := ba.1.sub bb.1
      have u2 := ba.2.sub bb.2
      have v1 := sa.1.sub sb.1
      have v2 := sa.2.sub sb.2
      rw [u1.wr, u2.wr, v1.wr, v2.wr, (u1.mul u1).wr, (u2.mul u2).wr, (v1.mul v1).wr, (v2.mul v2).wr, ((u1.mul u1).add (u2.mul u2)).wr, ((v1.mul v1).add (v2.mul v2)).wr, (ox.d.mul ox.d).wr, ((ox.d.mul ox.d).mul ((v1.mul v1).add (v2.mul v2))).wr]
      refine ifB_mk (fun hc => absurd (dist_alg (a := a.1) (b := a.2) (c := b.1) (d := b.2) (X := x.2.2.1) (Y := x.2.2.2.1) hx.sq) (by simpa [place] using hc)) (fun _ => ?_)
      rw [wr (by omega) (by omega)]
      exact hJ2 (k + 1) hkl (by omega)
    · rw [wr (by omega) (by omega)]
      exact hJ1 (j + 1) hjl (by omega)
  · refine ifB_mk (fun _ => ?_) (fun hi0 => ?_)
    · rw [wr (by omega) (by omega)]
      exact hJ (i + 1) hlt (by omega)
    · obtain ⟨m, rfl⟩ : ∃ m, i = m + 1 := ⟨i - 1, by simp at hi0; omega⟩
      have hm : m < l.2.length := by omega
      have wm : IntKind.i64.wrap (((m + 1 : Nat) : Int) - 1) = (m : Int) := by rw [wr (by omega) (by omega)]; omega
      obtain ⟨k1, k2, k3⟩ := hi_getD_ok h5 hm
      have hy := pz_good h5 m (by omega)
      have ht := angT_ok (l.2.getD m noHi).2.2
      obtain ⟨g, hg1, hgs⟩ := (low_good (swing_good hy k1 ht)).2
      rw [show lowP (swingP (pz l.2 m) (l.2.getD m noHi) (angT (l.2.getD m noHi).2.2)) = x from hxx.symm] at hgs
      obtain ⟨t, htt⟩ : ∃ t, t = angT (l.2.getD m noHi).2.2 := ⟨_, rfl⟩
      obtain ⟨y, hyy⟩ : ∃ y, y = pz l.2 m := ⟨_, rfl⟩
      obtain ⟨q, hq⟩ : ∃ q, q = l.2.getD m noHi := ⟨_, rfl⟩
      have gy : z[m]? = some y := by rw [hz, hyy]; exact pzs_get (by omega)
      have gq : l.2[m]? = some q := by rw [hq]; exact hi_getD hm
      rw [← hyy] at hy
      rw [← htt, ← hyy, ← hq] at hgs
      rw [← htt] at ht
      rw [← hq] at k1
      have oy := hy.ok (by omega)
      rw [wm]
      refine onNat_mk rfl (po_at gy (onNat_mk rfl (hi_a gq (onNat_mk rfl (hi_b gq ?_)))))
      have ba := place_bd oy.p oy.q oy.x oy.y k1.ax k1.ay
      have bb := place_bd ox.p ox.q ox.x ox.y k1.bx k1.b_y
      refine at45 (p := y) (s := q.1) (oy.p.le (by decide)) (oy.q.le (by decide)) (oy.x.le (by decide)) (oy.y.le (by decide)) k1.ax k1.ay ?_
      refine onAgg_agg (onCons_cons (onIntK_iv (onCons_cons (onIntK_iv (onNil_nil ?_)))))
      refine at45 (p := x) (s := q.2.1) (ox.p.le (by decide)) (ox.q.le (by decide)) (ox.x.le (by decide)) (ox.y.le (by decide)) k1.bx k1.b_y ?_
      refine onAgg_agg (onCons_cons (onIntK_iv (onCons_cons (onIntK_iv (onNil_nil ?_)))))
      have kp : swingP y q t = (g * x.1, g * x.2.1, g * x.2.2.1, g * x.2.2.2.1, g * x.2.2.2.2) := hgs
      simp only [swingP, turnP, place, Prod.mk.injEq] at kp
      obtain ⟨e1, e2, e3, e4, e5⟩ := kp
      rw [e1, e2] at e3 e4
      have r1 : (place y q.1).1 * x.2.2.2.2 = (place x q.2.1).1 * y.2.2.2.2 := by
        refine hold_alg (g := g) (c := 0) (pq1 := x.1 * q.2.1.1 - x.2.1 * q.2.1.2) (X' := x.2.2.1) hg1 e5 ?_
        rw [← e3]; simp only [place]; grind
      have r2 : (place y q.1).2 * x.2.2.2.2 = (place x q.2.1).2 * y.2.2.2.2 := by
        refine hold_alg (g := g) (c := 0) (pq1 := x.2.1 * q.2.1.1 + x.1 * q.2.1.2) (X' := x.2.2.2.1) hg1 e5 ?_
        rw [← e4]; simp only [place]; grind
      refine onNat_mk rfl (po_d gy ?_)
      rw [(ba.1.mul ox.d).wr, (bb.1.mul oy.d).wr]
      refine ifB_mk (fun hc => absurd r1 (by simpa using hc)) (fun _ => onNat_mk rfl (po_d gy ?_))
      rw [(ba.2.mul ox.d).wr, (bb.2.mul oy.d).wr]
      refine ifB_mk (fun hc => absurd r2 (by simpa using hc)) (fun _ => ?_)
      rw [wr (by omega) (by omega)]
      exact hJ (m + 1 + 1) hlt (by omega)
end Go.Proofs.Ytahoindkdkhpmaa
