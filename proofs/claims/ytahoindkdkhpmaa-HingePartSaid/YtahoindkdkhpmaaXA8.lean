/- A8: a part of the proof. -/
import Derived.Test.YtahoindkdkhpmaaXA7
import Derived.Test.YtahoindkdkhpmaaXAL
namespace Go.Proofs.Ytahoindkdkhpmaa
open Go Go.Proofs.Ytahoindkdkhpmaa.Clean
set_option linter.unusedVariables false
set_option linter.unusedSimpArgs false
set_option maxRecDepth 20000

theorem knowsA : ∀ g r, knA g = some r → K0G Try.prog (fun _ => none) g [] fun v => v = r := by
  intro g r h
  by_cases h44 : g = 44
  · subst h44
    cases h
    exact alive44
  · refine knows48 g r ?_
    unfold knA at h
    unfold knH
    split at h
    · exact h
    · exact absurd rfl h44
    · cases h
theorem hA : CA.ok Try.prog := callsM_ok knowsA

/-! the gap -/
theorem gapZ_start (a b : Sp) : gapZ (1, 0, 0, 0, 1) a b = (a.1 - b.1, a.2 - b.2) := by simp [gapZ, place]
theorem law14 {l : Li} {a b : Sp} {R : V → Prop} (h : R (bv true)) : K0 Try.prog 14 [.agg (lk l), .agg (sp a), .agg (sp b)] R := by
  refine K0_of_W0 (kps := kp0) hA hmH Try.func14 (see (p := K0 Try.prog 15 [V.agg [V.lst 1 (List.map (fun p => [V.lst 2 (List.map sp p)]) l.1), V.lst 5 (List.map hi l.2)]] fun v => onBool v fun b_1 => ifB b_1 (R (bv true)) (K0 Try.prog 29 [V.agg [V.lst 1 (List.map (fun p => [V.lst 2 (List.map sp p)]) l.1), V.lst 5 (List.map hi l.2)], V.agg [iv a.1, iv a.2], V.agg [iv b.1, iv b.2]] fun v => onTup v fun vs => onCons vs fun u r => onIntK IntKind.i64 u fun n => onCons r fun u r => onIntK IntKind.i64 u fun n_1 => onCons r fun u r => onIntK IntKind.i64 u fun n_2 => onCons r fun u r => onIntK IntKind.i64 u fun n_3 => onNil r (K0 Try.prog 21 [V.agg [V.lst 1 (List.map (fun p => [V.lst 2 (List.map sp p)]) l.1), V.lst 5 (List.map hi l.2)]] fun v => onTup v fun vs => onCons vs fun u r => onLst u fun s es => onCons r fun u r => onIntK IntKind.i64 u fun n_4 => onNil r (ifB (n_3 != (0 : Int)) (ifB (n == (0 : Int)) (ifB (n_1 == (0 : Int)) (R (bv (n_2 == (0 : Int)))) (R (bv false))) (R (bv false))) (ifB (n_4 != (0 : Int)) (R (bv false)) (ifB ((↑es.length : Int) == (0 : Int)) (R (bv false)) (onNat (IntKind.i64.wrap ((↑es.length : Int) - (1 : Int))) fun m => need (s = 5) (onSome es[m]? fun row => onCons (List.drop 0 row) fun u r => onIntK IntKind.i64 u fun n_5 => onCons r fun u r => onIntK IntKind.i64 u fun n_6 => onCons r fun u r => onIntK IntKind.i64 u fun n_7 => onCons r fun u r => onIntK IntKind.i64 u fun n_8 => onCons r fun u r => onIntK IntKind.i64 u fun n_9 => K0 Try.prog 45 [V.agg [iv n_5, iv n_6, iv n_7, iv n_8, iv n_9], V.agg [iv a.1, iv a.2]] fun v => onAgg v fun cs => onCons cs fun u r => onIntK IntKind.i64 u fun n_10 => onCons r fun u r => onIntK IntKind.i64 u fun n_11 => onNil r (ifB (n_2 == n_9) (ifB (n == IntKind.i64.wrap (n_10 - IntKind.i64.wrap (b.1 * n_2))) (ifB (n_1 == IntKind.i64.wrap (n_11 - IntKind.i64.wrap (b.2 * n_2))) (ifB (decide ((↑es.length : Int) > (1 : Int))) (R (bv true)) (ifB (n == (0 : Int)) (R (bv ((n_1 == (0 : Int)) == (fun b_2 => a.1 == b.1 && b_2) ((fun b_2 => a.2 == b.2 && b_2) true)))) (R (bv (false == (fun b_2 => a.1 == b.1 && b_2) ((fun b_2 => a.2 == b.2 && b_2) true)))))) (R (bv false))) (R (bv false))) (R (bv false))))))))))) (by kernel_rfl) ?_)
  refine great15 (l := l) (onBool_bv (ifB_mk (fun _ => h) (fun hg => ?_)))
  have hs := greatB_sz hg
  refine gap29 (l := l) (a := a) (b := b) hs ?_
  by_cases hp : plcC l a b = 0
  · obtain ⟨hl, ha, hb⟩ := plcC_ok hp
    obtain ⟨h1, h2, h3, h4, h5⟩ := linB_ok hl
    obtain ⟨z, hz⟩ : ∃ z, z = pz l.2 l.2.length := ⟨_, rfl⟩
    have hok : PoOK 16000 20000000 z := by rw [hz]; exact (pz_good h5 l.2.length (Nat.le_refl _)).ok (by omega)
    unfold gapR
    rw [if_pos hp, ← hz]
    refine onTup_tup (onCons_cons (onIntK_iv (onCons_cons (onIntK_iv (onCons_cons (onIntK_iv (onCons_cons (onIntK_iv (onNil_nil ?_)))))))))
    refine poses21 (l := l) hs ?_
    rw [if_pos hl]
    refine onTup_tup (onCons_cons (onLst_lst (onCons_cons (onIntK_iv (onNil_nil ?_)))))
    refine ifB_mk (fun hb => by simp at hb) (fun _ => ifB_mk (fun hb => by simp at hb) (fun _ => ifB_mk (fun hb => by simp [pzs_length] at hb; omega) (fun _ => ?_)))
    refine onNat_mk (m := l.2.length) (by rw [List.length_map, pzs_length, wr (by omega) (by omega)]; omega) (need_mk ⟨rfl, po_at (x := z) (by rw [hz]; exact pzs_get (Nat.le_refl _)) ?_⟩)
    refine at45 (p := z) (s := a) (hok.p.le (by decide)) (hok.q.le (by decide)) (hok.x.le (by decide)) (hok.y.le (by decide)) ha.1 ha.2 ?_
    have b1 := place_bd hok.p hok.q hok.x hok.y ha.1 ha.2
    refine onAgg_agg (onCons_cons (onIntK_iv (onCons_cons (onIntK_iv (onNil_nil ?_)))))
    rw [(hb.1.mul hok.d).wr, (hb.2.mul hok.d).wr, (b1.1.sub (hb.1.mul hok.d)).wr, (b1.2.sub (hb.2.mul hok.d)).wr]
    refine ifB_mk (fun _ => ?_) (fun hc => by simp at hc)
    refine ifB_mk (fun _ => ?_) (fun hc => by simp [gapZ] at hc)
    refine ifB_mk (fun _ => ?_) (fun hc => by simp [gapZ] at hc)
    refine ifB_mk (fun _ => h) (fun hc => ?_)
    have h0 : l.2.length = 0 := by simp [pzs_length] at hc; omega
    have hz0 : z = (1, 0, 0, 0, 1) := by rw [hz, h0]; rfl
    rw [hz0, gapZ_start]
    refine ifB_mk (fun hc => ?_) (fun hc => ?_)
    · have e1 : a.1 = b.1 := by simp at hc; omega
      simp only [e1, beq_self_eq_true, Bool.true_and, Bool.and_true]
      have e3 : (a.2 - b.2 == 0) = (a.2 == b.2) := by rw [Bool.eq_iff_iff]; simp; omega
      rw [e3]
      simpa using h
    · have e1 : (a.1 == b.1) = false := by simp at hc ⊢; omega
      rw [e1]
      simpa using h
  · unfold gapR
    rw [if_neg hp]
    refine onTup_tup (onCons_cons (onIntK_iv (onCons_cons (onIntK_iv (onCons_cons (onIntK_iv (onCons_cons (onIntK_iv (onNil_nil ?_)))))))))
    refine poses21 (l := l) hs ?_
    have fin : ∀ (s : List (List V)) (n : Int), (fun (es : List (List V)) (n_4 : Int) => ifB (plcC l a b != (0 : Int)) (ifB ((0 : Int) == 0) (ifB ((0 : Int) == 0) (R (bv ((0 : Int) == 0))) (R (bv false))) (R (bv false))) True) s n := fun s n => ifB_mk (fun _ => h) (fun _ => trivial)
    cases hl : linB l with
    | false => exact onTup_tup (onCons_cons (onLst_nil (onCons_cons (onIntK_iv (onNil_nil (ifB_mk (fun _ => h) (fun hc => by simp at hc; exact absurd hc hp)))))))
    | true => exact onTup_tup (onCons_cons (onLst_lst (onCons_cons (onIntK_iv (onNil_nil (ifB_mk (fun _ => h) (fun hc => by simp at hc; exact absurd hc hp)))))))

/-! the angles -/
theorem tab_nodup : tabL.Nodup := by decide
theorem angT_inj {n m : Int} (hn : 0 ≤ n) (hn' : n ≤ 35) (hm : 0 ≤ m) (hm' : m ≤ 35) (h : angT n = angT m) : n = m := by
  have hl : tabL.length = 36 := rfl
  have a : n.toNat < tabL.length := by omega
  have b : m.toNat < tabL.length := by omega
  unfold angT at h
  rw [List.getD_eq_getElem?_getD, List.getD_eq_getElem?_getD, List.getElem?_eq_getElem a, List.getElem?_eq_getElem b] at h
  simp only [Option.getD_some] at h
  have := (List.getElem_inj tab_nodup).1 h
  omega
theorem turn_alg {p q r a b X Y D g yP yD : Int} (h1 : a * X - b * Y = g * yP) (h2 : r * D = g * yD) : yP * r * D = (a * X - b * Y) * yD := by
  rw [h1, Int.mul_assoc, h2]; grind
theorem turn_alg2 {p q r a b X Y D g yP yD : Int} (h1 : b * X + a * Y = g * yP) (h2 : r * D = g * yD) : yP * r * D = (b * X + a * Y) * yD := by
  rw [h1, Int.mul_assoc, h2]; grind
/-- An angle's numbers, as the law takes them. -/
theorem angle_pick {n : Int} {k : Int → Int → Int → Int → Prop} (h1 : 0 ≤ n → n ≤ 35 → k (angT n).1 (angT n).2.1 (angT n).2.2 0) (h2 : ¬ (0 ≤ n ∧ n ≤ 35) → k 0 0 0 2) :
    K0 Try.prog 16 [iv n] fun v => onTup v fun vs => onCons vs fun u r => onIntK .i64 u fun a => onCons r fun u r => onIntK .i64 u fun b => onCons r fun u r => onIntK .i64 u fun c => onCons r fun u r => onIntK .i64 u fun e => onNil r (k a b c e) := by
  refine angle16 ?_
  by_cases hw : 0 ≤ n ∧ n ≤ 35
  · rw [if_pos (win_iff.2 hw)]
    exact onTup_tup (onCons_cons (onIntK_iv (onCons_cons (onIntK_iv (onCons_cons (onIntK_iv (onCons_cons (onIntK_iv (onNil_nil (h1 hw.1 hw.2))))))))))
  · rw [if_neg (fun hc => hw (win_iff.1 hc))]
    exact onTup_tup (onCons_cons (onIntK_iv (onCons_cons (onIntK_iv (onCons_cons (onIntK_iv (onCons_cons (onIntK_iv (onNil_nil (h2 hw))))))))))
theorem law9 {l : Li} {n m : Int} {R : V → Prop} (h : R (bv true)) : K0 Try.prog 9 [.agg (lk l), iv n, iv m] R := by
  refine K0_of_W0 (kps := kp9) hA hmH Try.func9 (see (p := K0 Try.prog 16 [iv n] fun v => onTup v fun vs => onCons vs fun u r => onIntK IntKind.i64 u fun n_1 => onCons r fun u r => onIntK IntKind.i64 u fun n_2 => onCons r fun u r => onIntK IntKind.i64 u fun n_3 => onCons r fun u r => onIntK IntKind.i64 u fun n_4 => onNil r (K0 Try.prog 16 [iv m] fun v => onTup v fun vs => onCons vs fun u r => onIntK IntKind.i64 u fun n_5 => onCons r fun u r => onIntK IntKind.i64 u fun n_6 => onCons r fun u r => onIntK IntKind.i64 u fun n_7 => onCons r fun u r => onIntK IntKind.i64 u fun n_8 => onNil r (ifB (n_4 == (0 : Int)) (ifB (decide (n_3 < (1 : Int))) (R (bv false)) (ifB (IntKind.i64.wrap (IntKind.i64.wrap (n_1 * n_1) + IntKind.i64.wrap (n_2 * n_2)) != IntKind.i64.wrap (n_3 * n_3)) (R (bv false)) (ifB (n_4 == (0 : Int)) (ifB (n_8 == (0 : Int)) (ifB (n_1 == n_5) (ifB (n_2 == n_6) (ifB (!(n_3 == n_7) == (n == m)) (R (bv false)) (K0 Try.prog 15 [V.agg [V.lst 1 (List.map (fun p => [V.lst 2 (List.map sp p)]) l.1), V.lst 5 (List.map hi l.2)]] fun v => onBool v fun b => ifB b (R (bv true)) (K0 Try.prog 21 [V.agg [V.lst 1 (List.map (fun p => [V.lst 2 (List.map sp p)]) l.1), V.lst 5 (List.map hi l.2)]] fun v => onTup v fun vs => onCons vs fun u r => onLst u fun s es => onCons r fun u r => onIntK IntKind.i64 u fun n => onNil r (ifB (n != (0 : Int)) (R (bv true)) (Lp (kp9 0) (W Try.prog CA 171 kp9 0 (cdAt [1, 1, 1, 1, 1, 1, 1, 1, 0, 1, 0, 0] (bodyOf Try.f9))) (Qblk 0 (Qseq (W Try.prog CA 171 kp9 0 (cdAt [1, 1, 1, 1, 1, 1, 1, 1, 1] (bodyOf Try.f9))) (Qend0 Try.prog Try.f9 R))) (St.mk (mkT [(7, bv true), (16, V.lst s es), (99, V.lst 5 (List.map hi l.2)), (100, iv (↑(List.map hi l.2).length : Int)), (101, iv (0 : Int))]) (Hp.mk [] 0))))))) (ifB (!false == (n == m)) (R (bv false)) (K0 Try.prog 15 [V.agg [V.lst 1 (List.map (fun p => [V.lst 2 (List.map sp p)]) l.1), V.lst 5 (List.map hi l.2)]] fun v => onBool v fun b => ifB b (R (bv true)) (K0 Try.prog 21 [V.agg [V.lst 1 (List.map (fun p => [V.lst 2 (List.map sp p)]) l.1), V.lst 5 (List.map hi l.2)]] fun v => onTup v fun vs => onCons vs fun u r => onLst u fun s es => onCons r fun u r => onIntK IntKind.i64 u fun n => onNil r (ifB (n != (0 : Int)) (R (bv true)) (Lp (kp9 0) (W Try.prog CA 171 kp9 0 (cdAt [1, 1, 1, 1, 1, 1, 1, 1, 0, 1, 0, 0] (bodyOf Try.f9))) (Qblk 0 (Qseq (W Try.prog CA 171 kp9 0 (cdAt [1, 1, 1, 1, 1, 1, 1, 1, 1] (bodyOf Try.f9))) (Qend0 Try.prog Try.f9 R))) (St.mk (mkT [(7, bv true), (16, V.lst s es), (99, V.lst 5 (List.map hi l.2)), (100, iv (↑(List.map hi l.2).length : Int)), (101, iv (0 : Int))]) (Hp.mk [] 0)))))))) (ifB (!false == (n == m)) (R (bv false)) (K0 Try.prog 15 [V.agg [V.lst 1 (List.map (fun p => [V.lst 2 (List.map sp p)]) l.1), V.lst 5 (List.map hi l.2)]] fun v => onBool v fun b => ifB b (R (bv true)) (K0 Try.prog 21 [V.agg [V.lst 1 (List.map (fun p => [V.lst 2 (List.map sp p)]) l.1), V.lst 5 (List.map hi l.2)]] fun v => onTup v fun vs => onCons vs fun u r => onLst u fun s es => onCons r fun u r => onIntK IntKind.i64 u fun n => onNil r (ifB (n != (0 : Int)) (R (bv true)) (Lp (kp9 0) (W Try.prog CA 171 kp9 0 (cdAt [1, 1, 1, 1, 1, 1, 1, 1, 0, 1, 0, 0] (bodyOf Try.f9))) (Qblk 0 (Qseq (W Try.prog CA 171 kp9 0 (cdAt [1, 1, 1, 1, 1, 1, 1, 1, 1] (bodyOf Try.f9))) (Qend0 Try.prog Try.f9 R))) (St.mk (mkT [(7, bv true), (16, V.lst s es), (99, V.lst 5 (List.map hi l.2)), (100, iv (↑(List.map hi l.2).length : Int)), (101, iv (0 : Int))]) (Hp.mk [] 0)))))))) (K0 Try.prog 15 [V.agg [V.lst 1 (List.map (fun p => [V.lst 2 (List.map sp p)]) l.1), V.lst 5 (List.map hi l.2)]] fun v => onBool v fun b => ifB b (R (bv true)) (K0 Try.prog 21 [V.agg [V.lst 1 (List.map (fun p => [V.lst 2 (List.map sp p)]) l.1), V.lst 5 (List.map hi l.2)]] fun v => onTup v fun vs => onCons vs fun u r => onLst u fun s es => onCons r fun u r => onIntK IntKind.i64 u fun n => onNil r (ifB (n != (0 : Int)) (R (bv true)) (Lp (kp9 0) (W Try.prog CA 171 kp9 0 (cdAt [1, 1, 1, 1, 1, 1, 1, 1, 0, 1, 0, 0] (bodyOf Try.f9))) (Qblk 0 (Qseq (W Try.prog CA 171 kp9 0 (cdAt [1, 1, 1, 1, 1, 1, 1, 1, 1] (bodyOf Try.f9))) (Qend0 Try.prog Try.f9 R))) (St.mk (mkT [(7, bv true), (16, V.lst s es), (99, V.lst 5 (List.map hi l.2)), (100, iv (↑(List.map hi l.2).length : Int)), (101, iv (0 : Int))]) (Hp.mk [] 0))))))) (K0 Try.prog 15 [V.agg [V.lst 1 (List.map (fun p => [V.lst 2 (List.map sp p)]) l.1), V.lst 5 (List.map hi l.2)]] fun v => onBool v fun b => ifB b (R (bv true)) (K0 Try.prog 21 [V.agg [V.lst 1 (List.map (fun p => [V.lst 2 (List.map sp p)]) l.1), V.lst 5 (List.map hi l.2)]] fun v => onTup v fun vs => onCons vs fun u r => onLst u fun s es => onCons r fun u r => onIntK IntKind.i64 u fun n => onNil r (ifB (n != (0 : Int)) (R (bv true)) (Lp (kp9 0) (W Try.prog CA 171 kp9 0 (cdAt [1, 1, 1, 1, 1, 1, 1, 1, 0, 1, 0, 0] (bodyOf Try.f9))) (Qblk 0 (Qseq (W Try.prog CA 171 kp9 0 (cdAt [1, 1, 1, 1, 1, 1, 1, 1, 1] (bodyOf Try.f9))) (Qend0 Try.prog Try.f9 R))) (St.mk (mkT [(7, bv true), (16, V.lst s es), (99, V.lst 5 (List.map hi l.2)), (100, iv (↑(List.map hi l.2).length : Int)), (101, iv (0 : Int))]) (Hp.mk [] 0))))))))) (ifB (n_4 == (0 : Int)) (ifB (n_8 == (0 : Int)) (ifB (n_1 == n_5) (ifB (n_2 == n_6) (ifB (!(n_3 == n_7) == (n == m)) (R (bv false)) (K0 Try.prog 15 [V.agg [V.lst 1 (List.map (fun p => [V.lst 2 (List.map sp p)]) l.1), V.lst 5 (List.map hi l.2)]] fun v => onBool v fun b => ifB b (R (bv true)) (K0 Try.prog 21 [V.agg [V.lst 1 (List.map (fun p => [V.lst 2 (List.map sp p)]) l.1), V.lst 5 (List.map hi l.2)]] fun v => onTup v fun vs => onCons vs fun u r => onLst u fun s es => onCons r fun u r => onIntK IntKind.i64 u fun n => onNil r (ifB (n != (0 : Int)) (R (bv true)) (Lp (kp9 0) (W Try.prog CA 171 kp9 0 (cdAt [1, 1, 1, 1, 1, 1, 1, 1, 0, 1, 0, 0] (bodyOf Try.f9))) (Qblk 0 (Qseq (W Try.prog CA 171 kp9 0 (cdAt [1, 1, 1, 1, 1, 1, 1, 1, 1] (bodyOf Try.f9))) (Qend0 Try.prog Try.f9 R))) (St.mk (mkT [(7, bv true), (16, V.lst s es), (99, V.lst 5 (List.map hi l.2)), (100, iv (↑(List.map hi l.2).length : Int)), (101, iv (0 : Int))]) (Hp.mk [] 0))))))) (ifB (!false == (n == m)) (R (bv false)) (K0 Try.prog 15 [V.agg [V.lst 1 (List.map (fun p => [V.lst 2 (List.map sp p)]) l.1), V.lst 5 (List.map hi l.2)]] fun v => onBool v fun b => ifB b (R (bv true)) (K0 Try.prog 21 [V.agg [V.lst 1 (List.map (fun p => [V.lst 2 (List.map sp p)]) l.1), V.lst 5 (List.map hi l.2)]] fun v => onTup v fun vs => onCons vs fun u r => onLst u fun s es => onCons r fun u r => onIntK IntKind.i64 u fun n => onNil r (ifB (n != (0 : Int)) (R (bv true)) (Lp (kp9 0) (W Try.prog CA 171 kp9 0 (cdAt [1, 1, 1, 1, 1, 1, 1, 1, 0, 1, 0, 0] (bodyOf Try.f9))) (Qblk 0 (Qseq (W Try.prog CA 171 kp9 0 (cdAt [1, 1, 1, 1, 1, 1, 1, 1, 1] (bodyOf Try.f9))) (Qend0 Try.prog Try.f9 R))) (St.mk (mkT [(7, bv true), (16, V.lst s es), (99, V.lst 5 (List.map hi l.2)), (100, iv (↑(List.map hi l.2).length : Int)), (101, iv (0 : Int))]) (Hp.mk [] 0)))))))) (ifB (!false == (n == m)) (R (bv false)) (K0 Try.prog 15 [V.agg [V.lst 1 (List.map (fun p => [V.lst 2 (List.map sp p)]) l.1), V.lst 5 (List.map hi l.2)]] fun v => onBool v fun b => ifB b (R (bv true)) (K0 Try.prog 21 [V.agg [V.lst 1 (List.map (fun p => [V.lst 2 (List.map sp p)]) l.1), V.lst 5 (List.map hi l.2)]] fun v => onTup v fun vs => onCons vs fun u r => onLst u fun s es => onCons r fun u r => onIntK IntKind.i64 u fun n => onNil r (ifB (n != (0 : Int)) (R (bv true)) (Lp (kp9 0) (W Try.prog CA 171 kp9 0 (cdAt [1, 1, 1, 1, 1, 1, 1, 1, 0, 1, 0, 0] (bodyOf Try.f9))) (Qblk 0 (Qseq (W Try.prog CA 171 kp9 0 (cdAt [1, 1, 1, 1, 1, 1, 1, 1, 1] (bodyOf Try.f9))) (Qend0 Try.prog Try.f9 R))) (St.mk (mkT [(7, bv true), (16, V.lst s es), (99, V.lst 5 (List.map hi l.2)), (100, iv (↑(List.map hi l.2).length : Int)), (101, iv (0 : Int))]) (Hp.mk [] 0)))))))) (K0 Try.prog 15 [V.agg [V.lst 1 (List.map (fun p => [V.lst 2 (List.map sp p)]) l.1), V.lst 5 (List.map hi l.2)]] fun v => onBool v fun b => ifB b (R (bv true)) (K0 Try.prog 21 [V.agg [V.lst 1 (List.map (fun p => [V.lst 2 (List.map sp p)]) l.1), V.lst 5 (List.map hi l.2)]] fun v => onTup v fun vs => onCons vs fun u r => onLst u fun s es => onCons r fun u r => onIntK IntKind.i64 u fun n => onNil r (ifB (n != (0 : Int)) (R (bv true)) (Lp (kp9 0) (W Try.prog CA 171 kp9 0 (cdAt [1, 1, 1, 1, 1, 1, 1, 1, 0, 1, 0, 0] (bodyOf Try.f9))) (Qblk 0 (Qseq (W Try.prog CA 171 kp9 0 (cdAt [1, 1, 1, 1, 1, 1, 1, 1, 1] (bodyOf Try.f9))) (Qend0 Try.prog Try.f9 R))) (St.mk (mkT [(7, bv true), (16, V.lst s es), (99, V.lst 5 (List.map hi l.2)), (100, iv (↑(List.map hi l.2).length : Int)), (101, iv (0 : Int))]) (Hp.mk [] 0))))))) (K0 Try.prog 15 [V.agg [V.lst 1 (List.map (fun p => [V.lst 2 (List.map sp p)]) l.1), V.lst 5 (List.map hi l.2)]] fun v => onBool v fun b => ifB b (R (bv true)) (K0 Try.prog 21 [V.agg [V.lst 1 (List.map (fun p => [V.lst 2 (List.map sp p)]) l.1), V.lst 5 (List.map hi l.2)]] fun v => onTup v fun vs => onCons vs fun u r => onLst u fun s es => onCons r fun u r => onIntK IntKind.i64 u fun n => onNil r (ifB (n != (0 : Int)) (R (bv true)) (Lp (kp9 0) (W Try.prog CA 171 kp9 0 (cdAt [1, 1, 1, 1, 1, 1, 1, 1, 0, 1, 0, 0] (bodyOf Try.f9))) (Qblk 0 (Qseq (W Try.prog CA 171 kp9 0 (cdAt [1, 1, 1, 1, 1, 1, 1, 1, 1] (bodyOf Try.f9))) (Qend0 Try.prog Try.f9 R))) (St.mk (mkT [(7, bv true), (16, V.lst s es), (99, V.lst 5 (List.map hi l.2)), (100, iv (↑(List.map hi l.2).length : Int)), (101, iv (0 : Int))]) (Hp.mk [] 0)))))))))) (by kernel_rfl) ?_)
  have rest : K0 Try.prog 15 [V.agg [V.lst 1 (List.map (fun p => [V.lst 2 (List.map sp p)]) l.1), V.lst 5 (List.map hi l.2)]] fun v => onBool v fun b => ifB b (R (bv true)) (K0 Try.prog 21 [V.agg [V.lst 1 (List.map (fun p => [V.lst 2 (List.map sp p)]) l.1), V.lst 5 (List.map hi l.2)]] fun v => onTup v fun vs => onCons vs fun u r => onLst u fun s es => onCons r fun u r => onIntK IntKind.i64 u fun n => onNil r (ifB (n != (0 : Int)) (R (bv true)) (Lp (kp9 0) (W Try.prog CA 171 kp9 0 (cdAt [1, 1, 1, 1, 1, 1, 1, 1, 0, 1, 0, 0] (bodyOf Try.f9))) (Qblk 0 (Qseq (W Try.prog CA 171 kp9 0 (cdAt [1, 1, 1, 1, 1, 1, 1, 1, 1] (bodyOf Try.f9))) (Qend0 Try.prog Try.f9 R))) (St.mk (mkT [(7, bv true), (16, V.lst s es), (99, V.lst 5 (List.map hi l.2)), (100, iv (↑(List.map hi l.2).length : Int)), (101, iv (0 : Int))]) (Hp.mk [] 0))))) := by
    refine great15 (l := l) (onBool_bv (ifB_mk (fun _ => h) (fun hg => ?_)))
    have hs := greatB_sz hg
    refine poses21 (l := l) hs ?_
    cases hl : linB l with
    | false => exact onTup_tup (onCons_cons (onLst_nil (onCons_cons (onIntK_iv (onNil_nil h)))))
    | true =>
      obtain ⟨h1, h2, h3, h4, h5⟩ := linB_ok hl
      refine onTup_tup (onCons_cons (onLst_lst (onCons_cons (onIntK_iv (onNil_nil (ifB_mk (fun hc => by simp at hc) (fun _ => ?_)))))))
      refine Lp.of (σ := Nat) (fun s => ⟨mkT [(7, bv true), (16, .lst 5 ((pzs l.2).map po)), (99, .lst 5 (l.2.map hi)), (100, iv ((l.2.map hi).length : Int)), (101, iv (s : Int))], ⟨[], 0⟩⟩) (fun s => s ≤ l.2.length) (fun s => l.2.length - s) 0 (by kernel_rfl) (Nat.zero_le _) ?_
      intro i hi' J hJ
      obtain ⟨z, hz⟩ : ∃ z, z = pzs l.2 := ⟨_, rfl⟩
      rw [← hz] at hJ ⊢
      refine see (p := ifB (decide ((↑i : Int) < (↑(List.map hi l.2).length : Int))) (onSome (List.map hi l.2)[i]? fun row => onCons (List.drop 0 row) fun u r => onIntK IntKind.i64 u fun n => onCons r fun u r => onIntK IntKind.i64 u fun n => onCons r fun u r => onIntK IntKind.i64 u fun n => onCons r fun u r => onIntK IntKind.i64 u fun n => onCons r fun u r => onIntK IntKind.i64 u fun n => K0 Try.prog 16 [iv n] fun v => onTup v fun vs => onCons vs fun u r => onIntK IntKind.i64 u fun n => onCons r fun u r => onIntK IntKind.i64 u fun n_1 => onCons r fun u r => onIntK IntKind.i64 u fun n_2 => onCons r fun u r => onIntK IntKind.i64 u fun n_3 => onNil r (onSome (List.map po z)[i]? fun row => onCons (List.drop 0 row) fun u r => onIntK IntKind.i64 u fun n_4 => onCons r fun u r => onIntK IntKind.i64 u fun n_5 => onCons r fun u r => onIntK IntKind.i64 u fun n_6 => onCons r fun u r => onIntK IntKind.i64 u fun n_7 => onCons r fun u r => onIntK IntKind.i64 u fun n_8 => onNat (IntKind.i64.wrap ((↑i : Int) + (1 : Int))) fun m => onSome (List.map po z)[m]? fun row => onCons (List.drop 0 row) fun u r => onIntK IntKind.i64 u fun n_9 => onCons r fun u r => onIntK IntKind.i64 u fun n_10 => onCons r fun u r => onIntK IntKind.i64 u fun n_11 => onCons r fun u r => onIntK IntKind.i64 u fun n_12 => onCons r fun u r => onIntK IntKind.i64 u fun n_13 => ifB (n_3 != (0 : Int)) (R (bv false)) (ifB (IntKind.i64.wrap (IntKind.i64.wrap (n_9 * n_2) * n_8) != IntKind.i64.wrap (IntKind.i64.wrap (IntKind.i64.wrap (n * n_4) - IntKind.i64.wrap (n_1 * n_5)) * n_13)) (R (bv false)) (ifB (IntKind.i64.wrap (IntKind.i64.wrap (n_10 * n_2) * n_8) != IntKind.i64.wrap (IntKind.i64.wrap (IntKind.i64.wrap (n_1 * n_4) + IntKind.i64.wrap (n * n_5)) * n_13)) (R (bv false)) (J (St.mk (mkT [(7, bv true), (16, V.lst 5 (List.map po z)), (99, V.lst 5 (List.map hi l.2)), (100, iv (↑(List.map hi l.2).length : Int)), (101, iv (IntKind.i64.wrap ((↑i : Int) + (1 : Int))))]) (Hp.mk [] 0))))))) (R (bv true))) (by kernel_rfl) ?_
      refine ifB_mk (fun hb => ?_) (fun _ => h)
      have hlt : i < l.2.length := by simp at hb; omega
      obtain ⟨k1, k2, k3⟩ := hi_getD_ok h5 hlt
      refine hi_at (hi_getD hlt) (angle_pick (fun _ _ => ?_) (fun hn => absurd ⟨k2, k3⟩ hn))
      have hx := pz_good h5 i (by omega)
      have hy := pz_good h5 (i + 1) hlt
      have ht := angT_ok (l.2.getD i noHi).2.2
      obtain ⟨g, hg1, hgs⟩ := (low_good (swing_good hx k1 ht)).2
      obtain ⟨t, htt⟩ : ∃ t, t = angT (l.2.getD i noHi).2.2 := ⟨_, rfl⟩
      have hyd : pz l.2 (i + 1) = lowP (swingP (pz l.2 i) (l.2.getD i noHi) t) := by rw [htt]; rfl
      rw [← htt] at ht hgs ⊢
      rw [← hyd] at hgs
      obtain ⟨x, hxx⟩ : ∃ x, x = pz l.2 i := ⟨_, rfl⟩
      obtain ⟨y, hyy⟩ : ∃ y, y = pz l.2 (i + 1) := ⟨_, rfl⟩
      have gx : z[i]? = some x := by rw [hz, hxx]; exact pzs_get (by omega)
      have gy : z[i + 1]? = some y := by rw [hz, hyy]; exact pzs_get (by omega)
      rw [← hxx] at hx hgs
      rw [← hyy] at hy hgs
      refine po_at gx (onNat_mk (m := i + 1) (by rw [wr (by omega) (by omega)]; omega) (po_at gy ?_))
      have ox := hx.ok (by omega)
      have oy := hy.ok (by omega)
      have ot := ht.ok
      simp only [swingP, turnP, Prod.mk.injEq] at hgs
      obtain ⟨e1, e2, _, _, e5⟩ := hgs
      refine ifB_mk (fun hc => by simp at hc) (fun _ => ?_)
      rw [(oy.p.mul ot.r).wr, ((oy.p.mul ot.r).mul ox.d).wr, (ot.p.mul ox.p).wr, (ot.q.mul ox.q).wr, ((ot.p.mul ox.p).sub (ot.q.mul ox.q)).wr, (((ot.p.mul ox.p).sub (ot.q.mul ox.q)).mul oy.d).wr]
      rw [turn_alg (p := 0) (q := 0) e1 e5]
      refine ifB_mk (fun hc => by simp at hc) (fun _ => ?_)
      rw [(oy.q.mul ot.r).wr, ((oy.q.mul ot.r).mul ox.d).wr, (ot.q.mul ox.p).wr, (ot.p.mul ox.q).wr, ((ot.q.mul ox.p).add (ot.p.mul ox.q)).wr, (((ot.q.mul ox.p).add (ot.p.mul ox.q)).mul oy.d).wr]
      rw [turn_alg2 (p := 0) (q := 0) e2 e5]
      refine ifB_mk (fun hc => by simp at hc) (fun _ => ?_)
      rw [wr (by omega) (by omega)]
      exact hJ (i + 1) hlt (by omega)
  refine angle_pick (fun n0 n1 => ?_) (fun hn => ?_)
  · have ht := angT_ok n
    have ok := ht.ok
    refine angle_pick (fun m0 m1 => ?_) (fun hm => ?_)
    all_goals
      refine ifB_mk (fun _ => ?_) (fun hc => by simp at hc)
      refine ifB_mk (fun hc => absurd ht.lo (by simp at hc; omega)) (fun _ => ?_)
      rw [(ok.p.mul ok.p).wr, (ok.q.mul ok.q).wr, (ok.r.mul ok.r).wr, ((ok.p.mul ok.p).add (ok.q.mul ok.q)).wr]
      refine ifB_mk (fun hc => absurd ht.sq (by simpa using hc)) (fun _ => ?_)
      refine ifB_mk (fun _ => ?_) (fun hc => by simp at hc)
    · have fin : ∀ (b : Bool), (b = true ↔ angT n = angT m) → ifB (!b == (n == m)) (R (bv false)) (K0 Try.prog 15 [V.agg [V.lst 1 (List.map (fun p => [V.lst 2 (List.map sp p)]) l.1), V.lst 5 (List.map hi l.2)]] fun v => onBool v fun b => ifB b (R (bv true)) (K0 Try.prog 21 [V.agg [V.lst 1 (List.map (fun p => [V.lst 2 (List.map sp p)]) l.1), V.lst 5 (List.map hi l.2)]] fun v => onTup v fun vs => onCons vs fun u r => onLst u fun s es => onCons r fun u r => onIntK IntKind.i64 u fun n => onNil r (ifB (n != (0 : Int)) (R (bv true)) (Lp (kp9 0) (W Try.prog CA 171 kp9 0 (cdAt [1, 1, 1, 1, 1, 1, 1, 1, 0, 1, 0, 0] (bodyOf Try.f9))) (Qblk 0 (Qseq (W Try.prog CA 171 kp9 0 (cdAt [1, 1, 1, 1, 1, 1, 1, 1, 1] (bodyOf Try.f9))) (Qend0 Try.prog Try.f9 R))) (St.mk (mkT [(7, bv true), (16, V.lst s es), (99, V.lst 5 (List.map hi l.2)), (100, iv (↑(List.map hi l.2).length : Int)), (101, iv (0 : Int))]) (Hp.mk [] 0)))))) := fun b hb => by
        by_cases hnm : n = m
        · subst hnm
          have : b = true := hb.2 rfl
          subst this
          refine ifB_mk (fun hc => by simp at hc) (fun _ => rest)
        · have : b = false := by
            cases b
            · rfl
            · exact absurd (angT_inj n0 n1 m0 m1 (hb.1 rfl)) hnm
          subst this
          refine ifB_mk (fun hc => by simp [hnm] at hc) (fun _ => rest)
      refine ifB_mk (fun _ => ?_) (fun hc => by simp at hc)
      have ext : angT n = angT m ↔ (angT n).1 = (angT m).1 ∧ (angT n).2.1 = (angT m).2.1 ∧ (angT n).2.2 = (angT m).2.2 := by
        constructor
        · intro h; rw [h]; exact ⟨rfl, rfl, rfl⟩
        · intro ⟨x1, x2, x3⟩; exact Prod.ext x1 (Prod.ext x2 x3)
      refine ifB_mk (fun c1 => ifB_mk (fun c2 => fin _ ?_) (fun c2 => fin _ ?_)) (fun c1 => fin _ ?_)
      · rw [ext]; simp at c1 c2; simp [c1, c2]
      · rw [ext]; simp at c2; simp [c2]
      · rw [ext]; simp at c1; simp [c1]
    · exact ifB_mk (fun hc => by simp at hc) (fun _ => rest)
  · refine angle_pick (fun m0 m1 => ?_) (fun hm => ?_)
    · exact ifB_mk (fun hc => by simp at hc) (fun _ => ifB_mk (fun hc => by simp at hc) (fun _ => rest))
    · exact ifB_mk (fun hc => by simp at hc) (fun _ => ifB_mk (fun hc => by simp at hc) (fun _ => rest))
end Go.Proofs.Ytahoindkdkhpmaa
