/- Contracts: Cycle of the specification, and the law. -/
import Derived.Test.YtdjibbbeegpjpaaXG5
namespace Go.Proofs.Ytdjibbbeegpjpaa
open Go Go.Proofs.Ytdjibbbeegpjpaa.Clean
set_option linter.unusedVariables false
set_option linter.unusedSimpArgs false

def sh10 (ps : List Pst) (i : Nat) : St := ⟨mkT [(0, V.lst 3 (List.map pc ps)), (5, iv (i : Int))], ⟨[], 0⟩⟩
def sh10b (ps : List Pst) (n i : Nat) : St := ⟨mkT [(0, V.lst 3 (List.map pc ps)), (6, iv (n : Int)), (7, iv (startL (ps.take i) n : Int)), (8, iv (i : Int))], ⟨[], 0⟩⟩
def sh10c (ps : List Pst) (p : Pst) (n i k : Nat) : St := ⟨mkT [(0, V.lst 3 (List.map pc ps)), (6, iv (n : Int)), (7, iv (startL (ps.take i) n : Int)), (8, iv (i : Int)), (9, V.lst 1 (il (places p (n * 22)))), (10, iv (k : Int))], ⟨[], 0⟩⟩
theorem cycle10 {ps : List Pst} {R : V → Prop} (hlen : (ps.length : Int) ≤ 100) (hl : ∀ p ∈ ps, (p.1.length : Int) ≤ 9223372036854775807) (h : R (cycV ps)) : K0 Try.prog 10 [.lst 3 (List.map pc ps)] R := by
  refine K0_of_W0 (kps := kp10) hC hm Try.func10 (see (p := K0 Try.prog (14 : Nat) [iv (↑(List.map pc ps).length : Int), iv (1 : Int), iv (6 : Int)] fun v =>
  onBool v fun b =>
    ifB (!b) (R (V.tup [iv (0 : Int), iv (0 : Int), iv (4 : Int)]))
      (Lp (kp10 (0 : Nat))
        (W Try.prog CC (68 : Nat) kp10 (0 : Nat)
          (cdAt [(1 : Nat), (1 : Nat), (0 : Nat), (1 : Nat), (0 : Nat), (0 : Nat)] (bodyOf Try.f10)))
        (Qblk (0 : Nat)
          (Qseq (W Try.prog CC (68 : Nat) kp10 (0 : Nat) (cdAt [(1 : Nat), (1 : Nat), (1 : Nat)] (bodyOf Try.f10)))
            (Qend0 Try.prog Try.f10 R)))
        (St.mk (mkT [((0 : Nat), V.lst (3 : Nat) (List.map pc ps)), ((5 : Nat), iv (0 : Int))]) (Hp.mk [] (0 : Nat))))) (by kernel_rfl) ?_)
  unfold cycV at h
  rw [List.length_map]
  refine within14 (onBool_bv (ifB_mk (fun hb => ?_) (fun hb => ?_))) <;> simp at hb <;> rw [hb] at h
  · exact h
  rw [if_pos rfl] at h
  rw [win_iff] at hb
  refine Lp.of (σ := Nat) (sh10 ps) (fun i => i ≤ ps.length ∧ (ps.take i).all okP = true) (fun i => ps.length - i) 0 (by simp [sh10]) ⟨by omega, by simp⟩ ?_
  rintro i ⟨hi, hall⟩ J hJ
  refine see (p := ifB (decide ((↑i : Int) < (↑(List.map pc ps).length : Int)))
  ((3 : Nat) = (3 : Nat) ∧
    onSome (List.map pc ps)[i]? fun row =>
      onCons (List.drop (0 : Nat) row) fun u r =>
        onLst u fun s es =>
          onCons r fun u r =>
            onIntK IntKind.i64 u fun n =>
              onCons r fun u r =>
                onIntK IntKind.i64 u fun n_1 =>
                  K0 Try.prog (13 : Nat) [V.agg [V.lst s es, iv n, iv n_1]] fun v =>
                    onBool v fun b =>
                      ifB (!b) (R (V.tup [iv (0 : Int), iv (0 : Int), iv (2 : Int)]))
                        (J
                          (St.mk
                            (mkT
                              [((0 : Nat), V.lst (3 : Nat) (List.map pc ps)),
                                ((5 : Nat), iv (IntKind.i64.wrap ((↑i : Int) + (1 : Int))))])
                            (Hp.mk [] (0 : Nat)))))
  (K0 Try.prog (18 : Nat) [V.lst (3 : Nat) (List.map pc ps)] fun v =>
    onIntK IntKind.i64 v fun n =>
      ifB (decide (n > (5000 : Int))) (R (V.tup [iv (0 : Int), iv (0 : Int), iv (2 : Int)]))
        (Lp (kp10 (2 : Nat))
          (W Try.prog CC (68 : Nat) kp10 (2 : Nat)
            (cdAt
              [(1 : Nat), (1 : Nat), (1 : Nat), (1 : Nat), (1 : Nat), (1 : Nat), (0 : Nat), (1 : Nat), (0 : Nat),
                (0 : Nat)]
              (bodyOf Try.f10)))
          (Qblk (2 : Nat)
            (Qseq
              (W Try.prog CC (68 : Nat) kp10 (0 : Nat)
                (cdAt [(1 : Nat), (1 : Nat), (1 : Nat), (1 : Nat), (1 : Nat), (1 : Nat), (1 : Nat)] (bodyOf Try.f10)))
              (Qend0 Try.prog Try.f10 R)))
          (St.mk
            (mkT
              [((0 : Nat), V.lst (3 : Nat) (List.map pc ps)), ((6 : Nat), iv n), ((7 : Nat), iv (0 : Int)),
                ((8 : Nat), iv (0 : Int))])
            (Hp.mk [] (0 : Nat)))))) (by kernel_rfl) ?_
  rw [List.length_map]
  refine ifB_mk (fun hb4 => ?_) (fun hb4 => ?_)
  · have hlt : i < ps.length := by simpa using hb4
    refine ⟨rfl, pe (List.getElem?_eq_getElem hlt) ?_⟩
    refine valid13 (hl ps[i] (List.getElem_mem hlt)) (onBool_bv (ifB_mk (fun hb5 => ?_) (fun hb5 => ?_))) <;> simp at hb5
    · rw [notall hlt hb5] at h; exact h
    · have := hJ (i + 1) ⟨hlt, allok hlt hall hb5⟩ (by omega)
      unfold sh10 at this
      rw [show IntKind.i64.wrap ((i : Int) + 1) = ((i + 1 : Nat) : Int) by rw [wr (by omega) (by omega)]; simp]
      exact this
  have hie : i = ps.length := by simp at hb4; omega
  subst hie
  rw [List.take_length] at hall
  rw [hall, if_pos rfl] at h
  have hne : ∀ p ∈ ps, p.1 ≠ [] := fun p hp => (okP_s (List.all_eq_true.1 hall p hp)).1
  refine period18 (by omega) hne (onIntK_iv ?_)
  by_cases h5 : lcmL ps ≤ 5000
  case neg =>
    rw [if_neg h5] at h
    have : per ps = 5001 := by unfold per; rw [if_neg h5]
    rw [this]
    exact ifB_mk (fun _ => h) (fun hb => by simp at hb)
  rw [if_pos h5] at h
  have hper : per ps = lcmL ps := by unfold per; rw [if_pos h5]
  rw [hper]
  refine ifB_mk (fun hb => by simp at hb; omega) (fun _ => ?_)
  have hset : ∀ p ∈ ps, okP p = true ∧ p.1.length ∣ lcmL ps := fun p hp => ⟨List.all_eq_true.1 hall p hp, lcmL_dvd.1 (Nat.dvd_refl _) p hp⟩
  have h20 : ∀ p ∈ ps, settle p (lcmL ps) ≤ 20 := fun p hp => (settle_spec (hset p hp).1 (hset p hp).2).2.1
  refine Lp.of (σ := Nat) (sh10b ps (lcmL ps)) (fun i => i ≤ ps.length) (fun i => ps.length - i) 0 (by simp [sh10b, startL]) (by omega) ?_
  intro i hi J hJ
  refine see (p := ifB (decide ((↑i : Int) < (↑(List.map pc ps).length : Int)))
  ((3 : Nat) = (3 : Nat) ∧
    onSome (List.map pc ps)[i]? fun row =>
      onCons (List.drop (0 : Nat) row) fun u r =>
        onLst u fun s es =>
          onCons r fun u r =>
            onIntK IntKind.i64 u fun n =>
              onCons r fun u r =>
                onIntK IntKind.i64 u fun n_1 =>
                  K0 Try.prog (15 : Nat)
                    [V.agg [V.lst s es, iv n, iv n_1], iv (IntKind.i64.wrap ((↑(lcmL ps) : Int) * (22 : Int)))] fun v =>
                    onLst v fun s es =>
                      Lp (kp10 (4 : Nat))
                        (W Try.prog CC (68 : Nat) kp10 (4 : Nat)
                          (cdAt
                            [(1 : Nat), (1 : Nat), (1 : Nat), (1 : Nat), (1 : Nat), (1 : Nat), (0 : Nat), (1 : Nat),
                              (0 : Nat), (0 : Nat), (1 : Nat), (0 : Nat), (0 : Nat), (1 : Nat), (1 : Nat), (0 : Nat),
                              (0 : Nat), (0 : Nat)]
                            (bodyOf Try.f10)))
                        (Qblk (4 : Nat)
                          (Qseq
                            (W Try.prog CC (68 : Nat) kp10 (3 : Nat)
                              (cdAt
                                [(1 : Nat), (1 : Nat), (1 : Nat), (1 : Nat), (1 : Nat), (1 : Nat), (0 : Nat), (1 : Nat),
                                  (0 : Nat), (0 : Nat), (1 : Nat), (0 : Nat), (0 : Nat), (1 : Nat), (1 : Nat),
                                  (1 : Nat)]
                                (bodyOf Try.f10)))
                            (Qblk (3 : Nat)
                              (Qseq
                                (W Try.prog CC (68 : Nat) kp10 (2 : Nat)
                                  (cdAt
                                    [(1 : Nat), (1 : Nat), (1 : Nat), (1 : Nat), (1 : Nat), (1 : Nat), (0 : Nat),
                                      (1 : Nat), (0 : Nat), (0 : Nat), (1 : Nat), (1 : Nat)]
                                    (bodyOf Try.f10)))
                                (Qlp (kp10 (2 : Nat)) J
                                  (Qblk (2 : Nat)
                                    (Qseq
                                      (W Try.prog CC (68 : Nat) kp10 (0 : Nat)
                                        (cdAt
                                          [(1 : Nat), (1 : Nat), (1 : Nat), (1 : Nat), (1 : Nat), (1 : Nat), (1 : Nat)]
                                          (bodyOf Try.f10)))
                                      (Qend0 Try.prog Try.f10 R))))))))
                        (St.mk
                          (mkT
                            [((0 : Nat), V.lst (3 : Nat) (List.map pc ps)), ((6 : Nat), iv (↑(lcmL ps) : Int)),
                              ((7 : Nat), iv (↑(startL (List.take i ps) (lcmL ps)) : Int)), ((8 : Nat), iv (↑i : Int)),
                              ((9 : Nat), V.lst s es), ((10 : Nat), iv (0 : Int))])
                          (Hp.mk [] (0 : Nat))))
  (R (V.tup [iv (↑(startL (List.take i ps) (lcmL ps)) : Int), iv (↑(lcmL ps) : Int), iv (0 : Int)]))) (by kernel_rfl) ?_
  rw [List.length_map]
  refine ifB_mk (fun hb6 => ?_) (fun hb6 => ?_)
  rotate_left
  · have hie : i = ps.length := by simp at hb6; omega
    subst hie
    rw [List.take_length]
    exact h
  have hlt : i < ps.length := by simpa using hb6
  refine ⟨rfl, pe (List.getElem?_eq_getElem hlt) ?_⟩
  obtain ⟨hokp, hdvd⟩ := hset ps[i] (List.getElem_mem hlt)
  obtain ⟨hK, hK20, hmin⟩ := settle_spec hokp hdvd
  have hst := startL_le h20 i hi
  have hw22 : IntKind.i64.wrap ((lcmL ps : Int) * 22) = ((lcmL ps * 22 : Nat) : Int) := by rw [wr (by omega) (by omega)]; simp
  rw [hw22]
  refine moved15 hokp (by omega) (onLst_lst ?_)
  refine Lp.of (σ := Nat) (sh10c ps ps[i] (lcmL ps) i) (fun k => k ≤ settle ps[i] (lcmL ps)) (fun k => settle ps[i] (lcmL ps) - k) 0 (by simp [sh10c]) (by omega) ?_
  intro k hk J2 hJ2
  refine see (p := (fun (p : Pst) => onNat (IntKind.i64.wrap ((↑k : Int) * (↑(lcmL ps) : Int))) fun m =>
  (1 : Nat) = (1 : Nat) ∧
    onSome (il (places p (lcmL ps * (22 : Nat))))[m]? fun row =>
      onSome row[(0 : Nat)]? fun v =>
        onIntK IntKind.i64 v fun n =>
          onNat (IntKind.i64.wrap (IntKind.i64.wrap ((↑k : Int) * (↑(lcmL ps) : Int)) + (↑(lcmL ps) : Int))) fun m =>
            (1 : Nat) = (1 : Nat) ∧
              onSome (il (places p (lcmL ps * (22 : Nat))))[m]? fun row =>
                onSome row[(0 : Nat)]? fun v =>
                  onIntK IntKind.i64 v fun n_1 =>
                    ifB (n != n_1)
                      (J2
                        (St.mk
                          (mkT
                            [((0 : Nat), V.lst (3 : Nat) (List.map pc ps)), ((6 : Nat), iv (↑(lcmL ps) : Int)),
                              ((7 : Nat), iv (↑(startL (List.take i ps) (lcmL ps)) : Int)), ((8 : Nat), iv (↑i : Int)),
                              ((9 : Nat), V.lst (1 : Nat) (il (places p (lcmL ps * (22 : Nat))))),
                              ((10 : Nat), iv (IntKind.i64.wrap ((↑k : Int) + (1 : Int))))])
                          (Hp.mk [] (0 : Nat))))
                      (J
                        (St.mk
                          (mkT
                            [((0 : Nat), V.lst (3 : Nat) (List.map pc ps)), ((6 : Nat), iv (↑(lcmL ps) : Int)),
                              ((7 : Nat),
                                iv
                                  (if
                                      IntKind.i64.wrap ((↑k : Int) * (↑(lcmL ps) : Int)) >
                                        (↑(startL (List.take i ps) (lcmL ps)) : Int) then
                                    IntKind.i64.wrap ((↑k : Int) * (↑(lcmL ps) : Int))
                                  else (↑(startL (List.take i ps) (lcmL ps)) : Int))),
                              ((8 : Nat), iv (IntKind.i64.wrap ((↑i : Int) + (1 : Int))))])
                          (Hp.mk [] (0 : Nat))))) ps[i]) (by kernel_rfl) ?_
  have hkn : k * lcmL ps ≤ 20 * lcmL ps := Nat.mul_le_mul_right _ (by omega)
  have e1 : IntKind.i64.wrap ((k : Int) * (lcmL ps : Int)) = ((k * lcmL ps : Nat) : Int) := by rw [← Int.natCast_mul, wr (by omega) (by omega)]
  have e2 : IntKind.i64.wrap (((k * lcmL ps : Nat) : Int) + (lcmL ps : Int)) = ((k * lcmL ps + lcmL ps : Nat) : Int) := by rw [wr (by omega) (by omega)]; simp
  rw [e1, e2]
  refine onNat_mk (m := k * lcmL ps) rfl ?_
  refine ⟨rfl, el (places_get (by omega)) ?_⟩
  refine onNat_mk (m := k * lcmL ps + lcmL ps) rfl ?_
  refine ⟨rfl, el (places_get (by omega)) ?_⟩
  refine ifB_mk (fun hb7 => ?_) (fun hb7 => ?_)
  · have hne' : ¬ atK ps[i] (lcmL ps) k := fun he => by unfold atK at he; simp [he] at hb7
    have hlt' : k < settle ps[i] (lcmL ps) := by
      rcases Nat.lt_or_ge k (settle ps[i] (lcmL ps)) with h | h
      · exact h
      · exact (hne' (by rw [show k = settle ps[i] (lcmL ps) by omega]; exact hK)).elim
    have := hJ2 (k + 1) hlt' (by omega)
    unfold sh10c at this
    rw [show IntKind.i64.wrap ((k : Int) + 1) = ((k + 1 : Nat) : Int) by rw [wr (by omega) (by omega)]; simp]
    exact this
  · have he : atK ps[i] (lcmL ps) k := by simpa [atK] using hb7
    have hks : k = settle ps[i] (lcmL ps) := by
      rcases Nat.lt_or_ge k (settle ps[i] (lcmL ps)) with h | h
      · exact (hmin k h he).elim
      · omega
    have := hJ (i + 1) hlt (by omega)
    unfold sh10b at this
    rw [startL_succ hlt, ← hks] at this
    rw [show IntKind.i64.wrap ((i : Int) + 1) = ((i + 1 : Nat) : Int) by rw [wr (by omega) (by omega)]; simp]
    have e : (if ((k * lcmL ps : Nat) : Int) > (startL (ps.take i) (lcmL ps) : Int) then ((k * lcmL ps : Nat) : Int) else (startL (ps.take i) (lcmL ps) : Int)) =
        ((if k * lcmL ps > startL (ps.take i) (lcmL ps) then k * lcmL ps else startL (ps.take i) (lcmL ps) : Nat) : Int) := by
      by_cases hc : k * lcmL ps > startL (ps.take i) (lcmL ps)
      · rw [if_pos hc, if_pos (by omega)]
      · rw [if_neg hc, if_neg (by omega)]
    rw [e]
    exact this

def sh3 (p : Pst) (ticks : Int) (ps : List Pst) (i : Nat) : St := ⟨mkT [(1, iv ticks), (2, V.lst 3 (List.map pc ps)), (3, V.ptr 0 0 0), (33, V.lst 3 (List.map pc ps)), (34, iv (ps.length : Int)), (35, iv (i : Int))], ⟨[(0, O.rows 3 false [[V.lst 1 (il p.1), iv p.2.1, iv p.2.2]])], 1⟩⟩

theorem law3 {p : Pst} {ticks : Int} {ps : List Pst} {R : V → Prop} (hp : (p.1.length : Int) ≤ 9223372036854775807) (hps : (ps.length : Int) ≤ 9223372036854775807) (hpl : ∀ q ∈ ps, (q.1.length : Int) ≤ 9223372036854775807) (h : R (bv true)) :
    K0 Try.prog 3 [.agg [V.lst 1 (il p.1), iv p.2.1, iv p.2.2], iv ticks, .lst 3 (List.map pc ps)] R := by
  have body : (ps.length : Int) ≤ 10 → Lp (kp3 0) (W Try.prog CC 99 kp3 0 (cdAt [1, 1, 0, 1, 0, 0] (bodyOf Try.f3))) (Qblk 0 (Qseq (W Try.prog CC 99 kp3 0 (cdAt [1, 1, 1] (bodyOf Try.f3))) (Qend0 Try.prog Try.f3 R))) (sh3 p ticks ps 0) := by
    intro h10
    refine Lp.of (σ := Nat) (sh3 p ticks ps) (fun i => i ≤ ps.length) (fun i => ps.length - i) 0 rfl (by omega) ?_
    intro i hi J hJ
    refine see (p := ifB (decide ((↑i : Int) < (↑ps.length : Int)))
  ((3 : Nat) = (3 : Nat) ∧
    onSome (List.map pc ps)[i]? fun row =>
      onSome row[(0 : Nat)]? fun v =>
        onLst v fun s es =>
          ifB (decide ((↑es.length : Int) > (30 : Int))) (R (bv true))
            (J
              (St.mk
                (mkT
                  [((1 : Nat), iv ticks), ((2 : Nat), V.lst (3 : Nat) (List.map pc ps)),
                    ((3 : Nat), V.ptr (0 : Nat) (0 : Nat) (0 : Nat)), ((33 : Nat), V.lst (3 : Nat) (List.map pc ps)),
                    ((34 : Nat), iv (↑ps.length : Int)), ((35 : Nat), iv (IntKind.i64.wrap ((↑i : Int) + (1 : Int))))])
                (Hp.mk [((0 : Nat), O.rows (3 : Nat) false [[V.lst (1 : Nat) (il p.1), iv p.2.1, iv p.2.2]])]
                  (1 : Nat)))))
  (K0 Try.prog (4 : Nat) [V.agg [V.lst (1 : Nat) (il p.1), iv p.2.1, iv p.2.2], iv ticks] fun v =>
    onTup v fun vs =>
      onSome vs[(0 : Nat)]? fun v =>
        onLst v fun s es =>
          onSome vs[(1 : Nat)]? fun v =>
            onIntK IntKind.i64 v fun n =>
              K0 Try.prog (5 : Nat) [V.agg [V.lst (1 : Nat) (il p.1), iv p.2.1, iv p.2.2], iv ticks] fun v =>
                onTup v fun vs =>
                  onSome vs[(0 : Nat)]? fun v =>
                    onLst v fun s_1 es_1 =>
                      onSome vs[(1 : Nat)]? fun v =>
                        onIntK IntKind.i64 v fun n_1 =>
                          K0 Try.prog (6 : Nat) [V.lst s es, V.lst s_1 es_1] fun v =>
                            onBool v fun b =>
                              ifB (!b) (R (bv false))
                                (ifB (n != n_1) (R (bv false))
                                  (K0 Try.prog (7 : Nat) [V.agg [V.lst (1 : Nat) (il p.1), iv p.2.1, iv p.2.2]] fun v =>
                                    onIntK IntKind.i64 v fun n =>
                                      K0 Try.prog (8 : Nat) [V.agg [V.lst (1 : Nat) (il p.1), iv p.2.1, iv p.2.2]]
                                        fun v =>
                                        onIntK IntKind.i64 v fun n_2 =>
                                          ifB (n != n_2) (R (bv false))
                                            (K0 Try.prog (9 : Nat) [V.lst (3 : Nat) (List.map pc ps)] fun v =>
                                              onTup v fun vs =>
                                                onSome vs[(0 : Nat)]? fun v =>
                                                  onIntK IntKind.i64 v fun n =>
                                                    onSome vs[(1 : Nat)]? fun v =>
                                                      onIntK IntKind.i64 v fun n_3 =>
                                                        onSome vs[(2 : Nat)]? fun v =>
                                                          onIntK IntKind.i64 v fun n_4 =>
                                                            K0 Try.prog (10 : Nat) [V.lst (3 : Nat) (List.map pc ps)]
                                                              fun v =>
                                                              onTup v fun vs =>
                                                                onSome vs[(0 : Nat)]? fun v =>
                                                                  onIntK IntKind.i64 v fun n_5 =>
                                                                    onSome vs[(1 : Nat)]? fun v =>
                                                                      onIntK IntKind.i64 v fun n_6 =>
                                                                        onSome vs[(2 : Nat)]? fun v =>
                                                                          onIntK IntKind.i64 v fun n_7 =>
                                                                            ifB (n == n_5)
                                                                              (ifB (n_3 == n_6) (R (bv (n_4 == n_7)))
                                                                                (R (bv false)))
                                                                              (R (bv false))))))) (by kernel_rfl) ?_
    refine ifB_mk (fun hb => ?_) (fun hb => ?_)
    · have hlt : i < ps.length := by simpa using hb
      refine ⟨rfl, pe (List.getElem?_eq_getElem hlt) (onSome_mk (x := V.lst 1 (il ps[i].1)) rfl (onLst_lst ?_))⟩
      refine ifB_mk (fun _ => h) (fun _ => ?_)
      have := hJ (i + 1) hlt (by omega)
      unfold sh3 at this
      rw [show IntKind.i64.wrap ((i : Int) + 1) = ((i + 1 : Nat) : Int) by rw [wr (by omega) (by omega)]; simp]
      exact this
    · have tail : K0 Try.prog 7 [V.agg [V.lst 1 (il p.1), iv p.2.1, iv p.2.2]] fun v => onIntK IntKind.i64 v fun n => K0 Try.prog 8 [V.agg [V.lst 1 (il p.1), iv p.2.1, iv p.2.2]] fun v => onIntK IntKind.i64 v fun n_2 => ifB (n != n_2) (R (bv false))
          (K0 Try.prog 9 [V.lst 3 (List.map pc ps)] fun v => onTup v fun vs => onSome vs[0]? fun v => onIntK IntKind.i64 v fun n => onSome vs[1]? fun v => onIntK IntKind.i64 v fun n_3 => onSome vs[2]? fun v => onIntK IntKind.i64 v fun n_4 =>
            K0 Try.prog 10 [V.lst 3 (List.map pc ps)] fun v => onTup v fun vs => onSome vs[0]? fun v => onIntK IntKind.i64 v fun n_5 => onSome vs[1]? fun v => onIntK IntKind.i64 v fun n_6 => onSome vs[2]? fun v => onIntK IntKind.i64 v fun n_7 =>
              ifB (n == n_5) (ifB (n_3 == n_6) (R (bv (n_4 == n_7))) (R (bv false))) (R (bv false))) := by
        refine check7 hp (onIntK_iv (check8 hp (onIntK_iv (ifB_mk (fun hb => by simp at hb) (fun _ => ?_)))))
        refine cycle9 (by omega) hpl ?_
        obtain ⟨a, b, c, hc⟩ : ∃ a b c, cycV ps = .tup [iv a, iv b, iv c] := by
          unfold cycV; repeat' split
          all_goals exact ⟨_, _, _, rfl⟩
        rw [hc]
        refine onTup_tup (onSome_mk rfl (onIntK_iv (onSome_mk rfl (onIntK_iv (onSome_mk rfl (onIntK_iv ?_))))))
        refine cycle10 (by omega) hpl ?_
        rw [hc]
        refine onTup_tup (onSome_mk rfl (onIntK_iv (onSome_mk rfl (onIntK_iv (onSome_mk rfl (onIntK_iv ?_))))))
        refine ifB_mk (fun _ => ifB_mk (fun _ => ?_) (fun hb => by simp at hb)) (fun hb => by simp at hb)
        rw [beq_self_eq_true]
        exact h
      refine places4 hp ?_
      cases hok : okP p && win ticks 0 10000 with
      | true =>
        refine onTup_tup (onSome_mk rfl (onLst_lst (onSome_mk rfl (onIntK_iv ?_))))
        refine places5 hp ?_
        rw [hok]
        refine onTup_tup (onSome_mk rfl (onLst_lst (onSome_mk rfl (onIntK_iv ?_))))
        have hw : 0 ≤ ticks ∧ ticks ≤ 10000 := by simp only [Bool.and_eq_true, win_iff] at hok; exact hok.2
        refine same6 (fun _ => rfl) (by rw [places_length]; omega) (onBool_bv (ifB_mk (fun hb => by simp at hb) (fun _ => ifB_mk (fun hb => by simp at hb) (fun _ => tail))))
      | false =>
        refine onTup_tup (onSome_mk rfl (onLst_nil (onSome_mk rfl (onIntK_iv ?_))))
        refine places5 hp ?_
        rw [hok]
        refine onTup_tup (onSome_mk rfl (onLst_nil (onSome_mk rfl (onIntK_iv ?_))))
        exact same6 (l := []) (fun h => (h rfl).elim) (by simp) (onBool_bv (ifB_mk (fun hb => by simp at hb) (fun _ => ifB_mk (fun hb => by simp at hb) (fun _ => tail))))
  refine K0_of_W0 (kps := kp3) hC hm Try.func3 (see (p := ifB (decide (ticks > (300 : Int)))
  (ifB (decide (ticks ≤ (10000 : Int))) (R (bv true))
    (ifB (decide ((↑(il p.1).length : Int) > (30 : Int))) (R (bv true))
      (ifB (decide ((↑(List.map pc ps).length : Int) > (10 : Int))) (R (bv true))
        (Lp (kp3 (0 : Nat))
          (W Try.prog CC (99 : Nat) kp3 (0 : Nat)
            (cdAt [(1 : Nat), (1 : Nat), (0 : Nat), (1 : Nat), (0 : Nat), (0 : Nat)] (bodyOf Try.f3)))
          (Qblk (0 : Nat)
            (Qseq (W Try.prog CC (99 : Nat) kp3 (0 : Nat) (cdAt [(1 : Nat), (1 : Nat), (1 : Nat)] (bodyOf Try.f3)))
              (Qend0 Try.prog Try.f3 R)))
          (St.mk
            (mkT
              [((1 : Nat), iv ticks), ((2 : Nat), V.lst (3 : Nat) (List.map pc ps)),
                ((3 : Nat), V.ptr (0 : Nat) (0 : Nat) (0 : Nat)), ((33 : Nat), V.lst (3 : Nat) (List.map pc ps)),
                ((34 : Nat), iv (↑(List.map pc ps).length : Int)), ((35 : Nat), iv (0 : Int))])
            (Hp.mk [((0 : Nat), O.rows (3 : Nat) false [[V.lst (1 : Nat) (il p.1), iv p.2.1, iv p.2.2]])]
              (1 : Nat)))))))
  (ifB (decide ((↑(il p.1).length : Int) > (30 : Int))) (R (bv true))
    (ifB (decide ((↑(List.map pc ps).length : Int) > (10 : Int))) (R (bv true))
      (Lp (kp3 (0 : Nat))
        (W Try.prog CC (99 : Nat) kp3 (0 : Nat)
          (cdAt [(1 : Nat), (1 : Nat), (0 : Nat), (1 : Nat), (0 : Nat), (0 : Nat)] (bodyOf Try.f3)))
        (Qblk (0 : Nat)
          (Qseq (W Try.prog CC (99 : Nat) kp3 (0 : Nat) (cdAt [(1 : Nat), (1 : Nat), (1 : Nat)] (bodyOf Try.f3)))
            (Qend0 Try.prog Try.f3 R)))
        (St.mk
          (mkT
            [((1 : Nat), iv ticks), ((2 : Nat), V.lst (3 : Nat) (List.map pc ps)),
              ((3 : Nat), V.ptr (0 : Nat) (0 : Nat) (0 : Nat)), ((33 : Nat), V.lst (3 : Nat) (List.map pc ps)),
              ((34 : Nat), iv (↑(List.map pc ps).length : Int)), ((35 : Nat), iv (0 : Int))])
          (Hp.mk [((0 : Nat), O.rows (3 : Nat) false [[V.lst (1 : Nat) (il p.1), iv p.2.1, iv p.2.2]])] (1 : Nat))))))) (by kernel_rfl) ?_)
  rw [List.length_map, il_length]
  unfold sh3 at body
  refine ifB_mk (fun _ => ifB_mk (fun _ => h) (fun _ => ifB_mk (fun _ => h) (fun _ => ifB_mk (fun _ => h) (fun hb => body ?_)))) (fun _ => ifB_mk (fun _ => h) (fun _ => ifB_mk (fun _ => h) (fun hb => body ?_)))
  all_goals simp at hb; omega
end Go.Proofs.Ytdjibbbeegpjpaa
