/- H6 -/
import Derived.Test.YtinccdbooeffbaaXH5
import Derived.Test.YtinccdbooeffbaaXGA
namespace Go.Proofs.Ytinccdbooeffbaa
open Go Go.Proofs.Ytinccdbooeffbaa.Clean
set_option linter.unusedVariables false
set_option linter.unusedSimpArgs false
set_option maxRecDepth 10000

theorem alive_true' {R : V → Prop} (h : R (bv true)) : K0 Try.prog 22 [] R := alive22.mono fun v hv => by rw [hv]; exact h

/-- From where it settles, a piston does the same each period. -/
theorem place_period {p : Pst} {P k : Nat} (hP : p.1.length ∣ P) (h : atK p P k) : ∀ t, place p (k * P + t) = place p (k * P + t + P)
  | 0 => h
  | t + 1 => by
    have ih := place_period hP h t
    rw [place_add hP, show k * P + (t + 1) + P = (k + 1) * P + (t + 1) by rw [Nat.succ_mul]; omega, place_add hP, ih]
    congr 1
    rw [Nat.succ_mul]; congr 1; omega
theorem place_after {p : Pst} {P t : Nat} (hp : okP p = true) (hP : p.1.length ∣ P) (ht : settle p P * P ≤ t) : place p t = place p (t + P) := by
  have := place_period hP (settle_spec hp hP).1 (t - settle p P * P)
  rwa [show settle p P * P + (t - settle p P * P) = t by omega] at this

theorem dif_succ {ps : List Pst} {S P i : Nat} (h : i < ps.length) : dif ps S P (i + 1) = (dif ps S P i || difP S P ps[i]) := by
  unfold dif
  rw [List.take_succ_eq_append_getElem h, List.any_append]
  simp

theorem startL_dvd (ps : List Pst) (P : Nat) : ∀ i, i ≤ ps.length → P ∣ startL (ps.take i) P
  | 0, _ => by simp [startL]
  | i + 1, hi => by
    have ih := startL_dvd ps P i (by omega)
    rw [startL_succ (by omega)]
    split
    · exact Nat.dvd_mul_left _ _
    · exact ih
theorem startL_ge {ps : List Pst} {P : Nat} : ∀ i, i ≤ ps.length → ∀ j (hj : j < i) (hjl : j < ps.length), settle ps[j] P * P ≤ startL (ps.take i) P
  | 0, _, j, hj, _ => by omega
  | i + 1, hi, j, hj, hjl => by
    rw [startL_succ (by omega)]
    by_cases hji : j = i
    · subst hji; split <;> omega
    · have := startL_ge (ps := ps) (P := P) i (by omega) j (by omega) hjl
      split <;> omega
theorem startL_eq {ps : List Pst} {P : Nat} : ∀ i, i ≤ ps.length → startL (ps.take i) P = 0 ∨ ∃ j, ∃ hj : j < ps.length, j < i ∧ startL (ps.take i) P = settle ps[j] P * P
  | 0, _ => .inl (by simp [startL])
  | i + 1, hi => by
    rw [startL_succ (by omega)]
    split
    · exact .inr ⟨i, by omega, by omega, rfl⟩
    · rcases startL_eq (ps := ps) (P := P) i (by omega) with h | ⟨j, hj, h1, h2⟩
      · exact .inl h
      · exact .inr ⟨j, hj, by omega, h2⟩

theorem dif_all {ps : List Pst} {P : Nat} (hok : ∀ p ∈ ps, okP p = true ∧ p.1.length ∣ P) (hS : startL ps P ≠ 0) : dif ps (startL ps P) P ps.length = true := by
  have h := startL_eq (ps := ps) (P := P) ps.length (Nat.le_refl _)
  rw [List.take_length] at h
  rcases h with h | ⟨j, hj, _, he⟩
  · exact (hS h).elim
  unfold dif
  rw [List.take_length, List.any_eq_true]
  refine ⟨ps[j], List.getElem_mem hj, ?_⟩
  obtain ⟨h1, h2⟩ := hok _ (List.getElem_mem hj)
  obtain ⟨_, _, hmin⟩ := settle_spec h1 h2
  obtain ⟨k, hk⟩ : ∃ k, settle ps[j] P = k + 1 := by
    cases hs : settle ps[j] P with
    | zero => rw [hs] at he; simp at he; exact (hS he).elim
    | succ k => exact ⟨k, rfl⟩
  have hne := hmin k (by omega)
  unfold atK at hne
  unfold difP
  rw [he, hk, Nat.succ_mul]
  rw [he, hk, Nat.succ_mul] at hS
  have : k * P + P - P = k * P := by omega
  rw [this]
  simp only [Bool.and_eq_true, decide_eq_true_eq, bne_iff_ne]
  exact ⟨by omega, hne⟩

noncomputable def sh12 (ps : List Pst) (i : Nat) : St := ⟨mkT [(0, V.lst 3 (List.map pc ps)), (3, bv true), (20, iv (ps.length : Int)), (21, iv (i : Int))], ⟨[], 0⟩⟩
noncomputable def sh12b (ps : List Pst) (S P i : Nat) : St := ⟨mkT [(3, bv true), (5, iv (S : Int)), (6, iv (P : Int)), (8, bv (dif ps S P i)), (64, V.lst 3 (List.map pc ps)), (65, iv (ps.length : Int)), (66, iv (i : Int))], ⟨[], 0⟩⟩
noncomputable def sh12c (ps : List Pst) (p : Pst) (S P i : Nat) (d : Bool) (t : Nat) : St := ⟨mkT [(3, bv true), (5, iv (S : Int)), (6, iv (P : Int)), (8, bv d), (11, V.lst 1 (il (places p (S + 2 * P)))), (13, iv (t : Int)), (64, V.lst 3 (List.map pc ps)), (65, iv (ps.length : Int)), (66, iv (i : Int))], ⟨[], 0⟩⟩

theorem law12 {ps : List Pst} {R : V → Prop} (hlen : (ps.length : Int) ≤ 9223372036854775807) (hl : ∀ p ∈ ps, (p.1.length : Int) ≤ 9223372036854775807) (h : R (bv true)) : K0 Try.prog 12 [.lst 3 (List.map pc ps)] R := by
  refine K0_of_W0 (kps := kp12) hC hmH Try.func12 (see (p := K0 Try.prog (22 : Nat) [] fun v =>
  onBool v fun b =>
    ifB (decide ((↑(List.map pc ps).length : Int) > (10 : Int))) (R (bv b))
      (Lp (kp12 (0 : Nat))
        (W Try.prog CC (149 : Nat) kp12 (0 : Nat)
          (cdAt [(1 : Nat), (1 : Nat), (1 : Nat), (0 : Nat), (1 : Nat), (0 : Nat), (0 : Nat)] (bodyOf Try.f12)))
        (Qblk (0 : Nat)
          (Qseq
            (W Try.prog CC (149 : Nat) kp12 (0 : Nat)
              (cdAt [(1 : Nat), (1 : Nat), (1 : Nat), (1 : Nat)] (bodyOf Try.f12)))
            (Qend0 Try.prog Try.f12 R)))
        (St.mk
          (mkT
            [((0 : Nat), V.lst (3 : Nat) (List.map pc ps)), ((3 : Nat), bv b),
              ((20 : Nat), iv (↑(List.map pc ps).length : Int)), ((21 : Nat), iv (0 : Int))])
          (Hp.mk [] (0 : Nat))))) (by kernel_rfl) ?_)
  refine alive_true' (onBool_bv ?_)
  refine ifB_mk (fun _ => h) (fun h10 => ?_)
  rw [List.length_map] at h10
  simp at h10
  refine Lp.of (σ := Nat) (sh12 ps) (fun i => i ≤ ps.length) (fun i => ps.length - i) 0 (by simp [sh12]) (by omega) ?_
  intro i hi J hJ
  refine see (p := ifB (decide ((↑i : Int) < (↑ps.length : Int)))
  (onSome (List.map pc ps)[i]? fun row =>
    onSome row[(0 : Nat)]? fun v =>
      onLst v fun s es =>
        ifB (decide ((↑es.length : Int) > (30 : Int))) (R (bv true))
          (J
            (St.mk
              (mkT
                [((0 : Nat), V.lst (3 : Nat) (List.map pc ps)), ((3 : Nat), bv true),
                  ((20 : Nat), iv (↑ps.length : Int)), ((21 : Nat), iv (IntKind.i64.wrap ((↑i : Int) + (1 : Int))))])
              (Hp.mk [] (0 : Nat)))))
  (K0 Try.prog (18 : Nat) [V.lst (3 : Nat) (List.map pc ps)] fun v =>
    onTup v fun vs =>
      onSome vs[(0 : Nat)]? fun v =>
        onIntK IntKind.i64 v fun n =>
          onSome vs[(1 : Nat)]? fun v =>
            onIntK IntKind.i64 v fun n_1 =>
              onSome vs[(2 : Nat)]? fun v =>
                onIntK IntKind.i64 v fun n_2 =>
                  ifB (n_2 != (0 : Int)) (R (bv true))
                    (ifB (decide (n_1 > (400 : Int))) (R (bv true))
                      (ifB (decide (n_1 < (1 : Int))) (R (bv false))
                        (ifB (decide (n < (0 : Int))) (R (bv false))
                          (need (n_1 ≠ (0 : Int))
                            (ifB (n.tmod n_1 != (0 : Int)) (R (bv false))
                              (ifB (decide (n > IntKind.i64.wrap ((20 : Int) * n_1))) (R (bv false))
                                (Lp (kp12 (2 : Nat))
                                  (W Try.prog CC (149 : Nat) kp12 (2 : Nat)
                                    (cdAt
                                      [(1 : Nat), (1 : Nat), (1 : Nat), (1 : Nat), (1 : Nat), (1 : Nat), (1 : Nat),
                                        (1 : Nat), (0 : Nat), (1 : Nat), (0 : Nat), (0 : Nat)]
                                      (bodyOf Try.f12)))
                                  (Qblk (2 : Nat)
                                    (Qseq
                                      (W Try.prog CC (149 : Nat) kp12 (0 : Nat)
                                        (cdAt
                                          [(1 : Nat), (1 : Nat), (1 : Nat), (1 : Nat), (1 : Nat), (1 : Nat), (1 : Nat),
                                            (1 : Nat), (1 : Nat)]
                                          (bodyOf Try.f12)))
                                      (Qend0 Try.prog Try.f12 R)))
                                  (St.mk
                                    (mkT
                                      [((3 : Nat), bv true), ((5 : Nat), iv n), ((6 : Nat), iv n_1),
                                        ((8 : Nat), bv false), ((64 : Nat), V.lst (3 : Nat) (List.map pc ps)),
                                        ((65 : Nat), iv (↑(List.map pc ps).length : Int)), ((66 : Nat), iv (0 : Int))])
                                    (Hp.mk [] (0 : Nat)))))))))))) (by kernel_rfl) ?_
  refine ifB_mk (fun hb => ?_) (fun hb => ?_)
  · have hlt : i < ps.length := by simpa using hb
    refine pe (List.getElem?_eq_getElem hlt) ?_
    refine onSome_mk (x := V.lst 1 (il ps[i].1)) rfl (onLst_lst ?_)
    refine ifB_mk (fun _ => h) (fun _ => ?_)
    have := hJ (i + 1) hlt (by omega)
    unfold sh12 at this
    rw [show IntKind.i64.wrap ((i : Int) + 1) = ((i + 1 : Nat) : Int) by rw [wr (by omega) (by omega)]; simp]
    exact this
  refine cycle9 (by omega) hl ?_
  unfold cycV
  by_cases hwin : win ps.length 1 6 = true
  case neg =>
    rw [if_neg hwin]
    refine onTup_tup (onSome_mk (x := iv 0) rfl (onIntK_iv (onSome_mk (x := iv 0) rfl (onIntK_iv (onSome_mk (x := iv 4) rfl (onIntK_iv ?_))))))
    exact ifB_mk (fun _ => h) (fun hb => by simp at hb)
  rw [if_pos hwin]
  have hbad : onTup (.tup [iv 0, iv 0, iv 2]) fun vs => onSome vs[0]? fun v => onIntK .i64 v fun n => onSome vs[1]? fun v => onIntK .i64 v fun n_1 => onSome vs[2]? fun v => onIntK .i64 v fun n_2 => n_2 = 2 := rfl
  by_cases hall : ps.all okP = true
  case neg =>
    rw [if_neg hall]
    refine onTup_tup (onSome_mk (x := iv 0) rfl (onIntK_iv (onSome_mk (x := iv 0) rfl (onIntK_iv (onSome_mk (x := iv 2) rfl (onIntK_iv ?_))))))
    exact ifB_mk (fun _ => h) (fun hb => by simp at hb)
  rw [if_pos hall]
  by_cases h5 : lcmL ps ≤ 5000
  case neg =>
    rw [if_neg h5]
    refine onTup_tup (onSome_mk (x := iv 0) rfl (onIntK_iv (onSome_mk (x := iv 0) rfl (onIntK_iv (onSome_mk (x := iv 2) rfl (onIntK_iv ?_))))))
    exact ifB_mk (fun _ => h) (fun hb => by simp at hb)
  rw [if_pos h5]
  have hok : ∀ p ∈ ps, okP p = true ∧ p.1.length ∣ lcmL ps := fun p hp => ⟨List.all_eq_true.1 hall p hp, lcmL_dvd.1 (Nat.dvd_refl _) p hp⟩
  have hpos : 0 < lcmL ps := lcmL_pos fun p hp => (okP_s (hok p hp).1).1
  have hge : ∀ p ∈ ps, settle p (lcmL ps) * lcmL ps ≤ startL ps (lcmL ps) := fun p hp => by
    obtain ⟨j, hj, rfl⟩ := List.mem_iff_getElem.1 hp
    have := startL_ge (P := lcmL ps) ps.length (Nat.le_refl _) j hj hj
    rwa [List.take_length] at this
  have hdvd : lcmL ps ∣ startL ps (lcmL ps) := by
    have := startL_dvd ps (lcmL ps) ps.length (Nat.le_refl _)
    rwa [List.take_length] at this
  have hle20 : startL ps (lcmL ps) ≤ 20 * lcmL ps := by
    have := startL_le (P := lcmL ps) (fun p hp => (settle_spec (hok p hp).1 (hok p hp).2).2.1) ps.length (Nat.le_refl _)
    rwa [List.take_length] at this
  have hdif := dif_all hok
  generalize hPe : lcmL ps = P at *
  generalize hSe : startL ps P = S at *
  refine onTup_tup (onSome_mk (x := iv (S : Int)) rfl (onIntK_iv (onSome_mk (x := iv (P : Int)) rfl (onIntK_iv (onSome_mk (x := iv 0) rfl (onIntK_iv ?_))))))
  refine ifB_mk (fun hb => by simp at hb) (fun _ => ?_)
  refine ifB_mk (fun _ => h) (fun h400 => ?_)
  have h400 : P ≤ 400 := by simp at h400; omega
  refine ifB_mk (fun hb => by simp at hb; omega) (fun _ => ?_)
  refine ifB_mk (fun hb => by simp at hb; omega) (fun _ => ?_)
  refine need_mk ⟨by omega, ?_⟩
  refine ifB_mk (fun hb => ?_) (fun _ => ?_)
  · rw [← Int.ofNat_tmod, Nat.mod_eq_zero_of_dvd hdvd] at hb
    simp at hb
  refine ifB_mk (fun hb => ?_) (fun _ => ?_)
  · rw [wr (by omega) (by omega)] at hb
    simp at hb
    omega
  refine Lp.of (σ := Nat) (sh12b ps S P) (fun i => i ≤ ps.length) (fun i => ps.length - i) 0 (by simp [sh12b, dif]) (by omega) ?_
  intro i hi J hJ
  refine see (p := ifB (decide ((↑i : Int) < (↑ps.length : Int)))
  (onSome (List.map pc ps)[i]? fun row =>
    onCons (List.drop (0 : Nat) row) fun u r =>
      onLst u fun s es =>
        onCons r fun u r =>
          onIntK IntKind.i64 u fun n =>
            onCons r fun u r =>
              onIntK IntKind.i64 u fun n_1 =>
                ifB ((↑es.length : Int) == (0 : Int)) (R (bv false))
                  (need ((↑es.length : Int) ≠ (0 : Int))
                    (ifB ((↑P : Int).tmod (↑es.length : Int) != (0 : Int)) (R (bv false))
                      (K0 Try.prog (46 : Nat)
                        [V.agg [V.lst s es, iv n, iv n_1],
                          iv (IntKind.i64.wrap ((↑S : Int) + IntKind.i64.wrap ((2 : Int) * (↑P : Int))))]
                        fun v =>
                        onTup v fun vs =>
                          onSome vs[(0 : Nat)]? fun v =>
                            onLst v fun s es =>
                              onSome vs[(1 : Nat)]? fun v =>
                                onIntK IntKind.i64 v fun n =>
                                  ifB (n != (0 : Int)) (R (bv false))
                                    (ifB
                                      ((↑es.length : Int) !=
                                        IntKind.i64.wrap
                                          (IntKind.i64.wrap ((↑S : Int) + IntKind.i64.wrap ((2 : Int) * (↑P : Int))) +
                                            (1 : Int)))
                                      (R (bv false))
                                      (Lp (kp12 (4 : Nat))
                                        (W Try.prog CC (149 : Nat) kp12 (4 : Nat)
                                          (cdAt
                                            [(1 : Nat), (1 : Nat), (1 : Nat), (1 : Nat), (1 : Nat), (1 : Nat),
                                              (1 : Nat), (1 : Nat), (0 : Nat), (1 : Nat), (0 : Nat), (0 : Nat),
                                              (1 : Nat), (1 : Nat), (0 : Nat), (0 : Nat), (1 : Nat), (1 : Nat),
                                              (1 : Nat), (1 : Nat), (0 : Nat), (1 : Nat), (0 : Nat), (0 : Nat)]
                                            (bodyOf Try.f12)))
                                        (Qblk (4 : Nat)
                                          (Qseq
                                            (W Try.prog CC (149 : Nat) kp12 (3 : Nat)
                                              (cdAt
                                                [(1 : Nat), (1 : Nat), (1 : Nat), (1 : Nat), (1 : Nat), (1 : Nat),
                                                  (1 : Nat), (1 : Nat), (0 : Nat), (1 : Nat), (0 : Nat), (0 : Nat),
                                                  (1 : Nat), (1 : Nat), (0 : Nat), (0 : Nat), (1 : Nat), (1 : Nat),
                                                  (1 : Nat), (1 : Nat), (1 : Nat)]
                                                (bodyOf Try.f12)))
                                            (Qblk (3 : Nat)
                                              (Qseq
                                                (W Try.prog CC (149 : Nat) kp12 (2 : Nat)
                                                  (cdAt
                                                    [(1 : Nat), (1 : Nat), (1 : Nat), (1 : Nat), (1 : Nat), (1 : Nat),
                                                      (1 : Nat), (1 : Nat), (0 : Nat), (1 : Nat), (0 : Nat), (0 : Nat),
                                                      (1 : Nat), (1 : Nat), (1 : Nat)]
                                                    (bodyOf Try.f12)))
                                                (Qlp (kp12 (2 : Nat)) J
                                                  (Qblk (2 : Nat)
                                                    (Qseq
                                                      (W Try.prog CC (149 : Nat) kp12 (0 : Nat)
                                                        (cdAt
                                                          [(1 : Nat), (1 : Nat), (1 : Nat), (1 : Nat), (1 : Nat),
                                                            (1 : Nat), (1 : Nat), (1 : Nat), (1 : Nat)]
                                                          (bodyOf Try.f12)))
                                                      (Qend0 Try.prog Try.f12 R))))))))
                                        (St.mk
                                          (mkT
                                            [((3 : Nat), bv true), ((5 : Nat), iv (↑S : Int)),
                                              ((6 : Nat), iv (↑P : Int)), ((8 : Nat), bv (dif ps S P i)),
                                              ((11 : Nat), V.lst s es), ((13 : Nat), iv (↑S : Int)),
                                              ((64 : Nat), V.lst (3 : Nat) (List.map pc ps)),
                                              ((65 : Nat), iv (↑ps.length : Int)), ((66 : Nat), iv (↑i : Int))])
                                          (Hp.mk [] (0 : Nat)))))))))
  (ifB ((↑S : Int) == (0 : Int)) (R (bv true)) (R (bv (dif ps S P i))))) (by kernel_rfl) ?_
  refine ifB_mk (fun hb => ?_) (fun hb => ?_)
  · have hlt : i < ps.length := by simpa using hb
    refine pe (List.getElem?_eq_getElem hlt) ?_
    obtain ⟨p, hp⟩ : ∃ p, p = ps[i] := ⟨_, rfl⟩
    rw [← hp]
    have hpm : p ∈ ps := by rw [hp]; exact List.getElem_mem hlt
    obtain ⟨hpo, hpd⟩ := hok p hpm
    obtain ⟨hne, hs, hs', hl'⟩ := okP_s hpo
    have hlpos := List.length_pos_iff.2 hne
    have hafter := fun t (ht : S ≤ t) => place_after hpo hpd (Nat.le_trans (hge p hpm) ht)
    refine onCons_cons (onLst_lst (onCons_cons (onIntK_iv (onCons_cons (onIntK_iv ?_)))))
    refine ifB_mk (fun hb => ?_) (fun _ => ?_)
    · rw [il_length] at hb
      simp at hb
      exact absurd hb hne
    refine need_mk ⟨by rw [il_length]; omega, ?_⟩
    refine ifB_mk (fun hb => ?_) (fun _ => ?_)
    · rw [il_length, ← Int.ofNat_tmod, Nat.mod_eq_zero_of_dvd hpd] at hb
      simp at hb
    have hT : IntKind.i64.wrap ((S : Int) + IntKind.i64.wrap (2 * (P : Int))) = ((S + 2 * P : Nat) : Int) := by
      rw [wr (n := 2 * (P : Int)) (by omega) (by omega), wr (by omega) (by omega)]
      omega
    rw [hT]
    refine places4 (hl p hpm) ?_
    have hw : win ((S + 2 * P : Nat) : Int) 0 10000 = true := by rw [win_iff]; omega
    rw [hpo, hw]
    have htn : (((S + 2 * P : Nat) : Int)).toNat = S + 2 * P := by omega
    show onTup (.tup [.lst 1 (il (places p (((S + 2 * P : Nat) : Int)).toNat)), iv 0]) _
    rw [htn]
    refine onTup_tup (onSome_mk (x := .lst 1 (il (places p (S + 2 * P)))) rfl (onLst_lst (onSome_mk (x := iv 0) rfl (onIntK_iv ?_))))
    refine ifB_mk (fun hb => by simp at hb) (fun _ => ?_)
    refine ifB_mk (fun hb => ?_) (fun _ => ?_)
    · rw [il_length, places_length, wr (by omega) (by omega)] at hb
      simp at hb
    refine Lp.of (σ := Nat) (fun j => sh12c ps p S P i (dif ps S P i) (S + j)) (fun j => j ≤ P + 1) (fun j => P + 1 - j) 0 (by simp [sh12c]) (by omega) ?_
    intro j hj J2 hJ2
    have hd : ∃ d, d = dif ps S P i := ⟨_, rfl⟩
    obtain ⟨d, hd⟩ := hd
    have hnext := hJ (i + 1) hlt (by omega)
    unfold sh12b at hnext
    rw [dif_succ hlt, ← hp, ← hd] at hnext
    rw [← hd] at hJ2 ⊢
    rw [show ((i + 1 : Nat) : Int) = IntKind.i64.wrap ((i : Int) + 1) by rw [wr (by omega) (by omega)]; simp] at hnext
    have hJ2' := hJ2 (j + 1)
    unfold sh12c at hJ2'
    obtain ⟨t, ht⟩ : ∃ t, t = S + j := ⟨_, rfl⟩
    simp only [← Nat.add_assoc] at hJ2'
    try simp only [sh12c]
    rw [← ht] at hJ2' ⊢
    refine see (p := ifB (decide ((↑t : Int) ≤ IntKind.i64.wrap ((↑S : Int) + (↑P : Int))))
  (onSome (il (places p (S + (2 : Nat) * P)))[t]? fun row =>
    onSome row[(0 : Nat)]? fun v =>
      onIntK IntKind.i64 v fun n =>
        onNat (IntKind.i64.wrap ((↑t : Int) + (↑P : Int))) fun m =>
          onSome (il (places p (S + (2 : Nat) * P)))[m]? fun row =>
            onSome row[(0 : Nat)]? fun v =>
              onIntK IntKind.i64 v fun n_1 =>
                ifB (n != n_1) (R (bv false))
                  (J2
                    (St.mk
                      (mkT
                        [((3 : Nat), bv true), ((5 : Nat), iv (↑S : Int)), ((6 : Nat), iv (↑P : Int)),
                          ((8 : Nat), bv d), ((11 : Nat), V.lst (1 : Nat) (il (places p (S + (2 : Nat) * P)))),
                          ((13 : Nat), iv (IntKind.i64.wrap ((↑t : Int) + (1 : Int)))),
                          ((64 : Nat), V.lst (3 : Nat) (List.map pc ps)), ((65 : Nat), iv (↑ps.length : Int)),
                          ((66 : Nat), iv (↑i : Int))])
                      (Hp.mk [] (0 : Nat)))))
  (ifB d
    (J
      (St.mk
        (mkT
          [((3 : Nat), bv true), ((5 : Nat), iv (↑S : Int)), ((6 : Nat), iv (↑P : Int)), ((8 : Nat), bv true),
            ((64 : Nat), V.lst (3 : Nat) (List.map pc ps)), ((65 : Nat), iv (↑ps.length : Int)),
            ((66 : Nat), iv (IntKind.i64.wrap ((↑i : Int) + (1 : Int))))])
        (Hp.mk [] (0 : Nat))))
    (ifB (decide ((↑S : Int) > (0 : Int)))
      (onNat (IntKind.i64.wrap ((↑S : Int) - (↑P : Int))) fun m =>
        onSome (il (places p (S + (2 : Nat) * P)))[m]? fun row =>
          onSome row[(0 : Nat)]? fun v =>
            onIntK IntKind.i64 v fun n =>
              onSome (il (places p (S + (2 : Nat) * P)))[S]? fun row =>
                onSome row[(0 : Nat)]? fun v =>
                  onIntK IntKind.i64 v fun n_1 =>
                    J
                      (St.mk
                        (mkT
                          [((3 : Nat), bv true), ((5 : Nat), iv (↑S : Int)), ((6 : Nat), iv (↑P : Int)),
                            ((8 : Nat), bv (n != n_1)), ((64 : Nat), V.lst (3 : Nat) (List.map pc ps)),
                            ((65 : Nat), iv (↑ps.length : Int)),
                            ((66 : Nat), iv (IntKind.i64.wrap ((↑i : Int) + (1 : Int))))])
                        (Hp.mk [] (0 : Nat))))
      (J
        (St.mk
          (mkT
            [((3 : Nat), bv true), ((5 : Nat), iv (↑S : Int)), ((6 : Nat), iv (↑P : Int)), ((8 : Nat), bv false),
              ((64 : Nat), V.lst (3 : Nat) (List.map pc ps)), ((65 : Nat), iv (↑ps.length : Int)),
              ((66 : Nat), iv (IntKind.i64.wrap ((↑i : Int) + (1 : Int))))])
          (Hp.mk [] (0 : Nat))))))) (by kernel_rfl) ?_
    have hSP : IntKind.i64.wrap ((S : Int) + (P : Int)) = ((S + P : Nat) : Int) := by rw [wr (by omega) (by omega)]; omega
    rw [hSP]
    refine ifB_mk (fun hb => ?_) (fun hb => ?_)
    · have htP : t ≤ S + P := by simp at hb; omega
      refine el (places_get (by omega)) (onNat_mk (m := t + P) (by rw [wr (by omega) (by omega)]; omega) (el (places_get (by omega)) ?_))
      refine ifB_mk (fun hb => ?_) (fun _ => ?_)
      · rw [hafter t (by omega)] at hb
        simp at hb
      have := hJ2' (by omega) (by omega)
      rw [show IntKind.i64.wrap ((t : Int) + 1) = ((t + 1 : Nat) : Int) by rw [wr (by omega) (by omega)]; simp]
      exact this
    · refine ifB_mk (fun hb => ?_) (fun hb => ?_)
      · rw [hb] at hnext
        exact hnext
      rw [hb, Bool.false_or] at hnext
      unfold difP at hnext
      refine ifB_mk (fun hS => ?_) (fun hS => ?_)
      · have hS0 : S > 0 := by simp at hS; omega
        have hPS : P ≤ S := Nat.le_of_dvd hS0 hdvd
        refine onNat_mk (m := S - P) (by rw [wr (by omega) (by omega)]; omega) (el (places_get (by omega)) (el (places_get (by omega)) ?_))
        rw [show decide (S > 0) = true by simpa using hS0, Bool.true_and] at hnext
        exact hnext
      · have hS0 : ¬ S > 0 := by simp at hS; omega
        rw [show decide (S > 0) = false by simpa using hS0, Bool.false_and] at hnext
        exact hnext
  · have hie : i = ps.length := by simp at hb; omega
    subst hie
    refine ifB_mk (fun _ => h) (fun hS => ?_)
    have hS0 : S ≠ 0 := by simpa using hS
    rw [hdif hS0]
    exact h
end Go.Proofs.Ytinccdbooeffbaa
