/- H5 -/
import Derived.Test.YtinccdbooeffbaaXH4
namespace Go.Proofs.Ytinccdbooeffbaa
open Go Go.Proofs.Ytinccdbooeffbaa.Clean
set_option linter.unusedVariables false
set_option linter.unusedSimpArgs false
set_option maxRecDepth 10000

theorem startL_succ {ps : List Pst} {P i : Nat} (h : i < ps.length) : startL (ps.take (i + 1)) P = if settle ps[i] P * P > startL (ps.take i) P then settle ps[i] P * P else startL (ps.take i) P := by
  unfold startL
  rw [List.take_succ_eq_append_getElem h, List.foldl_append]
  rfl
theorem startL_le {ps : List Pst} {P : Nat} (h : ∀ p ∈ ps, settle p P ≤ 20) : ∀ i, i ≤ ps.length → startL (ps.take i) P ≤ 20 * P
  | 0, _ => by simp [startL]
  | i + 1, hi => by
    have ih := startL_le h i (by omega)
    have := Nat.mul_le_mul_right P (h ps[i] (List.getElem_mem (by omega)))
    rw [startL_succ (by omega)]
    split <;> omega

def cycV (ps : List Pst) : V :=
  if win ps.length 1 6 then (if ps.all okP then (if lcmL ps ≤ 5000 then .tup [iv (startL ps (lcmL ps) : Int), iv (lcmL ps : Int), iv 0] else .tup [iv 0, iv 0, iv 2]) else .tup [iv 0, iv 0, iv 2]) else .tup [iv 0, iv 0, iv 4]

theorem allok {ps : List Pst} {i : Nat} (h : i < ps.length) (ha : (ps.take i).all okP = true) (hi : okP ps[i] = true) : (ps.take (i + 1)).all okP = true := by
  rw [List.take_succ_eq_append_getElem h, List.all_append, ha]
  simp [hi]
theorem notall {ps : List Pst} {i : Nat} (h : i < ps.length) (hi : okP ps[i] = false) : ps.all okP = false := by
  rw [List.all_eq_false]
  exact ⟨ps[i], List.getElem_mem h, by simp [hi]⟩

noncomputable def sh9 (ps : List Pst) (i : Nat) : St := ⟨mkT [(0, V.lst 3 (List.map pc ps)), (2, iv 0), (3, iv (lcmL (ps.take i) : Int)), (14, V.lst 3 (List.map pc ps)), (15, iv (ps.length : Int)), (16, iv (i : Int))], ⟨[], 0⟩⟩
noncomputable def sh9b (ps : List Pst) (n i : Nat) : St := ⟨mkT [(0, V.lst 3 (List.map pc ps)), (2, iv (startL (ps.take i) n : Int)), (3, iv (n : Int)), (39, V.lst 3 (List.map pc ps)), (40, iv (ps.length : Int)), (41, iv (i : Int))], ⟨[], 0⟩⟩
theorem cycle9 {ps : List Pst} {R : V → Prop} (hlen : (ps.length : Int) ≤ 100) (hl : ∀ p ∈ ps, (p.1.length : Int) ≤ 9223372036854775807) (h : R (cycV ps)) : K0 Try.prog 18 [.lst 3 (List.map pc ps)] R := by
  refine K0_of_W0 (kps := kp9) hC hmH Try.func18 (see (p := K0 Try.prog (52 : Nat) [iv (↑(List.map pc ps).length : Int), iv (1 : Int), iv (6 : Int)] fun v =>
  onBool v fun b =>
    ifB (!b) (R (V.tup [iv (0 : Int), iv (0 : Int), iv (4 : Int)]))
      (Lp (kp9 (0 : Nat))
        (W Try.prog CC (53 : Nat) kp9 (0 : Nat)
          (cdAt [(1 : Nat), (1 : Nat), (1 : Nat), (0 : Nat), (1 : Nat), (0 : Nat), (0 : Nat)] (bodyOf Try.f18)))
        (Qblk (0 : Nat)
          (Qseq
            (W Try.prog CC (53 : Nat) kp9 (0 : Nat)
              (cdAt [(1 : Nat), (1 : Nat), (1 : Nat), (1 : Nat)] (bodyOf Try.f18)))
            (Qend0 Try.prog Try.f18 R)))
        (St.mk
          (mkT
            [((0 : Nat), V.lst (3 : Nat) (List.map pc ps)), ((2 : Nat), iv (0 : Int)), ((3 : Nat), iv (1 : Int)),
              ((14 : Nat), V.lst (3 : Nat) (List.map pc ps)), ((15 : Nat), iv (↑(List.map pc ps).length : Int)),
              ((16 : Nat), iv (0 : Int))])
          (Hp.mk [] (0 : Nat))))) (by kernel_rfl) ?_)
  unfold cycV at h
  rw [List.length_map]
  refine within11 (onBool_bv (ifB_mk (fun hb => ?_) (fun hb => ?_))) <;> simp at hb <;> rw [hb] at h
  · exact h
  rw [if_pos rfl] at h
  rw [win_iff] at hb
  refine Lp.of (σ := Nat) (sh9 ps) (fun i => i ≤ ps.length ∧ (ps.take i).all okP = true) (fun i => ps.length - i) 0 (by simp [sh9, lcmL]) ⟨by omega, by simp⟩ ?_
  rintro i ⟨hi, hall⟩ J hJ
  have hprev : ∀ p ∈ ps.take i, p.1 ≠ [] ∧ p.1.length ≤ 24 := fun p hp => by
    have := okP_s (List.all_eq_true.1 hall p hp)
    exact ⟨this.1, this.2.2.2⟩
  have hlc : 0 < lcmL (ps.take i) ∧ lcmL (ps.take i) ≤ 24 ^ i := by
    have := lcmL_le i (ps.take i) (by simp; omega) hprev
    rwa [List.take_take, Nat.min_self] at this
  have h24 : 24 ^ i ≤ 24 ^ 6 := Nat.pow_le_pow_right (by omega) (by omega)
  have h24' : (24 : Nat) ^ 6 = 191102976 := by decide
  refine see (p := ifB (decide ((↑i : Int) < (↑ps.length : Int)))
  (onSome (List.map pc ps)[i]? fun row =>
    onCons (List.drop (0 : Nat) row) fun u r =>
      onLst u fun s es =>
        onCons r fun u r =>
          onIntK IntKind.i64 u fun n =>
            onCons r fun u r =>
              onIntK IntKind.i64 u fun n_1 =>
                K0 Try.prog (53 : Nat) [V.agg [V.lst s es, iv n, iv n_1]] fun v =>
                  onIntK IntKind.i64 v fun n =>
                    ifB (n != (0 : Int)) (R (V.tup [iv (0 : Int), iv (0 : Int), iv n]))
                      (K0 Try.prog (54 : Nat) [iv (↑(lcmL (List.take i ps)) : Int), iv (↑es.length : Int)] fun v =>
                        onIntK IntKind.i64 v fun n =>
                          need (n ≠ (0 : Int))
                            (J
                              (St.mk
                                (mkT
                                  [((0 : Nat), V.lst (3 : Nat) (List.map pc ps)), ((2 : Nat), iv (0 : Int)),
                                    ((3 : Nat),
                                      iv
                                        (IntKind.i64.wrap
                                          ((↑(lcmL (List.take i ps)) : Int) *
                                            IntKind.i64.wrap ((↑es.length : Int).tdiv n)))),
                                    ((14 : Nat), V.lst (3 : Nat) (List.map pc ps)), ((15 : Nat), iv (↑ps.length : Int)),
                                    ((16 : Nat), iv (IntKind.i64.wrap ((↑i : Int) + (1 : Int))))])
                                (Hp.mk [] (0 : Nat))))))
  (ifB (decide ((↑(lcmL (List.take i ps)) : Int) > (5000 : Int))) (R (V.tup [iv (0 : Int), iv (0 : Int), iv (2 : Int)]))
    (Lp (kp9 (2 : Nat))
      (W Try.prog CC (53 : Nat) kp9 (2 : Nat)
        (cdAt [(1 : Nat), (1 : Nat), (1 : Nat), (1 : Nat), (1 : Nat), (0 : Nat), (1 : Nat), (0 : Nat), (0 : Nat)]
          (bodyOf Try.f18)))
      (Qblk (2 : Nat)
        (Qseq
          (W Try.prog CC (53 : Nat) kp9 (0 : Nat)
            (cdAt [(1 : Nat), (1 : Nat), (1 : Nat), (1 : Nat), (1 : Nat), (1 : Nat)] (bodyOf Try.f18)))
          (Qend0 Try.prog Try.f18 R)))
      (St.mk
        (mkT
          [((0 : Nat), V.lst (3 : Nat) (List.map pc ps)), ((2 : Nat), iv (0 : Int)),
            ((3 : Nat), iv (↑(lcmL (List.take i ps)) : Int)), ((39 : Nat), V.lst (3 : Nat) (List.map pc ps)),
            ((40 : Nat), iv (↑(List.map pc ps).length : Int)), ((41 : Nat), iv (0 : Int))])
        (Hp.mk [] (0 : Nat)))))) (by kernel_rfl) ?_
  refine ifB_mk (fun hb4 => ?_) (fun hb4 => ?_)
  · have hlt : i < ps.length := by simpa using hb4
    refine pe (List.getElem?_eq_getElem hlt) ?_
    have hpl := hl ps[i] (List.getElem_mem hlt)
    refine check7 hpl (onIntK_iv ?_)
    cases hok : okP ps[i] with
    | false =>
      rw [notall hlt hok] at h
      exact ifB_mk (fun _ => h) (fun hb => by simp at hb)
    | true =>
    refine ifB_mk (fun hb => by simp at hb) (fun _ => ?_)
    obtain ⟨hne, _, _, hle⟩ := okP_s hok
    have hpos := List.length_pos_iff.2 hne
    rw [il_length]
    refine gcd16 (by omega) (by omega) (onIntK_iv ?_)
    have hg : 0 < Nat.gcd (lcmL (ps.take i)) ps[i].1.length := Nat.gcd_pos_of_pos_left _ hlc.1
    refine need_mk ⟨by omega, ?_⟩
    have hmul : lcmL (ps.take i) * (ps[i].1.length / Nat.gcd (lcmL (ps.take i)) ps[i].1.length) = lcmL (ps.take (i + 1)) := by
      rw [lcmL_succ hlt, Nat.lcm, Nat.mul_div_assoc _ (Nat.gcd_dvd_right _ _)]
    have hdiv : ps[i].1.length / Nat.gcd (lcmL (ps.take i)) ps[i].1.length ≤ 24 := Nat.le_trans (Nat.div_le_self _ _) hle
    have hprod : lcmL (ps.take i) * (ps[i].1.length / Nat.gcd (lcmL (ps.take i)) ps[i].1.length) ≤ 191102976 * 24 := Nat.mul_le_mul (by omega) hdiv
    have e1 : IntKind.i64.wrap (((ps[i].1.length : Nat) : Int).tdiv ((Nat.gcd (lcmL (ps.take i)) ps[i].1.length : Nat) : Int)) = ((ps[i].1.length / Nat.gcd (lcmL (ps.take i)) ps[i].1.length : Nat) : Int) := by
      have hq0 : (0 : Int) ≤ ((ps[i].1.length / Nat.gcd (lcmL (ps.take i)) ps[i].1.length : Nat) : Int) := Int.natCast_nonneg _
      rw [← Int.ofNat_tdiv, wr (by omega) (by omega)]
    rw [e1, ← Int.natCast_mul, hmul, wr (by omega) (by rw [hmul] at hprod; omega)]
    have := hJ (i + 1) ⟨hlt, allok hlt hall hok⟩ (by omega)
    unfold sh9 at this
    rw [show IntKind.i64.wrap ((i : Int) + 1) = ((i + 1 : Nat) : Int) by rw [wr (by omega) (by omega)]; simp]
    exact this
  · have hie : i = ps.length := by simp at hb4; omega
    subst hie
    rw [List.take_length] at *
    rw [hall, if_pos rfl] at h
    refine ifB_mk (fun hb5 => ?_) (fun hb5 => ?_)
    · rw [if_neg (by simp at hb5; omega)] at h; exact h
    have h5 : lcmL ps ≤ 5000 := by simp at hb5; omega
    rw [if_pos h5] at h
    have hset : ∀ p ∈ ps, okP p = true ∧ p.1.length ∣ lcmL ps := fun p hp => ⟨List.all_eq_true.1 hall p hp, lcmL_dvd.1 (Nat.dvd_refl _) p hp⟩
    refine Lp.of (σ := Nat) (sh9b ps (lcmL ps)) (fun i => i ≤ ps.length) (fun i => ps.length - i) 0 (by simp [sh9b, startL]) (by omega) ?_
    intro i hi J2 hJ2
    refine see (p := ifB (decide ((↑i : Int) < (↑ps.length : Int)))
  (onSome (List.map pc ps)[i]? fun row =>
    onCons (List.drop (0 : Nat) row) fun u r =>
      onLst u fun s es =>
        onCons r fun u r =>
          onIntK IntKind.i64 u fun n =>
            onCons r fun u r =>
              onIntK IntKind.i64 u fun n_1 =>
                K0 Try.prog (55 : Nat) [V.agg [V.lst s es, iv n, iv n_1], iv (↑(lcmL ps) : Int)] fun v =>
                  onIntK IntKind.i64 v fun n =>
                    J2
                      (St.mk
                        (mkT
                          [((0 : Nat), V.lst (3 : Nat) (List.map pc ps)),
                            ((2 : Nat),
                              iv
                                (if n > (↑(startL (List.take i ps) (lcmL ps)) : Int) then n
                                else (↑(startL (List.take i ps) (lcmL ps)) : Int))),
                            ((3 : Nat), iv (↑(lcmL ps) : Int)), ((39 : Nat), V.lst (3 : Nat) (List.map pc ps)),
                            ((40 : Nat), iv (↑ps.length : Int)),
                            ((41 : Nat), iv (IntKind.i64.wrap ((↑i : Int) + (1 : Int))))])
                        (Hp.mk [] (0 : Nat))))
  (R (V.tup [iv (↑(startL (List.take i ps) (lcmL ps)) : Int), iv (↑(lcmL ps) : Int), iv (0 : Int)]))) (by kernel_rfl) ?_
    refine ifB_mk (fun hb6 => ?_) (fun hb6 => ?_)
    · have hlt : i < ps.length := by simpa using hb6
      refine pe (List.getElem?_eq_getElem hlt) ?_
      obtain ⟨hokp, hdvd⟩ := hset ps[i] (List.getElem_mem hlt)
      refine settled17 hokp hdvd h5 (onIntK_iv ?_)
      have := hJ2 (i + 1) hlt (by omega)
      unfold sh9b at this
      rw [startL_succ hlt] at this
      rw [show IntKind.i64.wrap ((i : Int) + 1) = ((i + 1 : Nat) : Int) by rw [wr (by omega) (by omega)]; simp]
      have e : (if ((settle ps[i] (lcmL ps) * lcmL ps : Nat) : Int) > (startL (ps.take i) (lcmL ps) : Int) then ((settle ps[i] (lcmL ps) * lcmL ps : Nat) : Int) else (startL (ps.take i) (lcmL ps) : Int)) =
          ((if settle ps[i] (lcmL ps) * lcmL ps > startL (ps.take i) (lcmL ps) then settle ps[i] (lcmL ps) * lcmL ps else startL (ps.take i) (lcmL ps) : Nat) : Int) := by
        by_cases hc : settle ps[i] (lcmL ps) * lcmL ps > startL (ps.take i) (lcmL ps)
        · rw [if_pos hc, if_pos (by omega)]
        · rw [if_neg hc, if_neg (by omega)]
      rw [e]
      exact this
    · have hie : i = ps.length := by simp at hb6; omega
      subst hie
      rw [List.take_length]
      exact h
end Go.Proofs.Ytinccdbooeffbaa
