/- Contracts: ValidPiston, CheckPiston of the specification, Moved. -/
import Derived.Test.YtdjibbbeegpjpaaXG1
namespace Go.Proofs.Ytdjibbbeegpjpaa
open Go Go.Proofs.Ytdjibbbeegpjpaa.Clean
set_option linter.unusedVariables false
set_option linter.unusedSimpArgs false

def sh13 (p : Pst) (i : Nat) : St := ⟨mkT [(1, V.ptr 0 0 0), (3, iv (i : Int))], ⟨[(0, O.rows 3 false [[V.lst 1 (il p.1), iv p.2.1, iv p.2.2]])], 1⟩⟩
theorem valid13 {p : Pst} {R : V → Prop} (hl : (p.1.length : Int) ≤ 9223372036854775807) (h : R (bv (okP p))) : K0 Try.prog 13 [.agg [V.lst 1 (il p.1), iv p.2.1, iv p.2.2]] R := by
  refine K0_of_W0 (kps := kp13) hC hm Try.func13 (see (p := K0 Try.prog (14 : Nat) [iv (↑(il p.1).length : Int), iv (1 : Int), iv (24 : Int)] fun v =>
  onBool v fun b =>
    ifB (!b) (R (bv false))
      (K0 Try.prog (14 : Nat) [iv p.2.1, iv (0 : Int), iv (100 : Int)] fun v =>
        onBool v fun b =>
          ifB (!b) (R (bv false))
            (K0 Try.prog (14 : Nat) [iv p.2.2, iv (1 : Int), iv (20 : Int)] fun v =>
              onBool v fun b =>
                ifB (!b) (R (bv false))
                  (Lp (kp13 (0 : Nat))
                    (W Try.prog CC (35 : Nat) kp13 (0 : Nat)
                      (cdAt [(1 : Nat), (1 : Nat), (0 : Nat), (1 : Nat), (0 : Nat), (0 : Nat)] (bodyOf Try.f13)))
                    (Qblk (0 : Nat)
                      (Qseq
                        (W Try.prog CC (35 : Nat) kp13 (0 : Nat)
                          (cdAt [(1 : Nat), (1 : Nat), (1 : Nat)] (bodyOf Try.f13)))
                        (Qend0 Try.prog Try.f13 R)))
                    (St.mk (mkT [((1 : Nat), V.ptr (0 : Nat) (0 : Nat) (0 : Nat)), ((3 : Nat), iv (0 : Int))])
                      (Hp.mk [((0 : Nat), O.rows (3 : Nat) false [[V.lst (1 : Nat) (il p.1), iv p.2.1, iv p.2.2]])]
                        (1 : Nat))))))) (by kernel_rfl) ?_)
  unfold okP at h
  rw [il_length]
  refine within14 (onBool_bv (ifB_mk (fun hb => ?_) (fun hb => ?_))) <;> simp at hb <;> simp only [hb, Bool.false_and, Bool.true_and] at h
  · exact h
  refine within14 (onBool_bv (ifB_mk (fun hb2 => ?_) (fun hb2 => ?_))) <;> simp at hb2 <;> simp only [hb2, Bool.false_and, Bool.true_and] at h
  · exact h
  refine within14 (onBool_bv (ifB_mk (fun hb3 => ?_) (fun hb3 => ?_))) <;> simp at hb3 <;> simp only [hb3, Bool.false_and, Bool.true_and] at h
  · exact h
  refine Lp.of (σ := Nat) (sh13 p) (fun i => i ≤ p.1.length ∧ okL (p.1.take i) = true) (fun i => p.1.length - i) 0 (by kernel_rfl) ⟨by omega, by simp [okL]⟩ ?_
  rintro i ⟨hi, hok⟩ J hJ
  refine see (p := ifB (decide ((↑i : Int) < (↑(il p.1).length : Int)))
  ((1 : Nat) = (1 : Nat) ∧
    onSome (il p.1)[i]? fun row =>
      onSome row[(0 : Nat)]? fun v =>
        onIntK IntKind.i64 v fun n =>
          K0 Try.prog (14 : Nat) [iv n, iv (0 : Int), iv (100 : Int)] fun v =>
            onBool v fun b =>
              ifB (!b) (R (bv false))
                (J
                  (St.mk
                    (mkT
                      [((1 : Nat), V.ptr (0 : Nat) (0 : Nat) (0 : Nat)),
                        ((3 : Nat), iv (IntKind.i64.wrap ((↑i : Int) + (1 : Int))))])
                    (Hp.mk [((0 : Nat), O.rows (3 : Nat) false [[V.lst (1 : Nat) (il p.1), iv p.2.1, iv p.2.2]])]
                      (1 : Nat)))))
  (R (bv true))) (by kernel_rfl) ?_
  rw [il_length]
  refine ifB_mk (fun hb4 => ?_) (fun hb4 => ?_)
  · have hlt : i < p.1.length := by simpa using hb4
    refine ⟨rfl, el (x := p.1[i]) (List.getElem?_eq_getElem hlt) (within14 (onBool_bv (ifB_mk (fun hb5 => ?_) (fun hb5 => ?_))))⟩ <;> simp at hb5
    · rw [okL_not hlt hb5] at h; exact h
    · have := hJ (i + 1) ⟨hlt, okL_succ hlt hok hb5⟩ (by omega)
      unfold sh13 at this
      rw [show IntKind.i64.wrap ((i : Int) + 1) = ((i + 1 : Nat) : Int) by rw [wr (by omega) (by omega)]; simp]
      exact this
  · have hge : ¬ i < p.1.length := by simpa using hb4
    have hi' : i = p.1.length := by omega
    subst hi'
    rw [List.take_length] at hok
    rw [hok] at h
    exact h

theorem check8 {p : Pst} {R : V → Prop} (hl : (p.1.length : Int) ≤ 9223372036854775807) (h : R (iv (if okP p then 0 else 2))) : K0 Try.prog 8 [.agg [V.lst 1 (il p.1), iv p.2.1, iv p.2.2]] R := by
  refine K0_of_W0 (kps := kp0) hC hm Try.func8 (see (p := K0 Try.prog (13 : Nat) [V.agg [V.lst (1 : Nat) (il p.1), iv p.2.1, iv p.2.2]] fun v =>
  onBool v fun b => ifB (!b) (R (iv (2 : Int))) (R (iv (0 : Int)))) (by kernel_rfl) ?_)
  refine valid13 hl (onBool_bv (ifB_mk (fun hb => ?_) (fun hb => ?_))) <;> simp at hb <;> simp [hb] at h <;> exact h

/-! places -/
theorem mv_bound {p : Pst} {t : Nat} {a : Int} (hs : 0 ≤ p.2.2) (h0 : 0 ≤ a) (h1 : a ≤ p.2.2) : 0 ≤ mv p t a ∧ mv p t a ≤ p.2.2 := by
  unfold mv; split <;> split <;> omega
theorem place_bound {p : Pst} (hs : 0 ≤ p.2.2) : ∀ t, 0 ≤ place p t ∧ place p t ≤ p.2.2
  | 0 => ⟨by simp [place], by simpa [place] using hs⟩
  | t + 1 => by
    have := place_bound hs t
    exact mv_bound hs this.1 this.2
theorem places_length (p : Pst) (n : Nat) : (places p n).length = n + 1 := by simp [places]
theorem places_get {p : Pst} {n m : Nat} (h : m ≤ n) : (places p n)[m]? = some (place p m) := by
  simp [places, List.getElem?_range (show m < n + 1 by omega)]
theorem places_succ (p : Pst) (n : Nat) : places p (n + 1) = places p n ++ [place p (n + 1)] := by
  simp [places, List.range_succ]

theorem okP_s {p : Pst} (h : okP p = true) : p.1 ≠ [] ∧ 0 ≤ p.2.2 ∧ p.2.2 ≤ 20 ∧ p.1.length ≤ 24 := by
  simp only [okP, Bool.and_eq_true, win_iff] at h
  refine ⟨fun h0 => ?_, by omega, by omega, by omega⟩
  rw [h0] at h
  simp at h

def sh15 (p : Pst) (ticks : Int) (k : Nat) : St := ⟨mkT [(1, iv ticks), (2, V.ptr 0 0 0), (5, V.sl 1 0 (k + 1)), (6, iv ((k : Int) + 1))], ⟨[(0, O.rows 3 false [[V.lst 1 (il p.1), iv p.2.1, iv p.2.2]]), (1, O.rows 1 true (il (places p k)))], 2⟩⟩
theorem moved15 {p : Pst} {n : Nat} {R : V → Prop} (hp : okP p = true) (hn : n ≤ 1000000) (h : R (.lst 1 (il (places p n)))) : K0 Try.prog 15 [.agg [V.lst 1 (il p.1), iv p.2.1, iv p.2.2], iv (n : Int)] R := by
  refine K0_of_W0 (kps := kp15) hC hm Try.func15 (see (p := Lp (kp15 (0 : Nat))
  (W Try.prog CC (45 : Nat) kp15 (0 : Nat)
    (cdAt [(1 : Nat), (1 : Nat), (0 : Nat), (1 : Nat), (0 : Nat), (0 : Nat)] (bodyOf Try.f15)))
  (Qblk (0 : Nat)
    (Qseq (W Try.prog CC (45 : Nat) kp15 (0 : Nat) (cdAt [(1 : Nat), (1 : Nat), (1 : Nat)] (bodyOf Try.f15)))
      (Qend0 Try.prog Try.f15 R)))
  (St.mk
    (mkT
      [((1 : Nat), iv (↑n : Int)), ((2 : Nat), V.ptr (0 : Nat) (0 : Nat) (0 : Nat)),
        ((5 : Nat), V.sl (1 : Nat) (0 : Nat) (1 : Nat)), ((6 : Nat), iv (1 : Int))])
    (Hp.mk
      [((0 : Nat), O.rows (3 : Nat) false [[V.lst (1 : Nat) (il p.1), iv p.2.1, iv p.2.2]]),
        ((1 : Nat), O.rows (1 : Nat) true [[iv (0 : Int)]])]
      (2 : Nat)))) (by kernel_rfl) ?_)
  obtain ⟨hl, hs, hs', hl'⟩ := okP_s hp
  refine Lp.of (σ := Nat) (sh15 p n) (fun k => k ≤ n) (fun k => n - k) 0 (by kernel_rfl) (by omega) ?_
  intro k hk J hJ
  refine see (p := ifB (decide ((↑k : Int) + (1 : Int) ≤ (↑n : Int)))
  (onNat (IntKind.i64.wrap ((↑k : Int) + (1 : Int) - (1 : Int))) fun m =>
    m < k + (1 : Nat) ∧
      onSome (il (places p k))[(0 : Nat) + m]? fun row =>
        onSome row[(0 : Nat)]? fun v =>
          onIntK IntKind.i64 v fun n_1 =>
            (↑(il p.1).length : Int) ≠ (0 : Int) ∧
              onNat ((IntKind.i64.wrap ((↑k : Int) + (1 : Int) - (1 : Int))).tmod (↑(il p.1).length : Int)) fun m =>
                (1 : Nat) = (1 : Nat) ∧
                  onSome (il p.1)[m]? fun row =>
                    onSome row[(0 : Nat)]? fun v =>
                      onIntK IntKind.i64 v fun n_2 =>
                        ifB (decide (n_2 ≥ p.2.1))
                          ((k + (1 : Nat) + (1 : Nat)) * (8 : Nat) ≤ (140737488355328 : Nat) ∧
                            J
                              (St.mk
                                (mkT
                                  [((1 : Nat), iv (↑n : Int)), ((2 : Nat), V.ptr (0 : Nat) (0 : Nat) (0 : Nat)),
                                    ((5 : Nat), V.sl (1 : Nat) (0 : Nat) (k + (1 : Nat) + (1 : Nat))),
                                    ((6 : Nat), iv (IntKind.i64.wrap ((↑k : Int) + (1 : Int) + (1 : Int))))])
                                (Hp.mk
                                  [((0 : Nat), O.rows (3 : Nat) false [[V.lst (1 : Nat) (il p.1), iv p.2.1, iv p.2.2]]),
                                    ((1 : Nat),
                                      O.rows (1 : Nat) true
                                        (List.take (k + (1 : Nat)) (il (places p k)) ++
                                          [[iv
                                                (if p.2.2 < IntKind.i64.wrap (n_1 + (1 : Int)) then p.2.2
                                                else IntKind.i64.wrap (n_1 + (1 : Int)))]]))]
                                  (2 : Nat))))
                          ((k + (1 : Nat) + (1 : Nat)) * (8 : Nat) ≤ (140737488355328 : Nat) ∧
                            J
                              (St.mk
                                (mkT
                                  [((1 : Nat), iv (↑n : Int)), ((2 : Nat), V.ptr (0 : Nat) (0 : Nat) (0 : Nat)),
                                    ((5 : Nat), V.sl (1 : Nat) (0 : Nat) (k + (1 : Nat) + (1 : Nat))),
                                    ((6 : Nat), iv (IntKind.i64.wrap ((↑k : Int) + (1 : Int) + (1 : Int))))])
                                (Hp.mk
                                  [((0 : Nat), O.rows (3 : Nat) false [[V.lst (1 : Nat) (il p.1), iv p.2.1, iv p.2.2]]),
                                    ((1 : Nat),
                                      O.rows (1 : Nat) true
                                        (List.take (k + (1 : Nat)) (il (places p k)) ++
                                          [[iv
                                                (if (0 : Int) > IntKind.i64.wrap (n_1 - (1 : Int)) then (0 : Int)
                                                else IntKind.i64.wrap (n_1 - (1 : Int)))]]))]
                                  (2 : Nat)))))
  (R (V.lst (1 : Nat) (sub (il (places p k)) (0 : Nat) (k + (1 : Nat)))))) (by kernel_rfl) ?_
  have hpos : 0 < p.1.length := List.length_pos_iff.2 hl
  have hw : IntKind.i64.wrap ((k : Int) + 1 - 1) = (k : Int) := by rw [wr (by omega) (by omega)]; omega
  have hlt : k % p.1.length < p.1.length := Nat.mod_lt _ hpos
  have hb := place_bound hs k
  have hidx : (k : Int).tmod ((il p.1).length : Int) = ((k % p.1.length : Nat) : Int) := by rw [il_length]; exact (Int.ofNat_tmod k p.1.length).symm
  have hg : p.1.getD (k % p.1.length) 0 = p.1[k % p.1.length] := by simp [List.getD, List.getElem?_eq_getElem hlt]
  have w1 : IntKind.i64.wrap (place p k + 1) = place p k + 1 := wr (by omega) (by omega)
  have w2 : IntKind.i64.wrap (place p k - 1) = place p k - 1 := wr (by omega) (by omega)
  have htake : (il (places p k)).take (k + 1) = il (places p k) := by rw [List.take_of_length_le]; rw [il_length, places_length]; omega
  have next : ∀ x, x = mv p k (place p k) → k < n → J (St.mk (mkT [(1, iv (n : Int)), (2, V.ptr 0 0 0), (5, V.sl 1 0 (k + 1 + 1)), (6, iv (IntKind.i64.wrap ((k : Int) + 1 + 1)))]) (Hp.mk [(0, O.rows 3 false [[V.lst 1 (il p.1), iv p.2.1, iv p.2.2]]), (1, O.rows 1 true (List.take (k + 1) (il (places p k)) ++ [[iv x]]))] 2)) := by
    intro x hx hkn
    have := hJ (k + 1) hkn (by omega)
    unfold sh15 at this
    rw [htake, show IntKind.i64.wrap ((k : Int) + 1 + 1) = ((k + 1 : Nat) : Int) + 1 by rw [wr (by omega) (by omega)]; simp]
    rw [places_succ, ← il_append] at this
    subst hx
    exact this
  refine ifB_mk (fun hb4 => ?_) (fun hb4 => ?_)
  · have hkn : k < n := by simp at hb4; omega
    refine onNat_mk hw ?_
    refine ⟨by omega, ?_⟩
    rw [Nat.zero_add]
    refine el (places_get (Nat.le_refl k)) ?_
    rw [hw]
    refine ⟨by rw [il_length]; omega, onNat_mk hidx ?_⟩
    refine ⟨rfl, el (x := p.1[k % p.1.length]) (List.getElem?_eq_getElem hlt) ?_⟩
    rw [w1, w2]
    refine ifB_mk (fun hb5 => ?_) (fun hb5 => ?_)
    · refine ⟨by omega, next _ ?_ hkn⟩
      unfold mv; rw [hg, if_pos (of_decide_eq_true hb5)]
    · refine ⟨by omega, next _ ?_ hkn⟩
      unfold mv; rw [hg, if_neg (of_decide_eq_false hb5)]
  · have hkn : k = n := by simp at hb4; omega
    subst hkn
    rw [show sub (il (places p k)) 0 (k + 1) = il (places p k) by unfold sub; rw [List.drop_zero]; exact htake]
    exact h
end Go.Proofs.Ytdjibbbeegpjpaa
