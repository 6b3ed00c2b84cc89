/- Contract: Places. -/
import Derived.Test.YtinccdbooeffbaaXH1
namespace Go.Proofs.Ytinccdbooeffbaa
open Go Go.Proofs.Ytinccdbooeffbaa.Clean
set_option linter.unusedVariables false
set_option linter.unusedSimpArgs false
set_option maxRecDepth 10000

/-! places -/
theorem mv_bound {p : Pst} {t : Nat} {a : Int} (hs : 0 ≤ p.2.2) (h0 : 0 ≤ a) (h1 : a ≤ p.2.2) : 0 ≤ mv p t a ∧ mv p t a ≤ p.2.2 := by
  unfold mv; split <;> split <;> omega
theorem place_bound {p : Pst} (hs : 0 ≤ p.2.2) : ∀ t, 0 ≤ place p t ∧ place p t ≤ p.2.2
  | 0 => ⟨by simp [place], by simpa [place] using hs⟩
  | t + 1 => by
    have := place_bound hs t
    exact mv_bound hs this.1 this.2
theorem places_length (p : Pst) (n : Nat) : (places p n).length = n + 1 := by simp [places]
theorem places_get {p : Pst} {n m : Nat} (h : m ≤ n) : (places p n)[m]? = some (place p m) := by
  simp [places, List.getElem?_range (show m < n + 1 by omega)]
theorem places_succ (p : Pst) (n : Nat) : places p (n + 1) = places p n ++ [place p (n + 1)] := by
  simp [places, List.range_succ]

theorem okP_s {p : Pst} (h : okP p = true) : p.1 ≠ [] ∧ 0 ≤ p.2.2 ∧ p.2.2 ≤ 20 ∧ p.1.length ≤ 24 := by
  simp only [okP, Bool.and_eq_true, win_iff] at h
  refine ⟨fun h0 => ?_, by omega, by omega, by omega⟩
  rw [h0] at h
  simp at h

noncomputable def sh4 (p : Pst) (ticks : Int) (k : Nat) : St := ⟨mkT [(1, iv ticks), (2, V.ptr 0 0 0), (7, V.sl 1 0 (k + 1)), (8, iv ((k : Int) + 1))], ⟨[(0, O.rows 3 false [[V.lst 1 (il p.1), iv p.2.1, iv p.2.2]]), (1, O.rows 1 true (il (places p k)))], 2⟩⟩
theorem places4 {p : Pst} {ticks : Int} {R : V → Prop} (hl : (p.1.length : Int) ≤ 9223372036854775807) (h : R (resP p ticks (okP p && win ticks 0 10000))) :
    K0 Try.prog 46 [.agg [V.lst 1 (il p.1), iv p.2.1, iv p.2.2], iv ticks] R := by
  refine K0_of_W0 (kps := kp4) hC hmH Try.func46 (see (p := K0 Try.prog (53 : Nat) [V.agg [V.lst (1 : Nat) (il p.1), iv p.2.1, iv p.2.2]] fun v =>
  onIntK IntKind.i64 v fun n =>
    ifB (n != (0 : Int)) (R (V.tup [nilS, iv n]))
      (K0 Try.prog (52 : Nat) [iv ticks, iv (0 : Int), iv (10000 : Int)] fun v =>
        onBool v fun b =>
          ifB (!b) (R (V.tup [nilS, iv (2 : Int)]))
            (Lp (kp4 (0 : Nat))
              (W Try.prog CC (35 : Nat) kp4 (0 : Nat)
                (cdAt [(1 : Nat), (1 : Nat), (1 : Nat), (1 : Nat), (0 : Nat), (1 : Nat), (0 : Nat), (0 : Nat)]
                  (bodyOf Try.f46)))
              (Qblk (0 : Nat)
                (Qseq
                  (W Try.prog CC (35 : Nat) kp4 (0 : Nat)
                    (cdAt [(1 : Nat), (1 : Nat), (1 : Nat), (1 : Nat), (1 : Nat)] (bodyOf Try.f46)))
                  (Qend0 Try.prog Try.f46 R)))
              (St.mk
                (mkT
                  [((1 : Nat), iv ticks), ((2 : Nat), V.ptr (0 : Nat) (0 : Nat) (0 : Nat)),
                    ((7 : Nat), V.sl (1 : Nat) (0 : Nat) (1 : Nat)), ((8 : Nat), iv (1 : Int))])
                (Hp.mk
                  [((0 : Nat), O.rows (3 : Nat) false [[V.lst (1 : Nat) (il p.1), iv p.2.1, iv p.2.2]]),
                    ((1 : Nat), O.rows (1 : Nat) true [[iv (0 : Int)]])]
                  (2 : Nat)))))) (by kernel_rfl) ?_)
  refine check7 hl (onIntK_iv ?_)
  cases hp : okP p with
  | false => rw [hp] at h; exact ifB_mk (fun _ => h) (fun hb => by simp at hb)
  | true =>
  rw [hp] at h
  refine ifB_mk (fun hb => by simp at hb) (fun _ => ?_)
  refine within11 (onBool_bv (ifB_mk (fun hb => ?_) (fun hb => ?_))) <;> simp at hb <;> rw [hb] at h
  · exact h
  rw [win_iff] at hb
  obtain ⟨n, rfl⟩ : ∃ n : Nat, ticks = n := ⟨ticks.toNat, by omega⟩
  obtain ⟨hne, hs, hs', hl'⟩ := okP_s hp
  refine Lp.of (σ := Nat) (sh4 p n) (fun k => k ≤ n) (fun k => n - k) 0 (by kernel_rfl) (by omega) ?_
  intro k hk J hJ
  refine see (p := ifB (decide ((↑k : Int) + (1 : Int) ≤ (↑n : Int)))
  (onNat (IntKind.i64.wrap ((↑k : Int) + (1 : Int) - (1 : Int))) fun m =>
    need (m < k + (1 : Nat))
      (onSome (il (places p k))[(0 : Nat) + m]? fun row =>
        onSome row[(0 : Nat)]? fun v =>
          onIntK IntKind.i64 v fun n_1 =>
            K0 Try.prog (80 : Nat)
              [V.agg [V.lst (1 : Nat) (il p.1), iv p.2.1, iv p.2.2], iv ((↑k : Int) + (1 : Int)), iv n_1] fun v =>
              onIntK IntKind.i64 v fun n_2 =>
                need ((k + (1 : Nat) + (1 : Nat)) * (8 : Nat) ≤ (140737488355328 : Nat))
                  (J
                    (St.mk
                      (mkT
                        [((1 : Nat), iv (↑n : Int)), ((2 : Nat), V.ptr (0 : Nat) (0 : Nat) (0 : Nat)),
                          ((7 : Nat), V.sl (1 : Nat) (0 : Nat) (k + (1 : Nat) + (1 : Nat))),
                          ((8 : Nat), iv (IntKind.i64.wrap ((↑k : Int) + (1 : Int) + (1 : Int))))])
                      (Hp.mk
                        [((0 : Nat), O.rows (3 : Nat) false [[V.lst (1 : Nat) (il p.1), iv p.2.1, iv p.2.2]]),
                          ((1 : Nat),
                            O.rows (1 : Nat) true (List.take (k + (1 : Nat)) (il (places p k)) ++ [[iv n_2]]))]
                        (2 : Nat))))))
  (R (V.tup [V.lst (1 : Nat) (sub (il (places p k)) (0 : Nat) (k + (1 : Nat))), iv (0 : Int)]))) (by kernel_rfl) ?_
  have hb' := place_bound hs k
  have hw : IntKind.i64.wrap ((k : Int) + 1 - 1) = (k : Int) := by rw [wr (by omega) (by omega)]; omega
  have htake : (il (places p k)).take (k + 1) = il (places p k) := by rw [List.take_of_length_le]; rw [il_length, places_length]; omega
  refine ifB_mk (fun hb4 => ?_) (fun hb4 => ?_)
  · have hkn : k < n := by simp at hb4; omega
    refine onNat_mk hw ?_
    refine need_mk ⟨by omega, ?_⟩
    rw [Nat.zero_add]
    refine el (places_get (Nat.le_refl k)) ?_
    refine move12 hne (by omega) (by omega) (by omega) (onIntK_iv ?_)
    refine need_mk ⟨by omega, ?_⟩
    have := hJ (k + 1) hkn (by omega)
    unfold sh4 at this
    rw [htake, show IntKind.i64.wrap ((k : Int) + 1 + 1) = ((k + 1 : Nat) : Int) + 1 by rw [wr (by omega) (by omega)]; simp]
    rw [places_succ, ← il_append] at this
    exact this
  · have hkn : k = n := by simp at hb4; omega
    subst hkn
    rw [show sub (il (places p k)) 0 (k + 1) = il (places p k) by unfold sub; rw [List.drop_zero]; exact htake]
    exact h

end Go.Proofs.Ytinccdbooeffbaa
