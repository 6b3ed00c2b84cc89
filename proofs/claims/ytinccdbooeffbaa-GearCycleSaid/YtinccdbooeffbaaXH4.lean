/- H4 -/
import Derived.Test.YtinccdbooeffbaaXH2
namespace Go.Proofs.Ytinccdbooeffbaa
open Go Go.Proofs.Ytinccdbooeffbaa.Clean
set_option linter.unusedVariables false
set_option linter.unusedSimpArgs false
set_option maxRecDepth 10000

noncomputable def sh16 (x : Nat × Nat) : St := ⟨mkT [(0, iv (x.1 : Int)), (1, iv (x.2 : Int))], ⟨[], 0⟩⟩
theorem gcd16 {a b : Nat} {R : V → Prop} (ha : (a : Int) ≤ 9223372036854775807) (hb : (b : Int) ≤ 9223372036854775807) (h : R (iv (Nat.gcd a b : Int))) : K0 Try.prog 54 [iv (a : Int), iv (b : Int)] R := by
  refine K0_of_W0 (kps := kp16) hC hmH Try.func54 (see (p := Lp (kp16 (0 : Nat))
  (W Try.prog CC (15 : Nat) kp16 (0 : Nat) (cdAt [(1 : Nat), (0 : Nat), (0 : Nat), (0 : Nat)] (bodyOf Try.f54)))
  (Qblk (0 : Nat)
    (Qseq (W Try.prog CC (15 : Nat) kp16 (0 : Nat) (cdAt [(1 : Nat), (1 : Nat)] (bodyOf Try.f54)))
      (Qend0 Try.prog Try.f54 R)))
  (St.mk (mkT [((0 : Nat), iv (↑a : Int)), ((1 : Nat), iv (↑b : Int))]) (Hp.mk [] (0 : Nat)))) (by kernel_rfl) ?_)
  refine Lp.of (σ := Nat × Nat) sh16 (fun x => Nat.gcd x.1 x.2 = Nat.gcd a b ∧ (x.1 : Int) ≤ 9223372036854775807 ∧ (x.2 : Int) ≤ 9223372036854775807) (fun x => x.2) (a, b) (by kernel_rfl) ⟨rfl, ha, hb⟩ ?_
  rintro ⟨x, y⟩ ⟨hg, hx, hy⟩ J hJ
  refine see (p := ifB ((↑y : Int) != (0 : Int))
  (need ((↑y : Int) ≠ (0 : Int))
    (J (St.mk (mkT [((0 : Nat), iv (↑y : Int)), ((1 : Nat), iv ((↑x : Int).tmod (↑y : Int)))]) (Hp.mk [] (0 : Nat)))))
  (R
    (iv
      (if IntKind.i64.wrap ((0 : Int) - (↑x : Int)) > (↑x : Int) then IntKind.i64.wrap ((0 : Int) - (↑x : Int))
      else (↑x : Int))))) (by kernel_rfl) ?_
  simp only at hg hx hy
  refine ifB_mk (fun hb => ?_) (fun hb => ?_)
  · have hy0 : y ≠ 0 := by simpa using hb
    have hlt := Nat.mod_lt x (Nat.pos_of_ne_zero hy0)
    refine need_mk ⟨by omega, ?_⟩
    have := hJ (y, x % y) ⟨by rw [← hg]; simp only; rw [Nat.gcd_comm x y, Nat.gcd_rec y x, Nat.gcd_comm], hy, by simp only; omega⟩ hlt
    unfold sh16 at this
    rw [← Int.ofNat_tmod]
    exact this
  · have hy0 : y = 0 := by simpa using hb
    subst hy0
    rw [Nat.gcd_zero_right] at hg
    rw [wr (by omega) (by omega), if_neg (by omega), hg]
    exact h

/-! periods -/
theorem pe {ps : List Pst} {m : Nat} {p : Pst} {k : List V → Prop} (h : ps[m]? = some p) (hk : k (pc p)) : onSome (List.map pc ps)[m]? k :=
  onSome_mk (x := pc p) (by simp [h]) hk

/-! the least common multiple -/
theorem lcmL_succ {ps : List Pst} {i : Nat} (h : i < ps.length) : lcmL (ps.take (i + 1)) = Nat.lcm (lcmL (ps.take i)) ps[i].1.length := by
  unfold lcmL
  rw [List.take_succ_eq_append_getElem h, List.foldl_append]
  rfl
theorem foldl_lcm_dvd : ∀ (ps : List Pst) (a n : Nat), ps.foldl (fun n p => Nat.lcm n p.1.length) a ∣ n ↔ a ∣ n ∧ ∀ p ∈ ps, p.1.length ∣ n
  | [], a, n => by simp
  | p :: ps, a, n => by
    rw [List.foldl_cons, foldl_lcm_dvd ps, Nat.lcm_dvd_iff]
    simp [and_assoc]
theorem lcmL_dvd {ps : List Pst} {n : Nat} : lcmL ps ∣ n ↔ ∀ p ∈ ps, p.1.length ∣ n := by
  unfold lcmL; rw [foldl_lcm_dvd]; simp
theorem lcmL_pos {ps : List Pst} (h : ∀ p ∈ ps, p.1 ≠ []) : 0 < lcmL ps := by
  have key : ∀ (ps : List Pst) (a : Nat), 0 < a → (∀ p ∈ ps, p.1 ≠ []) → 0 < ps.foldl (fun n p => Nat.lcm n p.1.length) a := by
    intro ps
    induction ps with
    | nil => intro a ha _; exact ha
    | cons p ps ih =>
      intro a ha h
      exact ih _ (Nat.lcm_pos ha (List.length_pos_iff.2 (h p (by simp)))) (fun q hq => h q (by simp [hq]))
  exact key ps 1 (by omega) h
theorem lcmL_le : ∀ (i : Nat) (ps : List Pst), i ≤ ps.length → (∀ p ∈ ps, p.1 ≠ [] ∧ p.1.length ≤ 24) → 0 < lcmL (ps.take i) ∧ lcmL (ps.take i) ≤ 24 ^ i
  | 0, ps, _, _ => by simp [lcmL]
  | i + 1, ps, hi, h => by
    obtain ⟨h0, h1⟩ := lcmL_le i ps (by omega) h
    rw [lcmL_succ (by omega)]
    have hm := h ps[i] (List.getElem_mem _)
    have hp := List.length_pos_iff.2 hm.1
    refine ⟨Nat.lcm_pos h0 hp, ?_⟩
    have := Nat.le_of_dvd (Nat.mul_pos h0 hp) (Nat.lcm_dvd_mul (lcmL (ps.take i)) ps[i].1.length)
    have h2 : lcmL (ps.take i) * ps[i].1.length ≤ 24 ^ i * 24 := Nat.mul_le_mul h1 hm.2
    rw [Nat.pow_succ]
    omega

theorem fitsB_iff {ps : List Pst} {n : Nat} : fitsB ps n = true ↔ lcmL ps ∣ n ∨ 5000 < n := by
  unfold fitsB
  rw [Bool.or_eq_true, lcmL_dvd]
  simp [List.all_eq_true, Nat.dvd_iff_mod_eq_zero]

/-- The period, or the first number above the greatest one. -/
def per (ps : List Pst) : Nat := if lcmL ps ≤ 5000 then lcmL ps else 5001
theorem per_pos {ps : List Pst} (h : ∀ p ∈ ps, p.1 ≠ []) : 1 ≤ per ps ∧ per ps ≤ 5001 := by
  have := lcmL_pos h
  unfold per; split <;> omega
theorem per_fits {ps : List Pst} : fitsB ps (per ps) = true := by
  rw [fitsB_iff]; unfold per; split
  · exact .inl (Nat.dvd_refl _)
  · exact .inr (by omega)
theorem per_least {ps : List Pst} {n : Nat} (h1 : 1 ≤ n) (h2 : n ≤ per ps) (hf : fitsB ps n = true) : n = per ps := by
  rw [fitsB_iff] at hf
  unfold per at *
  rcases hf with hf | hf
  · have := Nat.le_of_dvd (by omega) hf
    split at h2 <;> split <;> omega
  · split at h2 <;> split <;> omega

/-! what repeats -/
theorem mv_mod {p : Pst} {P k t : Nat} {a : Int} (hP : p.1.length ∣ P) : mv p (k * P + t) a = mv p t a := by
  obtain ⟨q, rfl⟩ := hP
  unfold mv
  rw [show k * (p.1.length * q) + t = t + p.1.length * (k * q) by rw [Nat.mul_left_comm]; omega, Nat.add_mul_mod_self_left]
theorem mv_mono {p : Pst} {t : Nat} {a b : Int} (h : a ≤ b) : mv p t a ≤ mv p t b := by
  unfold mv; split <;> split <;> split <;> omega
theorem place_add {p : Pst} {P k t : Nat} (hP : p.1.length ∣ P) : place p (k * P + (t + 1)) = mv p t (place p (k * P + t)) := by
  show mv p (k * P + t) _ = _
  exact mv_mod hP
theorem place_grows {p : Pst} {P : Nat} (hs : 0 ≤ p.2.2) (hP : p.1.length ∣ P) : ∀ k t, place p (k * P + t) ≤ place p ((k + 1) * P + t) := by
  intro k
  have step : ∀ k, place p (k * P) ≤ place p ((k + 1) * P) → ∀ t, place p (k * P + t) ≤ place p ((k + 1) * P + t) := by
    intro k h0 t
    induction t with
    | zero => exact h0
    | succ t ih => rw [place_add hP, place_add hP]; exact mv_mono ih
  induction k with
  | zero => exact step 0 (by rw [Nat.zero_mul]; exact (place_bound hs _).1)
  | succ k ih => exact step (k + 1) (by have := ih P; rw [← Nat.succ_mul, ← Nat.succ_mul] at this; exact this)
def atK (p : Pst) (P k : Nat) : Prop := place p (k * P) = place p (k * P + P)
theorem settles {p : Pst} {P : Nat} (hp : okP p = true) (hP : p.1.length ∣ P) : ∃ k, k ≤ 20 ∧ atK p P k := by
  obtain ⟨_, hs, hs', _⟩ := okP_s hp
  refine Classical.byContradiction fun hno => ?_
  have hno' : ∀ k, k ≤ 20 → place p (k * P) ≠ place p (k * P + P) := fun k hk he => hno ⟨k, hk, he⟩
  have grow : ∀ k : Nat, k ≤ 21 → (k : Int) ≤ place p (k * P) := by
    intro k
    induction k with
    | zero => intro _; exact (place_bound hs _).1
    | succ k ih =>
      intro hk
      have h1 := ih (by omega)
      have h2 := place_grows hs hP k 0
      have h3 := hno' k (by omega)
      rw [Nat.add_zero, Nat.add_zero] at h2
      rw [← Nat.succ_mul] at h3
      simp only [Nat.succ_eq_add_one] at h3
      omega
  have := grow 21 (by omega)
  have := (place_bound hs (21 * P)).2
  omega
theorem settleFrom_spec {p : Pst} {P : Nat} : ∀ f k, (∃ j, k ≤ j ∧ j < k + f ∧ atK p P j) → atK p P (settleFrom p P f k) ∧ settleFrom p P f k < k + f ∧ ∀ j, k ≤ j → j < settleFrom p P f k → ¬ atK p P j
  | 0, k, ⟨j, h1, h2, _⟩ => by omega
  | f + 1, k, ⟨j, h1, h2, h3⟩ => by
    simp only [settleFrom]
    by_cases hk : place p (k * P) = place p (k * P + P)
    · rw [if_pos hk]; exact ⟨hk, by omega, fun j h1 h2 => by omega⟩
    · rw [if_neg hk]
      have hne : j ≠ k := fun h => hk (h ▸ h3)
      obtain ⟨g1, g2, g3⟩ := settleFrom_spec f (k + 1) ⟨j, by omega, by omega, h3⟩
      refine ⟨g1, by omega, fun j' h4 h5 => ?_⟩
      by_cases hj : j' = k
      · subst hj; exact hk
      · exact g3 j' (by omega) h5
theorem settle_spec {p : Pst} {P : Nat} (hp : okP p = true) (hP : p.1.length ∣ P) : atK p P (settle p P) ∧ settle p P ≤ 20 ∧ ∀ j, j < settle p P → ¬ atK p P j := by
  obtain ⟨k, hk, he⟩ := settles hp hP
  obtain ⟨h1, h2, h3⟩ := settleFrom_spec (p := p) (P := P) 21 0 ⟨k, by omega, by omega, he⟩
  exact ⟨h1, by unfold settle; omega, fun j hj => h3 j (by omega) hj⟩

noncomputable def sh17 (p : Pst) (P k : Nat) : St := ⟨mkT [(1, iv (P : Int)), (2, V.ptr 0 0 0), (5, iv (place p (k * P))), (6, iv ((k * P : Nat) : Int))], ⟨[(0, O.rows 3 false [[V.lst 1 (il p.1), iv p.2.1, iv p.2.2]])], 1⟩⟩
noncomputable def sh17b (p : Pst) (P k t : Nat) : St := ⟨mkT [(1, iv (P : Int)), (2, V.ptr 0 0 0), (5, iv (place p (k * P))), (6, iv ((k * P : Nat) : Int)), (7, iv (place p (k * P + t))), (8, iv ((t : Int) + 1))], ⟨[(0, O.rows 3 false [[V.lst 1 (il p.1), iv p.2.1, iv p.2.2]])], 1⟩⟩
theorem settled17 {p : Pst} {P : Nat} {R : V → Prop} (hp : okP p = true) (hP : p.1.length ∣ P) (h5 : P ≤ 5000) (h : R (iv ((settle p P * P : Nat) : Int))) : K0 Try.prog 55 [.agg [V.lst 1 (il p.1), iv p.2.1, iv p.2.2], iv (P : Int)] R := by
  refine K0_of_W0 (kps := kp17) hC hmH Try.func55 (see (p := Lp (kp17 (0 : Nat))
  (W Try.prog CC (27 : Nat) kp17 (0 : Nat)
    (cdAt [(1 : Nat), (1 : Nat), (1 : Nat), (0 : Nat), (0 : Nat)] (bodyOf Try.f55)))
  (Qblk (0 : Nat) (Qend0 Try.prog Try.f55 R))
  (St.mk
    (mkT
      [((1 : Nat), iv (↑P : Int)), ((2 : Nat), V.ptr (0 : Nat) (0 : Nat) (0 : Nat)), ((5 : Nat), iv (0 : Int)),
        ((6 : Nat), iv (0 : Int))])
    (Hp.mk [((0 : Nat), O.rows (3 : Nat) false [[V.lst (1 : Nat) (il p.1), iv p.2.1, iv p.2.2]])] (1 : Nat)))) (by kernel_rfl) ?_)
  obtain ⟨hne, hs, hs', hl'⟩ := okP_s hp
  obtain ⟨hK, hK20, hmin⟩ := settle_spec hp hP
  refine Lp.of (σ := Nat) (sh17 p P) (fun k => k ≤ settle p P) (fun k => settle p P - k) 0 (by simp [sh17, place]) (by omega) ?_
  intro k hk J hJ
  have hkP : k * P ≤ 20 * 5000 := Nat.mul_le_mul (by omega) h5
  refine see (p := Lp (kp17 (2 : Nat))
  (W Try.prog CC (27 : Nat) kp17 (2 : Nat)
    (cdAt
      [(1 : Nat), (1 : Nat), (1 : Nat), (0 : Nat), (0 : Nat), (0 : Nat), (0 : Nat), (1 : Nat), (0 : Nat), (1 : Nat),
        (0 : Nat), (0 : Nat)]
      (bodyOf Try.f55)))
  (Qblk (2 : Nat)
    (Qseq
      (W Try.prog CC (27 : Nat) kp17 (1 : Nat)
        (cdAt [(1 : Nat), (1 : Nat), (1 : Nat), (0 : Nat), (0 : Nat), (0 : Nat), (0 : Nat), (1 : Nat), (1 : Nat)]
          (bodyOf Try.f55)))
      (Qblk (1 : Nat)
        (Qseq
          (W Try.prog CC (27 : Nat) kp17 (0 : Nat)
            (cdAt [(1 : Nat), (1 : Nat), (1 : Nat), (0 : Nat), (0 : Nat), (1 : Nat)] (bodyOf Try.f55)))
          (Qlp (kp17 (0 : Nat)) J (Qblk (0 : Nat) (Qend0 Try.prog Try.f55 R)))))))
  (St.mk
    (mkT
      [((1 : Nat), iv (↑P : Int)), ((2 : Nat), V.ptr (0 : Nat) (0 : Nat) (0 : Nat)), ((5 : Nat), iv (place p (k * P))),
        ((6 : Nat), iv (↑(k * P) : Int)), ((7 : Nat), iv (place p (k * P))), ((8 : Nat), iv (1 : Int))])
    (Hp.mk [((0 : Nat), O.rows (3 : Nat) false [[V.lst (1 : Nat) (il p.1), iv p.2.1, iv p.2.2]])] (1 : Nat)))) (by kernel_rfl) ?_
  refine Lp.of (σ := Nat) (sh17b p P k) (fun t => t ≤ P) (fun t => P - t) 0 (by simp [sh17b]) (by omega) ?_
  intro t ht J2 hJ2
  refine see (p := ifB (decide ((↑t : Int) + (1 : Int) ≤ (↑P : Int)))
  (K0 Try.prog (80 : Nat)
    [V.agg [V.lst (1 : Nat) (il p.1), iv p.2.1, iv p.2.2], iv ((↑t : Int) + (1 : Int)), iv (place p (k * P + t))]
    fun v =>
    onIntK IntKind.i64 v fun n =>
      J2
        (St.mk
          (mkT
            [((1 : Nat), iv (↑P : Int)), ((2 : Nat), V.ptr (0 : Nat) (0 : Nat) (0 : Nat)),
              ((5 : Nat), iv (place p (k * P))), ((6 : Nat), iv (↑(k * P) : Int)), ((7 : Nat), iv n),
              ((8 : Nat), iv (IntKind.i64.wrap ((↑t : Int) + (1 : Int) + (1 : Int))))])
          (Hp.mk [((0 : Nat), O.rows (3 : Nat) false [[V.lst (1 : Nat) (il p.1), iv p.2.1, iv p.2.2]])] (1 : Nat))))
  (ifB (place p (k * P + t) == place p (k * P)) (R (iv (↑(k * P) : Int)))
    (J
      (St.mk
        (mkT
          [((1 : Nat), iv (↑P : Int)), ((2 : Nat), V.ptr (0 : Nat) (0 : Nat) (0 : Nat)),
            ((5 : Nat), iv (place p (k * P + t))), ((6 : Nat), iv (IntKind.i64.wrap ((↑(k * P) : Int) + (↑P : Int))))])
        (Hp.mk [((0 : Nat), O.rows (3 : Nat) false [[V.lst (1 : Nat) (il p.1), iv p.2.1, iv p.2.2]])] (1 : Nat)))))) (by kernel_rfl) ?_
  have hb := place_bound hs (k * P + t)
  refine ifB_mk (fun hb4 => ?_) (fun hb4 => ?_)
  · have htP : t < P := by simp at hb4; omega
    refine move12 hne (by omega) (by omega) (by omega) (onIntK_iv ?_)
    have := hJ2 (t + 1) htP (by omega)
    unfold sh17b at this
    rw [show IntKind.i64.wrap ((t : Int) + 1 + 1) = ((t + 1 : Nat) : Int) + 1 by rw [wr (by omega) (by omega)]; simp]
    rw [place_add hP] at this
    exact this
  · have htP : t = P := by simp at hb4; omega
    subst htP
    refine ifB_mk (fun hb5 => ?_) (fun hb5 => ?_)
    · have he : atK p t k := by simp at hb5; exact hb5.symm
      have : k = settle p t := by
        rcases Nat.lt_or_ge k (settle p t) with h | h
        · exact (hmin k h he).elim
        · omega
      rw [this]; exact h
    · have hne' : ¬ atK p t k := fun he => by unfold atK at he; simp [he] at hb5
      have hlt : k < settle p t := by
        rcases Nat.lt_or_ge k (settle p t) with h | h
        · exact h
        · exact (hne' (by rw [show k = settle p t by omega]; exact hK)).elim
      have := hJ (k + 1) hlt (by omega)
      unfold sh17 at this
      rw [show IntKind.i64.wrap (((k * t : Nat) : Int) + (t : Int)) = (((k + 1) * t : Nat) : Int) by rw [wr (by omega) (by omega), Nat.succ_mul]; simp]
      rw [show (k + 1) * t = k * t + t from Nat.succ_mul k t] at this
      rw [show (k + 1) * t = k * t + t from Nat.succ_mul k t]
      exact this
end Go.Proofs.Ytinccdbooeffbaa
