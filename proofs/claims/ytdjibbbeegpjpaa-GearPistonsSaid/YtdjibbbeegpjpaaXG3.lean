/- Contracts: Places of both, SameInts, divisor, fits. -/
import Derived.Test.YtdjibbbeegpjpaaXG2
namespace Go.Proofs.Ytdjibbbeegpjpaa
open Go Go.Proofs.Ytdjibbbeegpjpaa.Clean
set_option linter.unusedVariables false
set_option linter.unusedSimpArgs false

def sh4 (p : Pst) (ticks : Int) (k : Nat) : St := ⟨mkT [(1, iv ticks), (2, V.ptr 0 0 0), (7, V.sl 1 0 (k + 1)), (8, iv ((k : Int) + 1))], ⟨[(0, O.rows 3 false [[V.lst 1 (il p.1), iv p.2.1, iv p.2.2]]), (1, O.rows 1 true (il (places p k)))], 2⟩⟩
theorem places4 {p : Pst} {ticks : Int} {R : V → Prop} (hl : (p.1.length : Int) ≤ 9223372036854775807) (h : R (resP p ticks (okP p && win ticks 0 10000))) :
    K0 Try.prog 4 [.agg [V.lst 1 (il p.1), iv p.2.1, iv p.2.2], iv ticks] R := by
  refine K0_of_W0 (kps := kp4) hC hm Try.func4 (see (p := K0 Try.prog (7 : Nat) [V.agg [V.lst (1 : Nat) (il p.1), iv p.2.1, iv p.2.2]] fun v =>
  onIntK IntKind.i64 v fun n =>
    ifB (n != (0 : Int)) (R (V.tup [nilS, iv n]))
      (K0 Try.prog (11 : Nat) [iv ticks, iv (0 : Int), iv (10000 : Int)] fun v =>
        onBool v fun b =>
          ifB (!b) (R (V.tup [nilS, iv (2 : Int)]))
            (Lp (kp4 (0 : Nat))
              (W Try.prog CC (35 : Nat) kp4 (0 : Nat)
                (cdAt [(1 : Nat), (1 : Nat), (1 : Nat), (1 : Nat), (0 : Nat), (1 : Nat), (0 : Nat), (0 : Nat)]
                  (bodyOf Try.f4)))
              (Qblk (0 : Nat)
                (Qseq
                  (W Try.prog CC (35 : Nat) kp4 (0 : Nat)
                    (cdAt [(1 : Nat), (1 : Nat), (1 : Nat), (1 : Nat), (1 : Nat)] (bodyOf Try.f4)))
                  (Qend0 Try.prog Try.f4 R)))
              (St.mk
                (mkT
                  [((1 : Nat), iv ticks), ((2 : Nat), V.ptr (0 : Nat) (0 : Nat) (0 : Nat)),
                    ((7 : Nat), V.sl (1 : Nat) (0 : Nat) (1 : Nat)), ((8 : Nat), iv (1 : Int))])
                (Hp.mk
                  [((0 : Nat), O.rows (3 : Nat) false [[V.lst (1 : Nat) (il p.1), iv p.2.1, iv p.2.2]]),
                    ((1 : Nat), O.rows (1 : Nat) true [[iv (0 : Int)]])]
                  (2 : Nat)))))) (by kernel_rfl) ?_)
  refine check7 hl (onIntK_iv ?_)
  cases hp : okP p with
  | false => rw [hp] at h; exact ifB_mk (fun _ => h) (fun hb => by simp at hb)
  | true =>
  rw [hp] at h
  refine ifB_mk (fun hb => by simp at hb) (fun _ => ?_)
  refine within11 (onBool_bv (ifB_mk (fun hb => ?_) (fun hb => ?_))) <;> simp at hb <;> rw [hb] at h
  · exact h
  rw [win_iff] at hb
  obtain ⟨n, rfl⟩ : ∃ n : Nat, ticks = n := ⟨ticks.toNat, by omega⟩
  obtain ⟨hne, hs, hs', hl'⟩ := okP_s hp
  refine Lp.of (σ := Nat) (sh4 p n) (fun k => k ≤ n) (fun k => n - k) 0 (by kernel_rfl) (by omega) ?_
  intro k hk J hJ
  refine see (p := ifB (decide ((↑k : Int) + (1 : Int) ≤ (↑n : Int)))
  (onNat (IntKind.i64.wrap ((↑k : Int) + (1 : Int) - (1 : Int))) fun m =>
    m < k + (1 : Nat) ∧
      onSome (il (places p k))[(0 : Nat) + m]? fun row =>
        onSome row[(0 : Nat)]? fun v =>
          onIntK IntKind.i64 v fun n_1 =>
            K0 Try.prog (12 : Nat)
              [V.agg [V.lst (1 : Nat) (il p.1), iv p.2.1, iv p.2.2], iv ((↑k : Int) + (1 : Int)), iv n_1] fun v =>
              onIntK IntKind.i64 v fun n_2 =>
                (k + (1 : Nat) + (1 : Nat)) * (8 : Nat) ≤ (140737488355328 : Nat) ∧
                  J
                    (St.mk
                      (mkT
                        [((1 : Nat), iv (↑n : Int)), ((2 : Nat), V.ptr (0 : Nat) (0 : Nat) (0 : Nat)),
                          ((7 : Nat), V.sl (1 : Nat) (0 : Nat) (k + (1 : Nat) + (1 : Nat))),
                          ((8 : Nat), iv (IntKind.i64.wrap ((↑k : Int) + (1 : Int) + (1 : Int))))])
                      (Hp.mk
                        [((0 : Nat), O.rows (3 : Nat) false [[V.lst (1 : Nat) (il p.1), iv p.2.1, iv p.2.2]]),
                          ((1 : Nat),
                            O.rows (1 : Nat) true (List.take (k + (1 : Nat)) (il (places p k)) ++ [[iv n_2]]))]
                        (2 : Nat))))
  (R (V.tup [V.lst (1 : Nat) (sub (il (places p k)) (0 : Nat) (k + (1 : Nat))), iv (0 : Int)]))) (by kernel_rfl) ?_
  have hb' := place_bound hs k
  have hw : IntKind.i64.wrap ((k : Int) + 1 - 1) = (k : Int) := by rw [wr (by omega) (by omega)]; omega
  have htake : (il (places p k)).take (k + 1) = il (places p k) := by rw [List.take_of_length_le]; rw [il_length, places_length]; omega
  refine ifB_mk (fun hb4 => ?_) (fun hb4 => ?_)
  · have hkn : k < n := by simp at hb4; omega
    refine onNat_mk hw ?_
    refine ⟨by omega, ?_⟩
    rw [Nat.zero_add]
    refine el (places_get (Nat.le_refl k)) ?_
    refine move12 hne (by omega) (by omega) (by omega) (onIntK_iv ?_)
    refine ⟨by omega, ?_⟩
    have := hJ (k + 1) hkn (by omega)
    unfold sh4 at this
    rw [htake, show IntKind.i64.wrap ((k : Int) + 1 + 1) = ((k + 1 : Nat) : Int) + 1 by rw [wr (by omega) (by omega)]; simp]
    rw [places_succ, ← il_append] at this
    exact this
  · have hkn : k = n := by simp at hb4; omega
    subst hkn
    rw [show sub (il (places p k)) 0 (k + 1) = il (places p k) by unfold sub; rw [List.drop_zero]; exact htake]
    exact h

theorem places5 {p : Pst} {ticks : Int} {R : V → Prop} (hl : (p.1.length : Int) ≤ 9223372036854775807) (h : R (resP p ticks (okP p && win ticks 0 10000))) :
    K0 Try.prog 5 [.agg [V.lst 1 (il p.1), iv p.2.1, iv p.2.2], iv ticks] R := by
  refine K0_of_W0 (kps := kp0) hC hm Try.func5 (see (p := K0 Try.prog (13 : Nat) [V.agg [V.lst (1 : Nat) (il p.1), iv p.2.1, iv p.2.2]] fun v =>
  onBool v fun b =>
    ifB (!b) (R (V.tup [nilS, iv (2 : Int)]))
      (K0 Try.prog (14 : Nat) [iv ticks, iv (0 : Int), iv (10000 : Int)] fun v =>
        onBool v fun b =>
          ifB (!b) (R (V.tup [nilS, iv (2 : Int)]))
            (K0 Try.prog (15 : Nat) [V.agg [V.lst (1 : Nat) (il p.1), iv p.2.1, iv p.2.2], iv ticks] fun v =>
              onLst v fun s es => R (V.tup [V.lst s es, iv (0 : Int)])))) (by kernel_rfl) ?_)
  refine valid13 hl (onBool_bv (ifB_mk (fun hb => ?_) (fun hb => ?_))) <;> simp at hb <;> rw [hb] at h
  · exact h
  refine within14 (onBool_bv (ifB_mk (fun hb2 => ?_) (fun hb2 => ?_))) <;> simp at hb2 <;> rw [hb2] at h
  · exact h
  rw [win_iff] at hb2
  obtain ⟨n, rfl⟩ : ∃ n : Nat, ticks = n := ⟨ticks.toNat, by omega⟩
  exact moved15 hb (by omega) h

def sh6 (s : Nat) (l : List Int) (i : Nat) : St := ⟨mkT [(0, V.lst s (il l)), (1, V.lst s (il l)), (5, iv (i : Int))], ⟨[], 0⟩⟩
theorem same6 {s : Nat} {l : List Int} {R : V → Prop} (hs : l ≠ [] → s = 1) (hl : (l.length : Int) ≤ 9223372036854775807) (h : R (bv true)) : K0 Try.prog 6 [.lst s (il l), .lst s (il l)] R := by
  refine K0_of_W0 (kps := kp6) hC hm Try.func6 (see (p := ifB ((↑(il l).length : Int) != (↑(il l).length : Int)) (R (bv false))
  (Lp (kp6 (0 : Nat))
    (W Try.prog CC (26 : Nat) kp6 (0 : Nat)
      (cdAt [(1 : Nat), (1 : Nat), (0 : Nat), (1 : Nat), (0 : Nat), (0 : Nat)] (bodyOf Try.f6)))
    (Qblk (0 : Nat)
      (Qseq (W Try.prog CC (26 : Nat) kp6 (0 : Nat) (cdAt [(1 : Nat), (1 : Nat), (1 : Nat)] (bodyOf Try.f6)))
        (Qend0 Try.prog Try.f6 R)))
    (St.mk (mkT [((0 : Nat), V.lst s (il l)), ((1 : Nat), V.lst s (il l)), ((5 : Nat), iv (0 : Int))])
      (Hp.mk [] (0 : Nat))))) (by kernel_rfl) ?_)
  refine ifB_mk (fun hb => by simp at hb) (fun _ => ?_)
  refine Lp.of (σ := Nat) (sh6 s l) (fun i => i ≤ l.length) (fun i => l.length - i) 0 (by kernel_rfl) (by omega) ?_
  intro i hi J hJ
  refine see (p := ifB (decide ((↑i : Int) < (↑(il l).length : Int)))
  (s = (1 : Nat) ∧
    onSome (il l)[i]? fun row =>
      onSome row[(0 : Nat)]? fun v =>
        onIntK IntKind.i64 v fun n =>
          s = (1 : Nat) ∧
            onSome (il l)[i]? fun row =>
              onSome row[(0 : Nat)]? fun v =>
                onIntK IntKind.i64 v fun n_1 =>
                  ifB (n != n_1) (R (bv false))
                    (J
                      (St.mk
                        (mkT
                          [((0 : Nat), V.lst s (il l)), ((1 : Nat), V.lst s (il l)),
                            ((5 : Nat), iv (IntKind.i64.wrap ((↑i : Int) + (1 : Int))))])
                        (Hp.mk [] (0 : Nat)))))
  (R (bv true))) (by kernel_rfl) ?_
  rw [il_length]
  refine ifB_mk (fun hb => ?_) (fun hb => h)
  have hlt : i < l.length := by simpa using hb
  have hs1 : s = 1 := hs (fun h0 => by rw [h0] at hlt; simp at hlt)
  refine ⟨hs1, el (List.getElem?_eq_getElem hlt) ⟨hs1, el (List.getElem?_eq_getElem hlt) (ifB_mk (fun hb => by simp at hb) (fun _ => ?_))⟩⟩
  have := hJ (i + 1) hlt (by omega)
  unfold sh6 at this
  rw [show IntKind.i64.wrap ((i : Int) + 1) = ((i + 1 : Nat) : Int) by rw [wr (by omega) (by omega)]; simp]
  exact this

def sh16 (x : Nat × Nat) : St := ⟨mkT [(0, iv (x.1 : Int)), (1, iv (x.2 : Int))], ⟨[], 0⟩⟩
theorem gcd16 {a b : Nat} {R : V → Prop} (ha : (a : Int) ≤ 9223372036854775807) (hb : (b : Int) ≤ 9223372036854775807) (h : R (iv (Nat.gcd a b : Int))) : K0 Try.prog 16 [iv (a : Int), iv (b : Int)] R := by
  refine K0_of_W0 (kps := kp16) hC hm Try.func16 (see (p := Lp (kp16 (0 : Nat))
  (W Try.prog CC (15 : Nat) kp16 (0 : Nat) (cdAt [(1 : Nat), (0 : Nat), (0 : Nat), (0 : Nat)] (bodyOf Try.f16)))
  (Qblk (0 : Nat)
    (Qseq (W Try.prog CC (15 : Nat) kp16 (0 : Nat) (cdAt [(1 : Nat), (1 : Nat)] (bodyOf Try.f16)))
      (Qend0 Try.prog Try.f16 R)))
  (St.mk (mkT [((0 : Nat), iv (↑a : Int)), ((1 : Nat), iv (↑b : Int))]) (Hp.mk [] (0 : Nat)))) (by kernel_rfl) ?_)
  refine Lp.of (σ := Nat × Nat) sh16 (fun x => Nat.gcd x.1 x.2 = Nat.gcd a b ∧ (x.1 : Int) ≤ 9223372036854775807 ∧ (x.2 : Int) ≤ 9223372036854775807) (fun x => x.2) (a, b) (by kernel_rfl) ⟨rfl, ha, hb⟩ ?_
  rintro ⟨x, y⟩ ⟨hg, hx, hy⟩ J hJ
  refine see (p := ifB ((↑y : Int) != (0 : Int))
  ((↑y : Int) ≠ (0 : Int) ∧
    J (St.mk (mkT [((0 : Nat), iv (↑y : Int)), ((1 : Nat), iv ((↑x : Int).tmod (↑y : Int)))]) (Hp.mk [] (0 : Nat))))
  (R
    (iv
      (if IntKind.i64.wrap ((0 : Int) - (↑x : Int)) > (↑x : Int) then IntKind.i64.wrap ((0 : Int) - (↑x : Int))
      else (↑x : Int))))) (by kernel_rfl) ?_
  simp only at hg hx hy
  refine ifB_mk (fun hb => ?_) (fun hb => ?_)
  · have hy0 : y ≠ 0 := by simpa using hb
    have hlt := Nat.mod_lt x (Nat.pos_of_ne_zero hy0)
    refine ⟨by omega, ?_⟩
    have := hJ (y, x % y) ⟨by rw [← hg]; simp only; rw [Nat.gcd_comm x y, Nat.gcd_rec y x, Nat.gcd_comm], hy, by simp only; omega⟩ hlt
    unfold sh16 at this
    rw [← Int.ofNat_tmod]
    exact this
  · have hy0 : y = 0 := by simpa using hb
    subst hy0
    rw [Nat.gcd_zero_right] at hg
    rw [wr (by omega) (by omega), if_neg (by omega), hg]
    exact h

/-! periods -/
theorem pe {ps : List Pst} {m : Nat} {p : Pst} {k : List V → Prop} (h : ps[m]? = some p) (hk : k (pc p)) : onSome (List.map pc ps)[m]? k :=
  onSome_mk (x := pc p) (by simp [h]) hk

def sh19 (ps : List Pst) (n : Nat) (i : Nat) : St := ⟨mkT [(0, V.lst 3 (List.map pc ps)), (1, iv (n : Int)), (5, iv (i : Int))], ⟨[], 0⟩⟩
theorem fits19 {ps : List Pst} {n : Nat} {R : V → Prop} (hps : ps.length ≤ 100) (hok : ∀ p ∈ ps, p.1 ≠ []) (h : R (bv (fitsB ps n))) : K0 Try.prog 19 [.lst 3 (List.map pc ps), iv (n : Int)] R := by
  refine K0_of_W0 (kps := kp19) hC hm Try.func19 (see (p := Lp (kp19 (0 : Nat))
  (W Try.prog CC (23 : Nat) kp19 (0 : Nat)
    (cdAt [(1 : Nat), (0 : Nat), (1 : Nat), (0 : Nat), (0 : Nat)] (bodyOf Try.f19)))
  (Qblk (0 : Nat)
    (Qseq (W Try.prog CC (23 : Nat) kp19 (0 : Nat) (cdAt [(1 : Nat), (1 : Nat)] (bodyOf Try.f19)))
      (Qend0 Try.prog Try.f19 R)))
  (St.mk (mkT [((0 : Nat), V.lst (3 : Nat) (List.map pc ps)), ((1 : Nat), iv (↑n : Int)), ((5 : Nat), iv (0 : Int))])
    (Hp.mk [] (0 : Nat)))) (by kernel_rfl) ?_)
  refine Lp.of (σ := Nat) (sh19 ps n) (fun i => i ≤ ps.length ∧ (ps.take i).all (fun p => n % p.1.length == 0) = true) (fun i => ps.length - i) 0 (by kernel_rfl) ⟨by omega, by simp⟩ ?_
  rintro i ⟨hi, hall⟩ J hJ
  refine see (p := ifB (decide ((↑i : Int) < (↑(List.map pc ps).length : Int)))
  ((3 : Nat) = (3 : Nat) ∧
    onSome (List.map pc ps)[i]? fun row =>
      onSome row[(0 : Nat)]? fun v =>
        onLst v fun s es =>
          (↑es.length : Int) ≠ (0 : Int) ∧
            ifB ((↑n : Int).tmod (↑es.length : Int) != (0 : Int)) (R (bv (decide ((↑n : Int) > (5000 : Int)))))
              (J
                (St.mk
                  (mkT
                    [((0 : Nat), V.lst (3 : Nat) (List.map pc ps)), ((1 : Nat), iv (↑n : Int)),
                      ((5 : Nat), iv (IntKind.i64.wrap ((↑i : Int) + (1 : Int))))])
                  (Hp.mk [] (0 : Nat)))))
  (R (bv true))) (by kernel_rfl) ?_
  rw [List.length_map]
  refine ifB_mk (fun hb => ?_) (fun hb => ?_)
  · have hlt : i < ps.length := by simpa using hb
    have hne := hok ps[i] (List.getElem_mem hlt)
    have hpos : 0 < ps[i].1.length := List.length_pos_iff.2 hne
    refine ⟨rfl, pe (List.getElem?_eq_getElem hlt) ?_⟩
    refine onSome_mk (x := V.lst 1 (il ps[i].1)) rfl (onLst_lst ?_)
    refine ⟨by rw [il_length]; omega, ?_⟩
    rw [il_length, ← Int.ofNat_tmod]
    refine ifB_mk (fun hb2 => ?_) (fun hb2 => ?_)
    · have h0 : n % ps[i].1.length ≠ 0 := by
        intro h0; rw [h0] at hb2; simp at hb2
      have : fitsB ps n = decide (n > 5000) := by
        unfold fitsB
        have : ps.all (fun p => n % p.1.length == 0) = false := by
          rw [List.all_eq_false]
          exact ⟨ps[i], List.getElem_mem hlt, by simpa using h0⟩
        rw [this, Bool.false_or]
      rw [this] at h
      rw [show decide ((n : Int) > 5000) = decide (n > 5000) by
        rw [Bool.eq_iff_iff]; simp; omega]
      exact h
    · have h0 : n % ps[i].1.length = 0 := by
        simp at hb2; omega
      have := hJ (i + 1) ⟨hlt, by
        rw [List.take_succ_eq_append_getElem hlt, List.all_append, hall]
        simp [h0]⟩ (by omega)
      unfold sh19 at this
      rw [show IntKind.i64.wrap ((i : Int) + 1) = ((i + 1 : Nat) : Int) by rw [wr (by omega) (by omega)]; simp]
      exact this
  · have hge : i = ps.length := by simp at hb; omega
    subst hge
    rw [List.take_length] at hall
    rw [show fitsB ps n = true by unfold fitsB; rw [hall, Bool.true_or]] at h
    exact h
end Go.Proofs.Ytdjibbbeegpjpaa
