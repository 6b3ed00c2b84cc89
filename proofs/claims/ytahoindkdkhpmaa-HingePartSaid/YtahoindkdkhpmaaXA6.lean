/- A6: a part of the proof. -/
import Derived.Test.YtahoindkdkhpmaaXA5
namespace Go.Proofs.Ytahoindkdkhpmaa
open Go Go.Proofs.Ytahoindkdkhpmaa.Clean
set_option linter.unusedVariables false
set_option linter.unusedSimpArgs false
set_option maxRecDepth 10000

theorem rot_get {l : List Sp} {i j : Nat} (hi : i < l.length) (hj : j < l.length) : (rot l i)[j]? = l[(i + j) % l.length]? := by
  unfold rot
  rw [sub_get, if_pos hj]
  by_cases h : i + j < l.length
  · rw [List.getElem?_append_left h, Nat.mod_eq_of_lt h]
  · rw [List.getElem?_append_right (by omega)]
    congr 1
    rw [Nat.mod_eq_sub_mod (by omega), Nat.mod_eq_of_lt (by omega)]
theorem rot_getD {l : List Sp} {i j : Nat} (hi : i < l.length) (hj : j < l.length) : (rot l i).getD j (0, 0) = l.getD ((i + j) % l.length) (0, 0) := by
  rw [List.getD_eq_getElem?_getD, rot_get hi hj, ← List.getD_eq_getElem?_getD]
/-- The same, corner by corner. -/
def convC (l : List Sp) : Prop := ∀ i k, i < l.length → k < l.length → k ≠ i → k ≠ (i + 1) % l.length → lft (l.getD i (0, 0)) (l.getD ((i + 1) % l.length) (0, 0)) 1 (l.getD k (0, 0)) 1 = true
theorem convB_iff {l : List Sp} (h3 : 3 ≤ l.length) : convB l = true ↔ convC l := by
  have e0 : ∀ i, i < l.length → (rot l i).getD 0 (0, 0) = l.getD i (0, 0) := fun i hi => by rw [rot_getD hi (by omega), Nat.add_zero, Nat.mod_eq_of_lt hi]
  have e1 : ∀ i, i < l.length → (rot l i).getD 1 (0, 0) = l.getD ((i + 1) % l.length) (0, 0) := fun i hi => rot_getD hi (by omega)
  unfold convB rots
  rw [List.all_eq_true]
  constructor
  · intro h i k hi hk hki hki1
    have := h (rot l i) (List.mem_map.2 ⟨i, List.mem_range.2 hi, rfl⟩)
    rw [List.all_eq_true, e0 i hi, e1 i hi] at this
    have hj : ∃ j, 2 ≤ j ∧ j < l.length ∧ (i + j) % l.length = k := by
      by_cases hik : i < k
      · refine ⟨k - i, ?_, by omega, by rw [show i + (k - i) = k by omega, Nat.mod_eq_of_lt hk]⟩
        refine Classical.byContradiction fun hn => ?_
        have : k = i + 1 := by omega
        exact hki1 (by rw [← this, Nat.mod_eq_of_lt hk])
      · refine ⟨k + l.length - i, ?_, by omega, by rw [show i + (k + l.length - i) = k + l.length by omega, Nat.add_mod_right, Nat.mod_eq_of_lt hk]⟩
        refine Classical.byContradiction fun hn => ?_
        have h1 : i + 1 = l.length := by omega
        have h2 : k = 0 := by omega
        exact hki1 (by rw [h1, Nat.mod_self, h2])
    obtain ⟨j, hj2, hjl, hjk⟩ := hj
    refine this _ (List.mem_of_getElem? (i := j - 2) ?_)
    rw [List.getElem?_drop, show 2 + (j - 2) = j by omega, rot_get hi hjl, hjk]
    exact getD_some hk
  · intro h e he
    obtain ⟨i, hi, rfl⟩ := List.mem_map.1 he
    have hi := List.mem_range.1 hi
    rw [List.all_eq_true, e0 i hi, e1 i hi]
    intro c hc
    obtain ⟨j, hj⟩ := List.mem_iff_getElem?.1 hc
    rw [List.getElem?_drop] at hj
    have hjl : 2 + j < l.length := by
      have := (List.getElem?_eq_some_iff.1 hj).1
      rw [rot_length (by omega)] at this
      exact this
    rw [rot_get hi hjl] at hj
    have hlt : (i + (2 + j)) % l.length < l.length := Nat.mod_lt _ (by omega)
    have : c = l.getD ((i + (2 + j)) % l.length) (0, 0) := by
      have := getD_some hlt
      rw [hj] at this
      simpa using this
    rw [this]
    refine h i _ hi hlt ?_ ?_
    · by_cases hw : i + (2 + j) < l.length
      · rw [Nat.mod_eq_of_lt hw]; omega
      · rw [Nat.mod_eq_sub_mod (by omega), Nat.mod_eq_of_lt (by omega)]; omega
    · by_cases hw : i + (2 + j) < l.length
      · rw [Nat.mod_eq_of_lt hw, Nat.mod_eq_of_lt (by omega)]; omega
      · rw [Nat.mod_eq_sub_mod (by omega), Nat.mod_eq_of_lt (by omega)]
        by_cases h1 : i + 1 = l.length
        · rw [h1, Nat.mod_self]; omega
        · rw [Nat.mod_eq_of_lt (by omega)]; omega

/-! the specification's -/
theorem within49 {n lo hi : Int} {R : V → Prop} (h : R (bv (win n lo hi))) : K0 Try.prog 49 [iv n, iv lo, iv hi] R := by
  refine K0_of_W0 (kps := kp0) hM hmH Try.func49 (see (p := ifB (decide (n ≥ lo)) (R (bv (decide (n ≤ hi)))) (R (bv false))) (by kernel_rfl) ?_)
  refine ifB_mk (fun hb => ?_) (fun hb => ?_)
  · simp at hb
    have : win n lo hi = decide (n ≤ hi) := by simp [win, hb]
    rw [this] at h; exact h
  · simp at hb
    have : win n lo hi = false := by unfold win; rw [decide_eq_false (by omega), Bool.false_and]
    rw [this] at h; exact h
theorem abs96 {n : Int} {R : V → Prop} (hn : Bd 9000000000000000000 n) (h : R (iv (n.natAbs : Int))) : K0 Try.prog 96 [iv n] R := by
  refine K0_of_W0 (kps := kp0) hM hmH Try.func96 (see (p := R (iv (if IntKind.i64.wrap ((0 : Int) - n) > n then IntKind.i64.wrap ((0 : Int) - n) else n))) (by kernel_rfl) ?_)
  have hw : IntKind.i64.wrap (0 - n) = -n := by unfold Bd at hn; rw [wr (by omega) (by omega)]; omega
  rw [hw]
  have : (if -n > n then -n else n) = (n.natAbs : Int) := by split <;> omega
  rw [this]; exact h
theorem spot82 {s : Sp} {R : V → Prop} (h : R (bv (spB s))) : K0 Try.prog 82 [.agg (sp s)] R := by
  refine K0_of_W0 (kps := kp0) hM hmH Try.func82 (see (p := K0 Try.prog 49 [iv s.1, iv (-50 : Int), iv (50 : Int)] fun v => onBool v fun b => ifB b (K0 Try.prog 49 [iv s.2, iv (-50 : Int), iv (50 : Int)] fun v => onBool v fun b => R (bv b)) (R (bv false))) (by kernel_rfl) ?_)
  refine within49 (onBool_bv (ifB_mk (fun hb => within49 (onBool_bv ?_)) (fun hb => ?_)))
  · have : spB s = win s.2 (-50) 50 := by simp [spB, hb]
    rw [this] at h; exact h
  · have : spB s = false := by simp [spB, hb]
    rw [this] at h; exact h
theorem left83 {a b c : Sp} {R : V → Prop} (ha : SpOK a) (hb : SpOK b) (hc : SpOK c) (h : R (iv (side a b 1 c 1))) : K0 Try.prog 83 [.agg (sp a), .agg (sp b), .agg (sp c)] R := by
  refine K0_of_W0 (kps := kp0) hM hmH Try.func83 (see (p := R (iv (IntKind.i64.wrap (IntKind.i64.wrap (IntKind.i64.wrap (b.1 - a.1) * IntKind.i64.wrap (c.2 - a.2)) - IntKind.i64.wrap (IntKind.i64.wrap (b.2 - a.2) * IntKind.i64.wrap (c.1 - a.1)))))) (by kernel_rfl) ?_)
  have x1 := hb.1.sub ha.1
  have x2 := hc.2.sub ha.2
  have x3 := hb.2.sub ha.2
  have x4 := hc.1.sub ha.1
  rw [x1.wr, x2.wr, x3.wr, x4.wr, (x1.mul x2).wr, (x3.mul x4).wr, ((x1.mul x2).sub (x3.mul x4)).wr]
  unfold side at h
  simp only [Int.mul_one] at h
  exact h
theorem divisor79 {a b : Int} {R : V → Prop} (ha : Bd 9000000000000000000 a) (hb : Bd 9000000000000000000 b) (h : R (iv (Nat.gcd a.natAbs b.natAbs : Int))) : K0 Try.prog 79 [iv a, iv b] R := by
  refine K0_of_W0 (kps := kp79) hM hmH Try.func79 (see (p := Lp (kp79 0) (W Try.prog CM 13 kp79 0 (cdAt [1, 0, 0, 0] (bodyOf Try.f79))) (Qblk 0 (Qseq (W Try.prog CM 13 kp79 0 (cdAt [1, 1] (bodyOf Try.f79))) (Qend0 Try.prog Try.f79 R))) (St.mk (mkT [(0, iv a), (1, iv b)]) (Hp.mk [] 0))) (by kernel_rfl) ?_)
  refine Lp.of (σ := Int × Int) (fun s => ⟨mkT [(0, iv s.1), (1, iv s.2)], ⟨[], 0⟩⟩) (fun s => Nat.gcd s.1.natAbs s.2.natAbs = Nat.gcd a.natAbs b.natAbs ∧ Bd 9000000000000000000 s.1 ∧ Bd 9000000000000000000 s.2) (fun s => s.2.natAbs) (a, b) (by kernel_rfl) ⟨rfl, ha, hb⟩ ?_
  obtain ⟨g, hg⟩ : ∃ g, g = Nat.gcd a.natAbs b.natAbs := ⟨_, rfl⟩
  rw [← hg] at h ⊢
  clear ha hb hg
  rintro ⟨a, b⟩ ⟨hg, ha, hb⟩ J hJ
  simp only at hg ha hb
  refine see (p := ifB (b != (0 : Int)) (need (b ≠ (0 : Int)) (J (St.mk (mkT [(0, iv b), (1, iv (a.tmod b))]) (Hp.mk [] 0)))) (K0 Try.prog 96 [iv a] fun v => onIntK IntKind.i64 v fun n => R (iv n))) (by kernel_rfl) ?_
  refine ifB_mk (fun hc => ?_) (fun hc => ?_)
  · have hn0 : b ≠ 0 := by simpa using hc
    have hlt' : (a.tmod b).natAbs < b.natAbs := by rw [tmod_abs]; exact Nat.mod_lt _ (by omega)
    refine need_mk ⟨hn0, hJ (b, a.tmod b) ⟨?_, hb, ?_⟩ hlt'⟩
    · simp only; rw [tmod_abs, ← hg, Nat.gcd_comm, ← Nat.gcd_rec, Nat.gcd_comm]
    · rw [Bd.abs] at *; omega
  · have hn0 : b = 0 := by simpa using hc
    subst hn0
    refine abs96 ha (onIntK_iv ?_)
    simp at hg
    rw [hg]; exact h
theorem valid53 {l : List Sp} {R : V → Prop} (hl : l.length ≤ 1000000000) (h : R (bv (panB l))) : K0 Try.prog 53 [pl l] R := by
  refine K0_of_W0 (kps := kp53) hM hmH Try.func53 (see (p := ifB (decide ((↑(List.map sp l).length : Int) < (3 : Int))) (R (bv false)) (ifB (decide ((↑(List.map sp l).length : Int) > (8 : Int))) (R (bv false)) (Lp (kp53 0) (W Try.prog CM 68 kp53 0 (cdAt [1, 1, 0, 1, 0, 0] (bodyOf Try.f53))) (Qblk 0 (Qseq (W Try.prog CM 68 kp53 0 (cdAt [1, 1, 1] (bodyOf Try.f53))) (Qend0 Try.prog Try.f53 R))) (St.mk (mkT [(0, V.lst 2 (List.map sp l)), (3, iv (0 : Int))]) (Hp.mk [] 0))))) (by kernel_rfl) ?_)
  have no : panB l = false → R (bv false) := fun hn => by rw [hn] at h; exact h
  refine ifB_mk (fun c1 => no ?_) (fun c1 => ifB_mk (fun c2 => no ?_) (fun c2 => ?_))
  · simp at c1
    have : win (l.length : Int) 3 8 = false := by unfold win; rw [decide_eq_false (by omega), Bool.false_and]
    simp [panB, this]
  · simp at c2
    have : win (l.length : Int) 3 8 = false := by unfold win; rw [decide_eq_false (p := (l.length : Int) ≤ 8) (by omega), Bool.and_false]
    simp [panB, this]
  simp at c1 c2
  have hw : win (l.length : Int) 3 8 = true := win_iff.2 ⟨by omega, by omega⟩
  refine Lp.of (σ := Nat) (fun i => ⟨mkT [(0, pl l), (3, iv (i : Int))], ⟨[], 0⟩⟩) (fun i => i ≤ l.length ∧ spsB (l.take i) = true) (fun i => l.length - i) 0 (by kernel_rfl) ⟨by omega, rfl⟩ ?_
  rintro i ⟨hi, hs⟩ J hJ
  refine see (p := ifB (decide ((↑i : Int) < (↑(List.map sp l).length : Int))) (onSome (List.map sp l)[i]? fun row => onCons (List.drop 0 row) fun u r => onIntK IntKind.i64 u fun n => onCons r fun u r => onIntK IntKind.i64 u fun n_1 => K0 Try.prog 82 [V.agg [iv n, iv n_1]] fun v => onBool v fun b => ifB (!b) (R (bv false)) (J (St.mk (mkT [(0, V.lst 2 (List.map sp l)), (3, iv (IntKind.i64.wrap ((↑i : Int) + (1 : Int))))]) (Hp.mk [] 0)))) (Lp (kp53 2) (W Try.prog CM 68 kp53 2 (cdAt [1, 1, 1, 0, 1, 0, 0] (bodyOf Try.f53))) (Qblk 2 (Qseq (W Try.prog CM 68 kp53 0 (cdAt [1, 1, 1, 1] (bodyOf Try.f53))) (Qend0 Try.prog Try.f53 R))) (St.mk (mkT [(0, V.lst 2 (List.map sp l)), (4, iv (0 : Int))]) (Hp.mk [] 0)))) (by kernel_rfl) ?_
  refine ifB_mk (fun hb => ?_) (fun hb => ?_)
  · have hlt : i < l.length := by simp at hb; omega
    refine sp_at (List.getElem?_eq_getElem hlt) (spot82 (s := l[i]) (onBool_bv (ifB_mk (fun h1 => ?_) (fun h1 => ?_))))
    · have : spsB l = false := by
        unfold spsB
        rw [List.all_eq_false]
        exact ⟨_, List.getElem_mem hlt, by simpa using h1⟩
      exact no (by simp [panB, this])
    · rw [wr (by omega) (by omega)]
      refine hJ (i + 1) ⟨hlt, ?_⟩ (by omega)
      unfold spsB at hs ⊢
      rw [List.take_succ_eq_append_getElem hlt, List.all_append, hs]
      simpa using h1
  · have he : i = l.length := by simp at hb; omega
    subst he
    rw [List.take_length] at hs
    have hall : ∀ k, k < l.length → SpOK (l.getD k (0, 0)) := fun k hk => spB_iff.1 (List.all_eq_true.1 hs _ (getD_mem hk))
    refine Lp.of (σ := Nat) (fun i => ⟨mkT [(0, pl l), (4, iv (i : Int))], ⟨[], 0⟩⟩) (fun i => i ≤ l.length ∧ ∀ i' k, i' < i → k < l.length → k ≠ i' → k ≠ (i' + 1) % l.length → lft (l.getD i' (0, 0)) (l.getD ((i' + 1) % l.length) (0, 0)) 1 (l.getD k (0, 0)) 1 = true) (fun i => l.length - i) 0 (by kernel_rfl) ⟨by omega, fun i' k h => by omega⟩ ?_
    rintro i ⟨hi, hcv⟩ J hJ
    refine see (p := ifB (decide ((↑i : Int) < (↑(List.map sp l).length : Int))) (need ((↑(List.map sp l).length : Int) ≠ (0 : Int)) (Lp (kp53 4) (W Try.prog CM 68 kp53 4 (cdAt [1, 1, 1, 0, 1, 0, 0, 1, 0, 0, 1, 1, 0, 0] (bodyOf Try.f53))) (Qblk 4 (Qblk 3 (Qseq (W Try.prog CM 68 kp53 2 (cdAt [1, 1, 1, 0, 1, 0, 0, 1, 1] (bodyOf Try.f53))) (Qlp (kp53 2) J (Qblk 2 (Qseq (W Try.prog CM 68 kp53 0 (cdAt [1, 1, 1, 1] (bodyOf Try.f53))) (Qend0 Try.prog Try.f53 R))))))) (St.mk (mkT [(0, V.lst 2 (List.map sp l)), (4, iv (↑i : Int)), (5, iv ((IntKind.i64.wrap ((↑i : Int) + (1 : Int))).tmod (↑(List.map sp l).length : Int))), (6, iv (0 : Int))]) (Hp.mk [] 0)))) (R (bv true))) (by kernel_rfl) ?_
    refine ifB_mk (fun hb => ?_) (fun hb => ?_)
    · have hlt : i < l.length := by simp at hb; omega
      obtain ⟨x, hx⟩ : ∃ x, x = (i + 1) % l.length := ⟨_, rfl⟩
      have hxl : x < l.length := by rw [hx]; exact Nat.mod_lt _ (by omega)
      have hxw : (IntKind.i64.wrap ((i : Int) + 1)).tmod ((List.map sp l).length : Int) = (x : Int) := by
        rw [wr (by omega) (by omega), List.length_map, hx]
        exact (Int.ofNat_tmod (i + 1) l.length).symm
      refine need_mk ⟨by rw [List.length_map]; omega, ?_⟩
      rw [hxw]
      refine Lp.of (σ := Nat) (fun k => ⟨mkT [(0, pl l), (4, iv (i : Int)), (5, iv (x : Int)), (6, iv (k : Int))], ⟨[], 0⟩⟩) (fun k => k ≤ l.length ∧ ∀ k', k' < k → k' ≠ i → k' ≠ x → lft (l.getD i (0, 0)) (l.getD x (0, 0)) 1 (l.getD k' (0, 0)) 1 = true) (fun k => l.length - k) 0 (by kernel_rfl) ⟨by omega, fun k' h => by omega⟩ ?_
      rintro k ⟨hk, hck⟩ J1 hJ1
      refine see (p := ifB (decide ((↑k : Int) < (↑(List.map sp l).length : Int))) (ifB ((↑k : Int) != (↑i : Int)) (ifB ((↑k : Int) != (↑x : Int)) (onSome (List.map sp l)[i]? fun row => onCons (List.drop 0 row) fun u r => onIntK IntKind.i64 u fun n => onCons r fun u r => onIntK IntKind.i64 u fun n_1 => onSome (List.map sp l)[x]? fun row => onCons (List.drop 0 row) fun u r => onIntK IntKind.i64 u fun n_2 => onCons r fun u r => onIntK IntKind.i64 u fun n_3 => onSome (List.map sp l)[k]? fun row => onCons (List.drop 0 row) fun u r => onIntK IntKind.i64 u fun n_4 => onCons r fun u r => onIntK IntKind.i64 u fun n_5 => K0 Try.prog 83 [V.agg [iv n, iv n_1], V.agg [iv n_2, iv n_3], V.agg [iv n_4, iv n_5]] fun v => onIntK IntKind.i64 v fun n => ifB (decide (n ≤ (0 : Int))) (R (bv false)) (J1 (St.mk (mkT [(0, V.lst 2 (List.map sp l)), (4, iv (↑i : Int)), (5, iv (↑x : Int)), (6, iv (IntKind.i64.wrap ((↑k : Int) + (1 : Int))))]) (Hp.mk [] 0)))) (J1 (St.mk (mkT [(0, V.lst 2 (List.map sp l)), (4, iv (↑i : Int)), (5, iv (↑x : Int)), (6, iv (IntKind.i64.wrap ((↑k : Int) + (1 : Int))))]) (Hp.mk [] 0)))) (J1 (St.mk (mkT [(0, V.lst 2 (List.map sp l)), (4, iv (↑i : Int)), (5, iv (↑x : Int)), (6, iv (IntKind.i64.wrap ((↑k : Int) + (1 : Int))))]) (Hp.mk [] 0)))) (J (St.mk (mkT [(0, V.lst 2 (List.map sp l)), (4, iv (IntKind.i64.wrap ((↑i : Int) + (1 : Int))))]) (Hp.mk [] 0)))) (by kernel_rfl) ?_
      have next : ∀ (hkl : k < l.length), (k ≠ i → k ≠ x → lft (l.getD i (0, 0)) (l.getD x (0, 0)) 1 (l.getD k (0, 0)) 1 = true) → J1 ⟨mkT [(0, .lst 2 (List.map sp l)), (4, iv (i : Int)), (5, iv (x : Int)), (6, iv (IntKind.i64.wrap ((k : Int) + 1)))], ⟨[], 0⟩⟩ := fun hkl hk' => by
        rw [wr (by omega) (by omega)]
        refine hJ1 (k + 1) ⟨hkl, fun k' h1 h2 h3 => ?_⟩ (by omega)
        by_cases he : k' = k
        · subst he; exact hk' h2 h3
        · exact hck k' (by omega) h2 h3
      refine ifB_mk (fun hb => ?_) (fun hb => ?_)
      · have hkl : k < l.length := by simp at hb; omega
        refine ifB_mk (fun n1 => ifB_mk (fun n2 => ?_) (fun n2 => next hkl fun _ h => by simp at n2; omega)) (fun n1 => next hkl fun h _ => by simp at n1; omega)
        simp at n1 n2
        refine sp_at (getD_some hlt) (sp_at (getD_some hxl) (sp_at (getD_some hkl) (left83 (hall _ hlt) (hall _ hxl) (hall _ hkl) (onIntK_iv (ifB_mk (fun hn => ?_) (fun hy => next hkl fun _ _ => ?_))))))
        · refine no ?_
          have : convB l = false := by
            cases hcb : convB l with
            | false => rfl
            | true =>
              have := (convB_iff (by omega)).1 hcb i k hlt hkl (by omega) (by rw [← hx]; omega)
              rw [← hx] at this
              unfold lft at this
              simp at this hn
              omega
          simp [panB, this]
        · unfold lft; simp at hy ⊢; omega
      · have hke : k = l.length := by simp at hb; omega
        subst hke
        rw [wr (by omega) (by omega)]
        refine hJ (i + 1) ⟨hlt, fun i' k h1 h2 h3 h4 => ?_⟩ (by omega)
        by_cases he : i' = i
        · subst he; rw [← hx] at h4 ⊢; exact hck k h2 h3 h4
        · exact hcv i' k (by omega) h2 h3 h4
    · have he : i = l.length := by simp at hb; omega
      subst he
      have : panB l = true := by
        unfold panB
        rw [hw, hs, (convB_iff (by omega)).2 (fun i k h1 h2 h3 h4 => hcv i k h1 h2 h3 h4)]; rfl
      rw [this] at h; exact h
theorem checkPanel19 {l : List Sp} {R : V → Prop} (hl : l.length ≤ 1000000000) (h : R (iv (if panB l = true then 0 else 50))) : K0 Try.prog 19 [pl l] R := by
  refine K0_of_W0 (kps := kp0) hM hmH Try.func19 (see (p := K0 Try.prog 53 [V.lst 2 (List.map sp l)] fun v => onBool v fun b => ifB (!b) (R (iv (50 : Int))) (R (iv (0 : Int)))) (by kernel_rfl) ?_)
  refine valid53 hl (onBool_bv ?_)
  cases hp : panB l <;> rw [hp] at h <;> exact h
theorem valid55 {l : Li} {R : V → Prop} (hz : LiSz l) (h : R (bv (linB l))) : K0 Try.prog 55 [.agg (lk l)] R := by
  obtain ⟨ps, hs⟩ := l
  obtain ⟨h1, h2, h3⟩ := hz
  simp only at h1 h2 h3
  refine K0_of_W0 (kps := kp55) hM hmH Try.func55 (see (p := ifB (decide ((↑(List.map (fun p => [V.lst 2 (List.map sp p)]) ps).length : Int) < (1 : Int))) (R (bv false)) (ifB (decide ((↑(List.map (fun p => [V.lst 2 (List.map sp p)]) ps).length : Int) > (4 : Int))) (R (bv false)) (ifB ((↑(List.map hi hs).length : Int) != IntKind.i64.wrap ((↑(List.map (fun p => [V.lst 2 (List.map sp p)]) ps).length : Int) - (1 : Int))) (R (bv false)) (Lp (kp55 0) (W Try.prog CM 68 kp55 0 (cdAt [1, 1, 0, 1, 0, 0] (bodyOf Try.f55))) (Qblk 0 (Qseq (W Try.prog CM 68 kp55 0 (cdAt [1, 1, 1] (bodyOf Try.f55))) (Qend0 Try.prog Try.f55 R))) (St.mk (mkT [(1, V.ptr 0 0 0), (3, iv (0 : Int))]) (Hp.mk [(0, O.rows 2 true [[V.lst 1 (List.map (fun p => [V.lst 2 (List.map sp p)]) ps), V.lst 5 (List.map hi hs)]])] 1)))))) (by kernel_rfl) ?_)
  have no : linB (ps, hs) = false → R (bv false) := fun hn => by rw [hn] at h; exact h
  refine ifB_mk (fun c1 => no ?_) (fun c1 => ifB_mk (fun c2 => no ?_) (fun c2 => ifB_mk (fun c3 => no ?_) (fun c3 => ?_)))
  · simp at c1
    have : win (ps.length : Int) 1 4 = false := by unfold win; rw [decide_eq_false (by omega), Bool.false_and]
    simp [linB, this]
  · simp at c2
    have : win (ps.length : Int) 1 4 = false := by unfold win; rw [decide_eq_false (p := (ps.length : Int) ≤ 4) (by omega), Bool.and_false]
    simp [linB, this]
  · rw [List.length_map, List.length_map, wr (by omega) (by omega)] at c3
    have : ¬ ((hs.length : Int) = ps.length - 1) := by simpa using c3
    simp [linB, this]
  rw [List.length_map, List.length_map, wr (by omega) (by omega)] at c3
  simp at c1 c2
  have c1' : win (ps.length : Int) 1 4 = true := win_iff.2 ⟨by omega, by omega⟩
  have c3 : (hs.length : Int) = ps.length - 1 := by simpa using c3
  refine Lp.of (σ := Nat) (fun i => ⟨mkT [(1, .ptr 0 0 0), (3, iv (i : Int))], ⟨[(0, .rows 2 true [[.lst 1 (ps.map fun p => [pl p]), .lst 5 (hs.map hi)]])], 1⟩⟩) (fun i => i ≤ ps.length ∧ (ps.take i).all panB = true) (fun i => ps.length - i) 0 (by kernel_rfl) ⟨by omega, by simp⟩ ?_
  rintro i ⟨hi', hall⟩ J hJ
  refine see (p := ifB (decide ((↑i : Int) < (↑(List.map (fun p => [V.lst 2 (List.map sp p)]) ps).length : Int))) (onSome (List.map (fun p => [V.lst 2 (List.map sp p)]) ps)[i]? fun row => onSome row[0]? fun v => onLst v fun s es => K0 Try.prog 53 [V.lst s es] fun v => onBool v fun b => ifB (!b) (R (bv false)) (J (St.mk (mkT [(1, V.ptr 0 0 0), (3, iv (IntKind.i64.wrap ((↑i : Int) + (1 : Int))))]) (Hp.mk [(0, O.rows 2 true [[V.lst 1 (List.map (fun p => [V.lst 2 (List.map sp p)]) ps), V.lst 5 (List.map hi hs)]])] 1)))) (Lp (kp55 2) (W Try.prog CM 68 kp55 2 (cdAt [1, 1, 1, 0, 1, 0, 0] (bodyOf Try.f55))) (Qblk 2 (Qseq (W Try.prog CM 68 kp55 0 (cdAt [1, 1, 1, 1] (bodyOf Try.f55))) (Qend0 Try.prog Try.f55 R))) (St.mk (mkT [(1, V.ptr 0 0 0), (4, iv (0 : Int))]) (Hp.mk [(0, O.rows 2 true [[V.lst 1 (List.map (fun p => [V.lst 2 (List.map sp p)]) ps), V.lst 5 (List.map hi hs)]])] 1)))) (by kernel_rfl) ?_
  refine ifB_mk (fun hb => ?_) (fun hb => ?_)
  · have hlt : i < ps.length := by simp at hb; omega
    refine row_at (List.getElem?_eq_getElem hlt) (valid53 (l := ps[i]) (h3 _ (List.getElem_mem hlt)) (onBool_bv (ifB_mk (fun hn => no ?_) (fun hy => ?_))))
    · have hp : panB ps[i] = false := by simpa using hn
      have hl : ps.all panB = false := by rw [List.all_eq_false]; exact ⟨_, List.getElem_mem hlt, by simp [hp]⟩
      unfold linB; rw [hl, Bool.and_false, Bool.false_and]
    · have hp : panB ps[i] = true := by simpa using hy
      rw [wr (by omega) (by omega)]
      refine hJ (i + 1) ⟨hlt, ?_⟩ (by omega)
      rw [List.take_succ_eq_append_getElem hlt, List.all_append, hall]
      simp [hp]
  · have he : i = ps.length := by simp at hb; omega
    subst he
    rw [List.take_length] at hall
    refine Lp.of (σ := Nat) (fun i => ⟨mkT [(1, .ptr 0 0 0), (4, iv (i : Int))], ⟨[(0, .rows 2 true [[.lst 1 (ps.map fun p => [pl p]), .lst 5 (hs.map hi)]])], 1⟩⟩) (fun i => i ≤ hs.length ∧ (hs.take i).all hiB = true) (fun i => hs.length - i) 0 (by kernel_rfl) ⟨by omega, by simp⟩ ?_
    rintro i ⟨hi', hall'⟩ J hJ
    refine see (p := ifB (decide ((↑i : Int) < (↑(List.map hi hs).length : Int))) (onSome (List.map hi hs)[i]? fun row => onCons (List.drop 0 row) fun u r => onIntK IntKind.i64 u fun n => onCons r fun u r => onIntK IntKind.i64 u fun n_1 => onCons r fun u r => onIntK IntKind.i64 u fun n_2 => onCons r fun u r => onIntK IntKind.i64 u fun n_3 => onCons r fun u r => onIntK IntKind.i64 u fun n_4 => K0 Try.prog 82 [V.agg [iv n, iv n_1]] fun v => onBool v fun b => ifB (!b) (R (bv false)) (K0 Try.prog 82 [V.agg [iv n_2, iv n_3]] fun v => onBool v fun b => ifB (!b) (R (bv false)) (K0 Try.prog 49 [iv n_4, iv (0 : Int), iv (35 : Int)] fun v => onBool v fun b => ifB (!b) (R (bv false)) (J (St.mk (mkT [(1, V.ptr 0 0 0), (4, iv (IntKind.i64.wrap ((↑i : Int) + (1 : Int))))]) (Hp.mk [(0, O.rows 2 true [[V.lst 1 (List.map (fun p => [V.lst 2 (List.map sp p)]) ps), V.lst 5 (List.map hi hs)]])] 1)))))) (R (bv true))) (by kernel_rfl) ?_
    refine ifB_mk (fun hb => ?_) (fun hb => ?_)
    · have hlt : i < hs.length := by simp at hb; omega
      have no' : hiB hs[i] = false → R (bv false) := fun hn => by
        have hl : hs.all hiB = false := by rw [List.all_eq_false]; exact ⟨_, List.getElem_mem hlt, by simp [hn]⟩
        exact no (by unfold linB; rw [hl, Bool.and_false])
      refine hi_at (List.getElem?_eq_getElem hlt) (spot82 (s := hs[i].1) (onBool_bv (ifB_mk (fun n1 => no' (by simp at n1; simp [hiB, n1])) (fun y1 => spot82 (s := hs[i].2.1) (onBool_bv (ifB_mk (fun n2 => no' (by simp at n2; simp [hiB, n2])) (fun y2 => within49 (onBool_bv (ifB_mk (fun n3 => no' (by simp at n3; simp [hiB, n3])) (fun y3 => ?_))))))))))
      rw [wr (by omega) (by omega)]
      refine hJ (i + 1) ⟨hlt, ?_⟩ (by omega)
      rw [List.take_succ_eq_append_getElem hlt, List.all_append, hall']
      simp at y1 y2 y3
      simp [hiB, y1, y2, y3]
    · have he : i = hs.length := by simp at hb; omega
      subst he
      rw [List.take_length] at hall'
      have : linB (ps, hs) = true := by
        unfold linB
        simp only [hall, hall', c1', c3, decide_true, Bool.and_true]
      rw [this] at h; exact h
theorem check25 {l : Li} {R : V → Prop} (hz : LiSz l) (h : R (iv (if linB l = true then 0 else 50))) : K0 Try.prog 25 [.agg (lk l)] R := by
  refine K0_of_W0 (kps := kp0) hM hmH Try.func25 (see (p := K0 Try.prog 55 [V.agg [V.lst 1 (List.map (fun p => [V.lst 2 (List.map sp p)]) l.1), V.lst 5 (List.map hi l.2)]] fun v => onBool v fun b => ifB (!b) (R (iv (50 : Int))) (R (iv (0 : Int)))) (by kernel_rfl) ?_)
  refine valid55 hz (onBool_bv ?_)
  cases hp : linB l <;> rw [hp] at h <;> exact h
end Go.Proofs.Ytahoindkdkhpmaa
