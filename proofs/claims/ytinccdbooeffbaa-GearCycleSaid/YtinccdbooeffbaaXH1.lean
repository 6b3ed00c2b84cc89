/- Contracts: within, move, CheckPiston. -/
import Derived.Test.YtinccdbooeffbaaXSeatR
import Derived.Test.YtinccdbooeffbaaXCX
namespace Go.Proofs.Ytinccdbooeffbaa
open Go Go.Proofs.Ytinccdbooeffbaa.Clean
set_option linter.unusedVariables false
set_option linter.unusedSimpArgs false
set_option maxRecDepth 10000

theorem hC : CC.ok Try.prog := callsOf_ok _ _
theorem hmH : Try.prog.follows .mixedOrders = true := by kernel_rfl

/-- from lo to hi -/
def win (n lo hi : Int) : Bool := decide (lo ≤ n) && decide (n ≤ hi)
theorem win_iff {n lo hi : Int} : win n lo hi = true ↔ lo ≤ n ∧ n ≤ hi := by simp [win]

theorem within11 {n lo hi : Int} {R : V → Prop} (h : R (bv (win n lo hi))) : K0 Try.prog 52 [iv n, iv lo, iv hi] R := by
  refine K0_of_W0 (kps := kp0) hC hmH Try.func52 (see (p := ifB (decide (lo ≤ n)) (R (bv (decide (n ≤ hi)))) (R (bv false))) (by kernel_rfl) ?_)
  cases hd : decide (lo ≤ n) <;> simpa [ifB, hd, win] using h

theorem move12 {p : Pst} {t : Nat} {a : Int} {R : V → Prop} (hl : p.1 ≠ []) (ht : (t : Int) ≤ 9223372036854775806) (ha : -9223372036854775807 ≤ a) (ha' : a ≤ 9223372036854775806) (h : R (iv (mv p t a))) :
    K0 Try.prog 80 [.agg [V.lst 1 (il p.1), iv p.2.1, iv p.2.2], iv ((t : Int) + 1), iv a] R := by
  refine K0_of_W0 (kps := kp0) hC hmH Try.func80 (see (p := need ((↑(il p.1).length : Int) ≠ (0 : Int))
  (onNat ((IntKind.i64.wrap ((↑t : Int) + (1 : Int) - (1 : Int))).tmod (↑(il p.1).length : Int)) fun m =>
    onSome (il p.1)[m]? fun row =>
      onSome row[(0 : Nat)]? fun v =>
        onIntK IntKind.i64 v fun n =>
          ifB (decide (n ≥ p.2.1))
            (R (iv (if p.2.2 < IntKind.i64.wrap (a + (1 : Int)) then p.2.2 else IntKind.i64.wrap (a + (1 : Int)))))
            (R
              (iv
                (if (0 : Int) > IntKind.i64.wrap (a - (1 : Int)) then (0 : Int)
                else IntKind.i64.wrap (a - (1 : Int))))))) (by kernel_rfl) ?_)
  have hpos : 0 < p.1.length := List.length_pos_iff.2 hl
  have hidx : (IntKind.i64.wrap ((t : Int) + 1 - 1)).tmod ((il p.1).length : Int) = ((t % p.1.length : Nat) : Int) := by
    rw [wr (by omega) (by omega), il_length, show (t : Int) + 1 - 1 = (t : Int) by omega]
    exact (Int.ofNat_tmod t p.1.length).symm
  have hlt : t % p.1.length < p.1.length := Nat.mod_lt _ hpos
  refine need_mk ⟨by rw [il_length]; omega, onNat_mk hidx (el (x := p.1[t % p.1.length]) (List.getElem?_eq_getElem hlt) ?_)⟩
  have hg : p.1.getD (t % p.1.length) 0 = p.1[t % p.1.length] := by simp [List.getD, List.getElem?_eq_getElem hlt]
  have w1 : IntKind.i64.wrap (a + 1) = a + 1 := wr (by omega) (by omega)
  have w2 : IntKind.i64.wrap (a - 1) = a - 1 := wr (by omega) (by omega)
  unfold mv at h
  rw [hg] at h
  rw [w1, w2]
  refine ifB_mk (fun hb => ?_) (fun hb => ?_)
  · rw [if_pos (of_decide_eq_true hb)] at h; exact h
  · rw [if_neg (of_decide_eq_false hb)] at h; exact h

/-- A piston is valid. -/
def okL (l : List Int) : Bool := l.all fun n => win n 0 100
def okP (p : Pst) : Bool := win p.1.length 1 24 && (win p.2.1 0 100 && (win p.2.2 1 20 && okL p.1))
theorem okL_get {l : List Int} (h : okL l = true) {i : Nat} (hi : i < l.length) : win l[i] 0 100 = true := by
  simp only [okL, List.all_eq_true] at h
  exact h _ (List.getElem_mem hi)
theorem okL_not {l : List Int} {i : Nat} (hi : i < l.length) (h : win l[i] 0 100 = false) : okL l = false := by
  cases ho : okL l with
  | false => rfl
  | true => rw [okL_get ho hi] at h; cases h
theorem okL_succ {l : List Int} {i : Nat} (hi : i < l.length) (h : okL (l.take i) = true) (hw : win l[i] 0 100 = true) : okL (l.take (i + 1)) = true := by
  rw [List.take_succ_eq_append_getElem hi]
  simp only [okL, List.all_append, Bool.and_eq_true] at h ⊢
  exact ⟨h, by simp [hw]⟩

noncomputable def sh7 (p : Pst) (i : Nat) : St := ⟨mkT [(23, V.lst 1 (il p.1)), (24, iv (p.1.length : Int)), (25, iv (i : Int))], ⟨[], 0⟩⟩
theorem check7 {p : Pst} {R : V → Prop} (hl : (p.1.length : Int) ≤ 9223372036854775807) (h : R (iv (if okP p then 0 else 2))) : K0 Try.prog 53 [.agg [V.lst 1 (il p.1), iv p.2.1, iv p.2.2]] R := by
  refine K0_of_W0 (kps := kp7) hC hmH Try.func53 (see (p := K0 Try.prog (52 : Nat) [iv (↑(il p.1).length : Int), iv (1 : Int), iv (24 : Int)] fun v =>
  onBool v fun b =>
    ifB (!b) (R (iv (2 : Int)))
      (K0 Try.prog (52 : Nat) [iv p.2.1, iv (0 : Int), iv (100 : Int)] fun v =>
        onBool v fun b =>
          ifB (!b) (R (iv (2 : Int)))
            (K0 Try.prog (52 : Nat) [iv p.2.2, iv (1 : Int), iv (20 : Int)] fun v =>
              onBool v fun b =>
                ifB (!b) (R (iv (2 : Int)))
                  (Lp (kp7 (0 : Nat))
                    (W Try.prog CC (33 : Nat) kp7 (0 : Nat)
                      (cdAt [(1 : Nat), (1 : Nat), (0 : Nat), (1 : Nat), (0 : Nat), (0 : Nat)] (bodyOf Try.f53)))
                    (Qblk (0 : Nat)
                      (Qseq
                        (W Try.prog CC (33 : Nat) kp7 (0 : Nat)
                          (cdAt [(1 : Nat), (1 : Nat), (1 : Nat)] (bodyOf Try.f53)))
                        (Qend0 Try.prog Try.f53 R)))
                    (St.mk
                      (mkT
                        [((23 : Nat), V.lst (1 : Nat) (il p.1)), ((24 : Nat), iv (↑(il p.1).length : Int)),
                          ((25 : Nat), iv (0 : Int))])
                      (Hp.mk [] (0 : Nat))))))) (by kernel_rfl) ?_)
  unfold okP at h
  rw [il_length]
  refine within11 (onBool_bv (ifB_mk (fun hb => ?_) (fun hb => ?_))) <;> simp at hb <;> simp only [hb, Bool.false_and, Bool.true_and] at h
  · exact h
  refine within11 (onBool_bv (ifB_mk (fun hb2 => ?_) (fun hb2 => ?_))) <;> simp at hb2 <;> simp only [hb2, Bool.false_and, Bool.true_and] at h
  · exact h
  refine within11 (onBool_bv (ifB_mk (fun hb3 => ?_) (fun hb3 => ?_))) <;> simp at hb3 <;> simp only [hb3, Bool.false_and, Bool.true_and] at h
  · exact h
  refine Lp.of (σ := Nat) (sh7 p) (fun i => i ≤ p.1.length ∧ okL (p.1.take i) = true) (fun i => p.1.length - i) 0 (by kernel_rfl) ⟨by omega, by simp [okL]⟩ ?_
  rintro i ⟨hi, hok⟩ J hJ
  refine see (p := ifB (decide ((↑i : Int) < (↑p.1.length : Int)))
  (onSome (il p.1)[i]? fun row =>
    onSome row[(0 : Nat)]? fun v =>
      onIntK IntKind.i64 v fun n =>
        K0 Try.prog (52 : Nat) [iv n, iv (0 : Int), iv (100 : Int)] fun v =>
          onBool v fun b =>
            ifB (!b) (R (iv (2 : Int)))
              (J
                (St.mk
                  (mkT
                    [((23 : Nat), V.lst (1 : Nat) (il p.1)), ((24 : Nat), iv (↑p.1.length : Int)),
                      ((25 : Nat), iv (IntKind.i64.wrap ((↑i : Int) + (1 : Int))))])
                  (Hp.mk [] (0 : Nat)))))
  (R (iv (0 : Int)))) (by kernel_rfl) ?_
  refine ifB_mk (fun hb4 => ?_) (fun hb4 => ?_)
  · have hlt : i < p.1.length := by simpa using hb4
    refine el (x := p.1[i]) (List.getElem?_eq_getElem hlt) (within11 (onBool_bv (ifB_mk (fun hb5 => ?_) (fun hb5 => ?_)))) <;> simp at hb5
    · rw [okL_not hlt hb5] at h; exact h
    · have := hJ (i + 1) ⟨hlt, okL_succ hlt hok hb5⟩ (by omega)
      unfold sh7 at this
      rw [show IntKind.i64.wrap ((i : Int) + 1) = ((i + 1 : Nat) : Int) by rw [wr (by omega) (by omega)]; simp]
      exact this
  · have hge : ¬ i < p.1.length := by simpa using hb4
    have hi' : i = p.1.length := by omega
    subst hi'
    rw [List.take_length] at hok
    rw [hok] at h
    exact h
end Go.Proofs.Ytinccdbooeffbaa
