/- B6: a part of the proof. -/
import Derived.Test.YtahoindkdkhpmaaXB5
import Derived.Test.YtahoindkdkhpmaaXA8
namespace Go.Proofs.Ytahoindkdkhpmaa
open Go Go.Proofs.Ytahoindkdkhpmaa.Clean
set_option linter.unusedVariables false
set_option linter.unusedSimpArgs false
set_option maxRecDepth 20000

theorem twoC_symm (l : Li) (i k : Int) : twoC l k i = twoC l i k := by
  unfold twoC
  rw [Bool.and_comm (win k 0 _), show (k == i) = (i == k) from BEq.comm]
theorem apS_ok {p q : Pd} : ApOK (apartP p q) (apS (apartP p q)) := by
  unfold ApOK apS
  cases h : (apartP p q).1 with
  | false => exact .inl rfl
  | true =>
    refine .inr ?_
    unfold apartP at h ⊢
    split
    · rfl
    · split
      · rfl
      · rename_i h1 h2
        rw [if_neg h1, if_neg h2] at h
        cases h
theorem chk_apart {l : Li} {i k : Int} (h : twoC l i k = 0) : chkC l i k (apartP (panI l i) (panI l k)) = 0 := by
  obtain ⟨hl, h1, h2, h3, h4, _⟩ := twoC_ok h
  unfold chkC
  rw [if_pos h, if_pos (apart_right (panI_ok hl h1 h2) (panI_ok hl h3 h4))]
theorem law7 {l : Li} {i k : Int} {a : Ap} {R : V → Prop} (h : R (bv true)) : K0 Try.prog 7 [.agg (lk l), iv i, iv k, apV a 1] R := by
  refine K0_of_W0 (kps := kp0) hA hmH Try.func7 (see (p := K0 Try.prog 15 [V.agg [V.lst 1 (List.map (fun p => [V.lst 2 (List.map sp p)]) l.1), V.lst 5 (List.map hi l.2)]] fun v => onBool v fun b => ifB b (R (bv true)) (ifB (decide ((↑(il a.2.2.2.2.2).length : Int) > (100 : Int))) (R (bv true)) (K0 Try.prog 35 [V.agg [V.lst 1 (List.map (fun p => [V.lst 2 (List.map sp p)]) l.1), V.lst 5 (List.map hi l.2)], iv i, iv k] fun v => onTup v fun vs => onCons vs fun u r => onAgg u fun cs => onCons cs fun u r_1 => onBool u fun b => onCons r_1 fun u r_2 => onIntK IntKind.i64 u fun n => onCons r_2 fun u r_3 => onIntK IntKind.i64 u fun n_1 => onCons r_3 fun u r_4 => onIntK IntKind.i64 u fun n_2 => onCons r_4 fun u r_5 => onIntK IntKind.i64 u fun n_3 => onCons r_5 fun u r_6 => onLst u fun s es => onNil r_6 (onCons r fun u r => onIntK IntKind.i64 u fun n_4 => onNil r (K0 Try.prog 35 [V.agg [V.lst 1 (List.map (fun p => [V.lst 2 (List.map sp p)]) l.1), V.lst 5 (List.map hi l.2)], iv k, iv i] fun v => onTup v fun vs => onCons vs fun u r => onAgg u fun cs => onCons cs fun u r_7 => onBool u fun b_1 => onCons r_7 fun u r_8 => onIntK IntKind.i64 u fun n_5 => onCons r_8 fun u r_9 => onIntK IntKind.i64 u fun n_6 => onCons r_9 fun u r_10 => onIntK IntKind.i64 u fun n_7 => onCons r_10 fun u r_11 => onIntK IntKind.i64 u fun n_8 => onCons r_11 fun u r_12 => onLst u fun s_1 es_1 => onNil r_12 (onCons r fun u r => onIntK IntKind.i64 u fun n_9 => onNil r (ifB (n_4 != n_9) (R (bv false)) (ifB (n_4 != (0 : Int)) (ifB (n_4 != (51 : Int)) (ifB (!b) (ifB ((↑es.length : Int) == (0 : Int)) (ifB (n_4 == (50 : Int)) (R (bv true)) (R (bv (n_4 == (2 : Int))))) (R (bv false))) (R (bv false))) (ifB (!b == (n_4 == (0 : Int))) (R (bv false)) (ifB (!b_1 == b) (R (bv false)) (K0 Try.prog 37 [V.agg [V.lst 1 (List.map (fun p => [V.lst 2 (List.map sp p)]) l.1), V.lst 5 (List.map hi l.2)], iv i, iv k, V.agg [bv b, iv n, iv n_1, iv n_2, iv n_3, V.lst s es]] fun v => onIntK IntKind.i64 v fun n => ifB (n != (0 : Int)) (R (bv false)) (K0 Try.prog 37 [V.agg [V.lst 1 (List.map (fun p => [V.lst 2 (List.map sp p)]) l.1), V.lst 5 (List.map hi l.2)], iv k, iv i, V.agg [bv b_1, iv n_5, iv n_6, iv n_7, iv n_8, V.lst s_1 es_1]] fun v => onIntK IntKind.i64 v fun n => ifB (n != (0 : Int)) (R (bv false)) (K0 Try.prog 37 [V.agg [V.lst 1 (List.map (fun p => [V.lst 2 (List.map sp p)]) l.1), V.lst 5 (List.map hi l.2)], iv i, iv k, V.agg [bv a.1, iv a.2.1, iv a.2.2.1, iv a.2.2.2.1, iv a.2.2.2.2.1, V.lst 1 (il a.2.2.2.2.2)]] fun v => onIntK IntKind.i64 v fun n => ifB (n != (0 : Int)) (R (bv true)) (R (bv (a.1 == b))))))))) (ifB (!b == (n_4 == (0 : Int))) (R (bv false)) (ifB (!b_1 == b) (R (bv false)) (K0 Try.prog 37 [V.agg [V.lst 1 (List.map (fun p => [V.lst 2 (List.map sp p)]) l.1), V.lst 5 (List.map hi l.2)], iv i, iv k, V.agg [bv b, iv n, iv n_1, iv n_2, iv n_3, V.lst s es]] fun v => onIntK IntKind.i64 v fun n => ifB (n != (0 : Int)) (R (bv false)) (K0 Try.prog 37 [V.agg [V.lst 1 (List.map (fun p => [V.lst 2 (List.map sp p)]) l.1), V.lst 5 (List.map hi l.2)], iv k, iv i, V.agg [bv b_1, iv n_5, iv n_6, iv n_7, iv n_8, V.lst s_1 es_1]] fun v => onIntK IntKind.i64 v fun n => ifB (n != (0 : Int)) (R (bv false)) (K0 Try.prog 37 [V.agg [V.lst 1 (List.map (fun p => [V.lst 2 (List.map sp p)]) l.1), V.lst 5 (List.map hi l.2)], iv i, iv k, V.agg [bv a.1, iv a.2.1, iv a.2.2.1, iv a.2.2.2.1, iv a.2.2.2.2.1, V.lst 1 (il a.2.2.2.2.2)]] fun v => onIntK IntKind.i64 v fun n => ifB (n != (0 : Int)) (R (bv true)) (R (bv (a.1 == b)))))))))))))))) (by kernel_rfl) ?_)
  refine great15 (l := l) (onBool_bv (ifB_mk (fun _ => h) (fun hg => ifB_mk (fun _ => h) (fun _ => ?_))))
  have hs := greatB_sz hg
  by_cases hc : twoC l i k = 0
  · have hc' : twoC l k i = 0 := by rw [twoC_symm]; exact hc
    obtain ⟨hl, h1, h2, h3, h4, _⟩ := twoC_ok hc
    have hp := panI_ok hl h1 h2
    have hq := panI_ok hl h3 h4
    refine clash35 (l := l) (i := i) (k := k) hs ?_
    unfold clashR
    rw [if_pos hc]
    refine (onTup_tup (onCons_cons (onAgg_agg (onCons_cons (onBool_bv (onCons_cons (onIntK_iv (onCons_cons (onIntK_iv (onCons_cons (onIntK_iv (onCons_cons (onIntK_iv (onCons_cons (onLst_lst (onNil_nil (onCons_cons (onIntK_iv (onNil_nil (?_))))))))))))))))))))
    refine clash35 (l := l) (i := k) (k := i) hs ?_
    unfold clashR
    rw [if_pos hc']
    refine (onTup_tup (onCons_cons (onAgg_agg (onCons_cons (onBool_bv (onCons_cons (onIntK_iv (onCons_cons (onIntK_iv (onCons_cons (onIntK_iv (onCons_cons (onIntK_iv (onCons_cons (onLst_lst (onNil_nil (onCons_cons (onIntK_iv (onNil_nil (?_))))))))))))))))))))
    have hsym := apart_symm (panI l i) (panI l k)
    have k1 := chk_apart hc
    have k2 := chk_apart hc'
    have o1 := apS_ok (p := panI l i) (q := panI l k)
    have o2 := apS_ok (p := panI l k) (q := panI l i)
    have hr : ∀ b : Bool, b = (apartP (panI l i) (panI l k)).1 → chkC l i k a = 0 → (a.1 == b) = true := fun b hb hz => by
      unfold chkC at hz
      rw [if_pos hc] at hz
      by_cases hrt : rightB a (panI l i) (panI l k) = true
      · rw [hb, right_says hp hq hrt]; simp
      · rw [if_neg hrt] at hz; simp at hz
    obtain ⟨A, hA⟩ : ∃ A, A = apartP (panI l i) (panI l k) := ⟨_, rfl⟩
    obtain ⟨B, hB⟩ : ∃ B, B = apartP (panI l k) (panI l i) := ⟨_, rfl⟩
    rw [← hA] at hsym k1 o1 hr ⊢
    rw [← hB] at hsym k2 o2 ⊢
    rw [hsym]
    have fin : ∀ b, b = A.1 → K0 Try.prog 37 [.agg (lk l), iv i, iv k, apV a 1] fun v => onIntK IntKind.i64 v fun n => ifB (n != (0 : Int)) (R (bv true)) (R (bv (a.1 == b))) := fun b hb => by
      refine checkApart37 (l := l) (i := i) (k := k) (a := a) (s := 1) hs (.inl rfl) (onIntK_iv (ifB_mk (fun _ => h) (fun hz => ?_)))
      rw [hr b hb (by simpa using hz)]; exact h
    have go : K0 Try.prog 37 [.agg (lk l), iv i, iv k, apV A (apS A)] fun v => onIntK IntKind.i64 v fun n => ifB (n != (0 : Int)) (R (bv false)) (K0 Try.prog 37 [.agg (lk l), iv k, iv i, apV B (apS B)] fun v => onIntK IntKind.i64 v fun n => ifB (n != (0 : Int)) (R (bv false)) (K0 Try.prog 37 [.agg (lk l), iv i, iv k, apV a 1] fun v => onIntK IntKind.i64 v fun n => ifB (n != (0 : Int)) (R (bv true)) (R (bv (a.1 == A.1))))) := by
      refine checkApart37 (l := l) (i := i) (k := k) (a := A) (s := apS A) hs o1 (onIntK_iv (ifB_mk (fun hz => by rw [k1] at hz; simp at hz) (fun _ => ?_)))
      refine checkApart37 (l := l) (i := k) (k := i) (a := B) (s := apS B) hs o2 (onIntK_iv (ifB_mk (fun hz => by rw [k2] at hz; simp at hz) (fun _ => fin _ rfl)))
    unfold apV at go
    rw [hsym] at go
    cases hA1 : A.1 with
    | true =>
      rw [hA1] at go
      exact ifB_mk (fun hz => by simp at hz) (fun _ => ifB_mk (fun hz => by simp at hz) (fun _ => ifB_mk (fun hz => by simp at hz) (fun _ => ifB_mk (fun hz => by simp at hz) (fun _ => go))))
    | false =>
      rw [hA1] at go
      exact ifB_mk (fun hz => by simp at hz) (fun _ => ifB_mk (fun _ => ifB_mk (fun hz => by simp at hz) (fun _ => ifB_mk (fun hz => by simp at hz) (fun _ => ifB_mk (fun hz => by simp at hz) (fun _ => go)))) (fun hz => by simp at hz))
  · have hc' : twoC l k i = twoC l i k := twoC_symm l i k
    refine clash35 (l := l) (i := i) (k := k) hs ?_
    unfold clashR
    rw [if_neg hc]
    refine (onTup_tup (onCons_cons (onAgg_agg (onCons_cons (onBool_bv (onCons_cons (onIntK_iv (onCons_cons (onIntK_iv (onCons_cons (onIntK_iv (onCons_cons (onIntK_iv (onCons_cons (onLst_nil (onNil_nil (onCons_cons (onIntK_iv (onNil_nil (?_))))))))))))))))))))
    refine clash35 (l := l) (i := k) (k := i) hs ?_
    unfold clashR
    rw [if_neg (by rw [hc']; exact hc), hc']
    refine (onTup_tup (onCons_cons (onAgg_agg (onCons_cons (onBool_bv (onCons_cons (onIntK_iv (onCons_cons (onIntK_iv (onCons_cons (onIntK_iv (onCons_cons (onIntK_iv (onCons_cons (onLst_nil (onNil_nil (onCons_cons (onIntK_iv (onNil_nil (?_))))))))))))))))))))
    have hcases : twoC l i k = 2 ∨ twoC l i k = 50 := by
      unfold twoC at hc ⊢
      split
      · rename_i hl
        rw [if_pos hl] at hc
        split
        · rename_i hw; rw [if_pos hw] at hc; exact absurd rfl hc
        · exact .inl rfl
      · exact .inr rfl
    rcases hcases with e | e <;> rw [e]
    · exact ifB_mk (fun hz => by simp at hz) (fun _ => ifB_mk (fun _ => ifB_mk (fun _ => ifB_mk (fun _ => ifB_mk (fun _ => ifB_mk (fun _ => h) (fun _ => h)) (fun hz => by simp at hz)) (fun hz => by simp at hz)) (fun hz => by simp at hz)) (fun hz => by simp at hz))
    · exact ifB_mk (fun hz => by simp at hz) (fun _ => ifB_mk (fun _ => ifB_mk (fun _ => ifB_mk (fun _ => ifB_mk (fun _ => ifB_mk (fun _ => h) (fun hz => by simp at hz)) (fun hz => by simp at hz)) (fun hz => by simp at hz)) (fun hz => by simp at hz)) (fun hz => by simp at hz))
end Go.Proofs.Ytahoindkdkhpmaa
