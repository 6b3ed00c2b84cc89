/- C1: a part of the proof. -/
import Derived.Test.YtahoindkdkhpmaaXB9
import Derived.Test.YtahoindkdkhpmaaXSeatR3
namespace Go.Proofs.Ytahoindkdkhpmaa
open Go Go.Proofs.Ytahoindkdkhpmaa.Clean
set_option linter.unusedVariables false
set_option linter.unusedSimpArgs false
set_option maxRecDepth 20000

/-! loops that close: the program -/
theorem rtL_ok : ∀ f us v k, rtL f us v k → ∃ v', k v' ∧ ∀ {F : Nat → Prop} {w : World} {ν : Nu} {x : Value}, rep F w ν v x → rep F w ν v' x := by
  intro f us v k h
  unfold rtL at h
  split at h
  · exact typedR_rep h
  · exact ⟨v, h, fun h => h⟩
theorem hL : CL.ok Try.prog := callsF_ok knows48 rtL_ok
theorem hLF : CLF.ok Try.prog := callsF_ok knows48 rtL_ok
theorem hLN : CLN.ok Try.prog := callsF_ok knows48 rtL_ok
/-- The first angles with which the gap is 0. -/
def tryP (a b : Sp) : List Hi → Po → Option (List Int)
  | [], z => if gapZ z a b = (0, 0) then some [] else none
  | h :: hs, z => (List.range 36).findSome? fun (n : Nat) => (tryP a b hs (swingP z h (angT (n : Int)))).map fun r => (n : Int) :: r
theorem range36 : ∀ k, k < 36 → List.range 36 = List.range k ++ k :: List.range' (k + 1) (35 - k) := by decide +kernel
theorem find36 {f : Nat → Option (List Int)} {k : Nat} (hk : k < 36) (h0 : ∀ n, n < k → f n = none) {r : List Int} (h1 : f k = some r) : (List.range 36).findSome? f = some r := by
  rw [List.findSome?_eq_some_iff]
  exact ⟨List.range k, k, List.range' (k + 1) (35 - k), range36 k hk, h1, fun x hx => h0 x (List.mem_range.1 hx)⟩
theorem find36_none {f : Nat → Option (List Int)} (h0 : ∀ n, n < 36 → f n = none) : (List.range 36).findSome? f = none := by
  rw [List.findSome?_eq_none_iff]
  exact fun x hx => h0 x (List.mem_range.1 hx)
theorem gapZ_ok {z : Po} {a b : Sp} {R : V → Prop} (hz : PoOK 16000 20000000 z) (ha : SpOK a) (hb : SpOK b) (h : ∀ x y, (x, y) = gapZ z a b → R (.agg [iv x, iv y])) : K0 Try.prog 60 [.agg (po z), .agg (sp a), .agg (sp b)] R :=
  gap60 (z := z) (a := a) (b := b) hz ha hb (h _ _ rfl)
theorem try73 {l : Li} {a b : Sp} (hl : l.2.length ≤ 3) (hh' : l.2.all hiB = true) (ha : SpOK a) (hb : SpOK b) : ∀ (d i : Nat), i + d = l.2.length → ∀ (z : Po) (xs : List Int) (Q : V → Us → Prop), PoGood i z → i ≤ xs.length →
    (tryP a b (l.2.drop i) z = none → ∀ ys, i ≤ ys.length → ys.take i = xs.take i → Q (bv false) [il ys, il (xs.take i)]) →
    (∀ r, tryP a b (l.2.drop i) z = some r → ∀ ys, i + r.length ≤ ys.length → ys.take (i + r.length) = xs.take i ++ r → Q (bv true) [il ys, il (xs.take i ++ r)]) →
    KM Try.prog (fun _ => none) 73 [.agg (po z), .ptr 0 0 0, .ptr 2 0 0, .ptr 3 0 0, .ptr 4 0 0, .ptr 5 0 0, .ptr 6 0 0] (mem1 l a b xs i) (postL 73) Q := by
  intro d
  induction d with
  | zero =>
    intro i hi' z xs Q hz hx h0 h1
    unfold KM
    generalize hR : (fun v h1 => ∃ us, h1 = postL 73 (mem1 l a b xs i) us ∧ Q v us) = R
    refine K_of_WK (kps := kp73) (kp := kpE73) hL hmH Try.func73 (fun _ => rfl) rfl (see (p := ifB ((↑i : Int) == (↑(List.map hi l.2).length : Int)) (K0 Try.prog 60 [V.agg [iv z.1, iv z.2.1, iv z.2.2.1, iv z.2.2.2.1, iv z.2.2.2.2], V.agg [iv a.1, iv a.2], V.agg [iv b.1, iv b.2]] fun v => onAgg v fun cs => onCons cs fun u r => onIntK IntKind.i64 u fun n => onCons r fun u r => onIntK IntKind.i64 u fun n_1 => onNil r (R (bv (n == (0 : Int) && (fun b => n_1 == (0 : Int) && b) true)) (Hp.mk [(0, O.rows 1 false [[V.sl 7 0 i]]), (2, O.rows 2 false [[V.lst 1 (List.map (fun p => [V.lst 2 (List.map sp p)]) l.1), V.lst 5 (List.map hi l.2)]]), (3, O.rows 2 false [[iv a.1, iv a.2]]), (4, O.rows 2 false [[iv b.1, iv b.2]]), (5, O.rows 108 false [tabC]), (6, O.rows 1 false [[V.fn (Fn.func (73 : FuncId)) [] [V.ptr 0 0 0, V.ptr 2 0 0, V.ptr 3 0 0, V.ptr 4 0 0, V.ptr 5 0 0, V.ptr 6 0 0]]]), (7, O.rows 1 true (il xs))] 8))) (Lp (kp73 0) (W Try.prog CL 48 kp73 0 (cdAt [1, 1, 1, 0, 1, 0, 0] (bodyOf Try.f73))) (Qblk 0 (Qseq (W Try.prog CL 48 kp73 0 (cdAt [1, 1, 1, 1] (bodyOf Try.f73))) (QendK Try.prog Try.f73 kpE73 R))) (St.mk (mkT [(1, V.ptr 0 0 0), (2, V.ptr 2 0 0), (6, V.ptr 6 0 0), (7, V.ptr 7 0 0), (9, iv (↑i : Int)), (25, V.agg tabC), (26, iv (0 : Int))]) (Hp.mk [(0, O.rows 1 false [[V.sl 8 0 i]]), (2, O.rows 2 false [[V.lst 1 (List.map (fun p => [V.lst 2 (List.map sp p)]) l.1), V.lst 5 (List.map hi l.2)]]), (3, O.rows 2 false [[iv a.1, iv a.2]]), (4, O.rows 2 false [[iv b.1, iv b.2]]), (5, O.rows 108 false [tabC]), (6, O.rows 1 false [[V.fn (Fn.func (73 : FuncId)) [] [V.ptr 0 0 0, V.ptr 2 0 0, V.ptr 3 0 0, V.ptr 4 0 0, V.ptr 5 0 0, V.ptr 6 0 0]]]), (7, O.rows 5 false [[iv z.1, iv z.2.1, iv z.2.2.1, iv z.2.2.2.1, iv z.2.2.2.2]]), (8, O.rows 1 true (il xs))] 9)))) (by kernel_rfl) ?_)
    rw [List.length_map]
    refine ifB_mk (fun _ => ?_) (fun hc => by simp at hc; omega)
    rw [show l.2.drop i = [] from List.drop_eq_nil_of_le (by omega)] at h0 h1
    refine gapZ_ok (z := z) (a := a) (b := b) (hz.ok (by omega)) ha hb (fun x y hxy => ?_)
    refine (onAgg_agg (onCons_cons (onIntK_iv (onCons_cons (onIntK_iv (onNil_nil (?_)))))))
    rw [← hR]
    have hlen : (xs.take i).length = i := by simp; omega
    by_cases hg : gapZ z a b = (0, 0)
    · have e1 : x = 0 := by rw [hg] at hxy; exact congrArg Prod.fst hxy
      have e2 : y = 0 := by rw [hg] at hxy; exact congrArg Prod.snd hxy
      have hb' : (x == (0 : Int) && (fun b => y == (0 : Int) && b) true) = true := by simp [e1, e2]
      rw [hb']
      have := h1 [] (by simp only [tryP]; rw [if_pos hg]) xs (by simpa using hx) (by simp)
      simp only [List.append_nil] at this
      refine ⟨_, ?_, this⟩
      show _ = postL 73 (mem1 l a b xs i) [il xs, il (xs.take i)]
      simp only [postL, List.getD_cons_succ, List.getD_cons_zero, il_length, hlen]
      rfl
    · have hb' : (x == (0 : Int) && (fun b => y == (0 : Int) && b) true) = false := by
        rw [Bool.eq_false_iff]
        intro hc
        simp at hc
        exact hg (by rw [← hxy, hc.1, hc.2])
      rw [hb']
      have := h0 (by simp only [tryP]; rw [if_neg hg]) xs hx rfl
      refine ⟨_, ?_, this⟩
      show _ = postL 73 (mem1 l a b xs i) [il xs, il (xs.take i)]
      simp only [postL, List.getD_cons_succ, List.getD_cons_zero, il_length, hlen]
      rfl
  | succ d ih =>
    intro i hi' z xs Q hz hx h0 h1
    unfold KM
    generalize hR : (fun v h1 => ∃ us, h1 = postL 73 (mem1 l a b xs i) us ∧ Q v us) = R
    refine K_of_WK (kps := kp73) (kp := kpE73) hL hmH Try.func73 (fun _ => rfl) rfl (see (p := ifB ((↑i : Int) == (↑(List.map hi l.2).length : Int)) (K0 Try.prog 60 [V.agg [iv z.1, iv z.2.1, iv z.2.2.1, iv z.2.2.2.1, iv z.2.2.2.2], V.agg [iv a.1, iv a.2], V.agg [iv b.1, iv b.2]] fun v => onAgg v fun cs => onCons cs fun u r => onIntK IntKind.i64 u fun n => onCons r fun u r => onIntK IntKind.i64 u fun n_1 => onNil r (R (bv (n == (0 : Int) && (fun b => n_1 == (0 : Int) && b) true)) (Hp.mk [(0, O.rows 1 false [[V.sl 7 0 i]]), (2, O.rows 2 false [[V.lst 1 (List.map (fun p => [V.lst 2 (List.map sp p)]) l.1), V.lst 5 (List.map hi l.2)]]), (3, O.rows 2 false [[iv a.1, iv a.2]]), (4, O.rows 2 false [[iv b.1, iv b.2]]), (5, O.rows 108 false [tabC]), (6, O.rows 1 false [[V.fn (Fn.func (73 : FuncId)) [] [V.ptr 0 0 0, V.ptr 2 0 0, V.ptr 3 0 0, V.ptr 4 0 0, V.ptr 5 0 0, V.ptr 6 0 0]]]), (7, O.rows 1 true (il xs))] 8))) (Lp (kp73 0) (W Try.prog CL 48 kp73 0 (cdAt [1, 1, 1, 0, 1, 0, 0] (bodyOf Try.f73))) (Qblk 0 (Qseq (W Try.prog CL 48 kp73 0 (cdAt [1, 1, 1, 1] (bodyOf Try.f73))) (QendK Try.prog Try.f73 kpE73 R))) (St.mk (mkT [(1, V.ptr 0 0 0), (2, V.ptr 2 0 0), (6, V.ptr 6 0 0), (7, V.ptr 7 0 0), (9, iv (↑i : Int)), (25, V.agg tabC), (26, iv (0 : Int))]) (Hp.mk [(0, O.rows 1 false [[V.sl 8 0 i]]), (2, O.rows 2 false [[V.lst 1 (List.map (fun p => [V.lst 2 (List.map sp p)]) l.1), V.lst 5 (List.map hi l.2)]]), (3, O.rows 2 false [[iv a.1, iv a.2]]), (4, O.rows 2 false [[iv b.1, iv b.2]]), (5, O.rows 108 false [tabC]), (6, O.rows 1 false [[V.fn (Fn.func (73 : FuncId)) [] [V.ptr 0 0 0, V.ptr 2 0 0, V.ptr 3 0 0, V.ptr 4 0 0, V.ptr 5 0 0, V.ptr 6 0 0]]]), (7, O.rows 5 false [[iv z.1, iv z.2.1, iv z.2.2.1, iv z.2.2.2.1, iv z.2.2.2.2]]), (8, O.rows 1 true (il xs))] 9)))) (by kernel_rfl) ?_)
    rw [List.length_map]
    refine ifB_mk (fun hc => by simp at hc; omega) (fun _ => ?_)
    have hil : i < l.2.length := by omega
    obtain ⟨k1, k2, k3⟩ := hi_getD_ok hh' hil
    have hdrop : l.2.drop i = l.2.getD i noHi :: l.2.drop (i + 1) := by
      rw [List.drop_eq_getElem_cons hil]
      congr 1
      simp [List.getD, hil]
    rw [hdrop] at h0 h1
    have hxl : (xs.take i).length = i := by simp; omega
    refine Lp.of (σ := Nat × List Int) (fun s => ⟨mkT [(1, .ptr 0 0 0), (2, .ptr 2 0 0), (6, .ptr 6 0 0), (7, .ptr 7 0 0), (9, iv (i : Int)), (25, .agg tabC), (26, iv (s.1 : Int))], ⟨[(0, .rows 1 false [[.sl 8 0 i]]), (2, .rows 2 false [lk l]), (3, .rows 2 false [sp a]), (4, .rows 2 false [sp b]), (5, .rows 108 false [tabC]), (6, .rows 1 false [[caps6 0 2 3 4 5 6]]), (7, .rows 5 false [po z]), (8, .rows 1 true (il s.2))], 9⟩⟩)
      (fun s => s.1 ≤ 36 ∧ i ≤ s.2.length ∧ s.2.take i = xs.take i ∧ ∀ n, n < s.1 → tryP a b (l.2.drop (i + 1)) (swingP z (l.2.getD i noHi) (angT ((n : Nat) : Int))) = none) (fun s => 36 - s.1) (0, xs) (by kernel_rfl) ⟨by simp, hx, rfl, by omega⟩ ?_
    rintro ⟨k, ys⟩ ⟨hk, hy, hys, hno⟩ J hJ
    simp only at hk hy hys hno
    refine see (p := ifB (decide ((↑k : Int) < (36 : Int))) (need (k < 36) (onCons (List.drop (k * 3) tabC) fun u r => onIntK IntKind.i64 u fun n => onCons r fun u r => onIntK IntKind.i64 u fun n_1 => onCons r fun u r => onIntK IntKind.i64 u fun n_2 => need ((i + 1) * 8 ≤ 140737488355328) (onSome (List.map hi l.2)[i]? fun row => onCons (List.drop 0 row) fun u r => onIntK IntKind.i64 u fun n_3 => onCons r fun u r => onIntK IntKind.i64 u fun n_4 => onCons r fun u r => onIntK IntKind.i64 u fun n_5 => onCons r fun u r => onIntK IntKind.i64 u fun n_6 => onCons r fun u r => onIntK IntKind.i64 u fun n_7 => K0 Try.prog 74 [V.agg [iv z.1, iv z.2.1, iv z.2.2.1, iv z.2.2.2.1, iv z.2.2.2.2], V.agg [iv n_3, iv n_4, iv n_5, iv n_6, iv n_7], V.agg [iv n, iv n_1, iv n_2]] fun v => onAgg v fun cs => onCons cs fun u r => onIntK IntKind.i64 u fun n => onCons r fun u r => onIntK IntKind.i64 u fun n_8 => onCons r fun u r => onIntK IntKind.i64 u fun n_9 => onCons r fun u r => onIntK IntKind.i64 u fun n_10 => onCons r fun u r => onIntK IntKind.i64 u fun n_11 => onNil r (KM Try.prog (fun x => none) 73 [V.agg [iv n, iv n_8, iv n_9, iv n_10, iv n_11], V.ptr 0 0 0, V.ptr 2 0 0, V.ptr 3 0 0, V.ptr 4 0 0, V.ptr 5 0 0, V.ptr 6 0 0] (Hp.mk [(0, O.rows 1 false [[V.sl 1 0 (i + 1)]]), (1, O.rows 1 true (List.take i (il ys) ++ [[iv (↑k : Int)]])), (2, O.rows 2 false [[V.lst 1 (List.map (fun p => [V.lst 2 (List.map sp p)]) l.1), V.lst 5 (List.map hi l.2)]]), (3, O.rows 2 false [[iv a.1, iv a.2]]), (4, O.rows 2 false [[iv b.1, iv b.2]]), (5, O.rows 108 false [tabC]), (6, O.rows 1 false [[V.fn (Fn.func (73 : FuncId)) [] [V.ptr 0 0 0, V.ptr 2 0 0, V.ptr 3 0 0, V.ptr 4 0 0, V.ptr 5 0 0, V.ptr 6 0 0]]])] 7) (fun h us => Hp.mk [(0, O.rows 1 false [[V.sl 7 0 (List.getD us 1 []).length]]), (2, getO h 2), (3, getO h 3), (4, getO h 4), (5, getO h 5), (6, getO h 6), (7, O.rows 1 true (List.getD us 0 []))] 8) fun v us => onBool v fun b_1 => ifB b_1 (R (bv true) (Hp.mk [(0, O.rows 1 false [[V.sl 7 0 (List.getD us 1 []).length]]), (2, O.rows 2 false [[V.lst 1 (List.map (fun p => [V.lst 2 (List.map sp p)]) l.1), V.lst 5 (List.map hi l.2)]]), (3, O.rows 2 false [[iv a.1, iv a.2]]), (4, O.rows 2 false [[iv b.1, iv b.2]]), (5, O.rows 108 false [tabC]), (6, O.rows 1 false [[V.fn (Fn.func (73 : FuncId)) [] [V.ptr 0 0 0, V.ptr 2 0 0, V.ptr 3 0 0, V.ptr 4 0 0, V.ptr 5 0 0, V.ptr 6 0 0]]]), (7, O.rows 1 true (List.getD us 0 []))] 8)) (need (i ≤ (List.getD us 1 []).length) (J (St.mk (mkT [(1, V.ptr 0 0 0), (2, V.ptr 2 0 0), (6, V.ptr 6 0 0), (7, V.ptr 7 0 0), (9, iv (↑i : Int)), (25, V.agg tabC), (26, iv (IntKind.i64.wrap ((↑k : Int) + (1 : Int))))]) (Hp.mk [(0, O.rows 1 false [[V.sl 8 0 (i - 0)]]), (2, O.rows 2 false [[V.lst 1 (List.map (fun p => [V.lst 2 (List.map sp p)]) l.1), V.lst 5 (List.map hi l.2)]]), (3, O.rows 2 false [[iv a.1, iv a.2]]), (4, O.rows 2 false [[iv b.1, iv b.2]]), (5, O.rows 108 false [tabC]), (6, O.rows 1 false [[V.fn (Fn.func (73 : FuncId)) [] [V.ptr 0 0 0, V.ptr 2 0 0, V.ptr 3 0 0, V.ptr 4 0 0, V.ptr 5 0 0, V.ptr 6 0 0]]]), (7, O.rows 5 false [[iv z.1, iv z.2.1, iv z.2.2.1, iv z.2.2.2.1, iv z.2.2.2.2]]), (8, O.rows 1 true (List.getD us 0 []))] 9)))))))) (R (bv false) (Hp.mk [(0, O.rows 1 false [[V.sl 7 0 i]]), (2, O.rows 2 false [[V.lst 1 (List.map (fun p => [V.lst 2 (List.map sp p)]) l.1), V.lst 5 (List.map hi l.2)]]), (3, O.rows 2 false [[iv a.1, iv a.2]]), (4, O.rows 2 false [[iv b.1, iv b.2]]), (5, O.rows 108 false [tabC]), (6, O.rows 1 false [[V.fn (Fn.func (73 : FuncId)) [] [V.ptr 0 0 0, V.ptr 2 0 0, V.ptr 3 0 0, V.ptr 4 0 0, V.ptr 5 0 0, V.ptr 6 0 0]]]), (7, O.rows 1 true (il ys))] 8))) (by kernel_rfl) ?_
    refine ifB_mk (fun hc => ?_) (fun hc => ?_)
    · have hk36 : k < 36 := by simp at hc; omega
      refine need_mk ⟨hk36, tu_at0 hk36 (need_mk ⟨by omega, hi_at (hi_getD hil) ?_⟩)⟩
      have ht := angT_ok (k : Int)
      refine swing74 (p := z) (h := l.2.getD i noHi) (t := angT (k : Int)) (hz.ok (by omega)) k1 ht.ok (onAgg_agg (onCons_cons (onIntK_iv (onCons_cons (onIntK_iv (onCons_cons (onIntK_iv (onCons_cons (onIntK_iv (onCons_cons (onIntK_iv (onNil_nil (?_)))))))))))))
      have hrow : List.take i (il ys) ++ [[iv (k : Int)]] = il (ys.take i ++ [(k : Int)]) := by simp [il, List.map_take]
      rw [hrow]
      have hyl : (ys.take i).length = i := by simp; omega
      have htake : (ys.take i ++ [(k : Int)]).take (i + 1) = ys.take i ++ [(k : Int)] := List.take_of_length_le (by simp; omega)
      refine ih (i + 1) (by omega) (swingP z (l.2.getD i noHi) (angT (k : Int))) (ys.take i ++ [(k : Int)]) _ (swing_good hz k1 ht) (by simp; omega) (fun hn ws hw hws => ?_) (fun r hr ws hw hws => ?_)
      · refine onBool_bv (ifB_mk (fun hc => by cases hc) (fun _ => ?_))
        rw [htake] at hws ⊢
        rw [wr (by omega) (by omega)]
        refine need_mk ⟨?_, ?_⟩
        · show i ≤ (il (ys.take i ++ [(k : Int)])).length
          rw [il_length]; simp; omega
        · refine hJ (k + 1, ws) ⟨hk36, by simp only; omega, ?_, fun n hn' => ?_⟩ (by simp only; omega)
          · simp only
            have := congrArg (List.take i) hws
            rw [List.take_take, Nat.min_eq_left (by omega), List.take_append_of_le_length (by omega), List.take_of_length_le (l := ys.take i) (by omega)] at this
            rw [this, hys]
          · by_cases hnk : n = k
            · subst hnk; exact hn
            · exact hno n (by omega)
      · refine onBool_bv (ifB_mk (fun _ => ?_) (fun hc => by cases hc))
        rw [htake] at hws ⊢
        rw [← hR]
        have hfind : tryP a b (l.2.getD i noHi :: l.2.drop (i + 1)) z = some ((k : Int) :: r) := by
          simp only [tryP]
          refine find36 hk36 (fun n hn => by rw [hno n hn]; rfl) ?_
          rw [hr]; rfl
        have := h1 _ hfind ws (by simp only [List.length_cons]; omega) (by
          rw [List.length_cons, show i + (r.length + 1) = i + 1 + r.length by omega, hws, hys, List.append_assoc]; rfl)
        refine ⟨_, ?_, this⟩
        show _ = postL 73 (mem1 l a b xs i) [il ws, il (xs.take i ++ (k : Int) :: r)]
        rw [hys, List.append_assoc]
        rfl
    · have he : k = 36 := by simp at hc; omega
      subst he
      rw [← hR]
      have hfind : tryP a b (l.2.getD i noHi :: l.2.drop (i + 1)) z = none := by
        simp only [tryP]
        exact find36_none fun n hn => by rw [hno n hn]; rfl
      have := h0 hfind ys hy hys
      refine ⟨_, ?_, this⟩
      show _ = postL 73 (mem1 l a b xs i) [il ys, il (xs.take i)]
      simp only [postL, List.getD_cons_succ, List.getD_cons_zero, il_length, hxl]
      rfl
/-- The first call, where there are hinges. -/
theorem first73 {l : Li} {a b : Sp} (hl : l.2.length ≤ 3) (hh' : l.2.all hiB = true) (ha : SpOK a) (hb : SpOK b) (h0l : 0 < l.2.length) {z : Po} {Q : V → Us → Prop} (hz : PoGood 0 z)
    (h0 : tryP a b l.2 z = none → ∀ us, Q (bv false) us)
    (h1 : ∀ r, tryP a b l.2 z = some r → ∀ ys, r.length ≤ ys.length → ys.take r.length = r → Q (bv true) [il ys, il r]) :
    KM Try.prog (fun _ => none) 73 [.agg (po z), .ptr 0 0 0, .ptr 1 0 0, .ptr 2 0 0, .ptr 3 0 0, .ptr 4 0 0, .ptr 5 0 0] (mem0 l a b) (postF 73) Q := by
  unfold KM
  generalize hR : (fun v h1 => ∃ us, h1 = postF 73 (mem0 l a b) us ∧ Q v us) = R
  refine K_of_WK (kps := kf73) (kp := kfE73) hL hmH Try.func73 (fun _ => rfl) rfl (see (p := ifB ((↑(0 : Nat) : Int) == (↑(List.map hi l.2).length : Int)) (K0 Try.prog 60 [V.agg [iv z.1, iv z.2.1, iv z.2.2.1, iv z.2.2.2.1, iv z.2.2.2.2], V.agg [iv a.1, iv a.2], V.agg [iv b.1, iv b.2]] fun v => onAgg v fun cs => onCons cs fun u r => onIntK IntKind.i64 u fun n => onCons r fun u r => onIntK IntKind.i64 u fun n_1 => onNil r (R (bv (n == (0 : Int) && (fun b => n_1 == (0 : Int) && b) true)) (Hp.mk [(0, O.rows 1 false [[nilS]]), (1, O.rows 2 false [[V.lst 1 (List.map (fun p => [V.lst 2 (List.map sp p)]) l.1), V.lst 5 (List.map hi l.2)]]), (2, O.rows 2 false [[iv a.1, iv a.2]]), (3, O.rows 2 false [[iv b.1, iv b.2]]), (4, O.rows 108 false [tabC]), (5, O.rows 1 false [[V.fn (Fn.func (73 : FuncId)) [] [V.ptr 0 0 0, V.ptr 1 0 0, V.ptr 2 0 0, V.ptr 3 0 0, V.ptr 4 0 0, V.ptr 5 0 0]]])] 7))) (Lp (kf73 0) (W Try.prog CL 48 kf73 0 (cdAt [1, 1, 1, 0, 1, 0, 0] (bodyOf Try.f73))) (Qblk 0 (Qseq (W Try.prog CL 48 kf73 0 (cdAt [1, 1, 1, 1] (bodyOf Try.f73))) (QendK Try.prog Try.f73 kfE73 R))) (St.mk (mkT [(1, V.ptr 0 0 0), (2, V.ptr 1 0 0), (6, V.ptr 5 0 0), (7, V.ptr 6 0 0), (9, iv (0 : Int)), (25, V.agg tabC), (26, iv (0 : Int))]) (Hp.mk [(0, O.rows 1 false [[nilS]]), (1, O.rows 2 false [[V.lst 1 (List.map (fun p => [V.lst 2 (List.map sp p)]) l.1), V.lst 5 (List.map hi l.2)]]), (2, O.rows 2 false [[iv a.1, iv a.2]]), (3, O.rows 2 false [[iv b.1, iv b.2]]), (4, O.rows 108 false [tabC]), (5, O.rows 1 false [[V.fn (Fn.func (73 : FuncId)) [] [V.ptr 0 0 0, V.ptr 1 0 0, V.ptr 2 0 0, V.ptr 3 0 0, V.ptr 4 0 0, V.ptr 5 0 0]]]), (6, O.rows 5 false [[iv z.1, iv z.2.1, iv z.2.2.1, iv z.2.2.2.1, iv z.2.2.2.2]])] 8)))) (by kernel_rfl) ?_)
  rw [List.length_map]
  refine ifB_mk (fun hc => by simp at hc; omega) (fun _ => ?_)
  obtain ⟨k1, k2, k3⟩ := hi_getD_ok hh' h0l
  have hcons : l.2 = l.2.getD 0 noHi :: l.2.drop 1 := by
    cases hl2 : l.2 with
    | nil => rw [hl2] at h0l; simp at h0l
    | cons x y => simp
  have hfin : ∀ (k : Nat) (r : List Int), k < 36 → (∀ n, n < k → tryP a b (l.2.drop 1) (swingP z (l.2.getD 0 noHi) (angT ((n : Nat) : Int))) = none) → tryP a b (l.2.drop 1) (swingP z (l.2.getD 0 noHi) (angT (k : Int))) = some r → tryP a b l.2 z = some ((k : Int) :: r) := fun k r hk hno hr => by
    rw [hcons]
    simp only [tryP]
    refine find36 hk (fun n hn => by rw [hno n hn]; rfl) ?_
    rw [hr]; rfl
  refine Lp.of (σ := Option (Nat × List Int)) (fun s => match s with
      | none => ⟨mkT [(1, .ptr 0 0 0), (2, .ptr 1 0 0), (6, .ptr 5 0 0), (7, .ptr 6 0 0), (9, iv (0 : Int)), (25, .agg tabC), (26, iv (0 : Int))], ⟨[(0, .rows 1 false [[nilS]]), (1, .rows 2 false [lk l]), (2, .rows 2 false [sp a]), (3, .rows 2 false [sp b]), (4, .rows 108 false [tabC]), (5, .rows 1 false [[caps6 0 1 2 3 4 5]]), (6, .rows 5 false [po z])], 8⟩⟩
      | some (k, ys) => ⟨mkT [(1, .ptr 0 0 0), (2, .ptr 1 0 0), (6, .ptr 5 0 0), (7, .ptr 6 0 0), (9, iv (0 : Int)), (25, .agg tabC), (26, iv (k : Int))], ⟨[(0, .rows 1 false [[.sl 7 0 0]]), (1, .rows 2 false [lk l]), (2, .rows 2 false [sp a]), (3, .rows 2 false [sp b]), (4, .rows 108 false [tabC]), (5, .rows 1 false [[caps6 0 1 2 3 4 5]]), (6, .rows 5 false [po z]), (7, .rows 1 true (il ys))], 8⟩⟩)
    (fun s => match s with | none => True | some (k, ys) => 1 ≤ k ∧ k ≤ 36 ∧ ∀ n, n < k → tryP a b (l.2.drop 1) (swingP z (l.2.getD 0 noHi) (angT ((n : Nat) : Int))) = none) (fun s => match s with | none => 37 | some (k, _) => 36 - k) none (by kernel_rfl) trivial ?_
  rintro (_ | ⟨k, ys⟩) hI J hJ
  · refine see (p := onSome (List.map hi l.2)[0]? fun row => onCons (List.drop 0 row) fun u r => onIntK IntKind.i64 u fun n => onCons r fun u r => onIntK IntKind.i64 u fun n_1 => onCons r fun u r => onIntK IntKind.i64 u fun n_2 => onCons r fun u r => onIntK IntKind.i64 u fun n_3 => onCons r fun u r => onIntK IntKind.i64 u fun n_4 => K0 Try.prog 74 [V.agg [iv z.1, iv z.2.1, iv z.2.2.1, iv z.2.2.2.1, iv z.2.2.2.2], V.agg [iv n, iv n_1, iv n_2, iv n_3, iv n_4], V.agg [iv (-1 : Int), iv (0 : Int), iv (1 : Int)]] fun v => onAgg v fun cs => onCons cs fun u r => onIntK IntKind.i64 u fun n => onCons r fun u r => onIntK IntKind.i64 u fun n_5 => onCons r fun u r => onIntK IntKind.i64 u fun n_6 => onCons r fun u r => onIntK IntKind.i64 u fun n_7 => onCons r fun u r => onIntK IntKind.i64 u fun n_8 => onNil r (KM Try.prog (fun x => none) 73 [V.agg [iv n, iv n_5, iv n_6, iv n_7, iv n_8], V.ptr 0 0 0, V.ptr 2 0 0, V.ptr 3 0 0, V.ptr 4 0 0, V.ptr 5 0 0, V.ptr 6 0 0] (Hp.mk [(0, O.rows 1 false [[V.sl 1 0 1]]), (1, O.rows 1 true [[iv (0 : Int)]]), (2, O.rows 2 false [[V.lst 1 (List.map (fun p => [V.lst 2 (List.map sp p)]) l.1), V.lst 5 (List.map hi l.2)]]), (3, O.rows 2 false [[iv a.1, iv a.2]]), (4, O.rows 2 false [[iv b.1, iv b.2]]), (5, O.rows 108 false [tabC]), (6, O.rows 1 false [[V.fn (Fn.func (73 : FuncId)) [] [V.ptr 0 0 0, V.ptr 2 0 0, V.ptr 3 0 0, V.ptr 4 0 0, V.ptr 5 0 0, V.ptr 6 0 0]]])] 7) (fun h us => Hp.mk [(0, O.rows 1 false [[V.sl 7 0 (List.getD us 1 []).length]]), (2, getO h 2), (3, getO h 3), (4, getO h 4), (5, getO h 5), (6, getO h 6), (7, O.rows 1 true (List.getD us 0 []))] 8) fun v us => onBool v fun b_1 => ifB b_1 (R (bv true) (Hp.mk [(0, O.rows 1 false [[V.sl 6 0 (List.getD us 1 []).length]]), (1, O.rows 2 false [[V.lst 1 (List.map (fun p => [V.lst 2 (List.map sp p)]) l.1), V.lst 5 (List.map hi l.2)]]), (2, O.rows 2 false [[iv a.1, iv a.2]]), (3, O.rows 2 false [[iv b.1, iv b.2]]), (4, O.rows 108 false [tabC]), (5, O.rows 1 false [[V.fn (Fn.func (73 : FuncId)) [] [V.ptr 0 0 0, V.ptr 1 0 0, V.ptr 2 0 0, V.ptr 3 0 0, V.ptr 4 0 0, V.ptr 5 0 0]]]), (6, O.rows 1 true (List.getD us 0 []))] 7)) (J (St.mk (mkT [(1, V.ptr 0 0 0), (2, V.ptr 1 0 0), (6, V.ptr 5 0 0), (7, V.ptr 6 0 0), (9, iv (0 : Int)), (25, V.agg tabC), (26, iv (1 : Int))]) (Hp.mk [(0, O.rows 1 false [[V.sl 7 0 0]]), (1, O.rows 2 false [[V.lst 1 (List.map (fun p => [V.lst 2 (List.map sp p)]) l.1), V.lst 5 (List.map hi l.2)]]), (2, O.rows 2 false [[iv a.1, iv a.2]]), (3, O.rows 2 false [[iv b.1, iv b.2]]), (4, O.rows 108 false [tabC]), (5, O.rows 1 false [[V.fn (Fn.func (73 : FuncId)) [] [V.ptr 0 0 0, V.ptr 1 0 0, V.ptr 2 0 0, V.ptr 3 0 0, V.ptr 4 0 0, V.ptr 5 0 0]]]), (6, O.rows 5 false [[iv z.1, iv z.2.1, iv z.2.2.1, iv z.2.2.2.1, iv z.2.2.2.2]]), (7, O.rows 1 true (List.getD us 0 []))] 8))))) (by kernel_rfl) ?_
    have ht := angT_ok 0
    refine hi_at (hi_getD h0l) (swing74 (p := z) (h := l.2.getD 0 noHi) (t := angT 0) (hz.ok (by omega)) k1 ht.ok (onAgg_agg (onCons_cons (onIntK_iv (onCons_cons (onIntK_iv (onCons_cons (onIntK_iv (onCons_cons (onIntK_iv (onCons_cons (onIntK_iv (onNil_nil (?_))))))))))))))
    refine try73 hl hh' ha hb (l.2.length - 1) 1 (by omega) (swingP z (l.2.getD 0 noHi) (angT 0)) [0] _ (swing_good hz k1 ht) (by simp) (fun hn ws hw hws => ?_) (fun r hr ws hw hws => ?_)
    · refine onBool_bv (ifB_mk (fun hc => by cases hc) (fun _ => ?_))
      refine hJ (some (1, ws)) ⟨Nat.le_refl _, by omega, fun n hn' => ?_⟩ (by simp only; omega)
      have : n = 0 := by omega
      subst this; exact hn
    · refine onBool_bv (ifB_mk (fun _ => ?_) (fun hc => by cases hc))
      rw [← hR]
      have := h1 _ (hfin 0 r (by omega) (by omega) hr) ws (by simp only [List.length_cons]; omega) (by
        rw [List.length_cons, show r.length + 1 = 1 + r.length by omega, hws]; rfl)
      exact ⟨_, rfl, this⟩
  · obtain ⟨hk1, hk, hno⟩ := hI
    refine see (p := ifB (decide ((↑k : Int) < (36 : Int))) (need (k < 36) (onCons (List.drop (k * 3) tabC) fun u r => onIntK IntKind.i64 u fun n => onCons r fun u r => onIntK IntKind.i64 u fun n_1 => onCons r fun u r => onIntK IntKind.i64 u fun n_2 => onSome (List.map hi l.2)[0]? fun row => onCons (List.drop 0 row) fun u r => onIntK IntKind.i64 u fun n_3 => onCons r fun u r => onIntK IntKind.i64 u fun n_4 => onCons r fun u r => onIntK IntKind.i64 u fun n_5 => onCons r fun u r => onIntK IntKind.i64 u fun n_6 => onCons r fun u r => onIntK IntKind.i64 u fun n_7 => K0 Try.prog 74 [V.agg [iv z.1, iv z.2.1, iv z.2.2.1, iv z.2.2.2.1, iv z.2.2.2.2], V.agg [iv n_3, iv n_4, iv n_5, iv n_6, iv n_7], V.agg [iv n, iv n_1, iv n_2]] fun v => onAgg v fun cs => onCons cs fun u r => onIntK IntKind.i64 u fun n => onCons r fun u r => onIntK IntKind.i64 u fun n_8 => onCons r fun u r => onIntK IntKind.i64 u fun n_9 => onCons r fun u r => onIntK IntKind.i64 u fun n_10 => onCons r fun u r => onIntK IntKind.i64 u fun n_11 => onNil r (KM Try.prog (fun x => none) 73 [V.agg [iv n, iv n_8, iv n_9, iv n_10, iv n_11], V.ptr 0 0 0, V.ptr 2 0 0, V.ptr 3 0 0, V.ptr 4 0 0, V.ptr 5 0 0, V.ptr 6 0 0] (Hp.mk [(0, O.rows 1 false [[V.sl 1 0 1]]), (1, O.rows 1 true [[iv (↑k : Int)]]), (2, O.rows 2 false [[V.lst 1 (List.map (fun p => [V.lst 2 (List.map sp p)]) l.1), V.lst 5 (List.map hi l.2)]]), (3, O.rows 2 false [[iv a.1, iv a.2]]), (4, O.rows 2 false [[iv b.1, iv b.2]]), (5, O.rows 108 false [tabC]), (6, O.rows 1 false [[V.fn (Fn.func (73 : FuncId)) [] [V.ptr 0 0 0, V.ptr 2 0 0, V.ptr 3 0 0, V.ptr 4 0 0, V.ptr 5 0 0, V.ptr 6 0 0]]])] 7) (fun h us => Hp.mk [(0, O.rows 1 false [[V.sl 7 0 (List.getD us 1 []).length]]), (2, getO h 2), (3, getO h 3), (4, getO h 4), (5, getO h 5), (6, getO h 6), (7, O.rows 1 true (List.getD us 0 []))] 8) fun v us => onBool v fun b_1 => ifB b_1 (R (bv true) (Hp.mk [(0, O.rows 1 false [[V.sl 6 0 (List.getD us 1 []).length]]), (1, O.rows 2 false [[V.lst 1 (List.map (fun p => [V.lst 2 (List.map sp p)]) l.1), V.lst 5 (List.map hi l.2)]]), (2, O.rows 2 false [[iv a.1, iv a.2]]), (3, O.rows 2 false [[iv b.1, iv b.2]]), (4, O.rows 108 false [tabC]), (5, O.rows 1 false [[V.fn (Fn.func (73 : FuncId)) [] [V.ptr 0 0 0, V.ptr 1 0 0, V.ptr 2 0 0, V.ptr 3 0 0, V.ptr 4 0 0, V.ptr 5 0 0]]]), (6, O.rows 1 true (List.getD us 0 []))] 7)) (J (St.mk (mkT [(1, V.ptr 0 0 0), (2, V.ptr 1 0 0), (6, V.ptr 5 0 0), (7, V.ptr 6 0 0), (9, iv (0 : Int)), (25, V.agg tabC), (26, iv (IntKind.i64.wrap ((↑k : Int) + (1 : Int))))]) (Hp.mk [(0, O.rows 1 false [[V.sl 7 0 0]]), (1, O.rows 2 false [[V.lst 1 (List.map (fun p => [V.lst 2 (List.map sp p)]) l.1), V.lst 5 (List.map hi l.2)]]), (2, O.rows 2 false [[iv a.1, iv a.2]]), (3, O.rows 2 false [[iv b.1, iv b.2]]), (4, O.rows 108 false [tabC]), (5, O.rows 1 false [[V.fn (Fn.func (73 : FuncId)) [] [V.ptr 0 0 0, V.ptr 1 0 0, V.ptr 2 0 0, V.ptr 3 0 0, V.ptr 4 0 0, V.ptr 5 0 0]]]), (6, O.rows 5 false [[iv z.1, iv z.2.1, iv z.2.2.1, iv z.2.2.2.1, iv z.2.2.2.2]]), (7, O.rows 1 true (List.getD us 0 []))] 8)))))) (R (bv false) (Hp.mk [(0, O.rows 1 false [[V.sl 6 0 0]]), (1, O.rows 2 false [[V.lst 1 (List.map (fun p => [V.lst 2 (List.map sp p)]) l.1), V.lst 5 (List.map hi l.2)]]), (2, O.rows 2 false [[iv a.1, iv a.2]]), (3, O.rows 2 false [[iv b.1, iv b.2]]), (4, O.rows 108 false [tabC]), (5, O.rows 1 false [[V.fn (Fn.func (73 : FuncId)) [] [V.ptr 0 0 0, V.ptr 1 0 0, V.ptr 2 0 0, V.ptr 3 0 0, V.ptr 4 0 0, V.ptr 5 0 0]]]), (6, O.rows 1 true (il ys))] 7))) (by kernel_rfl) ?_
    refine ifB_mk (fun hc => ?_) (fun hc => ?_)
    · have hk36 : k < 36 := by simp at hc; omega
      refine need_mk ⟨hk36, tu_at0 hk36 (hi_at (hi_getD h0l) ?_)⟩
      have ht := angT_ok (k : Int)
      refine swing74 (p := z) (h := l.2.getD 0 noHi) (t := angT (k : Int)) (hz.ok (by omega)) k1 ht.ok (onAgg_agg (onCons_cons (onIntK_iv (onCons_cons (onIntK_iv (onCons_cons (onIntK_iv (onCons_cons (onIntK_iv (onCons_cons (onIntK_iv (onNil_nil (?_)))))))))))))
      refine try73 hl hh' ha hb (l.2.length - 1) 1 (by omega) (swingP z (l.2.getD 0 noHi) (angT (k : Int))) [(k : Int)] _ (swing_good hz k1 ht) (by simp) (fun hn ws hw hws => ?_) (fun r hr ws hw hws => ?_)
      · refine onBool_bv (ifB_mk (fun hc => by cases hc) (fun _ => ?_))
        rw [wr (by omega) (by omega)]
        refine hJ (some (k + 1, ws)) ⟨by omega, hk36, fun n hn' => ?_⟩ (by simp only; omega)
        by_cases hnk : n = k
        · subst hnk; exact hn
        · exact hno n (by omega)
      · refine onBool_bv (ifB_mk (fun _ => ?_) (fun hc => by cases hc))
        rw [← hR]
        have := h1 _ (hfin k r hk36 hno hr) ws (by simp only [List.length_cons]; omega) (by
          rw [List.length_cons, show r.length + 1 = 1 + r.length by omega, hws]; rfl)
        exact ⟨_, rfl, this⟩
    · have he : k = 36 := by simp at hc; omega
      subst he
      rw [← hR]
      have hfind : tryP a b l.2 z = none := by
        rw [hcons]
        simp only [tryP]
        exact find36_none fun n hn => by rw [hno n hn]; rfl
      exact ⟨[il ys, []], rfl, h0 hfind _⟩
theorem none73 {ps : List (List Sp)} {a b : Sp} (ha : SpOK a) (hb : SpOK b) {z : Po} {Q : V → Us → Prop} (hz : PoGood 0 z) (h : Q (bv (decide (gapZ z a b = (0, 0)))) []) :
    KM Try.prog (fun _ => none) 73 [.agg (po z), .ptr 0 0 0, .ptr 1 0 0, .ptr 2 0 0, .ptr 3 0 0, .ptr 4 0 0, .ptr 5 0 0] (mem0 (ps, []) a b) (postN 73) Q := by
  unfold KM
  generalize hR : (fun v h1 => ∃ us, h1 = postN 73 (mem0 (ps, []) a b) us ∧ Q v us) = R
  refine K_of_WK (kps := kf73) (kp := knE73) hL hmH Try.func73 (fun _ => rfl) rfl (see (p := K0 Try.prog 60 [V.agg [iv z.1, iv z.2.1, iv z.2.2.1, iv z.2.2.2.1, iv z.2.2.2.2], V.agg [iv a.1, iv a.2], V.agg [iv b.1, iv b.2]] fun v => onAgg v fun cs => onCons cs fun u r => onIntK IntKind.i64 u fun n => onCons r fun u r => onIntK IntKind.i64 u fun n_1 => onNil r (R (bv (n == (0 : Int) && (fun b => n_1 == (0 : Int) && b) true)) (Hp.mk [(0, O.rows 1 false [[nilS]]), (1, O.rows 2 false [[V.lst 1 (List.map (fun p => [V.lst 2 (List.map sp p)]) ps), V.lst 5 []]]), (2, O.rows 2 false [[iv a.1, iv a.2]]), (3, O.rows 2 false [[iv b.1, iv b.2]]), (4, O.rows 108 false [tabC]), (5, O.rows 1 false [[V.fn (Fn.func (73 : FuncId)) [] [V.ptr 0 0 0, V.ptr 1 0 0, V.ptr 2 0 0, V.ptr 3 0 0, V.ptr 4 0 0, V.ptr 5 0 0]]])] 6))) (by kernel_rfl) ?_)
  refine gapZ_ok (z := z) (a := a) (b := b) (hz.ok (by omega)) ha hb (fun x y hxy => ?_)
  refine (onAgg_agg (onCons_cons (onIntK_iv (onCons_cons (onIntK_iv (onNil_nil (?_)))))))
  rw [← hR]
  have hb' : (x == (0 : Int) && (fun b => y == (0 : Int) && b) true) = decide (gapZ z a b = (0, 0)) := by
    rw [← hxy, Bool.eq_iff_iff]
    simp
  rw [hb']
  exact ⟨[], rfl, h⟩
def closeP (l : Li) (a b : Sp) : Option (List Int) := tryP a b l.2 (1, 0, 0, 0, 1)
theorem close42 {l : Li} {a b : Sp} {R : V → Prop} (hs : LiSz l) (he : plcC l a b ≠ 0 → R (.tup [nilS, iv (plcC l a b)])) (h0 : plcC l a b = 0 → closeP l a b = none → R (.tup [nilS, iv 52]))
    (h1 : plcC l a b = 0 → ∀ r, closeP l a b = some r → R (.tup [bif l.2.isEmpty then nilS else .lst 1 (il r), iv 0])) : K0 Try.prog 42 [.agg (lk l), .agg (sp a), .agg (sp b)] R := by
  obtain ⟨ps, hs'⟩ := l
  cases hs' with
  | nil =>
    refine K0_of_W0 (kps := kp0) hLN hmH Try.func42 (see (p := K0 Try.prog 59 [V.agg [V.lst 1 (List.map (fun p => [V.lst 2 (List.map sp p)]) ps), V.lst 5 []], V.agg [iv a.1, iv a.2], V.agg [iv b.1, iv b.2]] fun v => onIntK IntKind.i64 v fun n => ifB (n != (0 : Int)) (R (V.tup [nilS, iv n])) (K0 Try.prog 75 [] fun v => onAgg v fun cs => onCons cs fun u r => onIntK IntKind.i64 u fun n => onCons r fun u r => onIntK IntKind.i64 u fun n_1 => onCons r fun u r => onIntK IntKind.i64 u fun n_2 => onCons r fun u r => onIntK IntKind.i64 u fun n_3 => onCons r fun u r => onIntK IntKind.i64 u fun n_4 => onNil r (KM Try.prog (fun x => none) 73 [V.agg [iv n, iv n_1, iv n_2, iv n_3, iv n_4], V.ptr 0 0 0, V.ptr 1 0 0, V.ptr 2 0 0, V.ptr 3 0 0, V.ptr 4 0 0, V.ptr 5 0 0] (Hp.mk [(0, O.rows 1 false [[nilS]]), (1, O.rows 2 false [[V.lst 1 (List.map (fun p => [V.lst 2 (List.map sp p)]) ps), V.lst 5 []]]), (2, O.rows 2 false [[iv a.1, iv a.2]]), (3, O.rows 2 false [[iv b.1, iv b.2]]), (4, O.rows 108 false [tabC]), (5, O.rows 1 false [[V.fn (Fn.func 73) [] [V.ptr 0 0 0, V.ptr 1 0 0, V.ptr 2 0 0, V.ptr 3 0 0, V.ptr 4 0 0, V.ptr 5 0 0]]])] 6) (fun h x => h) fun v us => onBool v fun b => ifB (!b) (R (V.tup [nilS, iv (52 : Int)])) (R (V.tup [nilS, iv (0 : Int)]))))) (by kernel_rfl) ?_)
    refine checkPlaces59 (l := (ps, [])) (a := a) (b := b) hs (onIntK_iv ?_)
    by_cases hp : plcC (ps, []) a b = 0
    · obtain ⟨hl, ha, hb⟩ := plcC_ok hp
      refine ifB_mk (fun hc => by rw [hp] at hc; simp at hc) (fun _ => ?_)
      refine start75 (onAgg_agg (onCons_cons (onIntK_iv (onCons_cons (onIntK_iv (onCons_cons (onIntK_iv (onCons_cons (onIntK_iv (onCons_cons (onIntK_iv (onNil_nil (?_)))))))))))))
      refine none73 (ps := ps) (z := (1, 0, 0, 0, 1)) ha hb start_good (onBool_bv (ifB_mk (fun hc => ?_) (fun hc => ?_)))
      · refine h0 hp ?_
        simp only [closeP, tryP]
        rw [if_neg]
        simpa using hc
      · have := h1 hp [] (by simp only [closeP, tryP]; rw [if_pos]; simpa using hc)
        exact this
    · exact ifB_mk (fun _ => he hp) (fun hc => by simp at hc; exact absurd hc hp)
  | cons x hs' =>
    generalize hl' : (ps, x :: hs') = l at *
    have hpos : 0 < l.2.length := by rw [← hl']; simp
    have hemp : l.2.isEmpty = false := by rw [← hl']; rfl
    rw [hemp] at h1
    refine K0_of_W0 (kps := kp0) hLF hmH Try.func42 (see (p := K0 Try.prog 59 [V.agg [V.lst 1 (List.map (fun p => [V.lst 2 (List.map sp p)]) l.1), V.lst 5 (List.map hi l.2)], V.agg [iv a.1, iv a.2], V.agg [iv b.1, iv b.2]] fun v => onIntK IntKind.i64 v fun n => ifB (n != (0 : Int)) (R (V.tup [nilS, iv n])) (K0 Try.prog 75 [] fun v => onAgg v fun cs => onCons cs fun u r => onIntK IntKind.i64 u fun n => onCons r fun u r => onIntK IntKind.i64 u fun n_1 => onCons r fun u r => onIntK IntKind.i64 u fun n_2 => onCons r fun u r => onIntK IntKind.i64 u fun n_3 => onCons r fun u r => onIntK IntKind.i64 u fun n_4 => onNil r (KM Try.prog (fun x => none) 73 [V.agg [iv n, iv n_1, iv n_2, iv n_3, iv n_4], V.ptr 0 0 0, V.ptr 1 0 0, V.ptr 2 0 0, V.ptr 3 0 0, V.ptr 4 0 0, V.ptr 5 0 0] (Hp.mk [(0, O.rows 1 false [[nilS]]), (1, O.rows 2 false [[V.lst 1 (List.map (fun p => [V.lst 2 (List.map sp p)]) l.1), V.lst 5 (List.map hi l.2)]]), (2, O.rows 2 false [[iv a.1, iv a.2]]), (3, O.rows 2 false [[iv b.1, iv b.2]]), (4, O.rows 108 false [tabC]), (5, O.rows 1 false [[V.fn (Fn.func 73) [] [V.ptr 0 0 0, V.ptr 1 0 0, V.ptr 2 0 0, V.ptr 3 0 0, V.ptr 4 0 0, V.ptr 5 0 0]]])] 6) (fun h us => Hp.mk [(0, O.rows 1 false [[V.sl 6 0 (List.getD us 1 []).length]]), (1, getO h 1), (2, getO h 2), (3, getO h 3), (4, getO h 4), (5, getO h 5), (6, O.rows 1 true (List.getD us 0 []))] 7) fun v us => onBool v fun b => ifB (!b) (R (V.tup [nilS, iv (52 : Int)])) (R (V.tup [V.lst 1 (sub (List.getD us 0 []) 0 (List.getD us 1 []).length), iv (0 : Int)]))))) (by kernel_rfl) ?_)
    refine checkPlaces59 (l := l) (a := a) (b := b) hs (onIntK_iv ?_)
    by_cases hp : plcC l a b = 0
    · obtain ⟨hl, ha, hb⟩ := plcC_ok hp
      obtain ⟨g1, g2, g3, g4, g5⟩ := linB_ok hl
      refine ifB_mk (fun hc => by rw [hp] at hc; simp at hc) (fun _ => ?_)
      refine start75 (onAgg_agg (onCons_cons (onIntK_iv (onCons_cons (onIntK_iv (onCons_cons (onIntK_iv (onCons_cons (onIntK_iv (onCons_cons (onIntK_iv (onNil_nil (?_)))))))))))))
      refine first73 (l := l) (z := (1, 0, 0, 0, 1)) (by omega) g5 ha hb hpos start_good (fun hn us => ?_) (fun r hr ys hy hys => ?_)
      · exact onBool_bv (ifB_mk (fun _ => h0 hp hn) (fun hc => by cases hc))
      · refine onBool_bv (ifB_mk (fun hc => by cases hc) (fun _ => ?_))
        have := h1 hp r hr
        have e : sub (List.getD [il ys, il r] 0 []) 0 (List.getD [il ys, il r] 1 []).length = il r := by
          simp only [List.getD_cons_zero, List.getD_cons_succ, il_length, il_sub, List.drop_zero, hys]
        rw [e]; exact this
    · exact ifB_mk (fun _ => he hp) (fun hc => by simp at hc; exact absurd hc hp)
end Go.Proofs.Ytahoindkdkhpmaa
