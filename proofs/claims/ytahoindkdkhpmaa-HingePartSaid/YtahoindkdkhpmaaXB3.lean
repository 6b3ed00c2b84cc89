/- B3: a part of the proof. -/
import Derived.Test.YtahoindkdkhpmaaXB2
namespace Go.Proofs.Ytahoindkdkhpmaa
open Go Go.Proofs.Ytahoindkdkhpmaa.Clean
set_option linter.unusedVariables false
set_option linter.unusedSimpArgs false
set_option maxRecDepth 20000

/-! is a proof right? -/
def btwB (a : Ap) (p q : Pd) : Bool :=
  a.2.2.2.2.2.isEmpty && !(a.2.1 == 0 && a.2.2.1 == 0) && win a.2.1 (-10000000) 10000000 && win a.2.2.1 (-10000000) 10000000 && win a.2.2.2.1 (-100000000000000) 100000000000000 && win a.2.2.2.2.1 1 20000 &&
  p.1.all (fun c => decide (a.2.2.2.2.1 * (a.2.1 * c.1 + a.2.2.1 * c.2) ≤ a.2.2.2.1 * p.2)) && q.1.all (fun c => decide (a.2.2.2.1 * q.2 ≤ a.2.2.2.2.1 * (a.2.1 * c.1 + a.2.2.1 * c.2)))
theorem all_take_succ {l : List Sp} {f : Sp → Bool} {i : Nat} (h : i < l.length) (h1 : f l[i] = true) (h0 : ∀ x ∈ l.take i, f x = true) : ∀ x ∈ l.take (i + 1), f x = true := take_all_succ h h1 h0
theorem isBetween68 {a : Ap} {s : Nat} {p q : Pd} {R : V → Prop} (hp : PdOK p) (hq : PdOK q) (h : R (bv (btwB a p q))) : K0 Try.prog 68 [apV a s, .agg (pd p), .agg (pd q)] R := by
  refine K0_of_W0 (kps := kp68) hM hmH Try.func68 (see (p := ifB ((↑(il a.2.2.2.2.2).length : Int) != (0 : Int)) (R (bv false)) (ifB (a.2.1 == (0 : Int)) (ifB (a.2.2.1 == (0 : Int)) (R (bv false)) (K0 Try.prog 47 [iv a.2.1, iv (-10000000 : Int), iv (10000000 : Int)] fun v => onBool v fun b => ifB (!b) (R (bv false)) (K0 Try.prog 47 [iv a.2.2.1, iv (-10000000 : Int), iv (10000000 : Int)] fun v => onBool v fun b => ifB (!b) (R (bv false)) (K0 Try.prog 47 [iv a.2.2.2.1, iv (-100000000000000 : Int), iv (100000000000000 : Int)] fun v => onBool v fun b => ifB (!b) (R (bv false)) (K0 Try.prog 47 [iv a.2.2.2.2.1, iv (1 : Int), iv (20000 : Int)] fun v => onBool v fun b => ifB (!b) (R (bv false)) (Lp (kp68 0) (W Try.prog CM 103 kp68 0 (cdAt [1, 1, 1, 0, 1, 0, 0] (bodyOf Try.f68))) (Qblk 0 (Qseq (W Try.prog CM 103 kp68 0 (cdAt [1, 1, 1, 1] (bodyOf Try.f68))) (Qend0 Try.prog Try.f68 R))) (St.mk (mkT [(3, V.ptr 0 0 0), (4, V.ptr 1 0 0), (5, V.ptr 2 0 0), (48, V.lst 2 (List.map sp p.1)), (49, iv (↑(List.map sp p.1).length : Int)), (50, iv (0 : Int))]) (Hp.mk [(0, O.rows 6 true [[bv a.1, iv a.2.1, iv a.2.2.1, iv a.2.2.2.1, iv a.2.2.2.2.1, V.lst s (il a.2.2.2.2.2)]]), (1, O.rows 2 true [[V.lst 2 (List.map sp p.1), iv p.2]]), (2, O.rows 2 true [[V.lst 2 (List.map sp q.1), iv q.2]])] 3)))))))) (K0 Try.prog 47 [iv a.2.1, iv (-10000000 : Int), iv (10000000 : Int)] fun v => onBool v fun b => ifB (!b) (R (bv false)) (K0 Try.prog 47 [iv a.2.2.1, iv (-10000000 : Int), iv (10000000 : Int)] fun v => onBool v fun b => ifB (!b) (R (bv false)) (K0 Try.prog 47 [iv a.2.2.2.1, iv (-100000000000000 : Int), iv (100000000000000 : Int)] fun v => onBool v fun b => ifB (!b) (R (bv false)) (K0 Try.prog 47 [iv a.2.2.2.2.1, iv (1 : Int), iv (20000 : Int)] fun v => onBool v fun b => ifB (!b) (R (bv false)) (Lp (kp68 0) (W Try.prog CM 103 kp68 0 (cdAt [1, 1, 1, 0, 1, 0, 0] (bodyOf Try.f68))) (Qblk 0 (Qseq (W Try.prog CM 103 kp68 0 (cdAt [1, 1, 1, 1] (bodyOf Try.f68))) (Qend0 Try.prog Try.f68 R))) (St.mk (mkT [(3, V.ptr 0 0 0), (4, V.ptr 1 0 0), (5, V.ptr 2 0 0), (48, V.lst 2 (List.map sp p.1)), (49, iv (↑(List.map sp p.1).length : Int)), (50, iv (0 : Int))]) (Hp.mk [(0, O.rows 6 true [[bv a.1, iv a.2.1, iv a.2.2.1, iv a.2.2.2.1, iv a.2.2.2.2.1, V.lst s (il a.2.2.2.2.2)]]), (1, O.rows 2 true [[V.lst 2 (List.map sp p.1), iv p.2]]), (2, O.rows 2 true [[V.lst 2 (List.map sp q.1), iv q.2]])] 3))))))))) (by kernel_rfl) ?_)
  have hp8 := hp.len8
  have hq8 := hq.len8
  have no : btwB a p q = false → R (bv false) := fun hn => by rw [hn] at h; exact h
  have rest : a.2.2.2.2.2 = [] → (a.2.1 == 0 && a.2.2.1 == 0) = false → K0 Try.prog 47 [iv a.2.1, iv (-10000000 : Int), iv (10000000 : Int)] fun v => onBool v fun b => ifB (!b) (R (bv false)) (K0 Try.prog 47 [iv a.2.2.1, iv (-10000000 : Int), iv (10000000 : Int)] fun v => onBool v fun b => ifB (!b) (R (bv false)) (K0 Try.prog 47 [iv a.2.2.2.1, iv (-100000000000000 : Int), iv (100000000000000 : Int)] fun v => onBool v fun b => ifB (!b) (R (bv false)) (K0 Try.prog 47 [iv a.2.2.2.2.1, iv (1 : Int), iv (20000 : Int)] fun v => onBool v fun b => ifB (!b) (R (bv false)) (Lp (kp68 0) (W Try.prog CM 103 kp68 0 (cdAt [1, 1, 1, 0, 1, 0, 0] (bodyOf Try.f68))) (Qblk 0 (Qseq (W Try.prog CM 103 kp68 0 (cdAt [1, 1, 1, 1] (bodyOf Try.f68))) (Qend0 Try.prog Try.f68 R))) (St.mk (mkT [(3, V.ptr 0 0 0), (4, V.ptr 1 0 0), (5, V.ptr 2 0 0), (48, V.lst 2 (List.map sp p.1)), (49, iv (↑(List.map sp p.1).length : Int)), (50, iv (0 : Int))]) (Hp.mk [(0, O.rows 6 true [[bv a.1, iv a.2.1, iv a.2.2.1, iv a.2.2.2.1, iv a.2.2.2.2.1, V.lst s (il a.2.2.2.2.2)]]), (1, O.rows 2 true [[V.lst 2 (List.map sp p.1), iv p.2]]), (2, O.rows 2 true [[V.lst 2 (List.map sp q.1), iv q.2]])] 3)))))) := fun he hz => by
    refine within47 (onBool_bv (ifB_mk (fun hb => no ?_) (fun ha => within47 (onBool_bv (ifB_mk (fun hb => no ?_) (fun hb => within47 (onBool_bv (ifB_mk (fun hc => no ?_) (fun hc => within47 (onBool_bv (ifB_mk (fun hd => no ?_) (fun hd => ?_))))))))))))
    · have : win a.2.1 (-10000000) 10000000 = false := by simpa using hb
      simp [btwB, this]
    · have : win a.2.2.1 (-10000000) 10000000 = false := by simpa using hb
      simp [btwB, this]
    · have : win a.2.2.2.1 (-100000000000000) 100000000000000 = false := by simpa using hc
      simp [btwB, this]
    · have : win a.2.2.2.2.1 1 20000 = false := by simpa using hd
      simp [btwB, this]
    have wa : win a.2.1 (-10000000) 10000000 = true := by simpa using ha
    have wb : win a.2.2.1 (-10000000) 10000000 = true := by simpa using hb
    have wc : win a.2.2.2.1 (-100000000000000) 100000000000000 = true := by simpa using hc
    have wd : win a.2.2.2.2.1 1 20000 = true := by simpa using hd
    have hbt : btwB a p q = (p.1.all (fun c => decide (a.2.2.2.2.1 * (a.2.1 * c.1 + a.2.2.1 * c.2) ≤ a.2.2.2.1 * p.2)) && q.1.all (fun c => decide (a.2.2.2.1 * q.2 ≤ a.2.2.2.2.1 * (a.2.1 * c.1 + a.2.2.1 * c.2)))) := by
      unfold btwB; rw [he, hz, wa, wb, wc, wd]; simp
    have ba : Bd 10000000 a.2.1 := win_iff.1 wa
    have bb : Bd 10000000 a.2.2.1 := win_iff.1 wb
    have bc : Bd 100000000000000 a.2.2.2.1 := win_iff.1 wc
    have bd : Bd 20000 a.2.2.2.2.1 := by have := win_iff.1 wd; exact ⟨by omega, this.2⟩
    have val : ∀ (z : Pd), PdOK z → ∀ c ∈ z.1, IntKind.i64.wrap (a.2.2.2.2.1 * IntKind.i64.wrap (IntKind.i64.wrap (a.2.1 * c.1) + IntKind.i64.wrap (a.2.2.1 * c.2))) = a.2.2.2.2.1 * (a.2.1 * c.1 + a.2.2.1 * c.2) ∧ IntKind.i64.wrap (a.2.2.2.1 * z.2) = a.2.2.2.1 * z.2 := fun z hz c hc => by
      have cc := hz.c c hc
      have d1 := hz.d1
      have d2 := hz.d2
      have hd : Bd 15625 z.2 := ⟨by omega, d2⟩
      rw [(ba.mul cc.1).wr, (bb.mul cc.2).wr, ((ba.mul cc.1).add (bb.mul cc.2)).wr, (bd.mul ((ba.mul cc.1).add (bb.mul cc.2))).wr, (bc.mul hd).wr]
      exact ⟨rfl, rfl⟩
    refine Lp.of (σ := Nat) (fun i => ⟨mkT [(3, .ptr 0 0 0), (4, .ptr 1 0 0), (5, .ptr 2 0 0), (48, pl p.1), (49, iv ((p.1.map sp).length : Int)), (50, iv (i : Int))], ⟨[(0, .rows 6 true [[bv a.1, iv a.2.1, iv a.2.2.1, iv a.2.2.2.1, iv a.2.2.2.2.1, .lst s (il a.2.2.2.2.2)]]), (1, .rows 2 true [pd p]), (2, .rows 2 true [pd q])], 3⟩⟩) (fun i => i ≤ p.1.length ∧ ∀ c ∈ p.1.take i, decide (a.2.2.2.2.1 * (a.2.1 * c.1 + a.2.2.1 * c.2) ≤ a.2.2.2.1 * p.2) = true) (fun i => p.1.length - i) 0 (by kernel_rfl) ⟨by simp, by simp⟩ ?_
    rintro i ⟨hi', hall⟩ J hJ
    refine see (p := ifB (decide ((↑i : Int) < (↑(List.map sp p.1).length : Int))) (onSome (List.map sp p.1)[i]? fun row => onCons (List.drop 0 row) fun u r => onIntK IntKind.i64 u fun n => onCons r fun u r => onIntK IntKind.i64 u fun n_1 => ifB (decide (IntKind.i64.wrap (a.2.2.2.2.1 * IntKind.i64.wrap (IntKind.i64.wrap (a.2.1 * n) + IntKind.i64.wrap (a.2.2.1 * n_1))) > IntKind.i64.wrap (a.2.2.2.1 * p.2))) (R (bv false)) (J (St.mk (mkT [(3, V.ptr 0 0 0), (4, V.ptr 1 0 0), (5, V.ptr 2 0 0), (48, V.lst 2 (List.map sp p.1)), (49, iv (↑(List.map sp p.1).length : Int)), (50, iv (IntKind.i64.wrap ((↑i : Int) + (1 : Int))))]) (Hp.mk [(0, O.rows 6 true [[bv a.1, iv a.2.1, iv a.2.2.1, iv a.2.2.2.1, iv a.2.2.2.2.1, V.lst s (il a.2.2.2.2.2)]]), (1, O.rows 2 true [[V.lst 2 (List.map sp p.1), iv p.2]]), (2, O.rows 2 true [[V.lst 2 (List.map sp q.1), iv q.2]])] 3)))) (Lp (kp68 2) (W Try.prog CM 103 kp68 2 (cdAt [1, 1, 1, 1, 0, 1, 0, 0] (bodyOf Try.f68))) (Qblk 2 (Qseq (W Try.prog CM 103 kp68 0 (cdAt [1, 1, 1, 1, 1] (bodyOf Try.f68))) (Qend0 Try.prog Try.f68 R))) (St.mk (mkT [(3, V.ptr 0 0 0), (5, V.ptr 2 0 0), (76, V.lst 2 (List.map sp q.1)), (77, iv (↑(List.map sp q.1).length : Int)), (78, iv (0 : Int))]) (Hp.mk [(0, O.rows 6 true [[bv a.1, iv a.2.1, iv a.2.2.1, iv a.2.2.2.1, iv a.2.2.2.2.1, V.lst s (il a.2.2.2.2.2)]]), (1, O.rows 2 true [[V.lst 2 (List.map sp p.1), iv p.2]]), (2, O.rows 2 true [[V.lst 2 (List.map sp q.1), iv q.2]])] 3)))) (by kernel_rfl) ?_
    refine ifB_mk (fun hb => ?_) (fun hb => ?_)
    · have hlt : i < p.1.length := by simp at hb; omega
      refine sp_at (List.getElem?_eq_getElem hlt) ?_
      obtain ⟨v1, v2⟩ := val p hp p.1[i] (List.getElem_mem hlt)
      rw [v1, v2]
      refine ifB_mk (fun hc => no ?_) (fun hc => ?_)
      · rw [hbt]
        have : p.1.all (fun c => decide (a.2.2.2.2.1 * (a.2.1 * c.1 + a.2.2.1 * c.2) ≤ a.2.2.2.1 * p.2)) = false := by
          rw [List.all_eq_false]
          exact ⟨p.1[i], List.getElem_mem hlt, by simp at hc ⊢; omega⟩
        rw [this, Bool.false_and]
      · rw [wr (by omega) (by omega)]
        exact hJ (i + 1) ⟨hlt, all_take_succ hlt (by simp at hc ⊢; omega) hall⟩ (by omega)
    · have he' : i = p.1.length := by simp at hb; omega
      subst he'
      rw [List.take_length] at hall
      have h1 : p.1.all (fun c => decide (a.2.2.2.2.1 * (a.2.1 * c.1 + a.2.2.1 * c.2) ≤ a.2.2.2.1 * p.2)) = true := List.all_eq_true.2 hall
      rw [h1, Bool.true_and] at hbt
      refine Lp.of (σ := Nat) (fun i => ⟨mkT [(3, .ptr 0 0 0), (5, .ptr 2 0 0), (76, pl q.1), (77, iv ((q.1.map sp).length : Int)), (78, iv (i : Int))], ⟨[(0, .rows 6 true [[bv a.1, iv a.2.1, iv a.2.2.1, iv a.2.2.2.1, iv a.2.2.2.2.1, .lst s (il a.2.2.2.2.2)]]), (1, .rows 2 true [pd p]), (2, .rows 2 true [pd q])], 3⟩⟩) (fun i => i ≤ q.1.length ∧ ∀ c ∈ q.1.take i, decide (a.2.2.2.1 * q.2 ≤ a.2.2.2.2.1 * (a.2.1 * c.1 + a.2.2.1 * c.2)) = true) (fun i => q.1.length - i) 0 (by kernel_rfl) ⟨by simp, by simp⟩ ?_
      rintro i ⟨hi', hall⟩ J hJ
      refine see (p := ifB (decide ((↑i : Int) < (↑(List.map sp q.1).length : Int))) (onSome (List.map sp q.1)[i]? fun row => onCons (List.drop 0 row) fun u r => onIntK IntKind.i64 u fun n => onCons r fun u r => onIntK IntKind.i64 u fun n_1 => ifB (decide (IntKind.i64.wrap (a.2.2.2.2.1 * IntKind.i64.wrap (IntKind.i64.wrap (a.2.1 * n) + IntKind.i64.wrap (a.2.2.1 * n_1))) < IntKind.i64.wrap (a.2.2.2.1 * q.2))) (R (bv false)) (J (St.mk (mkT [(3, V.ptr 0 0 0), (5, V.ptr 2 0 0), (76, V.lst 2 (List.map sp q.1)), (77, iv (↑(List.map sp q.1).length : Int)), (78, iv (IntKind.i64.wrap ((↑i : Int) + (1 : Int))))]) (Hp.mk [(0, O.rows 6 true [[bv a.1, iv a.2.1, iv a.2.2.1, iv a.2.2.2.1, iv a.2.2.2.2.1, V.lst s (il a.2.2.2.2.2)]]), (1, O.rows 2 true [[V.lst 2 (List.map sp p.1), iv p.2]]), (2, O.rows 2 true [[V.lst 2 (List.map sp q.1), iv q.2]])] 3)))) (R (bv true))) (by kernel_rfl) ?_
      refine ifB_mk (fun hb => ?_) (fun hb => ?_)
      · have hlt : i < q.1.length := by simp at hb; omega
        refine sp_at (List.getElem?_eq_getElem hlt) ?_
        obtain ⟨v1, v2⟩ := val q hq q.1[i] (List.getElem_mem hlt)
        rw [v1, v2]
        refine ifB_mk (fun hc => no ?_) (fun hc => ?_)
        · rw [hbt, List.all_eq_false]
          exact ⟨q.1[i], List.getElem_mem hlt, by simp at hc ⊢; omega⟩
        · rw [wr (by omega) (by omega)]
          exact hJ (i + 1) ⟨hlt, all_take_succ hlt (by simp at hc ⊢; omega) hall⟩ (by omega)
      · have he' : i = q.1.length := by simp at hb; omega
        subst he'
        rw [List.take_length] at hall
        rw [hbt, List.all_eq_true.2 hall] at h
        exact h
  refine ifB_mk (fun hb => no ?_) (fun hb => ?_)
  · have : a.2.2.2.2.2.isEmpty = false := by
      rw [il_length] at hb
      simp at hb
      cases hx : a.2.2.2.2.2 with
      | nil => rw [hx] at hb; simp at hb
      | cons x y => rfl
    simp [btwB, this]
  · have he : a.2.2.2.2.2 = [] := by
      rw [il_length] at hb
      simp at hb
      exact hb
    refine ifB_mk (fun c1 => ifB_mk (fun c2 => no ?_) (fun c2 => rest he ?_)) (fun c1 => rest he ?_)
    · simp [btwB, c1, c2]
    · simp [c2]
    · simp [c1]

def arlB (l : List Int) (p q : Pd) : Bool := (List.range p.1.length).all fun i => win (l.getD i 0) 0 (q.1.length - 1) && lf p q (rot p.1 i) (q.1.getD (l.getD i 0).toNat (0, 0))
theorem areLeft91 {l : List Int} {p q : Pd} {R : V → Prop} (hp : PdOK p) (hq : PdOK q) (hl : l.length = p.1.length) (h : R (bv (arlB l p q))) : K0 Try.prog 91 [.lst 1 (il l), .agg (pd p), .agg (pd q)] R := by
  refine K0_of_W0 (kps := kp91) hM hmH Try.func91 (see (p := K0 Try.prog 80 [V.lst 2 (List.map sp p.1)] fun v => onLst v fun s es => Lp (kp91 0) (W Try.prog CM 46 kp91 0 (cdAt [1, 0, 1, 0, 0] (bodyOf Try.f91))) (Qblk 0 (Qseq (W Try.prog CM 46 kp91 0 (cdAt [1, 1] (bodyOf Try.f91))) (Qend0 Try.prog Try.f91 R))) (St.mk (mkT [(0, V.lst 1 (il l)), (4, V.ptr 0 0 0), (5, V.ptr 1 0 0), (11, V.lst s es), (12, iv (↑es.length : Int)), (13, iv (0 : Int))]) (Hp.mk [(0, O.rows 2 true [[V.lst 2 (List.map sp p.1), iv p.2]]), (1, O.rows 2 true [[V.lst 2 (List.map sp q.1), iv q.2]])] 2))) (by kernel_rfl) ?_)
  have hp8 := hp.len8
  have hq8 := hq.len8
  have hq3 := hq.len3
  have no : arlB l p q = false → R (bv false) := fun hn => by rw [hn] at h; exact h
  refine edges80 (by omega) (onLst_lst ?_)
  obtain ⟨es, hes⟩ : ∃ es, es = rots p.1 := ⟨_, rfl⟩
  have hel : es.length = p.1.length := by rw [hes, rots_length]
  rw [← hes]
  refine Lp.of (σ := Nat) (fun i => ⟨mkT [(0, .lst 1 (il l)), (4, .ptr 0 0 0), (5, .ptr 1 0 0), (11, .lst 1 (es.map fun p => [pl p])), (12, iv ((es.map fun p => [pl p]).length : Int)), (13, iv (i : Int))], ⟨[(0, .rows 2 true [pd p]), (1, .rows 2 true [pd q])], 2⟩⟩) (fun i => i ≤ p.1.length ∧ ∀ k, k < i → (win (l.getD k 0) 0 (q.1.length - 1) && lf p q (rot p.1 k) (q.1.getD (l.getD k 0).toNat (0, 0))) = true) (fun i => p.1.length - i) 0 (by kernel_rfl) ⟨by simp, by simp⟩ ?_
  rintro i ⟨hi', ha⟩ J hJ
  refine see (p := ifB (decide ((↑i : Int) < (↑(List.map (fun p => [V.lst 2 (List.map sp p)]) es).length : Int))) (onSome (List.map (fun p => [V.lst 2 (List.map sp p)]) es)[i]? fun row => onSome row[0]? fun v => onLst v fun s es_1 => onSome (il l)[i]? fun row => onSome row[0]? fun v => onIntK IntKind.i64 v fun n => K0 Try.prog 47 [iv n, iv (0 : Int), iv (IntKind.i64.wrap ((↑(List.map sp q.1).length : Int) - (1 : Int)))] fun v => onBool v fun b => ifB (!b) (R (bv false)) (onSome (il l)[i]? fun row => onSome row[0]? fun v => onIntK IntKind.i64 v fun n => onNat n fun m => onSome (List.map sp q.1)[m]? fun row => onCons (List.drop 0 row) fun u r => onIntK IntKind.i64 u fun n => onCons r fun u r => onIntK IntKind.i64 u fun n_1 => K0 Try.prog 81 [V.lst s es_1, iv p.2, V.agg [iv n, iv n_1], iv q.2] fun v => onBool v fun b => ifB (!b) (R (bv false)) (J (St.mk (mkT [(0, V.lst 1 (il l)), (4, V.ptr 0 0 0), (5, V.ptr 1 0 0), (11, V.lst 1 (List.map (fun p => [V.lst 2 (List.map sp p)]) es)), (12, iv (↑(List.map (fun p => [V.lst 2 (List.map sp p)]) es).length : Int)), (13, iv (IntKind.i64.wrap ((↑i : Int) + (1 : Int))))]) (Hp.mk [(0, O.rows 2 true [[V.lst 2 (List.map sp p.1), iv p.2]]), (1, O.rows 2 true [[V.lst 2 (List.map sp q.1), iv q.2]])] 2))))) (R (bv true))) (by kernel_rfl) ?_
  refine ifB_mk (fun hb => ?_) (fun hb => ?_)
  · have hlt : i < p.1.length := by simp at hb; omega
    have heg : es[i]? = some (rot p.1 i) := by rw [hes]; exact rots_get hlt
    obtain ⟨n, hn⟩ : ∃ n, n = l.getD i 0 := ⟨_, rfl⟩
    have hng : l[i]? = some n := by rw [hn, List.getD_eq_getElem?_getD, List.getElem?_eq_getElem (by omega)]; rfl
    refine row_at heg (el hng ?_)
    rw [List.length_map, wr (by omega) (by omega)]
    refine within47 (onBool_bv (ifB_mk (fun hc => no ?_) (fun hc => ?_)))
    · have : win n 0 (q.1.length - 1) = false := by simpa using hc
      unfold arlB
      rw [List.all_eq_false]
      exact ⟨i, List.mem_range.2 hlt, by rw [← hn, this]; simp⟩
    · have hw : win n 0 (q.1.length - 1) = true := by simpa using hc
      have hw' := win_iff.1 hw
      obtain ⟨m, hm⟩ : ∃ m : Nat, n = (m : Int) := ⟨n.toNat, by omega⟩
      have hmq : m < q.1.length := by omega
      have hcg : q.1[m]? = some (q.1.getD m (0, 0)) := getD_some hmq
      refine el hng (onNat_mk hm (sp_at hcg (left81 (c := q.1.getD m (0, 0)) (rot_ok hp hlt) hp hq (List.mem_of_getElem? hcg) (onBool_bv (ifB_mk (fun hc2 => no ?_) (fun hc2 => ?_))))))
      · have : lf p q (rot p.1 i) (q.1.getD m (0, 0)) = false := by simpa using hc2
        unfold arlB
        rw [List.all_eq_false]
        exact ⟨i, List.mem_range.2 hlt, by rw [← hn, hm, Int.toNat_natCast, this]; simp⟩
      · have hlf : lf p q (rot p.1 i) (q.1.getD m (0, 0)) = true := by simpa using hc2
        rw [wr (by omega) (by omega)]
        refine hJ (i + 1) ⟨hlt, fun k hk => ?_⟩ (by omega)
        by_cases hki : k = i
        · subst hki; rw [← hn, hw, hm, Int.toNat_natCast, hlf]; rfl
        · exact ha k (by omega)
  · have he : i = p.1.length := by simp at hb; omega
    subst he
    have : arlB l p q = true := by
      unfold arlB
      rw [List.all_eq_true]
      exact fun k hk => ha k (List.mem_range.1 hk)
    rw [this] at h; exact h
def insB (a : Ap) (p q : Pd) : Bool :=
  (a.2.1 == 0 && (a.2.2.1 == 0 && (a.2.2.2.1 == 0 && (a.2.2.2.2.1 == 0 && true)))) && decide (a.2.2.2.2.2.length = p.1.length + q.1.length) && arlB (a.2.2.2.2.2.take p.1.length) p q && arlB (a.2.2.2.2.2.drop p.1.length) q p
/-- A row of Inside has one cell, if there is one. -/
def ApOK (a : Ap) (s : Nat) : Prop := s = 1 ∨ a.2.2.2.2.2 = []
theorem il_sub (l : List Int) (i n : Nat) : sub (il l) i n = il ((l.drop i).take n) := by simp [sub, il, List.map_drop, List.map_take]
theorem isInside69 {a : Ap} {s : Nat} {p q : Pd} {R : V → Prop} (ha : ApOK a s) (hp : PdOK p) (hq : PdOK q) (h : R (bv (insB a p q))) : K0 Try.prog 69 [apV a s, .agg (pd p), .agg (pd q)] R := by
  refine K0_of_W0 (kps := kp0) hM hmH Try.func69 (see (p := ifB (!(fun b => a.2.1 == (0 : Int) && b) ((fun b => a.2.2.1 == (0 : Int) && b) ((fun b => a.2.2.2.1 == (0 : Int) && b) ((fun b => a.2.2.2.2.1 == (0 : Int) && b) true)))) (R (bv false)) (ifB ((↑(il a.2.2.2.2.2).length : Int) != IntKind.i64.wrap ((↑(List.map sp p.1).length : Int) + (↑(List.map sp q.1).length : Int))) (R (bv false)) (need ((List.map sp p.1).length ≤ (il a.2.2.2.2.2).length) (guardB (s.beq 1 || (il a.2.2.2.2.2).isEmpty) (K0 Try.prog 91 [V.lst s (sub (il a.2.2.2.2.2) 0 ((List.map sp p.1).length - 0)), V.agg [V.lst 2 (List.map sp p.1), iv p.2], V.agg [V.lst 2 (List.map sp q.1), iv q.2]] fun v => onBool v fun b => ifB b (need ((il a.2.2.2.2.2).length ≤ (il a.2.2.2.2.2).length) (need ((List.map sp p.1).length ≤ (il a.2.2.2.2.2).length) (guardB (s.beq 1 || (il a.2.2.2.2.2).isEmpty) (K0 Try.prog 91 [V.lst s (sub (il a.2.2.2.2.2) (List.map sp p.1).length ((il a.2.2.2.2.2).length - (List.map sp p.1).length)), V.agg [V.lst 2 (List.map sp q.1), iv q.2], V.agg [V.lst 2 (List.map sp p.1), iv p.2]] fun v => onBool v fun b => R (bv b))))) (R (bv false))))))) (by kernel_rfl) ?_)
  have hp8 := hp.len8
  have hq8 := hq.len8
  have hp3 := hp.len3
  have no : insB a p q = false → R (bv false) := fun hn => by rw [hn] at h; exact h
  refine ifB_mk (fun hc => no ?_) (fun hc => ?_)
  · have : (a.2.1 == 0 && (a.2.2.1 == 0 && (a.2.2.2.1 == 0 && (a.2.2.2.2.1 == 0 && true)))) = false := by rw [← Bool.not_eq_true']; exact hc
    unfold insB; rw [this]; simp
  have hz : (a.2.1 == 0 && (a.2.2.1 == 0 && (a.2.2.2.1 == 0 && (a.2.2.2.2.1 == 0 && true)))) = true := by simpa using hc
  rw [List.length_map, List.length_map, il_length, wr (by omega) (by omega)]
  refine ifB_mk (fun hc => no ?_) (fun hc => ?_)
  · have : ¬ a.2.2.2.2.2.length = p.1.length + q.1.length := by simp at hc; omega
    unfold insB; rw [decide_eq_false this]; simp
  have hlen : a.2.2.2.2.2.length = p.1.length + q.1.length := by simp at hc; omega
  have hs : s = 1 := by
    rcases ha with h | h
    · exact h
    · rw [h] at hlen; simp at hlen; omega
  subst hs
  refine need_mk ⟨by omega, guardB_mk rfl ?_⟩
  rw [il_sub, il_sub, List.drop_zero, Nat.sub_zero]
  refine areLeft91 hp hq (by rw [List.length_take]; omega) (onBool_bv (ifB_mk (fun hb => need_mk ⟨Nat.le_refl _, need_mk ⟨by omega, guardB_mk rfl ?_⟩⟩) (fun hb => no ?_)))
  · rw [List.take_of_length_le (by rw [List.length_drop]; exact Nat.le_refl _)]
    refine areLeft91 hq hp (by rw [List.length_drop]; omega) (onBool_bv ?_)
    have : insB a p q = arlB (a.2.2.2.2.2.drop p.1.length) q p := by unfold insB; rw [hz, decide_eq_true hlen, hb]; simp
    rw [← this]; exact h
  · unfold insB; rw [hb]; simp
def rightB (a : Ap) (p q : Pd) : Bool := if a.1 = true then btwB a p q else insB a p q
def chkC (l : Li) (i k : Int) (a : Ap) : Int := if twoC l i k = 0 then (if rightB a (panI l i) (panI l k) = true then 0 else 31) else twoC l i k
theorem checkApart37 {l : Li} {i k : Int} {a : Ap} {s : Nat} {R : V → Prop} (hs : LiSz l) (ha : ApOK a s) (h : R (iv (chkC l i k a))) : K0 Try.prog 37 [.agg (lk l), iv i, iv k, apV a s] R := by
  refine K0_of_W0 (kps := kp0) hM hmH Try.func37 (see (p := K0 Try.prog 65 [V.agg [V.lst 1 (List.map (fun p => [V.lst 2 (List.map sp p)]) l.1), V.lst 5 (List.map hi l.2)], iv i, iv k] fun v => onTup v fun vs => onCons vs fun u r => onAgg u fun cs => onCons cs fun u r_1 => onLst u fun s_1 es => onCons r_1 fun u r_2 => onIntK IntKind.i64 u fun n => onNil r_2 (onCons r fun u r => onAgg u fun cs => onCons cs fun u r_3 => onLst u fun s_2 es_1 => onCons r_3 fun u r_4 => onIntK IntKind.i64 u fun n_1 => onNil r_4 (onCons r fun u r => onIntK IntKind.i64 u fun n_2 => onNil r (ifB (n_2 != (0 : Int)) (R (iv n_2)) (ifB a.1 (K0 Try.prog 68 [V.agg [bv a.1, iv a.2.1, iv a.2.2.1, iv a.2.2.2.1, iv a.2.2.2.2.1, V.lst s (il a.2.2.2.2.2)], V.agg [V.lst s_1 es, iv n], V.agg [V.lst s_2 es_1, iv n_1]] fun v => onBool v fun b => ifB b (R (iv (0 : Int))) (ifB (!a.1) (K0 Try.prog 69 [V.agg [bv a.1, iv a.2.1, iv a.2.2.1, iv a.2.2.2.1, iv a.2.2.2.2.1, V.lst s (il a.2.2.2.2.2)], V.agg [V.lst s_1 es, iv n], V.agg [V.lst s_2 es_1, iv n_1]] fun v => onBool v fun b => ifB b (R (iv (0 : Int))) (R (iv (31 : Int)))) (R (iv (31 : Int))))) (ifB (!a.1) (K0 Try.prog 69 [V.agg [bv a.1, iv a.2.1, iv a.2.2.1, iv a.2.2.2.1, iv a.2.2.2.2.1, V.lst s (il a.2.2.2.2.2)], V.agg [V.lst s_1 es, iv n], V.agg [V.lst s_2 es_1, iv n_1]] fun v => onBool v fun b => ifB b (R (iv (0 : Int))) (R (iv (31 : Int)))) (R (iv (31 : Int))))))))) (by kernel_rfl) ?_)
  refine pair65 (l := l) hs ?_
  unfold chkC at h
  unfold pairR
  by_cases h0 : twoC l i k = 0
  · rw [if_pos h0] at h ⊢
    obtain ⟨hl, i0, i1, k0, k1, _⟩ := twoC_ok h0
    have op := panI_ok hl i0 i1
    have oq := panI_ok hl k0 k1
    obtain ⟨p, hp⟩ : ∃ p, p = panI l i := ⟨_, rfl⟩
    obtain ⟨q, hq⟩ : ∃ q, q = panI l k := ⟨_, rfl⟩
    rw [← hp, ← hq] at h ⊢
    rw [← hp] at op
    rw [← hq] at oq
    refine (onTup_tup (onCons_cons (onAgg_agg (onCons_cons (onLst_lst (onCons_cons (onIntK_iv (onNil_nil (onCons_cons (onAgg_agg (onCons_cons (onLst_lst (onCons_cons (onIntK_iv (onNil_nil (onCons_cons (onIntK_iv (onNil_nil (?_)))))))))))))))))))
    refine ifB_mk (fun hb => by simp at hb) (fun _ => ?_)
    refine ifB_mk (fun hc => ?_) (fun hc => ?_)
    · have hr : rightB a p q = btwB a p q := by simp [rightB, hc]
      rw [hr] at h
      refine isBetween68 (a := a) (p := p) (q := q) op oq (onBool_bv (ifB_mk (fun hb => ?_) (fun hb => ?_)))
      · rw [hb] at h; exact h
      · rw [hb] at h
        exact ifB_mk (fun hb2 => by rw [hc] at hb2; simp at hb2) (fun _ => h)
    · have hr : rightB a p q = insB a p q := by simp [rightB, hc]
      rw [hr] at h
      refine ifB_mk (fun _ => ?_) (fun hb2 => by rw [hc] at hb2; simp at hb2)
      refine isInside69 (a := a) (p := p) (q := q) ha op oq (onBool_bv (ifB_mk (fun hb => ?_) (fun hb => ?_)))
      · rw [hb] at h; exact h
      · rw [hb] at h; exact h
  · rw [if_neg h0] at h ⊢
    refine (onTup_tup (onCons_cons (onAgg_agg (onCons_cons (onLst_nil (onCons_cons (onIntK_iv (onNil_nil (onCons_cons (onAgg_agg (onCons_cons (onLst_nil (onCons_cons (onIntK_iv (onNil_nil (onCons_cons (onIntK_iv (onNil_nil (?_)))))))))))))))))))
    exact ifB_mk (fun _ => h) (fun hb => by simp at hb; exact absurd hb h0)

/-! all pairs -/
def clsh (p q : Pd) : Bool := !(apartP p q).1
def rowC (l : List Pd) (i m : Nat) : List (Int × Int) := ((List.range m).filter fun k => decide (i < k) && clsh (l.getD i ([], 0)) (l.getD k ([], 0))).map fun (k : Nat) => ((i : Int), (k : Int))
def clashesP (l : List Pd) : List (Int × Int) := (List.range l.length).flatMap fun i => rowC l i l.length
theorem rowC_succ (l : List Pd) (i k : Nat) (h : i < k) : rowC l i (k + 1) = rowC l i k ++ (if clsh (l.getD i ([], 0)) (l.getD k ([], 0)) = true then [((i : Int), (k : Int))] else []) := by
  unfold rowC
  rw [List.range_succ, List.filter_append, List.map_append]
  congr 1
  simp only [List.filter_cons, List.filter_nil, decide_eq_true h, Bool.true_and]
  split <;> simp
theorem rowC_none (l : List Pd) (i m : Nat) (h : m ≤ i + 1) : rowC l i m = [] := by
  unfold rowC
  rw [List.map_eq_nil_iff, List.filter_eq_nil_iff]
  intro k hk
  have := List.mem_range.1 hk
  rw [decide_eq_false (by omega)]; simp
theorem rowC_le (l : List Pd) (i m : Nat) : (rowC l i m).length ≤ m := by
  unfold rowC
  rw [List.length_map]
  exact Nat.le_trans (List.length_filter_le _ _) (by simp)
theorem flat_le (l : List Pd) (n m : Nat) : ((List.range n).flatMap fun i => rowC l i m).length ≤ n * m := by
  induction n with
  | zero => simp
  | succ n ih =>
    rw [List.range_succ, List.flatMap_append, List.length_append]
    have := rowC_le l n m
    simp only [List.flatMap_cons, List.flatMap_nil, List.append_nil]
    rw [Nat.succ_mul]; omega
theorem pd_getD {l : List Pd} {i : Nat} (h : i < l.length) : l[i]? = some (l.getD i ([], 0)) := by simp [List.getD, List.getElem?_eq_getElem h]
theorem clashes63 {l : List Pd} {R : V → Prop} (hl : l.length ≤ 4) (ho : ∀ p ∈ l, PdOK p) (h : R (.lst 2 ((clashesP l).map pr))) : K0 Try.prog 63 [.lst 2 (l.map pd)] R := by
  refine K0_of_W0 (kps := kp63) hM hmH Try.func63 (see (p := Lp (kp63 0) (W Try.prog CM 38 kp63 0 (cdAt [1, 1, 0, 1, 0, 0] (bodyOf Try.f63))) (Qblk 0 (Qseq (W Try.prog CM 38 kp63 0 (cdAt [1, 1, 1] (bodyOf Try.f63))) (Qend0 Try.prog Try.f63 R))) (St.mk (mkT [(0, V.lst 2 (List.map pd l)), (3, V.sl 0 0 0), (7, V.lst 2 (List.map pd l)), (8, iv (↑(List.map pd l).length : Int)), (9, iv (0 : Int))]) (Hp.mk [(0, O.rows 2 true [])] 2))) (by kernel_rfl) ?_)
  refine Lp.of (σ := Nat × List (Int × Int)) (fun s => ⟨mkT [(0, .lst 2 (l.map pd)), (3, .sl 0 0 s.2.length), (7, .lst 2 (l.map pd)), (8, iv ((l.map pd).length : Int)), (9, iv (s.1 : Int))], ⟨[(0, .rows 2 true (s.2.map pr))], 2⟩⟩) (fun s => s.1 ≤ l.length ∧ s.2 = (List.range s.1).flatMap fun i => rowC l i l.length) (fun s => l.length - s.1) (0, []) (by kernel_rfl) ⟨by simp, by simp⟩ ?_
  rintro ⟨i, c⟩ ⟨hi', hc⟩ J hJ
  simp only at hi' hc
  refine see (p := ifB (decide ((↑i : Int) < (↑(List.map pd l).length : Int))) (onSome (List.map pd l)[i]? fun row => onCons (List.drop 0 row) fun u r => onLst u fun s es => onCons r fun u r => onIntK IntKind.i64 u fun n => Lp (kp63 2) (W Try.prog CM 38 kp63 2 (cdAt [1, 1, 0, 1, 0, 0, 1, 1, 0, 0, 1, 1, 0, 0] (bodyOf Try.f63))) (Qblk 2 (Qblk 1 (Qseq (W Try.prog CM 38 kp63 0 (cdAt [1, 1, 0, 1, 0, 0, 1, 1, 1] (bodyOf Try.f63))) (Qlp (kp63 0) J (Qblk 0 (Qseq (W Try.prog CM 38 kp63 0 (cdAt [1, 1, 1] (bodyOf Try.f63))) (Qend0 Try.prog Try.f63 R))))))) (St.mk (mkT [(0, V.lst 2 (List.map pd l)), (3, V.sl 0 0 c.length), (4, iv (↑i : Int)), (5, V.ptr 1 0 0), (6, iv (IntKind.i64.wrap ((↑i : Int) + (1 : Int)))), (7, V.lst 2 (List.map pd l)), (8, iv (↑(List.map pd l).length : Int)), (9, iv (↑i : Int))]) (Hp.mk [(0, O.rows 2 true (List.map pr c)), (1, O.rows 2 true [[V.lst s es, iv n]])] 3))) (R (V.lst 2 (sub (List.map pr c) 0 c.length)))) (by kernel_rfl) ?_
  have hcl : c.length ≤ 16 := by
    rw [hc]
    refine Nat.le_trans (flat_le l i l.length) ?_
    exact Nat.mul_le_mul (show i ≤ 4 by omega) hl
  refine ifB_mk (fun hb => ?_) (fun hb => ?_)
  · have hlt : i < l.length := by simp at hb; omega
    obtain ⟨p, hp⟩ : ∃ p, p = l.getD i ([], 0) := ⟨_, rfl⟩
    have hpg : l[i]? = some p := by rw [hp]; exact pd_getD hlt
    have op := ho p (List.mem_of_getElem? hpg)
    refine pd_at hpg ?_
    rw [wr (by omega) (by omega)]
    refine Lp.of (σ := Nat × List (Int × Int)) (fun s => ⟨mkT [(0, .lst 2 (l.map pd)), (3, .sl 0 0 s.2.length), (4, iv (i : Int)), (5, .ptr 1 0 0), (6, iv (s.1 : Int)), (7, .lst 2 (l.map pd)), (8, iv ((l.map pd).length : Int)), (9, iv (i : Int))], ⟨[(0, .rows 2 true (s.2.map pr)), (1, .rows 2 true [pd p])], 3⟩⟩) (fun s => i < s.1 ∧ s.1 ≤ l.length ∧ s.2 = c ++ rowC l i s.1) (fun s => l.length - s.1) (i + 1, c) (by kernel_rfl) ⟨by simp, hlt, by rw [rowC_none _ _ _ (Nat.le_refl _), List.append_nil]⟩ ?_
    rintro ⟨k, c1⟩ ⟨hik, hk, hc1⟩ J1 hJ1
    simp only at hik hk hc1
    refine see (p := ifB (decide ((↑k : Int) < (↑(List.map pd l).length : Int))) (onSome (List.map pd l)[k]? fun row => onCons (List.drop 0 row) fun u r => onLst u fun s es => onCons r fun u r => onIntK IntKind.i64 u fun n => K0 Try.prog 66 [V.agg [V.lst 2 (List.map sp p.1), iv p.2], V.agg [V.lst s es, iv n]] fun v => onAgg v fun cs => onCons cs fun u r => onBool u fun b => onCons r fun u r => onIntK IntKind.i64 u fun n_1 => onCons r fun u r => onIntK IntKind.i64 u fun n_2 => onCons r fun u r => onIntK IntKind.i64 u fun n_3 => onCons r fun u r => onIntK IntKind.i64 u fun n_4 => onCons r fun u r => onLst u fun s_1 es_1 => onNil r (ifB (!b) (need ((c1.length + 1) * 16 ≤ 140737488355328) (J1 (St.mk (mkT [(0, V.lst 2 (List.map pd l)), (3, V.sl 0 0 (c1.length + 1)), (4, iv (↑i : Int)), (5, V.ptr 1 0 0), (6, iv (IntKind.i64.wrap ((↑k : Int) + (1 : Int)))), (7, V.lst 2 (List.map pd l)), (8, iv (↑(List.map pd l).length : Int)), (9, iv (↑i : Int))]) (Hp.mk [(0, O.rows 2 true (List.take c1.length (List.map pr c1) ++ [[iv (↑i : Int), iv (↑k : Int)]])), (1, O.rows 2 true [[V.lst 2 (List.map sp p.1), iv p.2]])] 3)))) (J1 (St.mk (mkT [(0, V.lst 2 (List.map pd l)), (3, V.sl 0 0 c1.length), (4, iv (↑i : Int)), (5, V.ptr 1 0 0), (6, iv (IntKind.i64.wrap ((↑k : Int) + (1 : Int)))), (7, V.lst 2 (List.map pd l)), (8, iv (↑(List.map pd l).length : Int)), (9, iv (↑i : Int))]) (Hp.mk [(0, O.rows 2 true (List.map pr c1)), (1, O.rows 2 true [[V.lst 2 (List.map sp p.1), iv p.2]])] 3))))) (J (St.mk (mkT [(0, V.lst 2 (List.map pd l)), (3, V.sl 0 0 c1.length), (7, V.lst 2 (List.map pd l)), (8, iv (↑(List.map pd l).length : Int)), (9, iv (IntKind.i64.wrap ((↑i : Int) + (1 : Int))))]) (Hp.mk [(0, O.rows 2 true (List.map pr c1))] 2)))) (by kernel_rfl) ?_
    have hc1l : c1.length ≤ 20 := by rw [hc1, List.length_append]; have := rowC_le l i k; omega
    refine ifB_mk (fun hb2 => ?_) (fun hb2 => ?_)
    · have hkl : k < l.length := by simp at hb2; omega
      obtain ⟨q, hq⟩ : ∃ q, q = l.getD k ([], 0) := ⟨_, rfl⟩
      have hqg : l[k]? = some q := by rw [hq]; exact pd_getD hkl
      have oq := ho q (List.mem_of_getElem? hqg)
      refine pd_at hqg (apart66 (p := p) (q := q) op oq (onAgg_agg (onCons_cons (onBool_bv (onCons_cons (onIntK_iv (onCons_cons (onIntK_iv (onCons_cons (onIntK_iv (onCons_cons (onIntK_iv (onCons_cons (onLst_lst (onNil_nil (?_))))))))))))))))
      have hrow := rowC_succ l i k hik
      rw [← hp, ← hq] at hrow
      rw [wr (by omega) (by omega)]
      refine ifB_mk (fun hb3 => need_mk ⟨by omega, ?_⟩) (fun hb3 => ?_)
      · have hcs : clsh p q = true := hb3
        rw [if_pos hcs] at hrow
        have := hJ1 (k + 1, c1 ++ [((i : Int), (k : Int))]) ⟨by omega, hkl, by simp only; rw [hrow, hc1, List.append_assoc]⟩ (by omega)
        simp only [List.length_append, List.length_singleton, List.map_append] at this
        rw [List.take_of_length_le (by simp)]
        exact this
      · have hcs : clsh p q = false := hb3
        rw [hcs] at hrow
        rw [if_neg (by decide), List.append_nil] at hrow
        exact hJ1 (k + 1, c1) ⟨by omega, hkl, by simp only; rw [hrow, hc1]⟩ (by omega)
    · have hkl : k = l.length := by simp at hb2; omega
      subst hkl
      rw [wr (by omega) (by omega)]
      exact hJ (i + 1, c1) ⟨hlt, by simp only; rw [hc1, hc, List.range_succ, List.flatMap_append]; simp⟩ (by omega)
  · have he : i = l.length := by simp at hb; omega
    subst he
    rw [sub_all _ (by simp), hc]; exact h
theorem pans_ok {l : Li} (hl : linB l = true) : (pans l).length ≤ 4 ∧ ∀ p ∈ pans l, PdOK p := by
  obtain ⟨a1, a2, a3, a4, a5⟩ := linB_ok hl
  refine ⟨by simp [pans]; exact a2, fun p hp => ?_⟩
  simp only [pans, List.mem_map, List.mem_range] at hp
  obtain ⟨i, hi, rfl⟩ := hp
  exact panAt_ok (pz_good a5 i (by omega)) (by omega) (a4 _ (List.mem_of_getElem? (pan_getD hi)))
theorem clashes32 {l : Li} {R : V → Prop} (hs : LiSz l) (h : R (if linB l = true then .tup [.lst 2 ((clashesP (pans l)).map pr), iv 0] else .tup [nilS, iv 50])) : K0 Try.prog 32 [.agg (lk l)] R := by
  refine K0_of_W0 (kps := kp0) hM hmH Try.func32 (see (p := K0 Try.prog 24 [V.agg [V.lst 1 (List.map (fun p => [V.lst 2 (List.map sp p)]) l.1), V.lst 5 (List.map hi l.2)]] fun v => onIntK IntKind.i64 v fun n => ifB (n != (0 : Int)) (R (V.tup [nilS, iv n])) (K0 Try.prog 57 [V.agg tabC, V.agg [V.lst 1 (List.map (fun p => [V.lst 2 (List.map sp p)]) l.1), V.lst 5 (List.map hi l.2)]] fun v => onLst v fun s es => K0 Try.prog 63 [V.lst s es] fun v => onLst v fun s es => R (V.tup [V.lst s es, iv (0 : Int)]))) (by kernel_rfl) ?_)
  refine check24 (ps := l.1) (hs := l.2) hs.ps hs.hs hs.each (onIntK_iv ?_)
  cases hl : linB l with
  | false => rw [hl] at h; exact h
  | true =>
    rw [hl] at h
    refine ifB_mk (fun hb => by simp at hb) (fun _ => ?_)
    obtain ⟨p1, p2⟩ := pans_ok hl
    exact panels57 hl (onLst_lst (clashes63 p1 p2 (onLst_lst h)))
end Go.Proofs.Ytahoindkdkhpmaa
