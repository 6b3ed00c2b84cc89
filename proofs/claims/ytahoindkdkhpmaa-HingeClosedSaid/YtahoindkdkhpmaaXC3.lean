/- C3: a part of the proof. -/
import Derived.Test.YtahoindkdkhpmaaXC2
namespace Go.Proofs.Ytahoindkdkhpmaa
open Go Go.Proofs.Ytahoindkdkhpmaa.Clean
set_option linter.unusedVariables false
set_option linter.unusedSimpArgs false
set_option maxRecDepth 20000

/-- Other words for the same arguments. -/
theorem K0_args {P : Program} {f : FuncId} {args args' : List V} {R : V → Prop} (h : K0 P f args R) (hr : ∀ F w xs, riL F w args' xs → riL F w args xs) : K0 P f args' R :=
  fun F w xs h1 h2 h3 => h F w xs h1 h2 (hr F w xs h3)
theorem ri_lst0 {F : Nat → Prop} {w : World} {s : Nat} {x : Value} (h : ri F w (.lst 0 []) x) : ri F w (.lst s []) x := by
  simp only [ri] at h ⊢
  rcases h with h | ⟨a, cap, h1, h2, _⟩
  · exact .inl h
  · exact .inr ⟨a, cap, h1, h2, .inl trivial⟩
theorem riL_lk0 {F : Nat → Prop} {w : World} {l : Li} (h0 : l.1 = []) {r : List V} {xs : List Value} (h : riL F w (.agg [.lst 0 [], .lst 5 (l.2.map hi)] :: r) xs) : riL F w (.agg (lk l) :: r) xs := by
  simp only [riL] at h ⊢
  obtain ⟨x, xs', rfl, hx, hr⟩ := h
  refine ⟨x, xs', rfl, ?_, hr⟩
  simp only [ri, riL, lk] at hx ⊢
  obtain ⟨vs, rfl, y, ys, e, hy, hrest⟩ := hx
  refine ⟨vs, rfl, y, ys, e, ?_, hrest⟩
  have := ri_lst0 (s := 1) (by simp only [ri]; exact hy)
  rw [h0]
  simpa only [ri, List.map_nil] using this
theorem hT0 : CT0.ok Try.prog := callsM_ok knowsA
theorem twinK20 {l : Li} {R : V → Prop} (h1 : l.1.length ≤ 1000000000) (h2 : l.2.length ≤ 1000000000) (h3 : ∀ p ∈ l.1, p.length ≤ 1000000000) (h : l.1 ≠ [] → R (.agg (lk l))) (h' : l.1 = [] → R (.agg [nilS, .lst 5 (l.2.map hi)])) :
    K0 Try.prog 20 [.agg (lk l)] R := by
  refine K0_of_W0 (kps := kp20) hT22 hmH Try.func20 (see (p := need ((0 + (List.map hi l.2).length) * 40 ≤ 140737488355328) (Lp (kp20 0) (W Try.prog CT22 28 kp20 0 (cdAt [1, 1, 0, 1, 0, 0] (bodyOf Try.f20))) (Qblk 0 (Qseq (W Try.prog CT22 28 kp20 0 (cdAt [1, 1, 1] (bodyOf Try.f20))) (Qend0 Try.prog Try.f20 R))) (St.mk (mkT [(2, V.ptr 1 0 0), (3, V.ptr 4 0 0), (12, V.lst 1 (List.map (fun p => [V.lst 2 (List.map sp p)]) l.1)), (13, iv (↑(List.map (fun p => [V.lst 2 (List.map sp p)]) l.1).length : Int)), (14, iv (0 : Int))]) (Hp.mk [(1, O.rows 2 false [[nilS, nilS]]), (3, O.rows 5 true ([] ++ List.map hi l.2)), (4, O.rows 2 false [[nilS, V.sl 3 0 (0 + (List.map hi l.2).length)]])] 6)))) (by kernel_rfl) ?_)
  refine need_mk ⟨by rw [List.length_map]; omega, ?_⟩
  refine Lp.of (σ := Option (Nat × List (List Sp))) (fun s => match s with
      | none => ⟨mkT [(2, .ptr 1 0 0), (3, .ptr 4 0 0), (12, .lst 1 (l.1.map fun p => [pl p])), (13, iv ((l.1.map fun p => [pl p]).length : Int)), (14, iv (0 : Int))], ⟨[(1, .rows 2 false [[nilS, nilS]]), (3, .rows 5 true (l.2.map hi)), (4, .rows 2 false [[nilS, .sl 3 0 l.2.length]])], 6⟩⟩
      | some (i, ps) => ⟨mkT [(2, .ptr 1 0 0), (3, .ptr 4 0 0), (12, .lst 1 (l.1.map fun p => [pl p])), (13, iv ((l.1.map fun p => [pl p]).length : Int)), (14, iv (i : Int))], ⟨[(1, .rows 2 false [[nilS, nilS]]), (3, .rows 5 true (l.2.map hi)), (4, .rows 2 false [[.sl 5 0 ps.length, .sl 3 0 l.2.length]]), (5, .rows 1 true (ps.map fun p => [pl p]))], 6⟩⟩)
    (fun s => match s with | none => True | some (i, ps) => 1 ≤ i ∧ i ≤ l.1.length ∧ ps = l.1.take i) (fun s => match s with | none => l.1.length + 1 | some (i, _) => l.1.length - i) none (by rw [show (0 + (List.map hi l.2).length) = l.2.length by simp]; kernel_rfl) trivial ?_
  rintro (_ | ⟨i, ps⟩) hI J hJ
  · refine see (p := ifB (decide ((0 : Int) < (↑(List.map (fun p => [V.lst 2 (List.map sp p)]) l.1).length : Int))) (onSome (List.map (fun p => [V.lst 2 (List.map sp p)]) l.1)[0]? fun row => onSome row[0]? fun v => onLst v fun s es => guardB (s.beq 2 || es.isEmpty) (need ((0 + es.length) * 16 ≤ 140737488355328) (J (St.mk (mkT [(2, V.ptr 1 0 0), (3, V.ptr 4 0 0), (12, V.lst 1 (List.map (fun p => [V.lst 2 (List.map sp p)]) l.1)), (13, iv (↑(List.map (fun p => [V.lst 2 (List.map sp p)]) l.1).length : Int)), (14, iv (1 : Int))]) (Hp.mk [(1, O.rows 2 false [[nilS, nilS]]), (3, O.rows 5 true (List.map hi l.2)), (4, O.rows 2 false [[V.sl 5 0 1, V.sl 3 0 l.2.length]]), (5, O.rows 1 true [[V.lst 2 (sub ([] ++ es) 0 (0 + es.length))]])] 6))))) (R (V.agg [nilS, V.lst 5 (sub (List.map hi l.2) 0 l.2.length)]))) (by kernel_rfl) ?_
    refine ifB_mk (fun hb => ?_) (fun hb => ?_)
    · have hlt : 0 < l.1.length := by simp at hb; exact hb
      refine row_at (p := l.1[0]) (List.getElem?_eq_getElem hlt) (guardB_mk rfl (need_mk ⟨?_, ?_⟩))
      · have := h3 l.1[0] (List.getElem_mem hlt); rw [List.length_map]; omega
      · rw [sub_all _ (by simp), List.nil_append]
        exact hJ (some (1, [l.1[0]])) ⟨Nat.le_refl _, hlt, by rw [List.take_succ_eq_append_getElem hlt]; simp⟩ (by simp only; omega)
    · have h0 : l.1 = [] := List.eq_nil_of_length_eq_zero (by rw [List.length_map] at hb; have := of_decide_eq_false hb; omega)
      rw [sub_all _ (by simp)]
      exact h' h0
  · obtain ⟨hi1, hi2, hps⟩ := hI
    refine see (p := ifB (decide ((↑i : Int) < (↑(List.map (fun p => [V.lst 2 (List.map sp p)]) l.1).length : Int))) (onSome (List.map (fun p => [V.lst 2 (List.map sp p)]) l.1)[i]? fun row => onSome row[0]? fun v => onLst v fun s es => guardB (s.beq 2 || es.isEmpty) (need ((0 + es.length) * 16 ≤ 140737488355328) (need ((ps.length + 1) * 24 ≤ 140737488355328) (J (St.mk (mkT [(2, V.ptr 1 0 0), (3, V.ptr 4 0 0), (12, V.lst 1 (List.map (fun p => [V.lst 2 (List.map sp p)]) l.1)), (13, iv (↑(List.map (fun p => [V.lst 2 (List.map sp p)]) l.1).length : Int)), (14, iv (IntKind.i64.wrap ((↑i : Int) + (1 : Int))))]) (Hp.mk [(1, O.rows 2 false [[nilS, nilS]]), (3, O.rows 5 true (List.map hi l.2)), (4, O.rows 2 false [[V.sl 5 0 (ps.length + 1), V.sl 3 0 l.2.length]]), (5, O.rows 1 true (List.take ps.length (List.map (fun p => [V.lst 2 (List.map sp p)]) ps) ++ [[V.lst 2 (sub ([] ++ es) 0 (0 + es.length))]]))] 6)))))) (R (V.agg [V.lst 1 (sub (List.map (fun p => [V.lst 2 (List.map sp p)]) ps) 0 ps.length), V.lst 5 (sub (List.map hi l.2) 0 l.2.length)]))) (by kernel_rfl) ?_
    have hpl : ps.length = i := by rw [hps]; simp; omega
    refine ifB_mk (fun hb => ?_) (fun hb => ?_)
    · have hlt : i < l.1.length := by simp at hb; omega
      refine row_at (p := l.1[i]) (List.getElem?_eq_getElem hlt) (guardB_mk rfl (need_mk ⟨?_, need_mk ⟨by omega, ?_⟩⟩))
      · have := h3 l.1[i] (List.getElem_mem hlt); rw [List.length_map]; omega
      · rw [sub_all _ (by simp), List.nil_append, wr (by omega) (by omega), List.take_of_length_le (by simp)]
        have := hJ (some (i + 1, ps ++ [l.1[i]])) ⟨by omega, hlt, by rw [List.take_succ_eq_append_getElem hlt, hps]⟩ (by simp only; omega)
        simp only [List.length_append, List.length_singleton, List.map_append] at this
        exact this
    · have he : i = l.1.length := by simp at hb; omega
      subst he
      rw [sub_all _ (by simp), sub_all _ (by simp)]
      rw [List.take_length] at hps
      subst hps
      exact h (fun hn => by rw [hn] at hi1; simp at hi1)
theorem sameSpots28 {p : List Sp} {R : V → Prop} (hn : p.length ≤ 1000000000) (h : R (bv true)) : K0 Try.prog 28 [pl p, pl p] R := by
  refine K0_of_W0 (kps := kp34) hM hmH Try.func28 (see (p := ifB ((↑(List.map sp p).length : Int) != (↑(List.map sp p).length : Int)) (R (bv false)) (Lp (kp34 0) (W Try.prog CM 26 kp34 0 (cdAt [1, 1, 0, 1, 0, 0] (bodyOf Try.f28))) (Qblk 0 (Qseq (W Try.prog CM 26 kp34 0 (cdAt [1, 1, 1] (bodyOf Try.f28))) (Qend0 Try.prog Try.f28 R))) (St.mk (mkT [(0, V.lst 2 (List.map sp p)), (1, V.lst 2 (List.map sp p)), (5, iv (0 : Int))]) (Hp.mk [] 0)))) (by kernel_rfl) ?_)
  refine ifB_mk (fun hb => by simp at hb) (fun _ => ?_)
  refine Lp.of (σ := Nat) (fun i => ⟨mkT [(0, pl p), (1, pl p), (5, iv (i : Int))], ⟨[], 0⟩⟩) (fun i => i ≤ p.length) (fun i => p.length - i) 0 (by kernel_rfl) (Nat.zero_le _) ?_
  intro i hi' J hJ
  refine see (p := ifB (decide ((↑i : Int) < (↑(List.map sp p).length : Int))) (onSome (List.map sp p)[i]? fun row => onCons (List.drop 0 row) fun u r => onIntK IntKind.i64 u fun n => onCons r fun u r => onIntK IntKind.i64 u fun n_1 => onSome (List.map sp p)[i]? fun row => onCons (List.drop 0 row) fun u r => onIntK IntKind.i64 u fun n_2 => onCons r fun u r => onIntK IntKind.i64 u fun n_3 => ifB (!(fun b => n == n_2 && b) ((fun b => n_1 == n_3 && b) true)) (R (bv false)) (J (St.mk (mkT [(0, V.lst 2 (List.map sp p)), (1, V.lst 2 (List.map sp p)), (5, iv (IntKind.i64.wrap ((↑i : Int) + (1 : Int))))]) (Hp.mk [] 0)))) (R (bv true))) (by kernel_rfl) ?_
  refine ifB_mk (fun hb => ?_) (fun _ => h)
  have hlt : i < p.length := by simp at hb; omega
  refine sp_at (List.getElem?_eq_getElem hlt) (sp_at (List.getElem?_eq_getElem hlt) ?_)
  rw [wr (by omega) (by omega)]
  exact ifB_mk (fun hc => by simp at hc) (fun _ => hJ (i + 1) hlt (by omega))
theorem sameInts41 {c : List Int} {R : V → Prop} (hn : c.length ≤ 1000000000) (h : R (bv true)) : K0 Try.prog 41 [.lst 1 (il c), .lst 1 (il c)] R := by
  refine K0_of_W0 (kps := kp34) hM hmH Try.func41 (see (p := ifB ((↑(il c).length : Int) != (↑(il c).length : Int)) (R (bv false)) (Lp (kp34 0) (W Try.prog CM 26 kp34 0 (cdAt [1, 1, 0, 1, 0, 0] (bodyOf Try.f41))) (Qblk 0 (Qseq (W Try.prog CM 26 kp34 0 (cdAt [1, 1, 1] (bodyOf Try.f41))) (Qend0 Try.prog Try.f41 R))) (St.mk (mkT [(0, V.lst 1 (il c)), (1, V.lst 1 (il c)), (5, iv (0 : Int))]) (Hp.mk [] 0)))) (by kernel_rfl) ?_)
  refine ifB_mk (fun hb => by simp at hb) (fun _ => ?_)
  refine Lp.of (σ := Nat) (fun i => ⟨mkT [(0, .lst 1 (il c)), (1, .lst 1 (il c)), (5, iv (i : Int))], ⟨[], 0⟩⟩) (fun i => i ≤ c.length) (fun i => c.length - i) 0 (by kernel_rfl) (Nat.zero_le _) ?_
  intro i hi' J hJ
  refine see (p := ifB (decide ((↑i : Int) < (↑(il c).length : Int))) (onSome (il c)[i]? fun row => onSome row[0]? fun v => onIntK IntKind.i64 v fun n => onSome (il c)[i]? fun row => onSome row[0]? fun v => onIntK IntKind.i64 v fun n_1 => ifB (n != n_1) (R (bv false)) (J (St.mk (mkT [(0, V.lst 1 (il c)), (1, V.lst 1 (il c)), (5, iv (IntKind.i64.wrap ((↑i : Int) + (1 : Int))))]) (Hp.mk [] 0)))) (R (bv true))) (by kernel_rfl) ?_
  rw [il_length]
  refine ifB_mk (fun hb => ?_) (fun _ => h)
  have hlt : i < c.length := by simp at hb; omega
  refine el (List.getElem?_eq_getElem hlt) (el (List.getElem?_eq_getElem hlt) ?_)
  rw [wr (by omega) (by omega)]
  exact ifB_mk (fun hc => by simp at hc) (fun _ => hJ (i + 1) hlt (by omega))
theorem sameInts41' {R : V → Prop} (h : R (bv true)) : K0 Try.prog 41 [.lst 0 [], .lst 0 []] R :=
  K0G.to (K0_ran hmH (fun _ => true) knows48 3000 Try.func41 (by kernel_rfl)) h
theorem same31 {l : Li} {s : Nat} {R : V → Prop} (hz : LiSz l) (hsz : l.1 ≠ [] → s = 1) (h : R (bv true)) : K0 Try.prog 31 [.agg [.lst s (l.1.map fun p => [pl p]), .lst 5 (l.2.map hi)], .agg (lk l)] R := by
  have z1 := hz.ps
  have z2 := hz.hs
  refine K0_of_W0 (kps := kp31) hT0 hmH Try.func31 (see (p := ifB ((↑(List.map (fun p => [V.lst 2 (List.map sp p)]) l.1).length : Int) != (↑(List.map (fun p => [V.lst 2 (List.map sp p)]) l.1).length : Int)) (R (bv false)) (ifB ((↑(List.map hi l.2).length : Int) != (↑(List.map hi l.2).length : Int)) (R (bv false)) (Lp (kp31 0) (W Try.prog CT0 60 kp31 0 (cdAt [1, 1, 0, 1, 0, 0] (bodyOf Try.f31))) (Qblk 0 (Qseq (W Try.prog CT0 60 kp31 0 (cdAt [1, 1, 1] (bodyOf Try.f31))) (Qend0 Try.prog Try.f31 R))) (St.mk (mkT [(2, V.ptr 0 0 0), (3, V.ptr 1 0 0), (5, iv (0 : Int))]) (Hp.mk [(0, O.rows 2 true [[V.lst s (List.map (fun p => [V.lst 2 (List.map sp p)]) l.1), V.lst 5 (List.map hi l.2)]]), (1, O.rows 2 true [[V.lst 1 (List.map (fun p => [V.lst 2 (List.map sp p)]) l.1), V.lst 5 (List.map hi l.2)]])] 2))))) (by kernel_rfl) ?_)
  refine ifB_mk (fun hb => by simp at hb) (fun _ => ifB_mk (fun hb => by simp at hb) (fun _ => ?_))
  refine Lp.of (σ := Nat) (fun i => ⟨mkT [(2, .ptr 0 0 0), (3, .ptr 1 0 0), (5, iv (i : Int))], ⟨[(0, .rows 2 true [[.lst s (l.1.map fun p => [pl p]), .lst 5 (l.2.map hi)]]), (1, .rows 2 true [lk l])], 2⟩⟩) (fun i => i ≤ l.1.length) (fun i => l.1.length - i) 0 (by kernel_rfl) (Nat.zero_le _) ?_
  intro i hi' J hJ
  refine see (p := ifB (decide ((↑i : Int) < (↑(List.map (fun p => [V.lst 2 (List.map sp p)]) l.1).length : Int))) (need (s = 1) (onSome (List.map (fun p => [V.lst 2 (List.map sp p)]) l.1)[i]? fun row => onSome row[0]? fun v => onLst v fun s_1 es => onSome (List.map (fun p => [V.lst 2 (List.map sp p)]) l.1)[i]? fun row => onSome row[0]? fun v => onLst v fun s_2 es_1 => K0 Try.prog 28 [V.lst s_1 es, V.lst s_2 es_1] fun v => onBool v fun b => ifB (!b) (R (bv false)) (J (St.mk (mkT [(2, V.ptr 0 0 0), (3, V.ptr 1 0 0), (5, iv (IntKind.i64.wrap ((↑i : Int) + (1 : Int))))]) (Hp.mk [(0, O.rows 2 true [[V.lst s (List.map (fun p => [V.lst 2 (List.map sp p)]) l.1), V.lst 5 (List.map hi l.2)]]), (1, O.rows 2 true [[V.lst 1 (List.map (fun p => [V.lst 2 (List.map sp p)]) l.1), V.lst 5 (List.map hi l.2)]])] 2))))) (Lp (kp31 2) (W Try.prog CT0 60 kp31 2 (cdAt [1, 1, 1, 0, 1, 0, 0] (bodyOf Try.f31))) (Qblk 2 (Qseq (W Try.prog CT0 60 kp31 0 (cdAt [1, 1, 1, 1] (bodyOf Try.f31))) (Qend0 Try.prog Try.f31 R))) (St.mk (mkT [(2, V.ptr 0 0 0), (3, V.ptr 1 0 0), (6, iv (0 : Int))]) (Hp.mk [(0, O.rows 2 true [[V.lst s (List.map (fun p => [V.lst 2 (List.map sp p)]) l.1), V.lst 5 (List.map hi l.2)]]), (1, O.rows 2 true [[V.lst 1 (List.map (fun p => [V.lst 2 (List.map sp p)]) l.1), V.lst 5 (List.map hi l.2)]])] 2)))) (by kernel_rfl) ?_
  refine ifB_mk (fun hb => ?_) (fun hb => ?_)
  · have hlt : i < l.1.length := by simp at hb; omega
    refine need_mk ⟨hsz (fun hn => by rw [hn] at hlt; simp at hlt), row_at (p := l.1[i]) (List.getElem?_eq_getElem hlt) (row_at (p := l.1[i]) (List.getElem?_eq_getElem hlt) ?_)⟩
    refine sameSpots28 (p := l.1[i]) (hz.each _ (List.getElem_mem hlt)) (onBool_bv (ifB_mk (fun hc => by simp at hc) (fun _ => ?_)))
    rw [wr (by omega) (by omega)]
    exact hJ (i + 1) hlt (by omega)
  · refine Lp.of (σ := Nat) (fun i => ⟨mkT [(2, .ptr 0 0 0), (3, .ptr 1 0 0), (6, iv (i : Int))], ⟨[(0, .rows 2 true [[.lst s (l.1.map fun p => [pl p]), .lst 5 (l.2.map hi)]]), (1, .rows 2 true [lk l])], 2⟩⟩) (fun i => i ≤ l.2.length) (fun i => l.2.length - i) 0 (by kernel_rfl) (Nat.zero_le _) ?_
    intro i hi' J1 hJ1
    refine see (p := ifB (decide ((↑i : Int) < (↑(List.map hi l.2).length : Int))) (onSome (List.map hi l.2)[i]? fun row => onCons (List.drop 0 row) fun u r => onIntK IntKind.i64 u fun n => onCons r fun u r => onIntK IntKind.i64 u fun n_1 => onCons r fun u r => onIntK IntKind.i64 u fun n_2 => onCons r fun u r => onIntK IntKind.i64 u fun n_3 => onCons r fun u r => onIntK IntKind.i64 u fun n_4 => onSome (List.map hi l.2)[i]? fun row => onCons (List.drop 0 row) fun u r => onIntK IntKind.i64 u fun n_5 => onCons r fun u r => onIntK IntKind.i64 u fun n_6 => onCons r fun u r => onIntK IntKind.i64 u fun n_7 => onCons r fun u r => onIntK IntKind.i64 u fun n_8 => onCons r fun u r => onIntK IntKind.i64 u fun n_9 => ifB (!(fun b => (fun b => n == n_5 && b) ((fun b => n_1 == n_6 && b) true) && b) ((fun b => (fun b => n_2 == n_7 && b) ((fun b => n_3 == n_8 && b) true) && b) ((fun b => n_4 == n_9 && b) true))) (R (bv false)) (J1 (St.mk (mkT [(2, V.ptr 0 0 0), (3, V.ptr 1 0 0), (6, iv (IntKind.i64.wrap ((↑i : Int) + (1 : Int))))]) (Hp.mk [(0, O.rows 2 true [[V.lst s (List.map (fun p => [V.lst 2 (List.map sp p)]) l.1), V.lst 5 (List.map hi l.2)]]), (1, O.rows 2 true [[V.lst 1 (List.map (fun p => [V.lst 2 (List.map sp p)]) l.1), V.lst 5 (List.map hi l.2)]])] 2)))) (R (bv true))) (by kernel_rfl) ?_
    refine ifB_mk (fun hb2 => ?_) (fun _ => h)
    have hlt : i < l.2.length := by simp at hb2; omega
    refine hi_at (List.getElem?_eq_getElem hlt) (hi_at (List.getElem?_eq_getElem hlt) ?_)
    rw [wr (by omega) (by omega)]
    exact ifB_mk (fun hc => by simp at hc) (fun _ => hJ1 (i + 1) hlt (by omega))
theorem tryP_len (a b : Sp) : ∀ (hs : List Hi) (z : Po) (r : List Int), tryP a b hs z = some r → r.length = hs.length
  | [], z, r, h => by
    simp only [tryP] at h
    split at h
    · cases h; rfl
    · cases h
  | x :: hs, z, r, h => by
    simp only [tryP, List.findSome?_eq_some_iff] at h
    obtain ⟨_, n, _, _, h1, _⟩ := h
    rw [Option.map_eq_some_iff] at h1
    obtain ⟨r', h2, rfl⟩ := h1
    rw [List.length_cons, List.length_cons, tryP_len a b hs _ r' h2]
/-- What both laws do at the end. -/
theorem sameTail {l : Li} {s : Nat} {b : Bool} {x y : V} {R : V → Prop} (hz : LiSz l) (hsz : l.1 ≠ [] → s = 1) (h : R (bv true)) (n : Int) (hxy : ∀ Q : V → Prop, Q (bv true) → K0 Try.prog 41 [x, y] Q) :
    K0 Try.prog 41 [x, y] fun v => onBool v fun b => ifB b (ifB (n == n) (K0 Try.prog 31 [V.agg [.lst s (l.1.map fun p => [pl p]), .lst 5 (l.2.map hi)], .agg (lk l)] fun v => onBool v fun b => R (bv b)) (R (bv false))) (R (bv false)) :=
  hxy _ (onBool_bv (ifB_mk (fun _ => ifB_mk (fun _ => same31 hz hsz (onBool_bv h)) (fun hc => by simp at hc)) (fun hc => by cases hc)))
theorem law6 {l : Li} {a b : Sp} {R : V → Prop} (h : R (bv true)) : K0 Try.prog 6 [.agg (lk l), .agg (sp a), .agg (sp b)] R := by
  refine K0_of_W0 (kps := kp0) hT0 hmH Try.func6 (see (p := K0 Try.prog 15 [V.agg [V.lst 1 (List.map (fun p => [V.lst 2 (List.map sp p)]) l.1), V.lst 5 (List.map hi l.2)]] fun v => onBool v fun b_1 => ifB b_1 (R (bv true)) (K0 Try.prog 20 [V.agg [V.lst 1 (List.map (fun p => [V.lst 2 (List.map sp p)]) l.1), V.lst 5 (List.map hi l.2)]] fun v => onAgg v fun cs => onCons cs fun u r => onLst u fun s es => onCons r fun u r => onLst u fun s_1 es_1 => onNil r (K0 Try.prog 42 [V.agg [V.lst s es, V.lst s_1 es_1], V.agg [iv a.1, iv a.2], V.agg [iv b.1, iv b.2]] fun v => onTup v fun vs => onCons vs fun u r => onLst u fun s_2 es_2 => onCons r fun u r => onIntK IntKind.i64 u fun n => onNil r (K0 Try.prog 43 [V.agg [V.lst 1 (List.map (fun p => [V.lst 2 (List.map sp p)]) l.1), V.lst 5 (List.map hi l.2)], V.agg [iv a.1, iv a.2], V.agg [iv b.1, iv b.2]] fun v => onTup v fun vs => onCons vs fun u r => onLst u fun s_3 es_3 => onCons r fun u r => onIntK IntKind.i64 u fun n_1 => onNil r (K0 Try.prog 41 [V.lst s_2 es_2, V.lst s_3 es_3] fun v => onBool v fun b => ifB b (ifB (n == n_1) (K0 Try.prog 31 [V.agg [V.lst s es, V.lst s_1 es_1], V.agg [V.lst 1 (List.map (fun p => [V.lst 2 (List.map sp p)]) l.1), V.lst 5 (List.map hi l.2)]] fun v => onBool v fun b => R (bv b)) (R (bv false))) (R (bv false))))))) (by kernel_rfl) ?_)
  refine great15 (l := l) (onBool_bv (ifB_mk (fun _ => h) (fun hg => ?_)))
  have hs := greatB_sz hg
  have main : ∀ s : Nat, (l.1 ≠ [] → s = 1) → (∀ Q : V → Prop, K0 Try.prog 42 [.agg (lk l), .agg (sp a), .agg (sp b)] Q → K0 Try.prog 42 [.agg [.lst s (l.1.map fun p => [pl p]), .lst 5 (l.2.map hi)], .agg (sp a), .agg (sp b)] Q) →
      K0 Try.prog 42 [V.agg [.lst s (l.1.map fun p => [pl p]), .lst 5 (l.2.map hi)], V.agg [iv a.1, iv a.2], V.agg [iv b.1, iv b.2]] fun v => onTup v fun vs => onCons vs fun u r => onLst u fun s_2 es_2 => onCons r fun u r => onIntK IntKind.i64 u fun n => onNil r (K0 Try.prog 43 [V.agg [V.lst 1 (List.map (fun p => [V.lst 2 (List.map sp p)]) l.1), V.lst 5 (List.map hi l.2)], V.agg [iv a.1, iv a.2], V.agg [iv b.1, iv b.2]] fun v => onTup v fun vs => onCons vs fun u r => onLst u fun s_3 es_3 => onCons r fun u r => onIntK IntKind.i64 u fun n_1 =>
        onNil r (K0 Try.prog 41 [V.lst s_2 es_2, V.lst s_3 es_3] fun v => onBool v fun b => ifB b (ifB (n == n_1) (K0 Try.prog 31 [V.agg [.lst s (l.1.map fun p => [pl p]), .lst 5 (l.2.map hi)], V.agg [V.lst 1 (List.map (fun p => [V.lst 2 (List.map sp p)]) l.1), V.lst 5 (List.map hi l.2)]] fun v => onBool v fun b => R (bv b)) (R (bv false))) (R (bv false)))) := fun s hsz conv => by
    refine conv _ (close42 (l := l) (a := a) (b := b) hs (fun hp => ?_) (fun hp hn => ?_) (fun hp r hr => ?_))
    · refine (onTup_tup (onCons_cons (onLst_nil (onCons_cons (onIntK_iv (onNil_nil (?_)))))))
      refine close43 (l := l) (a := a) (b := b) hs (fun _ => ?_) (fun hp' => absurd hp' hp) (fun hp' => absurd hp' hp)
      exact (onTup_tup (onCons_cons (onLst_nil (onCons_cons (onIntK_iv (onNil_nil (sameTail (b := true) hs hsz h _ (fun Q hq => sameInts41' hq))))))))
    · refine (onTup_tup (onCons_cons (onLst_nil (onCons_cons (onIntK_iv (onNil_nil (?_)))))))
      refine close43 (l := l) (a := a) (b := b) hs (fun hp' => absurd hp hp') (fun _ _ => ?_) (fun _ r hr => by rw [hn] at hr; cases hr)
      exact (onTup_tup (onCons_cons (onLst_nil (onCons_cons (onIntK_iv (onNil_nil (sameTail (b := true) hs hsz h _ (fun Q hq => sameInts41' hq))))))))
    · have hlen := tryP_len a b _ _ _ hr
      cases he : l.2.isEmpty with
      | true =>
        refine (onTup_tup (onCons_cons (onLst_nil (onCons_cons (onIntK_iv (onNil_nil (?_)))))))
        refine close43 (l := l) (a := a) (b := b) hs (fun hp' => absurd hp hp') (fun _ hn => by rw [hn] at hr; cases hr) (fun _ r' hr' => ?_)
        rw [he]
        exact (onTup_tup (onCons_cons (onLst_lst (onCons_cons (onIntK_iv (onNil_nil (sameTail (b := true) hs hsz h _ (fun Q hq => sameInts41' hq))))))))
      | false =>
        refine (onTup_tup (onCons_cons (onLst_lst (onCons_cons (onIntK_iv (onNil_nil (?_)))))))
        refine close43 (l := l) (a := a) (b := b) hs (fun hp' => absurd hp hp') (fun _ hn => by rw [hn] at hr; cases hr) (fun _ r' hr' => ?_)
        have : r' = r := by rw [hr] at hr'; exact (Option.some.inj hr').symm
        subst this
        rw [he]
        have h2 := hs.hs
        exact (onTup_tup (onCons_cons (onLst_lst (onCons_cons (onIntK_iv (onNil_nil (sameTail (b := true) hs hsz h _ (fun Q hq => sameInts41 (by omega) hq))))))))
  refine twinK20 (l := l) hs.ps hs.hs hs.each (fun hne => ?_) (fun h0 => ?_)
  · exact (onAgg_agg (onCons_cons (onLst_lst (onCons_cons (onLst_lst (onNil_nil (main 1 (fun _ => rfl) (fun Q hq => hq))))))))
  · have := main 0 (fun hn => absurd h0 hn) (fun Q hq => K0_args hq (fun F w xs hx => by rw [h0] at hx; exact riL_lk0 h0 hx))
    rw [h0] at this
    refine (onAgg_agg (onCons_cons (onLst_nil (onCons_cons (onLst_lst (onNil_nil (?_)))))))
    rw [h0]
    exact this
end Go.Proofs.Ytahoindkdkhpmaa
