/- B1: a part of the proof. -/
import Derived.Test.YtahoindkdkhpmaaXA7
namespace Go.Proofs.Ytahoindkdkhpmaa
open Go Go.Proofs.Ytahoindkdkhpmaa.Clean
set_option linter.unusedVariables false
set_option linter.unusedSimpArgs false
set_option maxRecDepth 20000

/-! a panel where it is -/
structure PdOK (p : Pd) : Prop where
  len3 : 3 ≤ p.1.length
  len8 : p.1.length ≤ 8
  c : ∀ s ∈ p.1, Bd 10937500 s.1 ∧ Bd 10937500 s.2
  df : ∀ s ∈ p.1, ∀ t ∈ p.1, Bd 3125000 (s.1 - t.1) ∧ Bd 3125000 (s.2 - t.2)
  d1 : 1 ≤ p.2
  d2 : p.2 ≤ 15625
  cv : convB p.1 = true
theorem side_place {z : Po} (h : z.1 * z.1 + z.2.1 * z.2.1 = z.2.2.2.2 * z.2.2.2.2) (a b c : Sp) : side (place z a) (place z b) 1 (place z c) 1 = z.2.2.2.2 * z.2.2.2.2 * side a b 1 c 1 := by
  simp only [side, place, Int.mul_one]
  rw [← h]; grind
theorem lft_place {z : Po} (h : z.1 * z.1 + z.2.1 * z.2.1 = z.2.2.2.2 * z.2.2.2.2) (h1 : 1 ≤ z.2.2.2.2) (a b c : Sp) : lft (place z a) (place z b) 1 (place z c) 1 = lft a b 1 c 1 := by
  unfold lft
  rw [side_place h]
  have hp : 0 < z.2.2.2.2 * z.2.2.2.2 := Int.mul_pos (by omega) (by omega)
  by_cases hs : side a b 1 c 1 > 0
  · rw [decide_eq_true hs, decide_eq_true (Int.mul_pos hp hs)]
  · rw [decide_eq_false hs, decide_eq_false]
    intro hc
    exact hs (Int.pos_of_mul_pos_left (by rw [Int.mul_comm]; exact hc) hp)
theorem getD_map {l : List Sp} {f : Sp → Sp} {i : Nat} (h : i < l.length) : (l.map f).getD i (0, 0) = f (l.getD i (0, 0)) := by
  rw [List.getD_eq_getElem?_getD, List.getElem?_map, getD_some h]; rfl
theorem panAt_ok {z : Po} {p : List Sp} {i : Nat} (hz : PoGood i z) (hi : i ≤ 3) (hp : panB p = true) : PdOK (panAt z p) := by
  obtain ⟨h3, h8, hs, hc⟩ := panB_ok hp
  have hd := hz.dle hi
  have h1 := hz.d1
  obtain ⟨bp, bq⟩ := hz.pq
  obtain ⟨bx, by'⟩ := hz.xle hi
  have bp : Bd 15625 z.1 := bp.le hd
  have bq : Bd 15625 z.2.1 := bq.le hd
  refine ⟨by simpa [panAt] using h3, by simpa [panAt] using h8, fun s hs' => ?_, fun s hs' t ht' => ?_, h1, hd, ?_⟩
  · simp only [panAt, List.mem_map] at hs'
    obtain ⟨a, ha, rfl⟩ := hs'
    have ⟨x1, x2⟩ := hs a ha
    exact ⟨(((bp.mul x1).sub (bq.mul x2)).add bx).le (by decide), (((bq.mul x1).add (bp.mul x2)).add by').le (by decide)⟩
  · simp only [panAt, List.mem_map] at hs' ht'
    obtain ⟨a, ha, rfl⟩ := hs'
    obtain ⟨b, hb, rfl⟩ := ht'
    have ⟨x1, x2⟩ := hs a ha
    have ⟨y1, y2⟩ := hs b hb
    have d1 := x1.sub y1
    have d2 := x2.sub y2
    have e1 : (place z a).1 - (place z b).1 = z.1 * (a.1 - b.1) - z.2.1 * (a.2 - b.2) := by simp only [place]; grind
    have e2 : (place z a).2 - (place z b).2 = z.2.1 * (a.1 - b.1) + z.1 * (a.2 - b.2) := by simp only [place]; grind
    rw [e1, e2]
    exact ⟨((bp.mul d1).sub (bq.mul d2)).le (by decide), ((bq.mul d1).add (bp.mul d2)).le (by decide)⟩
  · have h3' : 3 ≤ (panAt z p).1.length := by simpa [panAt] using h3
    rw [convB_iff h3']
    rw [convB_iff h3] at hc
    have hl : (panAt z p).1.length = p.length := by simp [panAt]
    intro i k hi' hk hki hki1
    rw [hl] at hi' hk hki1
    have hlt : (i + 1) % p.length < p.length := Nat.mod_lt _ (by omega)
    rw [hl]
    simp only [panAt]
    rw [getD_map hi', getD_map hk, getD_map hlt, lft_place hz.sq h1]
    exact hc i k hi' hk hki hki1

/-! the first one of which something holds -/
def ixI {α : Type} (f : α → Bool) (l : List α) : Int := match l.findIdx? f with | some i => (i : Int) | none => -1
theorem ixI_at {α : Type} {f : α → Bool} {l : List α} {i : Nat} (h : i < l.length) (h1 : f l[i] = true) (h0 : ∀ x ∈ l.take i, f x = false) : ixI f l = i := by
  unfold ixI
  have : l.findIdx? f = some i := by
    rw [List.findIdx?_eq_some_iff_getElem]
    exact ⟨h, h1, fun j hj => by
      have := h0 l[j] (List.mem_take_iff_getElem.2 ⟨j, by omega, rfl⟩)
      simp [this]⟩
  rw [this]
theorem ixI_none {α : Type} {f : α → Bool} {l : List α} (h0 : ∀ x ∈ l, f x = false) : ixI f l = -1 := by
  unfold ixI
  have : l.findIdx? f = none := by rw [List.findIdx?_eq_none_iff]; exact h0
  rw [this]
theorem ixI_cases {α : Type} (f : α → Bool) (l : List α) : (ixI f l = -1 ∧ ∀ x ∈ l, f x = false) ∨ ∃ i : Nat, ∃ h : i < l.length, ixI f l = (i : Int) ∧ f l[i] = true := by
  unfold ixI
  cases h : l.findIdx? f with
  | none => exact .inl ⟨rfl, List.findIdx?_eq_none_iff.1 h⟩
  | some i =>
    obtain ⟨h1, h2, _⟩ := List.findIdx?_eq_some_iff_getElem.1 h
    exact .inr ⟨i, h1, rfl, h2⟩
theorem take_all_succ {α : Type} {P : α → Prop} {l : List α} {i : Nat} (h : i < l.length) (h1 : P l[i]) (h0 : ∀ x ∈ l.take i, P x) : ∀ x ∈ l.take (i + 1), P x := by
  rw [List.take_succ_eq_append_getElem h]
  intro x hx
  rw [List.mem_append, List.mem_singleton] at hx
  rcases hx with hx | hx
  · exact h0 x hx
  · subst hx; exact h1

/-! corners inside -/
/-- The corner c of q is to the left of the edge e of p. -/
def lf (p q : Pd) (e : List Sp) (c : Sp) : Bool := lft (e.getD 0 (0, 0)) (e.getD 1 (0, 0)) p.2 c q.2
theorem hC3 : C3.ok Try.prog := callsM_ok knows48
theorem hC1 : C1.ok Try.prog := callsM_ok knows48
theorem pair_some {e : List Sp} (h : 3 ≤ e.length) : e[0]? = some (e.getD 0 (0, 0)) ∧ e[1]? = some (e.getD 1 (0, 0)) := ⟨getD_some (by omega), getD_some (by omega)⟩
structure EdOK (e : List Sp) : Prop where
  len3 : 3 ≤ e.length
  c : ∀ s ∈ e, Bd 10937500 s.1 ∧ Bd 10937500 s.2
  df : ∀ s ∈ e, ∀ t ∈ e, Bd 3125000 (s.1 - t.1) ∧ Bd 3125000 (s.2 - t.2)
theorem rot_ok {p : Pd} (h : PdOK p) {i : Nat} (hi : i < p.1.length) : EdOK (rot p.1 i) :=
  ⟨by rw [rot_length (by omega)]; exact h.len3, fun s hs => h.c s (rot_mem hs), fun s hs t ht => h.df s (rot_mem hs) t (rot_mem ht)⟩
theorem left81 {e : List Sp} {p q : Pd} {c : Sp} {R : V → Prop} (he : EdOK e) (hp : PdOK p) (hq : PdOK q) (hc : c ∈ q.1) (h : R (bv (lf p q e c))) : K0 Try.prog 81 [pl e, iv p.2, .agg (sp c), iv q.2] R := by
  obtain ⟨g0, g1⟩ := pair_some he.len3
  have m0 := List.mem_of_getElem? g0
  have m1 := List.mem_of_getElem? g1
  have d := he.df _ m1 _ m0
  have c0 := he.c _ m0
  have cc := hq.c c hc
  have p1 := hp.d1
  have p2 := hp.d2
  have q1 := hq.d1
  have q2 := hq.d2
  exact isLeft81 g0 g1 (d.1.le (by decide)) (d.2.le (by decide)) (c0.1.le (by decide)) (c0.2.le (by decide)) (cc.1.le (by decide)) (cc.2.le (by decide)) ⟨by omega, by omega⟩ ⟨by omega, by omega⟩ h
theorem closure101 {c : Sp} {e : List Sp} {p q : Pd} {R : V → Prop} (he : EdOK e) (hp : PdOK p) (hq : PdOK q) (hc : c ∈ q.1) (h : R (bv (lf p q e c))) : KB Try.prog (fun _ => none) 101 [.agg (sp c), .ptr 0 0 0, .ptr 1 0 0, .ptr 2 0 0] (h3 e p q) R := by
  refine KB_of_W (kps := kp100) hC3 hmH Try.func101 (fun _ => rfl) (fun _ => rfl) (see (p := K0 Try.prog 81 [V.lst 2 (List.map sp e), iv p.2, V.agg [iv c.1, iv c.2], iv q.2] fun v => onBool v fun b => R (bv b)) (by kernel_rfl) ?_)
  exact left81 (c := c) he hp hq hc (onBool_bv h)
theorem indexFunc100 {e : List Sp} {p q : Pd} {R : V → Prop} (he : EdOK e) (hp : PdOK p) (hq : PdOK q) (h : R (iv (ixI (lf p q e) q.1))) : KB Try.prog (fun _ => none) 100 [pl q.1, .fn (.func 101) [] [.ptr 0 0 0, .ptr 1 0 0, .ptr 2 0 0]] (h3 e p q) R := by
  obtain ⟨s, hs⟩ : ∃ s, s = q.1 := ⟨_, rfl⟩
  rw [← hs] at h ⊢
  have hsl : s.length ≤ 8 := by rw [hs]; exact hq.len8
  refine KB_of_W (kps := kp100) hC3 hmH Try.func100 (fun _ => rfl) (fun _ => rfl) (see (p := Lp (kp100 0) (W Try.prog C3 19 kp100 0 (cdAt [1, 0, 1, 0, 0] (bodyOf Try.f100))) (Qblk 0 (Qseq (W Try.prog C3 19 kp100 0 (cdAt [1, 1] (bodyOf Try.f100))) (QendH Try.prog Try.f100 fun v h' => dataT (h3 e p q).nxt h' v R))) (St.mk (mkT [(0, V.lst 2 (List.map sp s)), (1, V.fn (Fn.func (101 : FuncId)) [] [V.ptr 0 0 0, V.ptr 1 0 0, V.ptr 2 0 0]), (7, iv (↑(List.map sp s).length : Int)), (8, iv (0 : Int))]) (Hp.mk [(0, O.rows 1 false [[V.lst 2 (List.map sp e)]]), (1, O.rows 2 true [[V.lst 2 (List.map sp p.1), iv p.2]]), (2, O.rows 2 true [[V.lst 2 (List.map sp q.1), iv q.2]])] 3))) (by kernel_rfl) ?_)
  refine Lp.of (σ := Nat) (fun i => ⟨mkT [(0, pl s), (1, .fn (.func 101) [] [.ptr 0 0 0, .ptr 1 0 0, .ptr 2 0 0]), (7, iv ((s.map sp).length : Int)), (8, iv (i : Int))], h3 e p q⟩) (fun i => i ≤ s.length ∧ ∀ c ∈ s.take i, lf p q e c = false) (fun i => s.length - i) 0 (by kernel_rfl) ⟨by simp, by simp⟩ ?_
  rintro i ⟨hi', ha⟩ J hJ
  refine see (p := ifB (decide ((↑i : Int) < (↑(List.map sp s).length : Int))) (onSome (List.map sp s)[i]? fun row => onCons (List.drop 0 row) fun u r => onIntK IntKind.i64 u fun n => onCons r fun u r => onIntK IntKind.i64 u fun n_1 => KB Try.prog (fun x => none) 101 [V.agg [iv n, iv n_1], V.ptr 0 0 0, V.ptr 1 0 0, V.ptr 2 0 0] (Hp.mk [(0, O.rows 1 false [[V.lst 2 (List.map sp e)]]), (1, O.rows 2 true [[V.lst 2 (List.map sp p.1), iv p.2]]), (2, O.rows 2 true [[V.lst 2 (List.map sp q.1), iv q.2]])] 3) fun v => onBool v fun b => ifB b (R (iv (↑i : Int))) (J (St.mk (mkT [(0, V.lst 2 (List.map sp s)), (1, V.fn (Fn.func (101 : FuncId)) [] [V.ptr 0 0 0, V.ptr 1 0 0, V.ptr 2 0 0]), (7, iv (↑(List.map sp s).length : Int)), (8, iv (IntKind.i64.wrap ((↑i : Int) + (1 : Int))))]) (Hp.mk [(0, O.rows 1 false [[V.lst 2 (List.map sp e)]]), (1, O.rows 2 true [[V.lst 2 (List.map sp p.1), iv p.2]]), (2, O.rows 2 true [[V.lst 2 (List.map sp q.1), iv q.2]])] 3)))) (R (iv (-1 : Int)))) (by kernel_rfl) ?_
  refine ifB_mk (fun hb => ?_) (fun hb => ?_)
  · have hlt : i < s.length := by simp at hb; omega
    refine sp_at (List.getElem?_eq_getElem hlt) (closure101 (c := s[i]) he hp hq (by rw [← hs]; exact List.getElem_mem hlt) (onBool_bv (ifB_mk (fun hc => ?_) (fun hc => ?_))))
    · rw [ixI_at hlt hc ha] at h; exact h
    · rw [wr (by omega) (by omega)]
      exact hJ (i + 1) ⟨hlt, take_all_succ hlt hc ha⟩ (by omega)
  · have he : i = s.length := by simp at hb; omega
    subst he
    rw [List.take_length] at ha
    rw [ixI_none ha] at h; exact h
def insP (p q : Pd) : List Int := (rots p.1).map fun e => ixI (lf p q e) q.1
theorem rots_length (l : List Sp) : (rots l).length = l.length := by simp [rots]
theorem rots_get {l : List Sp} {i : Nat} (h : i < l.length) : (rots l)[i]? = some (rot l i) := by simp [rots, h]
theorem inside88 {p q : Pd} {R : V → Prop} (hp : PdOK p) (hq : PdOK q) (h : R (.lst 1 (il (insP p q)))) : KB Try.prog (fun _ => none) 88 [.agg (pd p), .agg (pd q)] ⟨[], 0⟩ R := by
  refine KB_of_W (kps := kp88) hM hmH Try.func88 (fun _ => rfl) (fun _ => rfl) (see (p := K0 Try.prog 80 [V.lst 2 (List.map sp p.1)] fun v => onLst v fun s es => Lp (kp88 0) (W Try.prog CM 25 kp88 0 (cdAt [1, 1, 0, 1, 0, 0] (bodyOf Try.f88))) (Qblk 0 (Qseq (W Try.prog CM 25 kp88 0 (cdAt [1, 1, 1] (bodyOf Try.f88))) (QendH Try.prog Try.f88 fun v h' => dataT (Hp.mk [] 0).nxt h' v R))) (St.mk (mkT [(2, V.ptr 0 0 0), (3, V.ptr 1 0 0), (5, V.sl 2 0 0), (10, V.lst s es), (11, iv (↑es.length : Int)), (12, iv (0 : Int))]) (Hp.mk [(2, O.rows 1 true []), (0, O.rows 2 true [[V.lst 2 (List.map sp p.1), iv p.2]]), (1, O.rows 2 true [[V.lst 2 (List.map sp q.1), iv q.2]])] 6))) (by kernel_rfl) ?_)
  refine edges80 (by have := hp.len8; omega) (onLst_lst ?_)
  obtain ⟨es, hes⟩ : ∃ es, es = rots p.1 := ⟨_, rfl⟩
  have hel : es.length = p.1.length := by rw [hes, rots_length]
  have hel8 := hp.len8
  have hI : insP p q = es.map fun e => ixI (lf p q e) q.1 := by rw [hes]; rfl
  rw [← hes]
  refine Lp.of (σ := Nat × List Int) (fun s => ⟨mkT [(2, .ptr 0 0 0), (3, .ptr 1 0 0), (5, .sl 2 0 s.2.length), (10, .lst 1 (es.map fun p => [pl p])), (11, iv ((es.map fun p => [pl p]).length : Int)), (12, iv (s.1 : Int))], ⟨[(2, .rows 1 true (il s.2)), (0, .rows 2 true [pd p]), (1, .rows 2 true [pd q])], 6⟩⟩)
    (fun s => s.1 ≤ es.length ∧ s.2 = (es.take s.1).map fun e => ixI (lf p q e) q.1) (fun s => es.length - s.1) (0, []) (by kernel_rfl) ⟨by simp, by simp⟩ ?_
  rintro ⟨i, c⟩ ⟨hi', hc⟩ J hJ
  simp only at hi' hc
  refine see (p := ifB (decide ((↑i : Int) < (↑(List.map (fun p => [V.lst 2 (List.map sp p)]) es).length : Int))) (onSome (List.map (fun p => [V.lst 2 (List.map sp p)]) es)[i]? fun row => onSome row[0]? fun v => onLst v fun s es_1 => KB Try.prog (fun x => none) 100 [V.lst 2 (List.map sp q.1), V.fn (Fn.func 101) [] [V.ptr 0 0 0, V.ptr 1 0 0, V.ptr 2 0 0]] (Hp.mk [(0, O.rows 1 false [[V.lst s es_1]]), (1, O.rows 2 true [[V.lst 2 (List.map sp p.1), iv p.2]]), (2, O.rows 2 true [[V.lst 2 (List.map sp q.1), iv q.2]])] 3) fun v => onIntK IntKind.i64 v fun n => need ((c.length + 1) * 8 ≤ 140737488355328) (J (St.mk (mkT [(2, V.ptr 0 0 0), (3, V.ptr 1 0 0), (5, V.sl 2 0 (c.length + 1)), (10, V.lst 1 (List.map (fun p => [V.lst 2 (List.map sp p)]) es)), (11, iv (↑(List.map (fun p => [V.lst 2 (List.map sp p)]) es).length : Int)), (12, iv (IntKind.i64.wrap ((↑i : Int) + (1 : Int))))]) (Hp.mk [(2, O.rows 1 true (List.take c.length (il c) ++ [[iv n]])), (0, O.rows 2 true [[V.lst 2 (List.map sp p.1), iv p.2]]), (1, O.rows 2 true [[V.lst 2 (List.map sp q.1), iv q.2]])] 6)))) (R (V.lst 1 (sub (il c) 0 c.length)))) (by kernel_rfl) ?_
  have hcl : c.length = i := by rw [hc]; simp; omega
  refine ifB_mk (fun hb => ?_) (fun hb => ?_)
  · have hlt : i < es.length := by simp at hb; omega
    have heg : es[i]? = some (rot p.1 i) := by rw [hes]; exact rots_get (by omega)
    refine row_at heg (indexFunc100 (rot_ok hp (by omega)) hp hq (onIntK_iv (need_mk ⟨by omega, ?_⟩)))
    rw [wr (by omega) (by omega)]
    have hei : es[i] = rot p.1 i := by rw [List.getElem?_eq_getElem hlt] at heg; simpa using heg
    have := hJ (i + 1, c ++ [ixI (lf p q (rot p.1 i)) q.1]) ⟨hlt, by simp only; rw [List.take_succ_eq_append_getElem hlt, List.map_append, hc, hei]; rfl⟩ (by omega)
    simp only [List.length_append, List.length_singleton] at this
    rw [List.take_of_length_le (by rw [il_length]; exact Nat.le_refl _), show il c ++ [[iv (ixI (lf p q (rot p.1 i)) q.1)]] = il (c ++ [ixI (lf p q (rot p.1 i)) q.1]) by simp [il]]
    exact this
  · have he : i = es.length := by simp at hb; omega
    subst he
    rw [List.take_length] at hc
    rw [sub_all _ (by rw [il_length]), hc, ← hI]
    exact h
theorem index89 {l : List Int} {n : Int} {R : V → Prop} (hl : l.length ≤ 1000000) (h : R (iv (ixI (fun x => n == x) l))) : KB Try.prog (fun _ => none) 89 [.sl 0 0 l.length, iv n] ⟨[(0, .rows 1 true (il l))], 1⟩ R := by
  refine KB_of_W (kps := kp89) hC1 hmH Try.func89 (fun _ => rfl) (fun _ => rfl) (see (p := Lp (kp89 0) (W Try.prog C1 19 kp89 0 (cdAt [1, 0, 1, 0, 0] (bodyOf Try.f89))) (Qblk 0 (Qseq (W Try.prog C1 19 kp89 0 (cdAt [1, 1] (bodyOf Try.f89))) (QendH Try.prog Try.f89 fun v h' => dataT (Hp.mk [(0, O.rows 1 true (il l))] 1).nxt h' v R))) (St.mk (mkT [(0, V.sl 0 0 l.length), (1, iv n), (7, iv (↑l.length : Int)), (8, iv (0 : Int))]) (Hp.mk [(0, O.rows 1 true (il l))] 1))) (by kernel_rfl) ?_)
  refine Lp.of (σ := Nat) (fun i => ⟨mkT [(0, .sl 0 0 l.length), (1, iv n), (7, iv (l.length : Int)), (8, iv (i : Int))], ⟨[(0, .rows 1 true (il l))], 1⟩⟩) (fun i => i ≤ l.length ∧ ∀ c ∈ l.take i, (n == c) = false) (fun i => l.length - i) 0 (by kernel_rfl) ⟨by simp, by simp⟩ ?_
  rintro i ⟨hi', ha⟩ J hJ
  refine see (p := ifB (decide ((↑i : Int) < (↑l.length : Int))) (need (i < l.length) (onSome (il l)[0 + i]? fun row => onSome row[0]? fun v => onIntK IntKind.i64 v fun n_1 => ifB (n == n_1) (R (iv (↑i : Int))) (J (St.mk (mkT [(0, V.sl 0 0 l.length), (1, iv n), (7, iv (↑l.length : Int)), (8, iv (IntKind.i64.wrap ((↑i : Int) + (1 : Int))))]) (Hp.mk [(0, O.rows 1 true (il l))] 1))))) (R (iv (-1 : Int)))) (by kernel_rfl) ?_
  refine ifB_mk (fun hb => ?_) (fun hb => ?_)
  · have hlt : i < l.length := by simp at hb; omega
    refine need_mk ⟨hlt, el (x := l[i]) (by rw [Nat.zero_add]; exact List.getElem?_eq_getElem hlt) (ifB_mk (fun hc => ?_) (fun hc => ?_))⟩
    · rw [ixI_at hlt hc ha] at h; exact h
    · rw [wr (by omega) (by omega)]
      exact hJ (i + 1) ⟨hlt, take_all_succ hlt hc ha⟩ (by omega)
  · have he : i = l.length := by simp at hb; omega
    subst he
    rw [List.take_length] at ha
    rw [ixI_none ha] at h; exact h
end Go.Proofs.Ytahoindkdkhpmaa
