/- A4: a part of the proof. -/
import Derived.Test.YtahoindkdkhpmaaXA3
namespace Go.Proofs.Ytahoindkdkhpmaa
open Go Go.Proofs.Ytahoindkdkhpmaa.Clean
set_option linter.unusedVariables false
set_option linter.unusedSimpArgs false
set_option maxRecDepth 10000

theorem sub_all {α : Type} (l : List α) {n : Nat} (h : n = l.length) : sub l 0 n = l := by subst h; simp [sub]
theorem sub_map {α β : Type} (f : α → β) (l : List α) (i n : Nat) : sub (l.map f) i n = (sub l i n).map f := by simp [sub, List.map_drop, List.map_take]
theorem sub_length {α : Type} {l : List α} {i n : Nat} (h : i + n ≤ l.length) : (sub l i n).length = n := by simp [sub]; omega
theorem sub_get {α : Type} (l : List α) (i n j : Nat) : (sub l i n)[j]? = if j < n then l[i + j]? else none := by
  unfold sub; rw [List.getElem?_take, List.getElem?_drop]

/-! edges: the corners, from each one on -/
def rot (l : List Sp) (i : Nat) : List Sp := sub (l ++ l) i l.length
def rots (l : List Sp) : List (List Sp) := (List.range l.length).map (rot l)
theorem rot_length {l : List Sp} {i : Nat} (h : i ≤ l.length) : (rot l i).length = l.length := by unfold rot; exact sub_length (by simp; omega)
theorem rot_mem {l : List Sp} {i : Nat} {s : Sp} (h : s ∈ rot l i) : s ∈ l := by
  have := List.mem_of_mem_drop (List.mem_of_mem_take h)
  simpa using this
theorem edges80 {l : List Sp} {R : V → Prop} (hl : l.length ≤ 100000) (h : R (.lst 1 ((rots l).map fun p => [pl p]))) : K0 Try.prog 80 [pl l] R := by
  refine K0_of_W0 (kps := kp80) hM hmH Try.func80 (see (p := K0 Try.prog 97 [V.lst 1 [[V.lst 2 (List.map sp l)], [V.lst 2 (List.map sp l)]]] fun v => onLst v fun s es => Lp (kp80 0) (W Try.prog CM 31 kp80 0 (cdAt [1, 1, 1, 1, 0, 1, 0, 0] (bodyOf Try.f80))) (Qblk 0 (Qseq (W Try.prog CM 31 kp80 0 (cdAt [1, 1, 1, 1, 1] (bodyOf Try.f80))) (Qend0 Try.prog Try.f80 R))) (St.mk (mkT [(3, iv (↑(List.map sp l).length : Int)), (4, V.lst s es), (5, V.sl 0 0 0), (13, iv (↑(List.map sp l).length : Int)), (14, iv (0 : Int))]) (Hp.mk [(0, O.rows 1 true [])] 1))) (by kernel_rfl) ?_)
  refine concat97 (L := [l, l]) (by simp) (by simp [lens]; omega) (onLst_lst ?_)
  have ht : [l, l].flatten = l ++ l := by simp
  rw [ht]
  refine Lp.of (σ := Nat × List (List Sp)) (fun s => ⟨mkT [(3, iv ((List.map sp l).length : Int)), (4, pl (l ++ l)), (5, .sl 0 0 s.2.length), (13, iv ((List.map sp l).length : Int)), (14, iv (s.1 : Int))], ⟨[(0, .rows 1 true (s.2.map fun p => [pl p]))], 1⟩⟩) (fun s => s.1 ≤ l.length ∧ s.2 = (List.range s.1).map (rot l)) (fun s => l.length - s.1) (0, []) (by kernel_rfl) ⟨by simp, by simp⟩ ?_
  rintro ⟨i, a⟩ ⟨hi, ha⟩ J hJ
  simp only at hi ha
  obtain ⟨t, ht⟩ : ∃ t, t = l ++ l := ⟨_, rfl⟩
  rw [← ht] at hJ ⊢
  refine see (p := ifB (decide ((↑i : Int) < (↑(List.map sp l).length : Int))) (onNat (IntKind.i64.wrap ((↑i : Int) + (↑(List.map sp l).length : Int))) fun c => onNat (IntKind.i64.wrap ((↑i : Int) + (↑(List.map sp l).length : Int))) fun b => need (c ≤ (List.map sp t).length) (need (b = c) (need (i ≤ b) (need ((a.length + 1) * 24 ≤ 140737488355328) (J (St.mk (mkT [(3, iv (↑(List.map sp l).length : Int)), (4, V.lst 2 (List.map sp t)), (5, V.sl 0 0 (a.length + 1)), (13, iv (↑(List.map sp l).length : Int)), (14, iv (IntKind.i64.wrap ((↑i : Int) + (1 : Int))))]) (Hp.mk [(0, O.rows 1 true (List.take a.length (List.map (fun p => [V.lst 2 (List.map sp p)]) a) ++ [[V.lst 2 (sub (List.map sp t) i (b - i))]]))] 1))))))) (R (V.lst 1 (sub (List.map (fun p => [V.lst 2 (List.map sp p)]) a) 0 a.length)))) (by kernel_rfl) ?_
  have hal : a.length = i := by rw [ha]; simp
  refine ifB_mk (fun hb => ?_) (fun hb => ?_)
  · have hlt : i < l.length := by simp at hb; omega
    have hw : IntKind.i64.wrap ((i : Int) + ((List.map sp l).length : Int)) = ((i + l.length : Nat) : Int) := by rw [List.length_map, wr (by omega) (by omega)]; omega
    refine onNat_mk hw (onNat_mk hw (need_mk ⟨by rw [ht]; simp; omega, need_mk ⟨rfl, need_mk ⟨by omega, need_mk ⟨by omega, ?_⟩⟩⟩⟩))
    rw [wr (by omega) (by omega), show i + l.length - i = l.length by omega, sub_map]
    have := hJ (i + 1, a ++ [rot l i]) ⟨hlt, by simp only; rw [List.range_succ, List.map_append, ha]; rfl⟩ (by omega)
    simp only [List.length_append, List.length_singleton, List.map_append] at this
    rw [List.take_of_length_le (by simp)]
    rw [show sub t i l.length = rot l i by rw [ht]; rfl]
    exact this
  · have he : i = l.length := by simp at hb; omega
    subst he
    rw [sub_all _ (by simp)]
    rw [ha]; exact h

/-- For each edge all other corners are to the left of it. -/
def convB (l : List Sp) : Bool := (rots l).all fun e => (e.drop 2).all fun c => lft (e.getD 0 (0, 0)) (e.getD 1 (0, 0)) 1 c 1
theorem getD_some {l : List Sp} {i : Nat} (h : i < l.length) : l[i]? = some (l.getD i (0, 0)) := by simp [List.getD, List.getElem?_eq_getElem h]
theorem getD_mem {l : List Sp} {i : Nat} (h : i < l.length) : l.getD i (0, 0) ∈ l := by
  have := getD_some h
  exact List.mem_of_getElem? this
theorem isConvex52 {l : List Sp} {R : V → Prop} (hl : 3 ≤ l.length) (hl' : l.length ≤ 1000) (hs : ∀ s ∈ l, SpOK s) (h : R (bv (convB l))) : K0 Try.prog 52 [pl l] R := by
  refine K0_of_W0 (kps := kp52) hM hmH Try.func52 (see (p := K0 Try.prog 80 [V.lst 2 (List.map sp l)] fun v => onLst v fun s es => Lp (kp52 0) (W Try.prog CM 27 kp52 0 (cdAt [1, 0, 1, 0, 0] (bodyOf Try.f52))) (Qblk 0 (Qseq (W Try.prog CM 27 kp52 0 (cdAt [1, 1] (bodyOf Try.f52))) (Qend0 Try.prog Try.f52 R))) (St.mk (mkT [(8, V.lst s es), (9, iv (↑es.length : Int)), (10, iv (0 : Int))]) (Hp.mk [] 0))) (by kernel_rfl) ?_)
  refine edges80 (by omega) (onLst_lst ?_)
  obtain ⟨E, hE⟩ : ∃ E, E = rots l := ⟨_, rfl⟩
  rw [← hE]
  have hEl : E.length = l.length := by rw [hE]; simp [rots]
  have hEe : ∀ i, i < l.length → E[i]? = some (rot l i) := fun i hi => by rw [hE]; simp [rots, hi]
  refine Lp.of (σ := Nat) (fun i => ⟨mkT [(8, .lst 1 (E.map fun p => [pl p])), (9, iv ((E.map fun p => [pl p]).length : Int)), (10, iv (i : Int))], ⟨[], 0⟩⟩) (fun i => i ≤ E.length ∧ (E.take i).all (fun e => (e.drop 2).all fun c => lft (e.getD 0 (0, 0)) (e.getD 1 (0, 0)) 1 c 1) = true) (fun i => E.length - i) 0 (by kernel_rfl) ⟨by omega, by simp⟩ ?_
  rintro i ⟨hi, hall⟩ J hJ
  refine see (p := ifB (decide ((↑i : Int) < (↑(List.map (fun p => [V.lst 2 (List.map sp p)]) E).length : Int))) (onSome (List.map (fun p => [V.lst 2 (List.map sp p)]) E)[i]? fun row => onSome row[0]? fun v => onLst v fun s es => need (es.length ≤ es.length) (need (2 ≤ es.length) (guardB (s.beq 2 || es.isEmpty) (Lp (kp52 2) (W Try.prog CM 27 kp52 2 (cdAt [1, 0, 1, 0, 0, 1, 1, 0, 0, 1, 1, 0, 0] (bodyOf Try.f52))) (Qblk 2 (Qblk 1 (Qseq (W Try.prog CM 27 kp52 0 (cdAt [1, 0, 1, 0, 0, 1, 1, 1] (bodyOf Try.f52))) (Qlp (kp52 0) J (Qblk 0 (Qseq (W Try.prog CM 27 kp52 0 (cdAt [1, 1] (bodyOf Try.f52))) (Qend0 Try.prog Try.f52 R))))))) (St.mk (mkT [(4, V.lst s es), (8, V.lst 1 (List.map (fun p => [V.lst 2 (List.map sp p)]) E)), (9, iv (↑(List.map (fun p => [V.lst 2 (List.map sp p)]) E).length : Int)), (10, iv (↑i : Int)), (15, V.lst s (sub es 2 (es.length - 2))), (16, iv (↑(sub es 2 (es.length - 2)).length : Int)), (17, iv (0 : Int))]) (Hp.mk [] 0)))))) (R (bv true))) (by kernel_rfl) ?_
  refine ifB_mk (fun hb => ?_) (fun hb => ?_)
  · have hlt : i < l.length := by simp at hb; omega
    obtain ⟨e, he⟩ : ∃ e, e = rot l i := ⟨_, rfl⟩
    have hel : e.length = l.length := by rw [he]; exact rot_length (by omega)
    have heok : ∀ s ∈ e, SpOK s := fun s hm => hs s (rot_mem (he ▸ hm))
    refine row_at (p := e) (by rw [he]; exact hEe i hlt) (need_mk ⟨Nat.le_refl _, need_mk ⟨by simp; omega, guardB_mk rfl ?_⟩⟩)
    have hsub : sub (List.map sp e) 2 ((List.map sp e).length - 2) = List.map sp (e.drop 2) := by
      rw [sub_map]; congr 1; unfold sub; rw [List.take_of_length_le (by simp)]
    rw [hsub]
    obtain ⟨c, hc⟩ : ∃ c, c = e.drop 2 := ⟨_, rfl⟩
    rw [← hc]
    refine Lp.of (σ := Nat) (fun j => ⟨mkT [(4, pl e), (8, .lst 1 (E.map fun p => [pl p])), (9, iv ((E.map fun p => [pl p]).length : Int)), (10, iv (i : Int)), (15, pl c), (16, iv ((List.map sp c).length : Int)), (17, iv (j : Int))], ⟨[], 0⟩⟩) (fun j => j ≤ c.length ∧ (c.take j).all (fun c => lft (e.getD 0 (0, 0)) (e.getD 1 (0, 0)) 1 c 1) = true) (fun j => c.length - j) 0 (by kernel_rfl) ⟨by omega, by simp⟩ ?_
    rintro j ⟨hj, hcs⟩ J1 hJ1
    refine see (p := ifB (decide ((↑j : Int) < (↑(List.map sp c).length : Int))) (onSome (List.map sp c)[j]? fun row => onCons (List.drop 0 row) fun u r => onIntK IntKind.i64 u fun n => onCons r fun u r => onIntK IntKind.i64 u fun n_1 => K0 Try.prog 81 [V.lst 2 (List.map sp e), iv (1 : Int), V.agg [iv n, iv n_1], iv (1 : Int)] fun v => onBool v fun b => ifB (!b) (R (bv false)) (J1 (St.mk (mkT [(4, V.lst 2 (List.map sp e)), (8, V.lst 1 (List.map (fun p => [V.lst 2 (List.map sp p)]) E)), (9, iv (↑(List.map (fun p => [V.lst 2 (List.map sp p)]) E).length : Int)), (10, iv (↑i : Int)), (15, V.lst 2 (List.map sp c)), (16, iv (↑(List.map sp c).length : Int)), (17, iv (IntKind.i64.wrap ((↑j : Int) + (1 : Int))))]) (Hp.mk [] 0)))) (J (St.mk (mkT [(8, V.lst 1 (List.map (fun p => [V.lst 2 (List.map sp p)]) E)), (9, iv (↑(List.map (fun p => [V.lst 2 (List.map sp p)]) E).length : Int)), (10, iv (IntKind.i64.wrap ((↑i : Int) + (1 : Int))))]) (Hp.mk [] 0)))) (by kernel_rfl) ?_
    have hcl : c.length = l.length - 2 := by rw [hc]; simp; omega
    have o0 := heok _ (getD_mem (l := e) (i := 0) (by omega))
    have o1 := heok _ (getD_mem (l := e) (i := 1) (by omega))
    refine ifB_mk (fun hb2 => ?_) (fun hb2 => ?_)
    · have hjl : j < c.length := by simp at hb2; omega
      have oc : SpOK c[j] := heok _ (List.mem_of_mem_drop (i := 2) (by rw [← hc]; exact List.getElem_mem hjl))
      refine sp_at (List.getElem?_eq_getElem hjl) (isLeft81 (c := c[j]) (getD_some (by omega)) (getD_some (by omega)) ((o1.1.sub o0.1).le (by decide)) ((o1.2.sub o0.2).le (by decide)) (o0.1.le (by decide)) (o0.2.le (by decide)) (oc.1.le (by decide)) (oc.2.le (by decide)) ⟨by decide, by decide⟩ ⟨by decide, by decide⟩ (onBool_bv (ifB_mk (fun hn => ?_) (fun hy => ?_))))
      · have : convB l = false := by
          unfold convB
          rw [← hE, List.all_eq_false]
          refine ⟨e, List.mem_of_getElem? (by rw [he]; exact hEe i hlt), ?_⟩
          rw [Bool.not_eq_true, List.all_eq_false]
          exact ⟨c[j], by rw [← hc]; exact List.getElem_mem hjl, by simpa using hn⟩
        rw [this] at h; exact h
      · rw [wr (by omega) (by omega)]
        refine hJ1 (j + 1) ⟨hjl, ?_⟩ (by omega)
        rw [List.take_succ_eq_append_getElem hjl, List.all_append, hcs]
        simpa using hy
    · have hje : j = c.length := by simp at hb2; omega
      subst hje
      rw [List.take_length] at hcs
      rw [wr (by omega) (by omega)]
      refine hJ (i + 1) ⟨by omega, ?_⟩ (by omega)
      rw [List.take_succ_eq_append_getElem (by omega), List.all_append, hall]
      have : E[i]'(by omega) = e := by
        have := hEe i hlt
        rw [List.getElem?_eq_getElem (by omega), Option.some.injEq] at this
        rw [this, he]
      simp only [List.all_cons, List.all_nil, Bool.and_true, this, Bool.true_and]
      rw [← hc]; exact hcs
  · have he : i = E.length := by simp at hb; omega
    subst he
    rw [List.take_length] at hall
    have : convB l = true := by unfold convB; rw [← hE]; exact hall
    rw [this] at h; exact h

/-- A panel is valid. -/
def panB (l : List Sp) : Bool := win l.length 3 8 && spsB l && convB l
theorem checkPanel18 {l : List Sp} {R : V → Prop} (hl : l.length ≤ 1000000000) (h : R (iv (if panB l = true then 0 else 50))) : K0 Try.prog 18 [pl l] R := by
  refine K0_of_W0 (kps := kp0) hM hmH Try.func18 (see (p := K0 Try.prog 47 [iv (↑(List.map sp l).length : Int), iv (3 : Int), iv (8 : Int)] fun v => onBool v fun b => ifB (!b) (R (iv (50 : Int))) (K0 Try.prog 51 [V.lst 2 (List.map sp l)] fun v => onBool v fun b => ifB (!b) (R (iv (50 : Int))) (K0 Try.prog 52 [V.lst 2 (List.map sp l)] fun v => onBool v fun b => ifB (!b) (R (iv (50 : Int))) (R (iv (0 : Int)))))) (by kernel_rfl) ?_)
  have no : panB l = false → R (iv 50) := fun hn => by rw [hn] at h; exact h
  refine within47 (onBool_bv (ifB_mk (fun h1 => no (by simp at h1; simp [panB, h1])) (fun h1 => ?_)))
  simp at h1
  refine areSpots51 hl (onBool_bv (ifB_mk (fun h2 => no (by simp at h2; simp [panB, h2])) (fun h2 => ?_)))
  simp at h2
  have hlen := win_iff.1 h1
  refine isConvex52 (by omega) (by omega) (fun s hm => spB_iff.1 (List.all_eq_true.1 h2 s hm)) (onBool_bv (ifB_mk (fun h3 => no (by simp at h3; simp [panB, h3])) (fun h3 => ?_)))
  simp at h3
  have : panB l = true := by simp [panB, h1, h2, h3]
  rw [this] at h; exact h

/-- A linkage is valid. -/

def hiB (h : Hi) : Bool := spB h.1 && spB h.2.1 && win h.2.2 0 35
def linB (l : Li) : Bool := win l.1.length 1 4 && decide ((l.2.length : Int) = l.1.length - 1) && l.1.all panB && l.2.all hiB
theorem hi_at {l : List Hi} {i : Nat} {x : Hi} {k : Int → Int → Int → Int → Int → Prop} (h : l[i]? = some x) (hk : k x.1.1 x.1.2 x.2.1.1 x.2.1.2 x.2.2) :
    onSome (List.map hi l)[i]? fun row => onCons (List.drop 0 row) fun u r => onIntK .i64 u fun a => onCons r fun u r => onIntK .i64 u fun b => onCons r fun u r => onIntK .i64 u fun c => onCons r fun u r => onIntK .i64 u fun d => onCons r fun u r => onIntK .i64 u fun e => k a b c d e :=
  onSome_mk (x := hi x) (by simp [h]) hk
theorem check24 {ps : List (List Sp)} {hs : List Hi} {R : V → Prop} (h1 : ps.length ≤ 1000000000) (h2 : hs.length ≤ 1000000000) (h3 : ∀ p ∈ ps, p.length ≤ 1000000000) (h : R (iv (if linB (ps, hs) = true then 0 else 50))) : K0 Try.prog 24 [.agg (lk (ps, hs))] R := by
  refine K0_of_W0 (kps := kp24) hM hmH Try.func24 (see (p := K0 Try.prog 47 [iv (↑(List.map (fun p => [V.lst 2 (List.map sp p)]) ps).length : Int), iv (1 : Int), iv (4 : Int)] fun v => onBool v fun b => ifB (!b) (R (iv (50 : Int))) (ifB ((↑(List.map hi hs).length : Int) != IntKind.i64.wrap ((↑(List.map (fun p => [V.lst 2 (List.map sp p)]) ps).length : Int) - (1 : Int))) (R (iv (50 : Int))) (Lp (kp24 0) (W Try.prog CM 57 kp24 0 (cdAt [1, 1, 0, 1, 0, 0] (bodyOf Try.f24))) (Qblk 0 (Qseq (W Try.prog CM 57 kp24 0 (cdAt [1, 1, 1] (bodyOf Try.f24))) (Qend0 Try.prog Try.f24 R))) (St.mk (mkT [(1, V.ptr 0 0 0), (24, V.lst 1 (List.map (fun p => [V.lst 2 (List.map sp p)]) ps)), (25, iv (↑(List.map (fun p => [V.lst 2 (List.map sp p)]) ps).length : Int)), (26, iv (0 : Int))]) (Hp.mk [(0, O.rows 2 true [[V.lst 1 (List.map (fun p => [V.lst 2 (List.map sp p)]) ps), V.lst 5 (List.map hi hs)]])] 1))))) (by kernel_rfl) ?_)
  have no : linB (ps, hs) = false → R (iv 50) := fun hn => by rw [hn] at h; exact h
  refine within47 (onBool_bv (ifB_mk (fun c1 => no (by simp at c1; simp [linB, c1])) (fun c1 => ?_)))
  simp at c1
  refine ifB_mk (fun c2 => no ?_) (fun c2 => ?_)
  · rw [List.length_map, List.length_map, wr (by omega) (by omega)] at c2
    have : ¬ ((hs.length : Int) = ps.length - 1) := by simpa using c2
    simp [linB, this]
  rw [List.length_map, List.length_map, wr (by omega) (by omega)] at c2
  have c2 : (hs.length : Int) = ps.length - 1 := by simpa using c2
  refine Lp.of (σ := Nat) (fun i => ⟨mkT [(1, .ptr 0 0 0), (24, .lst 1 (ps.map fun p => [pl p])), (25, iv ((ps.map fun p => [pl p]).length : Int)), (26, iv (i : Int))], ⟨[(0, .rows 2 true [[.lst 1 (ps.map fun p => [pl p]), .lst 5 (hs.map hi)]])], 1⟩⟩) (fun i => i ≤ ps.length ∧ (ps.take i).all panB = true) (fun i => ps.length - i) 0 (by kernel_rfl) ⟨by omega, by simp⟩ ?_
  rintro i ⟨hi', hall⟩ J hJ
  refine see (p := ifB (decide ((↑i : Int) < (↑(List.map (fun p => [V.lst 2 (List.map sp p)]) ps).length : Int))) (onSome (List.map (fun p => [V.lst 2 (List.map sp p)]) ps)[i]? fun row => onSome row[0]? fun v => onLst v fun s es => K0 Try.prog 18 [V.lst s es] fun v => onIntK IntKind.i64 v fun n => ifB (n != (0 : Int)) (R (iv n)) (J (St.mk (mkT [(1, V.ptr 0 0 0), (24, V.lst 1 (List.map (fun p => [V.lst 2 (List.map sp p)]) ps)), (25, iv (↑(List.map (fun p => [V.lst 2 (List.map sp p)]) ps).length : Int)), (26, iv (IntKind.i64.wrap ((↑i : Int) + (1 : Int))))]) (Hp.mk [(0, O.rows 2 true [[V.lst 1 (List.map (fun p => [V.lst 2 (List.map sp p)]) ps), V.lst 5 (List.map hi hs)]])] 1)))) (Lp (kp24 2) (W Try.prog CM 57 kp24 2 (cdAt [1, 1, 1, 0, 1, 0, 0] (bodyOf Try.f24))) (Qblk 2 (Qseq (W Try.prog CM 57 kp24 0 (cdAt [1, 1, 1, 1] (bodyOf Try.f24))) (Qend0 Try.prog Try.f24 R))) (St.mk (mkT [(37, V.lst 5 (List.map hi hs)), (38, iv (↑(List.map hi hs).length : Int)), (39, iv (0 : Int))]) (Hp.mk [] 0)))) (by kernel_rfl) ?_
  refine ifB_mk (fun hb => ?_) (fun hb => ?_)
  · have hlt : i < ps.length := by simp at hb; omega
    refine row_at (List.getElem?_eq_getElem hlt) (checkPanel18 (l := ps[i]) (h3 _ (List.getElem_mem hlt)) (onIntK_iv (ifB_mk (fun hn => ?_) (fun hy => ?_))))
    · have hp : panB ps[i] = false := by
        cases hp : panB ps[i] with
        | false => rfl
        | true => rw [hp] at hn; simp at hn
      rw [hp]
      have hl : ps.all panB = false := by rw [List.all_eq_false]; exact ⟨_, List.getElem_mem hlt, by simp [hp]⟩
      exact no (by unfold linB; rw [hl, Bool.and_false, Bool.false_and])
    · have hp : panB ps[i] = true := by
        cases hp : panB ps[i] with
        | false => rw [hp] at hy; simp at hy
        | true => rfl
      rw [wr (by omega) (by omega)]
      refine hJ (i + 1) ⟨hlt, ?_⟩ (by omega)
      rw [List.take_succ_eq_append_getElem hlt, List.all_append, hall]
      simp [hp]
  · have he : i = ps.length := by simp at hb; omega
    subst he
    rw [List.take_length] at hall
    refine Lp.of (σ := Nat) (fun i => ⟨mkT [(37, .lst 5 (hs.map hi)), (38, iv ((hs.map hi).length : Int)), (39, iv (i : Int))], ⟨[], 0⟩⟩) (fun i => i ≤ hs.length ∧ (hs.take i).all hiB = true) (fun i => hs.length - i) 0 (by kernel_rfl) ⟨by omega, by simp⟩ ?_
    rintro i ⟨hi', hall'⟩ J1 hJ1
    refine see (p := ifB (decide ((↑i : Int) < (↑(List.map hi hs).length : Int))) (onSome (List.map hi hs)[i]? fun row => onCons (List.drop 0 row) fun u r => onIntK IntKind.i64 u fun n => onCons r fun u r => onIntK IntKind.i64 u fun n_1 => onCons r fun u r => onIntK IntKind.i64 u fun n_2 => onCons r fun u r => onIntK IntKind.i64 u fun n_3 => onCons r fun u r => onIntK IntKind.i64 u fun n_4 => K0 Try.prog 51 [V.lst 2 [[iv n, iv n_1], [iv n_2, iv n_3]]] fun v => onBool v fun b => ifB (!b) (R (iv (50 : Int))) (K0 Try.prog 47 [iv n_4, iv (0 : Int), iv (35 : Int)] fun v => onBool v fun b => ifB (!b) (R (iv (50 : Int))) (J1 (St.mk (mkT [(37, V.lst 5 (List.map hi hs)), (38, iv (↑(List.map hi hs).length : Int)), (39, iv (IntKind.i64.wrap ((↑i : Int) + (1 : Int))))]) (Hp.mk [] 0))))) (R (iv (0 : Int)))) (by kernel_rfl) ?_
    refine ifB_mk (fun hb => ?_) (fun hb => ?_)
    · have hlt : i < hs.length := by simp at hb; omega
      have no' : hiB hs[i] = false → R (iv 50) := fun hn => by
        have hl : hs.all hiB = false := by rw [List.all_eq_false]; exact ⟨_, List.getElem_mem hlt, by simp [hn]⟩
        exact no (by unfold linB; rw [hl, Bool.and_false])
      refine hi_at (List.getElem?_eq_getElem hlt) (areSpots51 (l := [hs[i].1, hs[i].2.1]) (by simp) (onBool_bv (ifB_mk (fun hn => no' ?_) (fun hy => within47 (onBool_bv (ifB_mk (fun hn => no' ?_) (fun hy2 => ?_)))))))
      · cases ha : spB hs[i].1 <;> cases hb : spB hs[i].2.1 <;> simp [spsB, ha, hb] at hn <;> simp [hiB, ha, hb]
      · simp at hn
        simp [hiB, hn]
      · rw [wr (by omega) (by omega)]
        refine hJ1 (i + 1) ⟨hlt, ?_⟩ (by omega)
        rw [List.take_succ_eq_append_getElem hlt, List.all_append, hall']
        simp at hy2
        cases ha : spB hs[i].1 <;> cases hb : spB hs[i].2.1 <;> simp [spsB, ha, hb] at hy
        simp [hiB, ha, hb, hy2]
    · have he : i = hs.length := by simp at hb; omega
      subst he
      rw [List.take_length] at hall'
      have : linB (ps, hs) = true := by
        unfold linB
        simp only [hall, hall', c1, c2, decide_true, Bool.and_true]
      rw [this] at h; exact h
end Go.Proofs.Ytahoindkdkhpmaa
