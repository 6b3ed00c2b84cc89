/- A3: a part of the proof. -/
import Derived.Test.YtahoindkdkhpmaaXA2
namespace Go.Proofs.Ytahoindkdkhpmaa
open Go Go.Proofs.Ytahoindkdkhpmaa.Clean
set_option linter.unusedVariables false
set_option linter.unusedSimpArgs false
set_option maxRecDepth 10000

theorem hM : CM.ok Try.prog := callsM_ok knows48

/-- What stands at a place of a list of places. -/
theorem sp_at {l : List Sp} {i : Nat} {s : Sp} {k : Int → Int → Prop} (h : l[i]? = some s) (hk : k s.1 s.2) :
    onSome (List.map sp l)[i]? fun row => onCons (List.drop 0 row) fun u r => onIntK .i64 u fun n => onCons r fun u r => onIntK .i64 u fun m => k n m :=
  onSome_mk (x := sp s) (by simp [h]) hk
def SpOK (s : Sp) : Prop := Bd 50 s.1 ∧ Bd 50 s.2
def spB (s : Sp) : Bool := win s.1 (-50) 50 && win s.2 (-50) 50
theorem spB_iff {s : Sp} : spB s = true ↔ SpOK s := by simp [spB, SpOK, win_iff, Bd]
def spsB (l : List Sp) : Bool := l.all spB

theorem areSpots51 {l : List Sp} {R : V → Prop} (hl : l.length ≤ 1000000000) (h : R (bv (spsB l))) : K0 Try.prog 51 [pl l] R := by
  refine K0_of_W0 (kps := kp51) hM hmH Try.func51 (see (p := Lp (kp51 0) (W Try.prog CM 22 kp51 0 (cdAt [1, 0, 1, 0, 0] (bodyOf Try.f51))) (Qblk 0 (Qseq (W Try.prog CM 22 kp51 0 (cdAt [1, 1] (bodyOf Try.f51))) (Qend0 Try.prog Try.f51 R))) (St.mk (mkT [(5, V.lst 2 (List.map sp l)), (6, iv (↑(List.map sp l).length : Int)), (7, iv (0 : Int))]) (Hp.mk [] 0))) (by kernel_rfl) ?_)
  refine Lp.of (σ := Nat) (fun i => ⟨mkT [(5, pl l), (6, iv ((l.map sp).length : Int)), (7, iv (i : Int))], ⟨[], 0⟩⟩) (fun i => i ≤ l.length ∧ spsB (l.take i) = true) (fun i => l.length - i) 0 (by kernel_rfl) ⟨by omega, rfl⟩ ?_
  rintro i ⟨hi, hs⟩ J hJ
  refine see (p := ifB (decide ((↑i : Int) < (↑(List.map sp l).length : Int))) (onSome (List.map sp l)[i]? fun row => onCons (List.drop 0 row) fun u r => onIntK IntKind.i64 u fun n => onCons r fun u r => onIntK IntKind.i64 u fun n_1 => K0 Try.prog 47 [iv n, iv (-50 : Int), iv (50 : Int)] fun v => onBool v fun b => ifB (!b) (R (bv false)) (K0 Try.prog 47 [iv n_1, iv (-50 : Int), iv (50 : Int)] fun v => onBool v fun b => ifB (!b) (R (bv false)) (J (St.mk (mkT [(5, V.lst 2 (List.map sp l)), (6, iv (↑(List.map sp l).length : Int)), (7, iv (IntKind.i64.wrap ((↑i : Int) + (1 : Int))))]) (Hp.mk [] 0))))) (R (bv true))) (by kernel_rfl) ?_
  refine ifB_mk (fun hb => ?_) (fun hb => ?_)
  · have hlt : i < l.length := by simp at hb; omega
    have hno : spB l[i] = false → R (bv false) := fun hn => by
      have : spsB l = false := by
        unfold spsB
        rw [List.all_eq_false]
        exact ⟨_, List.getElem_mem hlt, by simp [hn]⟩
      rw [this] at h; exact h
    refine sp_at (List.getElem?_eq_getElem hlt) (within47 (onBool_bv (ifB_mk (fun h1 => hno (by simp at h1; simp [spB, h1])) (fun h1 => within47 (onBool_bv (ifB_mk (fun h2 => hno (by simp at h2; simp [spB, h2])) (fun h2 => ?_)))))))
    rw [wr (by omega) (by omega)]
    refine hJ (i + 1) ⟨hlt, ?_⟩ (by omega)
    unfold spsB at hs ⊢
    rw [List.take_succ_eq_append_getElem hlt, List.all_append, hs]
    simp at h1 h2
    simp [spB, h1, h2]
  · have he : i = l.length := by simp at hb; omega
    subst he
    rw [List.take_length] at hs
    rw [hs] at h; exact h

/-- Is c (to be divided by o) to the left of the edge from a to b (to be divided by d)? -/
def side (a b : Sp) (d : Int) (c : Sp) (o : Int) : Int := (b.1 - a.1) * (c.2 * d - a.2 * o) - (b.2 - a.2) * (c.1 * d - a.1 * o)
def lft (a b : Sp) (d : Int) (c : Sp) (o : Int) : Bool := decide (side a b d c o > 0)
theorem isLeft81 {e : List Sp} {a b : Sp} {d : Int} {c : Sp} {o : Int} {R : V → Prop} (ha : e[0]? = some a) (hb : e[1]? = some b) (h1 : Bd 4000000 (b.1 - a.1)) (h2 : Bd 4000000 (b.2 - a.2)) (ha1 : Bd 20000000 a.1) (ha2 : Bd 20000000 a.2) (hc1 : Bd 20000000 c.1) (hc2 : Bd 20000000 c.2) (hd : Bd 16000 d) (ho : Bd 16000 o)
    (h : R (bv (lft a b d c o))) : K0 Try.prog 81 [pl e, iv d, .agg (sp c), iv o] R := by
  refine K0_of_W0 (kps := kp0) hM hmH Try.func81 (see (p := onSome (List.map sp e)[0]? fun row => onCons (List.drop 0 row) fun u r => onIntK IntKind.i64 u fun n => onCons r fun u r => onIntK IntKind.i64 u fun n_1 => onSome (List.map sp e)[1]? fun row => onCons (List.drop 0 row) fun u r => onIntK IntKind.i64 u fun n_2 => onCons r fun u r => onIntK IntKind.i64 u fun n_3 => R (bv (decide (IntKind.i64.wrap (IntKind.i64.wrap (IntKind.i64.wrap (n_2 - n) * IntKind.i64.wrap (IntKind.i64.wrap (c.2 * d) - IntKind.i64.wrap (n_1 * o))) - IntKind.i64.wrap (IntKind.i64.wrap (n_3 - n_1) * IntKind.i64.wrap (IntKind.i64.wrap (c.1 * d) - IntKind.i64.wrap (n * o)))) > (0 : Int))))) (by kernel_rfl) ?_)
  refine sp_at ha (sp_at hb ?_)
  have x1 : Bd 3200000000000 (c.2 * d - a.2 * o) := ((hc2.mul hd).sub (ha2.mul ho)).le (by decide)
  have x2 : Bd 3200000000000 (c.1 * d - a.1 * o) := ((hc1.mul hd).sub (ha1.mul ho)).le (by decide)
  have x1' : Bd 640000000000 (c.2 * d - a.2 * o) := ((hc2.mul hd).sub (ha2.mul ho)).le (by decide)
  have x2' : Bd 640000000000 (c.1 * d - a.1 * o) := ((hc1.mul hd).sub (ha1.mul ho)).le (by decide)
  rw [h1.wr, h2.wr, (hc2.mul hd).wr, (ha2.mul ho).wr, (hc1.mul hd).wr, (ha1.mul ho).wr, x1.wr, x2.wr, (h1.mul x1').wr, (h2.mul x2').wr, ((h1.mul x1').sub (h2.mul x2')).wr]
  exact h

/-! what is joined -/
theorem grow102 {n : Int} {R : V → Prop} (h0 : 0 ≤ n) (h1 : n ≤ 1000000000) (h : ∀ s, s = 2 ∨ s = 0 → R (.lst 2 [])) (h' : n = 0 → R nilS) : KB Try.prog (fun _ => none) 102 [nilS, iv n] ⟨[], 0⟩ R := by
  refine KB_of_W (kps := kp0) hM hmH Try.func102 (fun _ => rfl) (fun _ => rfl) (see (p := ifB (decide (n < (0 : Int))) False (ifB (decide (IntKind.i64.wrap (n - IntKind.i64.wrap ((↑(0 : Nat) : Int) - (↑(0 : Nat) : Int))) > (0 : Int))) (onNat (IntKind.i64.wrap (n - IntKind.i64.wrap ((↑(0 : Nat) : Int) - (↑(0 : Nat) : Int)))) fun n => need (n * 16 ≤ 140737488355328) (R (V.lst 2 []))) (R nilS))) (by kernel_rfl) ?_)
  refine ifB_mk (fun hb => by simp at hb; omega) (fun hb => ?_)
  rw [show IntKind.i64.wrap (n - IntKind.i64.wrap (((0 : Nat) : Int) - ((0 : Nat) : Int))) = n by rw [show IntKind.i64.wrap (((0 : Nat) : Int) - ((0 : Nat) : Int)) = 0 from rfl, wr (by omega) (by omega)]; omega]
  refine ifB_mk (fun hb2 => onNat_mk (m := n.toNat) (by omega) (need_mk ⟨by omega, h 2 (.inl rfl)⟩)) (fun hb2 => h' (by simp at hb2; omega))
theorem row_at {L : List (List Sp)} {i : Nat} {p : List Sp} {k : Nat → List (List V) → Prop} (h : L[i]? = some p) (hk : k 2 (List.map sp p)) :
    onSome (List.map (fun p => [V.lst 2 (List.map sp p)]) L)[i]? fun row => onSome row[0]? fun v => onLst v k :=
  onSome_mk (x := [V.lst 2 (List.map sp p)]) (by simp [h]) (onSome_mk (x := V.lst 2 (List.map sp p)) rfl hk)
def lens (L : List (List Sp)) : Nat := (L.map List.length).sum
theorem lens_take {L : List (List Sp)} {i : Nat} (h : i < L.length) : lens (L.take (i + 1)) = lens (L.take i) + L[i].length := by
  unfold lens; rw [List.take_succ_eq_append_getElem h, List.map_append, List.sum_append]; simp only [List.map_cons, List.map_nil, List.sum_cons, List.sum_nil, Nat.add_zero]
theorem lens_le {L : List (List Sp)} (i : Nat) : lens (L.take i) ≤ lens L := by
  conv => rhs; rw [← List.take_append_drop i L]
  unfold lens; rw [List.map_append, List.sum_append]; omega
theorem flat_len {L : List (List Sp)} : L.flatten.length = lens L := by unfold lens; rw [List.length_flatten]
theorem flat_take {L : List (List Sp)} {i : Nat} (h : i < L.length) : (L.take (i + 1)).flatten = (L.take i).flatten ++ L[i] := by rw [List.take_succ_eq_append_getElem h, List.flatten_append]; simp only [List.flatten_cons, List.flatten_nil, List.append_nil]
theorem concat97 {L : List (List Sp)} {R : V → Prop} (hL : L.length ≤ 1000) (hn : lens L ≤ 1000000) (h : R (pl L.flatten)) : K0 Try.prog 97 [.lst 1 (L.map fun p => [pl p])] R := by
  refine K0_of_W0 (kps := kp97) hM hmH Try.func97 (see (p := Lp (kp97 0) (W Try.prog CM 36 kp97 0 (cdAt [1, 1, 0, 1, 0, 0] (bodyOf Try.f97))) (Qblk 0 (Qseq (W Try.prog CM 36 kp97 0 (cdAt [1, 1, 1] (bodyOf Try.f97))) (Qend0 Try.prog Try.f97 R))) (St.mk (mkT [(0, V.lst 1 (List.map (fun p => [V.lst 2 (List.map sp p)]) L)), (3, iv (0 : Int)), (9, V.lst 1 (List.map (fun p => [V.lst 2 (List.map sp p)]) L)), (10, iv (↑(List.map (fun p => [V.lst 2 (List.map sp p)]) L).length : Int)), (11, iv (0 : Int))]) (Hp.mk [] 0))) (by kernel_rfl) ?_)
  refine Lp.of (σ := Nat × Int) (fun s => ⟨mkT [(0, .lst 1 (L.map fun p => [pl p])), (3, iv s.2), (9, .lst 1 (L.map fun p => [pl p])), (10, iv ((L.map fun p => [pl p]).length : Int)), (11, iv (s.1 : Int))], ⟨[], 0⟩⟩) (fun s => s.1 ≤ L.length ∧ s.2 = (lens (L.take s.1) : Int)) (fun s => L.length - s.1) (0, 0) (by kernel_rfl) ⟨by simp, by simp [lens]⟩ ?_
  rintro ⟨i, n⟩ ⟨hi, hs⟩ J hJ
  simp only at hi hs
  refine see (p := ifB (decide ((↑i : Int) < (↑(List.map (fun p => [V.lst 2 (List.map sp p)]) L).length : Int))) (onSome (List.map (fun p => [V.lst 2 (List.map sp p)]) L)[i]? fun row => onSome row[0]? fun v => onLst v fun s es => ifB (decide (IntKind.i64.wrap (n + (↑es.length : Int)) < (0 : Int))) False (J (St.mk (mkT [(0, V.lst 1 (List.map (fun p => [V.lst 2 (List.map sp p)]) L)), (3, iv (IntKind.i64.wrap (n + (↑es.length : Int)))), (9, V.lst 1 (List.map (fun p => [V.lst 2 (List.map sp p)]) L)), (10, iv (↑(List.map (fun p => [V.lst 2 (List.map sp p)]) L).length : Int)), (11, iv (IntKind.i64.wrap ((↑i : Int) + (1 : Int))))]) (Hp.mk [] 0)))) (KB Try.prog (fun x => none) 102 [nilS, iv n] (Hp.mk [] 0) fun v => onLst v fun s es => guardB (s.beq 2 || s.beq 0) (Lp (kp97 2) (W Try.prog CM 36 kp97 2 (cdAt [1, 1, 1, 1, 0, 1, 0, 0] (bodyOf Try.f97))) (Qblk 2 (Qseq (W Try.prog CM 36 kp97 0 (cdAt [1, 1, 1, 1, 1] (bodyOf Try.f97))) (Qend0 Try.prog Try.f97 R))) (St.mk (mkT [(6, V.sl 0 0 es.length), (25, V.lst 1 (List.map (fun p => [V.lst 2 (List.map sp p)]) L)), (26, iv (↑(List.map (fun p => [V.lst 2 (List.map sp p)]) L).length : Int)), (27, iv (0 : Int))]) (Hp.mk [(0, O.rows 2 true es)] 1))))) (by kernel_rfl) ?_
  have hle := lens_le (L := L)
  refine ifB_mk (fun hb => ?_) (fun hb => ?_)
  · have hlt : i < L.length := by simp at hb; omega
    have h1 := hle (i + 1)
    rw [lens_take hlt] at h1
    have hw : IntKind.i64.wrap (n + ((List.map sp L[i]).length : Int)) = (lens (L.take (i + 1)) : Int) := by
      rw [lens_take hlt, List.length_map, wr (by omega) (by omega)]; omega
    refine row_at (List.getElem?_eq_getElem hlt) (ifB_mk (fun hb2 => ?_) (fun hb2 => ?_))
    · rw [hw] at hb2; simp at hb2; omega
    · rw [hw, wr (by omega) (by omega)]
      exact hJ (i + 1, _) ⟨hlt, rfl⟩ (by omega)
  · have he : i = L.length := by simp at hb; omega
    subst he
    rw [List.take_length] at hs
    have fin : ∀ s es, (s = 2 ∨ s = 0) → es = [] → onLst (V.lst s es) fun s es => guardB (s.beq 2 || s.beq 0) (Lp (kp97 2) (W Try.prog CM 36 kp97 2 (cdAt [1, 1, 1, 1, 0, 1, 0, 0] (bodyOf Try.f97))) (Qblk 2 (Qseq (W Try.prog CM 36 kp97 0 (cdAt [1, 1, 1, 1, 1] (bodyOf Try.f97))) (Qend0 Try.prog Try.f97 R)))
        (St.mk (mkT [(6, V.sl 0 0 es.length), (25, V.lst 1 (List.map (fun p => [V.lst 2 (List.map sp p)]) L)), (26, iv ((List.map (fun p => [V.lst 2 (List.map sp p)]) L).length : Int)), (27, iv 0)]) (Hp.mk [(0, O.rows 2 true es)] 1))) := by
      intro s es hs he
      subst he
      refine onLst_lst (guardB_mk (by rcases hs with rfl | rfl <;> rfl) ?_)
      refine Lp.of (σ := Nat × List Sp) (fun s => ⟨mkT [(6, .sl 0 0 s.2.length), (25, .lst 1 (L.map fun p => [pl p])), (26, iv ((L.map fun p => [pl p]).length : Int)), (27, iv (s.1 : Int))], ⟨[(0, .rows 2 true (sl2 s.2))], 1⟩⟩) (fun s => s.1 ≤ L.length ∧ s.2 = (L.take s.1).flatten) (fun s => L.length - s.1) (0, []) (by kernel_rfl) ⟨by simp, by simp⟩ ?_
      rintro ⟨i, a⟩ ⟨hi, ha⟩ J hJ
      simp only at hi ha
      refine see (p := ifB (decide ((↑i : Int) < (↑(List.map (fun p => [V.lst 2 (List.map sp p)]) L).length : Int))) (onSome (List.map (fun p => [V.lst 2 (List.map sp p)]) L)[i]? fun row => onSome row[0]? fun v => onLst v fun s es => guardB (s.beq 2 || es.isEmpty) (need ((a.length + es.length) * 16 ≤ 140737488355328) (J (St.mk (mkT [(6, V.sl 0 0 (a.length + es.length)), (25, V.lst 1 (List.map (fun p => [V.lst 2 (List.map sp p)]) L)), (26, iv (↑(List.map (fun p => [V.lst 2 (List.map sp p)]) L).length : Int)), (27, iv (IntKind.i64.wrap ((↑i : Int) + (1 : Int))))]) (Hp.mk [(0, O.rows 2 true (List.take a.length (sl2 a) ++ es))] 1))))) (R (V.lst 2 (sub (sl2 a) 0 a.length)))) (by kernel_rfl) ?_
      refine ifB_mk (fun hb => ?_) (fun hb => ?_)
      · have hlt : i < L.length := by simp at hb; omega
        have hlen : (L.take (i + 1)).flatten.length ≤ 1000000 := by rw [flat_len]; exact Nat.le_trans (hle _) hn
        rw [flat_take hlt, ← ha, List.length_append] at hlen
        refine row_at (List.getElem?_eq_getElem hlt) (guardB_mk rfl (need_mk ⟨by rw [List.length_map]; omega, ?_⟩))
        rw [wr (by omega) (by omega)]
        have := hJ (i + 1, a ++ L[i]) ⟨hlt, by simp only; rw [flat_take hlt, ha]⟩ (by omega)
        have e1 : List.take a.length (sl2 a) ++ List.map sp L[i] = sl2 (a ++ L[i]) := by
          unfold sl2; rw [List.map_append, List.take_of_length_le (by simp)]
        rw [e1, List.length_map]
        simp only [List.length_append] at this
        exact this
      · have he : i = L.length := by simp at hb; omega
        subst he
        rw [List.take_length] at ha
        have : sub (sl2 a) 0 a.length = List.map sp L.flatten := by
          unfold sub sl2; rw [List.drop_zero, List.take_of_length_le (by simp), ha]
        rw [this]; exact h
    refine grow102 (by omega) (by omega) (fun s hs => fin 2 [] (.inl rfl) rfl) (fun _ => fin 0 [] (.inr rfl) rfl)
end Go.Proofs.Ytahoindkdkhpmaa
