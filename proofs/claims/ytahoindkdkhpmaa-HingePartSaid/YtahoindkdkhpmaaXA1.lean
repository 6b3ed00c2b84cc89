/- A1: a part of the proof. -/
import Derived.Test.YtahoindkdkhpmaaXSeatR
import Derived.Test.YtahoindkdkhpmaaXCX
namespace Go.Proofs.Ytahoindkdkhpmaa
open Go Go.Proofs.Ytahoindkdkhpmaa.Clean
set_option linter.unusedVariables false
set_option linter.unusedSimpArgs false
set_option maxRecDepth 10000

theorem hN : CN.ok Try.prog := callsM_ok fun _ _ h => by cases h
theorem hmH : Try.prog.follows .mixedOrders = true := by kernel_rfl

/-! bounds -/
/-- At most A, up or down. -/
def Bd (A x : Int) : Prop := -A ≤ x ∧ x ≤ A
theorem Bd.le {A B x : Int} (h : Bd A x) (hAB : A ≤ B) : Bd B x := by unfold Bd at *; omega
theorem Bd.neg {A x : Int} (h : Bd A x) : Bd A (-x) := by unfold Bd at *; omega
theorem Bd.add {A B x y : Int} (h : Bd A x) (k : Bd B y) : Bd (A + B) (x + y) := by unfold Bd at *; omega
theorem Bd.sub {A B x y : Int} (h : Bd A x) (k : Bd B y) : Bd (A + B) (x - y) := by unfold Bd at *; omega
theorem Bd.abs {A x : Int} : Bd A x ↔ (x.natAbs : Int) ≤ A := by unfold Bd; omega
theorem Bd.mul {A B x y : Int} (h : Bd A x) (k : Bd B y) : Bd (A * B) (x * y) := by
  rw [Bd.abs] at *
  rw [Int.natAbs_mul, Int.natCast_mul]
  exact Int.mul_le_mul h k (by omega) (by omega)
theorem Bd.tdiv {A x : Int} (h : Bd A x) (n : Int) : Bd A (x.tdiv n) := by
  rw [Bd.abs] at *
  rw [Int.natAbs_tdiv]
  have : x.natAbs.div n.natAbs ≤ x.natAbs := Nat.div_le_self x.natAbs n.natAbs
  omega
theorem Bd.wr {A x : Int} (h : Bd A x) (hA : A ≤ 9223372036854775807 := by decide) : IntKind.i64.wrap x = x := by unfold Bd at h; exact Clean.wr (by omega) (by omega)

/-- from lo to hi -/
def win (n lo hi : Int) : Bool := decide (lo ≤ n) && decide (n ≤ hi)
theorem win_iff {n lo hi : Int} : win n lo hi = true ↔ lo ≤ n ∧ n ≤ hi := by simp [win]

theorem within47 {n lo hi : Int} {R : V → Prop} (h : R (bv (win n lo hi))) : K0 Try.prog 47 [iv n, iv lo, iv hi] R := by
  refine K0_of_W0 (kps := kp0) hN hmH Try.func47 (see (p := ifB (decide (lo ≤ n)) (R (bv (decide (n ≤ hi)))) (R (bv false))) (by kernel_rfl) ?_)
  cases hd : decide (lo ≤ n) <;> simpa [ifB, hd, win] using h

/-! the greatest common divisor -/
def gcdl (l : List Int) : Nat := l.foldl (fun d n => Nat.gcd d n.natAbs) 0
theorem gcdl_take {l : List Int} {i : Nat} (h : i < l.length) : gcdl (l.take (i + 1)) = Nat.gcd (gcdl (l.take i)) l[i].natAbs := by
  unfold gcdl
  rw [List.take_succ_eq_append_getElem h, List.foldl_append]
  rfl
theorem tmod_abs (d n : Int) : (d.tmod n).natAbs = d.natAbs % n.natAbs := by
  rw [Int.natAbs_tmod]
theorem gcdl_le {A : Int} : ∀ (l : List Int) (d : Nat), (∀ n ∈ l, Bd A n) → (d : Int) ≤ A → ((l.foldl (fun d n => Nat.gcd d n.natAbs) d : Nat) : Int) ≤ A
  | [], d, _, hd => hd
  | n :: l, d, h, hd => by
    rw [List.foldl_cons]
    refine gcdl_le l _ (fun m hm => h m (by simp [hm])) ?_
    have h1 := Bd.abs.1 (h n (by simp))
    by_cases h0 : n.natAbs = 0
    · rw [h0, Nat.gcd_zero_right]; exact hd
    · have := Nat.gcd_le_right d (Nat.pos_of_ne_zero h0); omega

theorem divisor78 {l : List Int} {R : V → Prop} (hl : ∀ n ∈ l, Bd 1000000000000000000 n) (hlen : l.length ≤ 1000000) (h : R (iv (gcdl l : Int))) : K0 Try.prog 78 [.lst 1 (il l)] R := by
  refine K0_of_W0 (kps := kp78) hN hmH Try.func78 (see (p := Lp (kp78 0) (W Try.prog CN 23 kp78 0 (cdAt [1, 1, 0, 1, 0, 0] (bodyOf Try.f78))) (Qblk 0 (Qseq (W Try.prog CN 23 kp78 0 (cdAt [1, 1, 1] (bodyOf Try.f78))) (Qend0 Try.prog Try.f78 R))) (St.mk (mkT [(3, iv (0 : Int)), (6, V.lst 1 (il l)), (7, iv (↑(il l).length : Int)), (8, iv (0 : Int))]) (Hp.mk [] 0))) (by kernel_rfl) ?_)
  refine Lp.of (σ := Nat × Int) (fun s => ⟨mkT [(3, iv s.2), (6, V.lst 1 (il l)), (7, iv ((il l).length : Int)), (8, iv (s.1 : Int))], ⟨[], 0⟩⟩) (fun s => s.1 ≤ l.length ∧ s.2.natAbs = gcdl (l.take s.1)) (fun s => l.length - s.1) (0, 0) (by kernel_rfl) ⟨by simp, rfl⟩ ?_
  rintro ⟨i, d⟩ ⟨hi, hd⟩ J hJ
  refine see (p := ifB (decide ((↑i : Int) < (↑(il l).length : Int))) (onSome (il l)[i]? fun row => onSome row[0]? fun v => onIntK IntKind.i64 v fun n => Lp (kp78 2) (W Try.prog CN 23 kp78 2 (cdAt [1, 1, 0, 1, 0, 0, 1, 1, 0, 0, 1, 0, 0] (bodyOf Try.f78))) (Qblk 2 (Qblk 1 (Qseq (W Try.prog CN 23 kp78 0 (cdAt [1, 1, 0, 1, 0, 0, 1, 1, 1] (bodyOf Try.f78))) (Qlp (kp78 0) J (Qblk 0 (Qseq (W Try.prog CN 23 kp78 0 (cdAt [1, 1, 1] (bodyOf Try.f78))) (Qend0 Try.prog Try.f78 R))))))) (St.mk (mkT [(3, iv d), (5, iv n), (6, V.lst 1 (il l)), (7, iv (↑(il l).length : Int)), (8, iv (↑i : Int))]) (Hp.mk [] 0))) (R (iv (if IntKind.i64.wrap ((0 : Int) - d) > d then IntKind.i64.wrap ((0 : Int) - d) else d)))) (by kernel_rfl) ?_
  simp only at hi hd
  have hbd : ∀ i, i ≤ l.length → ((gcdl (l.take i) : Nat) : Int) ≤ 1000000000000000000 := fun i _ => gcdl_le _ 0 (fun n hn => hl n (List.mem_of_mem_take hn)) (by omega)
  refine ifB_mk (fun hb => ?_) (fun hb => ?_)
  · have hlt : i < l.length := by simp [il_length] at hb; omega
    refine el (x := l[i]) (List.getElem?_eq_getElem hlt) ?_
    refine Lp.of (σ := Int × Int) (fun s => ⟨mkT [(3, iv s.1), (5, iv s.2), (6, V.lst 1 (il l)), (7, iv ((il l).length : Int)), (8, iv (i : Int))], ⟨[], 0⟩⟩) (fun s => Nat.gcd s.1.natAbs s.2.natAbs = gcdl (l.take (i + 1)) ∧ Bd 1000000000000000000 s.1 ∧ Bd 1000000000000000000 s.2) (fun s => s.2.natAbs) (d, l[i]) (by kernel_rfl) ⟨by simp only; rw [gcdl_take hlt, hd], Bd.abs.2 (by rw [hd]; exact hbd i hi), hl _ (List.getElem_mem _)⟩ ?_
    rintro ⟨d, n⟩ ⟨hg, hd', hn'⟩ J1 hJ1
    simp only at hg hd' hn'
    refine see (p := ifB (n != (0 : Int)) (need (n ≠ (0 : Int)) (J1 (St.mk (mkT [(3, iv n), (5, iv (d.tmod n)), (6, V.lst 1 (il l)), (7, iv (↑(il l).length : Int)), (8, iv (↑i : Int))]) (Hp.mk [] 0)))) (J (St.mk (mkT [(3, iv d), (6, V.lst 1 (il l)), (7, iv (↑(il l).length : Int)), (8, iv (IntKind.i64.wrap ((↑i : Int) + (1 : Int))))]) (Hp.mk [] 0)))) (by kernel_rfl) ?_
    refine ifB_mk (fun hb => ?_) (fun hb => ?_)
    · have hn0 : n ≠ 0 := by simpa using hb
      have hlt' : (d.tmod n).natAbs < n.natAbs := by rw [tmod_abs]; exact Nat.mod_lt _ (by omega)
      refine need_mk ⟨hn0, hJ1 (n, d.tmod n) ⟨?_, hn', ?_⟩ hlt'⟩
      · simp only; rw [tmod_abs, ← hg, Nat.gcd_comm, ← Nat.gcd_rec, Nat.gcd_comm]
      · rw [Bd.abs] at *; omega
    · have hn0 : n = 0 := by simpa using hb
      subst hn0
      rw [wr (by omega) (by omega)]
      exact hJ (i + 1, d) ⟨hlt, by simp only; rw [← hg]; simp⟩ (by omega)
  · have he : i = l.length := by simp [il_length] at hb; omega
    subst he
    rw [List.take_length] at hd
    have := hbd l.length (Nat.le_refl _)
    rw [List.take_length] at this
    have hw : IntKind.i64.wrap (0 - d) = -d := by rw [wr (by omega) (by omega)]; omega
    rw [hw]
    have : (if -d > d then -d else d) = (gcdl l : Int) := by split <;> omega
    rw [this]; exact h

/-! places -/
def place (p : Po) (s : Sp) : Sp := (p.1 * s.1 - p.2.1 * s.2 + p.2.2.1, p.2.1 * s.1 + p.1 * s.2 + p.2.2.2.1)
theorem place_bd {D X : Int} {p : Po} {s : Sp} (h1 : Bd D p.1) (h2 : Bd D p.2.1) (h3 : Bd X p.2.2.1) (h4 : Bd X p.2.2.2.1) (hs : Bd 50 s.1) (ht : Bd 50 s.2) : Bd (D * 50 + D * 50 + X) (place p s).1 ∧ Bd (D * 50 + D * 50 + X) (place p s).2 :=
  ⟨((h1.mul hs).sub (h2.mul ht)).add h3, ((h2.mul hs).add (h1.mul ht)).add h4⟩
theorem place86 {p : Po} {s : Sp} {R : V → Prop} (h1 : Bd 1000000 p.1) (h2 : Bd 1000000 p.2.1) (h3 : Bd 1000000000 p.2.2.1) (h4 : Bd 1000000000 p.2.2.2.1) (hs : Bd 50 s.1) (ht : Bd 50 s.2) (h : R (.agg (sp (place p s)))) :
    K0 Try.prog 86 [.agg (po p), .agg (sp s)] R := by
  refine K0_of_W0 (kps := kp0) hN hmH Try.func86 (see (p := R (V.agg [iv (IntKind.i64.wrap (IntKind.i64.wrap (IntKind.i64.wrap (p.1 * s.1) - IntKind.i64.wrap (p.2.1 * s.2)) + p.2.2.1)), iv (IntKind.i64.wrap (IntKind.i64.wrap (IntKind.i64.wrap (p.2.1 * s.1) + IntKind.i64.wrap (p.1 * s.2)) + p.2.2.2.1))])) (by kernel_rfl) ?_)
  rw [(h1.mul hs).wr, (h2.mul ht).wr, (h2.mul hs).wr, (h1.mul ht).wr, ((h1.mul hs).sub (h2.mul ht)).wr, ((h2.mul hs).add (h1.mul ht)).wr, (((h1.mul hs).sub (h2.mul ht)).add h3).wr, (((h2.mul hs).add (h1.mul ht)).add h4).wr]
  exact h

/-- The pose of the next panel, not in lowest terms. -/
def turnP (p : Po) (t : Int × Int × Int) : Po := (t.1 * p.1 - t.2.1 * p.2.1, t.2.1 * p.1 + t.1 * p.2.1, 0, 0, t.2.2 * p.2.2.2.2)
def swingP (p : Po) (h : Hi) (t : Int × Int × Int) : Po :=
  ((turnP p t).1, (turnP p t).2.1, t.2.2 * (place p h.1).1 - (place (turnP p t) h.2.1).1, t.2.2 * (place p h.1).2 - (place (turnP p t) h.2.1).2, (turnP p t).2.2.2.2)
/-- P, Q and D are at most A, X and Y at most B. -/
structure PoOK (A B : Int) (z : Po) : Prop where
  p : Bd A z.1
  q : Bd A z.2.1
  x : Bd B z.2.2.1
  y : Bd B z.2.2.2.1
  d : Bd A z.2.2.2.2
structure HiOK (h : Hi) : Prop where
  ax : Bd 50 h.1.1
  ay : Bd 50 h.1.2
  bx : Bd 50 h.2.1.1
  b_y : Bd 50 h.2.1.2
structure TuOK (t : Int × Int × Int) : Prop where
  p : Bd 25 t.1
  q : Bd 25 t.2.1
  r : Bd 25 t.2.2
theorem turnP_ok {p : Po} {t : Int × Int × Int} (hp : PoOK 16000 20000000 p) (ht : TuOK t) : PoOK 800000 0 (turnP p t) :=
  ⟨Bd.le (B := 800000) ((ht.p.mul hp.p).sub (ht.q.mul hp.q)) (by decide), Bd.le (B := 800000) ((ht.q.mul hp.p).add (ht.p.mul hp.q)) (by decide), ⟨by simp [turnP], by simp [turnP]⟩, ⟨by simp [turnP], by simp [turnP]⟩, Bd.le (B := 800000) (ht.r.mul hp.d) (by decide)⟩
theorem swing74 {p : Po} {h : Hi} {t : Int × Int × Int} {R : V → Prop} (hp : PoOK 16000 20000000 p) (hh : HiOK h) (ht : TuOK t) (hr : R (.agg (po (swingP p h t)))) :
    K0 Try.prog 74 [.agg (po p), .agg (hi h), .agg [iv t.1, iv t.2.1, iv t.2.2]] R := by
  refine K0_of_W0 (kps := kp0) hN hmH Try.func74 (see (p := K0 Try.prog 86 [V.agg [iv p.1, iv p.2.1, iv p.2.2.1, iv p.2.2.2.1, iv p.2.2.2.2], V.agg [iv h.1.1, iv h.1.2]] fun v => onAgg v fun cs => onCons cs fun u r => onIntK IntKind.i64 u fun n => onCons r fun u r => onIntK IntKind.i64 u fun n_1 => onNil r (K0 Try.prog 86 [V.agg [iv (IntKind.i64.wrap (IntKind.i64.wrap (t.1 * p.1) - IntKind.i64.wrap (t.2.1 * p.2.1))), iv (IntKind.i64.wrap (IntKind.i64.wrap (t.2.1 * p.1) + IntKind.i64.wrap (t.1 * p.2.1))), iv (0 : Int), iv (0 : Int), iv (IntKind.i64.wrap (t.2.2 * p.2.2.2.2))], V.agg [iv h.2.1.1, iv h.2.1.2]] fun v => onAgg v fun cs => onCons cs fun u r => onIntK IntKind.i64 u fun n_2 => onCons r fun u r => onIntK IntKind.i64 u fun n_3 => onNil r (R (V.agg [iv (IntKind.i64.wrap (IntKind.i64.wrap (t.1 * p.1) - IntKind.i64.wrap (t.2.1 * p.2.1))), iv (IntKind.i64.wrap (IntKind.i64.wrap (t.2.1 * p.1) + IntKind.i64.wrap (t.1 * p.2.1))), iv (IntKind.i64.wrap (IntKind.i64.wrap (t.2.2 * n) - n_2)), iv (IntKind.i64.wrap (IntKind.i64.wrap (t.2.2 * n_1) - n_3)), iv (IntKind.i64.wrap (t.2.2 * p.2.2.2.2))])))) (by kernel_rfl) ?_)
  have hT := turnP_ok hp ht
  have w0 : IntKind.i64.wrap (t.1 * p.1) = t.1 * p.1 := (ht.p.mul hp.p).wr
  have w1 : IntKind.i64.wrap (t.2.1 * p.2.1) = t.2.1 * p.2.1 := (ht.q.mul hp.q).wr
  have w2 : IntKind.i64.wrap (t.2.1 * p.1) = t.2.1 * p.1 := (ht.q.mul hp.p).wr
  have w3 : IntKind.i64.wrap (t.1 * p.2.1) = t.1 * p.2.1 := (ht.p.mul hp.q).wr
  have w4 : IntKind.i64.wrap (t.2.2 * p.2.2.2.2) = t.2.2 * p.2.2.2.2 := (ht.r.mul hp.d).wr
  have w5 : IntKind.i64.wrap (t.1 * p.1 - t.2.1 * p.2.1) = t.1 * p.1 - t.2.1 * p.2.1 := hT.p.wr
  have w6 : IntKind.i64.wrap (t.2.1 * p.1 + t.1 * p.2.1) = t.2.1 * p.1 + t.1 * p.2.1 := hT.q.wr
  rw [w0, w1, w2, w3, w4, w5, w6]
  refine place86 (p := p) (s := h.1) (hp.p.le (by decide)) (hp.q.le (by decide)) (hp.x.le (by decide)) (hp.y.le (by decide)) hh.ax hh.ay ?_
  have b1 := place_bd hp.p hp.q hp.x hp.y hh.ax hh.ay
  have b2 := place_bd hT.p hT.q hT.x hT.y hh.bx hh.b_y
  refine place86 (p := turnP p t) (s := h.2.1) (hT.p.le (by decide)) (hT.q.le (by decide)) (hT.x.le (by decide)) (hT.y.le (by decide)) hh.bx hh.b_y ?_
  show R _
  rw [(ht.r.mul b1.1).wr, (ht.r.mul b1.2).wr, ((ht.r.mul b1.1).sub b2.1).wr, ((ht.r.mul b1.2).sub b2.2).wr]
  exact hr
theorem start75 {R : V → Prop} (h : R (.agg (po (1, 0, 0, 0, 1)))) : K0 Try.prog 75 [] R := by
  refine K0_of_W0 (kps := kp0) hN hmH Try.func75 (see (p := R (V.agg [iv (1 : Int), iv (0 : Int), iv (0 : Int), iv (0 : Int), iv (1 : Int)])) (by kernel_rfl) ?_)
  exact h
/-- lowest terms -/
def gcdP (p : Po) : Nat := gcdl [p.1, p.2.1, p.2.2.1, p.2.2.2.1, p.2.2.2.2]
def lowP (p : Po) : Po := (p.1.tdiv (gcdP p), p.2.1.tdiv (gcdP p), p.2.2.1.tdiv (gcdP p), p.2.2.2.1.tdiv (gcdP p), p.2.2.2.2.tdiv (gcdP p))
theorem lowest84 {p : Po} {R : V → Prop} (hp : PoOK 1000000000 1000000000 p) (h0 : gcdP p ≠ 0) (h : R (.agg (po (lowP p)))) : K0 Try.prog 84 [.agg (po p)] R := by
  refine K0_of_W0 (kps := kp0) hN hmH Try.func84 (see (p := K0 Try.prog 78 [V.lst 1 [[iv p.1], [iv p.2.1], [iv p.2.2.1], [iv p.2.2.2.1], [iv p.2.2.2.2]]] fun v => onIntK IntKind.i64 v fun n => need (n ≠ (0 : Int)) (need (n ≠ (0 : Int)) (need (n ≠ (0 : Int)) (need (n ≠ (0 : Int)) (need (n ≠ (0 : Int)) (R (V.agg [iv (IntKind.i64.wrap (p.1.tdiv n)), iv (IntKind.i64.wrap (p.2.1.tdiv n)), iv (IntKind.i64.wrap (p.2.2.1.tdiv n)), iv (IntKind.i64.wrap (p.2.2.2.1.tdiv n)), iv (IntKind.i64.wrap (p.2.2.2.2.tdiv n))]))))))) (by kernel_rfl) ?_)
  refine divisor78 (l := [p.1, p.2.1, p.2.2.1, p.2.2.2.1, p.2.2.2.2]) (fun n hn => ?_) (by simp) (onIntK_iv ?_)
  · simp at hn
    rcases hn with rfl | rfl | rfl | rfl | rfl
    · exact hp.p.le (by decide)
    · exact hp.q.le (by decide)
    · exact hp.x.le (by decide)
    · exact hp.y.le (by decide)
    · exact hp.d.le (by decide)
  · have hne : ((gcdP p : Nat) : Int) ≠ 0 := by omega
    refine need_mk ⟨hne, need_mk ⟨hne, need_mk ⟨hne, need_mk ⟨hne, need_mk ⟨hne, ?_⟩⟩⟩⟩⟩
    show R _
    rw [(hp.p.tdiv _).wr, (hp.q.tdiv _).wr, (hp.x.tdiv _).wr, (hp.y.tdiv _).wr, (hp.d.tdiv _).wr]
    exact h
end Go.Proofs.Ytahoindkdkhpmaa
