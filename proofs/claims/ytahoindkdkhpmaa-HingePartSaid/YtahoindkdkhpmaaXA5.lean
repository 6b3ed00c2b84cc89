/- A5: a part of the proof. -/
import Derived.Test.YtahoindkdkhpmaaXA4
namespace Go.Proofs.Ytahoindkdkhpmaa
open Go Go.Proofs.Ytahoindkdkhpmaa.Clean
set_option linter.unusedVariables false
set_option linter.unusedSimpArgs false
set_option maxRecDepth 10000

theorem hC38 : C38.ok Try.prog := callsM_ok knows48

/-! angles out of the table -/
theorem cl_drop : ∀ (m : Nat) (fs : List (Int × Int × Int)), List.drop (m * 3) (cl fs) = cl (fs.drop m)
  | 0, fs => by simp
  | m + 1, [] => by simp [cl]
  | m + 1, t :: fs => by
    rw [List.drop_succ_cons, ← cl_drop m fs, Nat.add_mul]
    simp [cl]
theorem tabC_cl : tabC = cl tabL := by kernel_rfl
/-- The angle with an index. -/
def angT (n : Int) : Int × Int × Int := tabL.getD n.toNat (1, 0, 1)
theorem tabC_drop {m : Nat} (h : m < 36) : ∃ r, List.drop (m * 3) tabC = iv (angT m).1 :: iv (angT m).2.1 :: iv (angT m).2.2 :: r := by
  have hl : m < tabL.length := h
  rw [tabC_cl, cl_drop, List.drop_eq_getElem_cons hl]
  have : angT (m : Int) = tabL[m] := by unfold angT; simp [List.getD, List.getElem?_eq_getElem hl]
  rw [this]
  exact ⟨_, rfl⟩
theorem tu_at0 {m : Nat} {k : Int → Int → Int → Prop} (h : m < 36) (hk : k (angT m).1 (angT m).2.1 (angT m).2.2) :
    onCons (List.drop (m * 3) tabC) fun u r => onIntK .i64 u fun a => onCons r fun u r => onIntK .i64 u fun b => onCons r fun u r => onIntK .i64 u fun c => k a b c := by
  obtain ⟨r, hr⟩ := tabC_drop h
  rw [hr]; exact hk
theorem tu_at {m : Nat} {k : Int → Int → Int → Prop} (h : m < 36) (hk : k (angT m).1 (angT m).2.1 (angT m).2.2) :
    onCons (List.drop (0 + m * 3) tabC) fun u r => onIntK .i64 u fun a => onCons r fun u r => onIntK .i64 u fun b => onCons r fun u r => onIntK .i64 u fun c => k a b c := by
  rw [Nat.zero_add]; exact tu_at0 h hk
structure Tu (t : Int × Int × Int) : Prop where
  sq : t.1 * t.1 + t.2.1 * t.2.1 = t.2.2 * t.2.2
  lo : 1 ≤ t.2.2
  hi : t.2.2 ≤ 25
  p : Bd 25 t.1
  q : Bd 25 t.2.1
theorem tab_ok : ∀ t ∈ tabL, t.1 * t.1 + t.2.1 * t.2.1 = t.2.2 * t.2.2 ∧ 1 ≤ t.2.2 ∧ t.2.2 ≤ 25 ∧ (-25 ≤ t.1 ∧ t.1 ≤ 25) ∧ (-25 ≤ t.2.1 ∧ t.2.1 ≤ 25) := by decide
theorem angT_ok (n : Int) : Tu (angT n) := by
  unfold angT
  rw [List.getD_eq_getElem?_getD]
  cases h : tabL[n.toNat]? with
  | none => exact ⟨by decide, by decide, by decide, ⟨by decide, by decide⟩, ⟨by decide, by decide⟩⟩
  | some t =>
    obtain ⟨h1, h2, h3, h4, h5⟩ := tab_ok t (List.mem_of_getElem? h)
    exact ⟨h1, h2, h3, h4, h5⟩
theorem Tu.ok {t : Int × Int × Int} (h : Tu t) : TuOK t := ⟨h.p, h.q, ⟨by have := h.lo; omega, h.hi⟩⟩

theorem angle16 {n : Int} {R : V → Prop} (h : R (if win n 0 35 = true then .tup [iv (angT n).1, iv (angT n).2.1, iv (angT n).2.2, iv 0] else .tup [iv 0, iv 0, iv 0, iv 2])) : K0 Try.prog 16 [iv n] R := by
  refine K0_of_W0 (kps := kp0) hM hmH Try.func16 (see (p := K0 Try.prog 47 [iv n, iv (0 : Int), iv (35 : Int)] fun v => onBool v fun b => ifB (!b) (R (V.tup [iv (0 : Int), iv (0 : Int), iv (0 : Int), iv (2 : Int)])) (onNat n fun m => need (m < 36) (onCons (List.drop (m * 3) tabC) fun u r => onIntK IntKind.i64 u fun n => onCons r fun u r => onIntK IntKind.i64 u fun n_1 => onCons r fun u r => onIntK IntKind.i64 u fun n_2 => R (V.tup [iv n, iv n_1, iv n_2, iv (0 : Int)])))) (by kernel_rfl) ?_)
  refine within47 (onBool_bv (ifB_mk (fun c => ?_) (fun c => ?_)))
  · simp at c; rw [c] at h; exact h
  · simp at c
    rw [c] at h
    have hw := win_iff.1 c
    obtain ⟨m, rfl⟩ : ∃ m : Nat, n = m := ⟨n.toNat, by omega⟩
    exact onNat_mk rfl (need_mk ⟨by omega, tu_at0 (by omega) h⟩)

/-! poses -/
theorem abs_le {p q d : Int} (h : p * p + q * q = d * d) (hd : 0 ≤ d) : Bd d p := by
  have hq : 0 ≤ q * q := by rcases Int.le_total 0 q with h | h; exact Int.mul_nonneg h h; exact Int.mul_nonneg_of_nonpos_of_nonpos h h
  have key : ∀ p : Int, p * p ≤ d * d → p ≤ d := fun p hp => by
    refine Classical.byContradiction fun hlt => ?_
    have h1 : d + 1 ≤ p := by omega
    have h2 : (d + 1) * (d + 1) ≤ p * p := Int.mul_le_mul h1 h1 (by omega) (by omega)
    have h3 : (d + 1) * (d + 1) = d * d + 2 * d + 1 := by grind
    omega
  refine ⟨?_, key p (by omega)⟩
  have := key (-p) (by rw [Int.neg_mul_neg]; omega)
  omega
structure PoGood (i : Nat) (z : Po) : Prop where
  sq : z.1 * z.1 + z.2.1 * z.2.1 = z.2.2.2.2 * z.2.2.2.2
  d1 : 1 ≤ z.2.2.2.2
  d2 : z.2.2.2.2 ≤ 25 ^ i
  x : Bd (200 * i * z.2.2.2.2) z.2.2.1
  y : Bd (200 * i * z.2.2.2.2) z.2.2.2.1
theorem PoGood.pq {i : Nat} {z : Po} (h : PoGood i z) : Bd z.2.2.2.2 z.1 ∧ Bd z.2.2.2.2 z.2.1 := by
  have := h.d1
  exact ⟨abs_le h.sq (by omega), abs_le (by rw [Int.add_comm]; exact h.sq) (by omega)⟩
theorem pow25 {i : Nat} (h : i ≤ 3) : (25 : Int) ^ i ≤ 15625 := by
  have : i = 0 ∨ i = 1 ∨ i = 2 ∨ i = 3 := by omega
  rcases this with h | h | h | h <;> subst h <;> decide
theorem PoGood.dle {i : Nat} {z : Po} (h : PoGood i z) (hi : i ≤ 3) : z.2.2.2.2 ≤ 15625 := Int.le_trans h.d2 (pow25 hi)
theorem PoGood.xle {i : Nat} {z : Po} (h : PoGood i z) (hi : i ≤ 3) : Bd 9375000 z.2.2.1 ∧ Bd 9375000 z.2.2.2.1 := by
  have hd := h.dle hi
  have hd1 := h.d1
  have : 200 * (i : Int) * z.2.2.2.2 ≤ 600 * 15625 := Int.mul_le_mul (by omega) hd (by omega) (by omega)
  exact ⟨h.x.le (by omega), h.y.le (by omega)⟩
theorem PoGood.ok {i : Nat} {z : Po} (h : PoGood i z) (hi : i ≤ 3) : PoOK 16000 20000000 z := by
  have hd := h.dle hi
  have hd1 := h.d1
  exact ⟨h.pq.1.le (by omega), h.pq.2.le (by omega), (h.xle hi).1.le (by decide), (h.xle hi).2.le (by decide), ⟨by omega, by omega⟩⟩
theorem start_good : PoGood 0 (1, 0, 0, 0, 1) := ⟨by decide, by decide, by decide, ⟨by decide, by decide⟩, ⟨by decide, by decide⟩⟩
theorem swing_good {i : Nat} {z : Po} {h : Hi} {t : Int × Int × Int} (hz : PoGood i z) (hh : HiOK h) (ht : Tu t) : PoGood (i + 1) (swingP z h t) := by
  have hd1 := hz.d1
  have hl := ht.lo
  have hh2 := ht.hi
  obtain ⟨hp, hq⟩ := hz.pq
  have hsq : (turnP z t).1 * (turnP z t).1 + (turnP z t).2.1 * (turnP z t).2.1 = (turnP z t).2.2.2.2 * (turnP z t).2.2.2.2 := by
    simp only [turnP]
    have h1 := hz.sq
    have h2 := ht.sq
    generalize z.1 = p at *
    generalize z.2.1 = q at *
    generalize z.2.2.2.2 = d at *
    generalize t.1 = a at *
    generalize t.2.1 = b at *
    generalize t.2.2 = r at *
    have e : (a * p - b * q) * (a * p - b * q) + (b * p + a * q) * (b * p + a * q) = (a * a + b * b) * (p * p + q * q) := by grind
    rw [e, h1, h2]; grind
  have hD : 1 ≤ t.2.2 * z.2.2.2.2 := by
    have : 1 * 1 ≤ t.2.2 * z.2.2.2.2 := Int.mul_le_mul hl hd1 (by omega) (by omega)
    omega
  have hT1 : Bd (t.2.2 * z.2.2.2.2) (turnP z t).1 := abs_le hsq (by show 0 ≤ t.2.2 * z.2.2.2.2; omega)
  have hT2 : Bd (t.2.2 * z.2.2.2.2) (turnP z t).2.1 := abs_le (by rw [Int.add_comm]; exact hsq) (by show 0 ≤ t.2.2 * z.2.2.2.2; omega)
  have hr : Bd t.2.2 t.2.2 := ⟨by omega, by omega⟩
  obtain ⟨a1, a2⟩ := place_bd hp hq hz.x hz.y hh.ax hh.ay
  obtain ⟨b1, b2⟩ := place_bd (D := t.2.2 * z.2.2.2.2) (X := 0) hT1 hT2 (p := turnP z t) ⟨by simp [turnP], by simp [turnP]⟩ ⟨by simp [turnP], by simp [turnP]⟩ hh.bx hh.b_y
  have e : t.2.2 * (z.2.2.2.2 * 50 + z.2.2.2.2 * 50 + 200 * (i : Int) * z.2.2.2.2) + (t.2.2 * z.2.2.2.2 * 50 + t.2.2 * z.2.2.2.2 * 50 + 0) = 200 * ((i + 1 : Nat) : Int) * (t.2.2 * z.2.2.2.2) := by
    rw [show ((i + 1 : Nat) : Int) = (i : Int) + 1 by omega]; grind
  refine ⟨hsq, hD, ?_, ?_, ?_⟩
  · show t.2.2 * z.2.2.2.2 ≤ 25 ^ (i + 1)
    rw [Int.pow_succ, Int.mul_comm (25 ^ i)]
    exact Int.mul_le_mul hh2 hz.d2 (by omega) (by omega)
  · show Bd (200 * ((i + 1 : Nat) : Int) * (t.2.2 * z.2.2.2.2)) _
    rw [← e]; exact (hr.mul a1).sub b1
  · show Bd (200 * ((i + 1 : Nat) : Int) * (t.2.2 * z.2.2.2.2)) _
    rw [← e]; exact (hr.mul a2).sub b2
theorem gcd_dvd_all : ∀ (l : List Int) (d : Nat), (l.foldl (fun d n => Nat.gcd d n.natAbs) d) ∣ d ∧ ∀ n ∈ l, ((l.foldl (fun d n => Nat.gcd d n.natAbs) d : Nat) : Int) ∣ n
  | [], d => ⟨Nat.dvd_refl _, by simp⟩
  | n :: l, d => by
    obtain ⟨h1, h2⟩ := gcd_dvd_all l (Nat.gcd d n.natAbs)
    rw [List.foldl_cons]
    refine ⟨Nat.dvd_trans h1 (Nat.gcd_dvd_left _ _), fun m hm => ?_⟩
    rcases List.mem_cons.1 hm with rfl | hm
    · exact Int.natAbs_dvd_natAbs.1 (by rw [Int.natAbs_natCast]; exact Nat.dvd_trans h1 (Nat.gcd_dvd_right _ _))
    · exact h2 m hm
theorem gcdP_dvd (z : Po) : ((gcdP z : Nat) : Int) ∣ z.1 ∧ ((gcdP z : Nat) : Int) ∣ z.2.1 ∧ ((gcdP z : Nat) : Int) ∣ z.2.2.1 ∧ ((gcdP z : Nat) : Int) ∣ z.2.2.2.1 ∧ ((gcdP z : Nat) : Int) ∣ z.2.2.2.2 := by
  have := (gcd_dvd_all [z.1, z.2.1, z.2.2.1, z.2.2.2.1, z.2.2.2.2] 0).2
  exact ⟨this _ (by simp), this _ (by simp), this _ (by simp), this _ (by simp), this _ (by simp)⟩
theorem tdiv_eq {g x : Int} (h : g ∣ x) (h0 : g ≠ 0) : ∃ y, x = g * y ∧ x.tdiv g = y := by
  obtain ⟨y, rfl⟩ := h
  exact ⟨y, rfl, Int.mul_tdiv_cancel_left y h0⟩
theorem gcdP_pos {z : Po} (h : 1 ≤ z.2.2.2.2) : gcdP z ≠ 0 := fun h0 => by
  have := (gcdP_dvd z).2.2.2.2
  rw [h0] at this
  have := Int.zero_dvd.1 this
  omega
theorem Bd.cancel {g A x : Int} (hg : 1 ≤ g) (h : Bd (g * A) (g * x)) : Bd A x := by
  unfold Bd at *
  have h1 : g * x ≤ g * A := h.2
  have h2 : g * (-A) ≤ g * x := by rw [Int.mul_neg]; exact h.1
  exact ⟨Int.le_of_mul_le_mul_left h2 (by omega), Int.le_of_mul_le_mul_left h1 (by omega)⟩
theorem low_good {i : Nat} {z : Po} (hz : PoGood i z) : PoGood i (lowP z) ∧ ∃ g : Int, 1 ≤ g ∧ z = (g * (lowP z).1, g * (lowP z).2.1, g * (lowP z).2.2.1, g * (lowP z).2.2.2.1, g * (lowP z).2.2.2.2) := by
  have h0 := gcdP_pos hz.d1
  obtain ⟨g, hg⟩ : ∃ g : Int, g = (gcdP z : Nat) := ⟨_, rfl⟩
  have hg1 : 1 ≤ g := by omega
  obtain ⟨d1, d2, d3, d4, d5⟩ := gcdP_dvd z
  rw [← hg] at d1 d2 d3 d4 d5
  obtain ⟨y1, e1, f1⟩ := tdiv_eq d1 (by omega)
  obtain ⟨y2, e2, f2⟩ := tdiv_eq d2 (by omega)
  obtain ⟨y3, e3, f3⟩ := tdiv_eq d3 (by omega)
  obtain ⟨y4, e4, f4⟩ := tdiv_eq d4 (by omega)
  obtain ⟨y5, e5, f5⟩ := tdiv_eq d5 (by omega)
  have hl : lowP z = (y1, y2, y3, y4, y5) := by unfold lowP; rw [← hg, f1, f2, f3, f4, f5]
  rw [hl]
  have hsq := hz.sq
  have hd1 := hz.d1
  have hd2 := hz.d2
  have hx := hz.x
  have hy := hz.y
  rw [e1, e2, e5] at hsq
  rw [e5] at hd1 hd2
  rw [e3, e5] at hx
  rw [e4, e5] at hy
  have y5pos : 1 ≤ y5 := by
    refine Classical.byContradiction fun hn => ?_
    have : g * y5 ≤ g * 0 := Int.mul_le_mul_of_nonneg_left (by omega) (by omega)
    omega
  refine ⟨⟨?_, y5pos, ?_, ?_, ?_⟩, g, hg1, ?_⟩
  · have e : (g * g) * (y1 * y1 + y2 * y2) = (g * g) * (y5 * y5) := by grind
    exact Int.eq_of_mul_eq_mul_left (by have : 1 * 1 ≤ g * g := Int.mul_le_mul hg1 hg1 (by omega) (by omega)
                                        omega) e
  · have : y5 ≤ g * y5 := by
      have : 1 * y5 ≤ g * y5 := Int.mul_le_mul_of_nonneg_right hg1 (by omega)
      omega
    exact Int.le_trans this hd2
  · refine Bd.cancel hg1 ?_
    rw [show g * (200 * (i : Int) * y5) = 200 * (i : Int) * (g * y5) by grind]; exact hx
  · refine Bd.cancel hg1 ?_
    rw [show g * (200 * (i : Int) * y5) = 200 * (i : Int) * (g * y5) by grind]; exact hy
  · obtain ⟨z1, z2, z3, z4, z5⟩ := z
    simp only at e1 e2 e3 e4 e5
    simp only [Prod.mk.injEq]
    exact ⟨e1, e2, e3, e4, e5⟩

/-- The pose of the panel k. -/
def noHi : Hi := ((0, 0), (0, 0), 0)
def pz (hs : List Hi) : Nat → Po
  | 0 => (1, 0, 0, 0, 1)
  | k + 1 => lowP (swingP (pz hs k) (hs.getD k noHi) (angT (hs.getD k noHi).2.2))
def pzs (hs : List Hi) : List Po := (List.range (hs.length + 1)).map (pz hs)
theorem hiB_ok {h : Hi} (k : hiB h = true) : HiOK h ∧ 0 ≤ h.2.2 ∧ h.2.2 ≤ 35 := by
  simp only [hiB, Bool.and_eq_true] at k
  have h1 := spB_iff.1 k.1.1
  have h2 := spB_iff.1 k.1.2
  exact ⟨⟨h1.1, h1.2, h2.1, h2.2⟩, win_iff.1 k.2⟩
theorem hi_getD {hs : List Hi} {i : Nat} (h : i < hs.length) : hs[i]? = some (hs.getD i noHi) := by simp [List.getD, List.getElem?_eq_getElem h]
theorem hi_getD_ok {hs : List Hi} (hh : hs.all hiB = true) {i : Nat} (h : i < hs.length) : HiOK (hs.getD i noHi) ∧ 0 ≤ (hs.getD i noHi).2.2 ∧ (hs.getD i noHi).2.2 ≤ 35 :=
  hiB_ok (List.all_eq_true.1 hh _ (List.mem_of_getElem? (hi_getD h)))
theorem pz_good {hs : List Hi} (hh : hs.all hiB = true) : ∀ k, k ≤ hs.length → PoGood k (pz hs k)
  | 0, _ => start_good
  | k + 1, hk => (low_good (swing_good (pz_good hh k (by omega)) (hi_getD_ok hh (by omega)).1 (angT_ok _))).1
theorem po_at {l : List Po} {i : Nat} {x : Po} {k : Int → Int → Int → Int → Int → Prop} (h : l[i]? = some x) (hk : k x.1 x.2.1 x.2.2.1 x.2.2.2.1 x.2.2.2.2) :
    onSome (List.map po l)[i]? fun row => onCons (List.drop 0 row) fun u r => onIntK .i64 u fun a => onCons r fun u r => onIntK .i64 u fun b => onCons r fun u r => onIntK .i64 u fun c => onCons r fun u r => onIntK .i64 u fun d => onCons r fun u r => onIntK .i64 u fun e => k a b c d e :=
  onSome_mk (x := po x) (by simp [h]) hk
theorem pzs_length (hs : List Hi) : (pzs hs).length = hs.length + 1 := by simp [pzs]
theorem pzs_get {hs : List Hi} {i : Nat} (h : i ≤ hs.length) : (pzs hs)[i]? = some (pz hs i) := by simp [pzs, Nat.lt_succ_of_le h]

theorem poses54 {ps : List (List Sp)} {hs : List Hi} {R : V → Prop} (hl : hs.length ≤ 3) (hh : hs.all hiB = true) (h : R (.lst 5 ((pzs hs).map po))) : K0 Try.prog 54 [tabV, .agg (lk (ps, hs))] R := by
  refine K0_of_W0 (kps := kp54) hM hmH Try.func54 (see (p := K0 Try.prog 75 [] fun v => onAgg v fun cs => onCons cs fun u r => onIntK IntKind.i64 u fun n => onCons r fun u r => onIntK IntKind.i64 u fun n_1 => onCons r fun u r => onIntK IntKind.i64 u fun n_2 => onCons r fun u r => onIntK IntKind.i64 u fun n_3 => onCons r fun u r => onIntK IntKind.i64 u fun n_4 => onNil r (Lp (kp54 0) (W Try.prog CM 34 kp54 0 (cdAt [1, 1, 0, 1, 0, 0] (bodyOf Try.f54))) (Qblk 0 (Qseq (W Try.prog CM 34 kp54 0 (cdAt [1, 1, 1] (bodyOf Try.f54))) (Qend0 Try.prog Try.f54 R))) (St.mk (mkT [(2, V.ptr 0 0 0), (5, V.sl 1 0 1), (11, V.lst 5 (List.map hi hs)), (12, iv (↑(List.map hi hs).length : Int)), (13, iv (0 : Int))]) (Hp.mk [(0, O.rows 108 true [tabC]), (1, O.rows 5 true [[iv n, iv n_1, iv n_2, iv n_3, iv n_4]])] 3)))) (by kernel_rfl) ?_)
  refine start75 ?_
  refine Lp.of (σ := Nat × List Po) (fun s => ⟨mkT [(2, .ptr 0 0 0), (5, .sl 1 0 s.2.length), (11, .lst 5 (hs.map hi)), (12, iv ((hs.map hi).length : Int)), (13, iv (s.1 : Int))], ⟨[(0, .rows 108 true [tabC]), (1, .rows 5 true (s.2.map po))], 3⟩⟩) (fun s => s.1 ≤ hs.length ∧ s.2 = (List.range (s.1 + 1)).map (pz hs)) (fun s => hs.length - s.1) (0, [(1, 0, 0, 0, 1)]) (by kernel_rfl) ⟨by simp, rfl⟩ ?_
  rintro ⟨i, a⟩ ⟨hi', ha⟩ J hJ
  simp only at hi' ha
  refine see (p := ifB (decide ((↑i : Int) < (↑(List.map hi hs).length : Int))) (onSome (List.map hi hs)[i]? fun row => onCons (List.drop 0 row) fun u r => onIntK IntKind.i64 u fun n => onCons r fun u r => onIntK IntKind.i64 u fun n_1 => onCons r fun u r => onIntK IntKind.i64 u fun n_2 => onCons r fun u r => onIntK IntKind.i64 u fun n_3 => onCons r fun u r => onIntK IntKind.i64 u fun n_4 => need (i < a.length) (onSome (List.map po a)[0 + i]? fun row => onCons (List.drop 0 row) fun u r => onIntK IntKind.i64 u fun n_5 => onCons r fun u r => onIntK IntKind.i64 u fun n_6 => onCons r fun u r => onIntK IntKind.i64 u fun n_7 => onCons r fun u r => onIntK IntKind.i64 u fun n_8 => onCons r fun u r => onIntK IntKind.i64 u fun n_9 => onNat n_4 fun m => need (m < 36) (onCons (List.drop (0 + m * 3) tabC) fun u r => onIntK IntKind.i64 u fun n_10 => onCons r fun u r => onIntK IntKind.i64 u fun n_11 => onCons r fun u r => onIntK IntKind.i64 u fun n_12 => K0 Try.prog 74 [V.agg [iv n_5, iv n_6, iv n_7, iv n_8, iv n_9], V.agg [iv n, iv n_1, iv n_2, iv n_3, iv n_4], V.agg [iv n_10, iv n_11, iv n_12]] fun v => onAgg v fun cs => onCons cs fun u r => onIntK IntKind.i64 u fun n => onCons r fun u r => onIntK IntKind.i64 u fun n_13 => onCons r fun u r => onIntK IntKind.i64 u fun n_14 => onCons r fun u r => onIntK IntKind.i64 u fun n_15 => onCons r fun u r => onIntK IntKind.i64 u fun n_16 => onNil r (K0 Try.prog 84 [V.agg [iv n, iv n_13, iv n_14, iv n_15, iv n_16]] fun v => onAgg v fun cs => onCons cs fun u r => onIntK IntKind.i64 u fun n => onCons r fun u r => onIntK IntKind.i64 u fun n_17 => onCons r fun u r => onIntK IntKind.i64 u fun n_18 => onCons r fun u r => onIntK IntKind.i64 u fun n_19 => onCons r fun u r => onIntK IntKind.i64 u fun n_20 => onNil r (need ((a.length + 1) * 40 ≤ 140737488355328) (J (St.mk (mkT [(2, V.ptr 0 0 0), (5, V.sl 1 0 (a.length + 1)), (11, V.lst 5 (List.map hi hs)), (12, iv (↑(List.map hi hs).length : Int)), (13, iv (IntKind.i64.wrap ((↑i : Int) + (1 : Int))))]) (Hp.mk [(0, O.rows 108 true [tabC]), (1, O.rows 5 true (List.take a.length (List.map po a) ++ [[iv n, iv n_17, iv n_18, iv n_19, iv n_20]]))] 3)))))))) (R (V.lst 5 (sub (List.map po a) 0 a.length)))) (by kernel_rfl) ?_
  have hal : a.length = i + 1 := by rw [ha]; simp
  refine ifB_mk (fun hb => ?_) (fun hb => ?_)
  · have hlt : i < hs.length := by simp at hb; omega
    obtain ⟨k1, k2, k3⟩ := hi_getD_ok hh hlt
    have hg := pz_good hh i hi'
    refine hi_at (hi_getD hlt) (need_mk ⟨by omega, po_at (x := pz hs i) (by rw [Nat.zero_add, ha]; simp) ?_⟩)
    have ht := angT_ok (hs.getD i noHi).2.2
    have hm : (hs.getD i noHi).2.2 = (((hs.getD i noHi).2.2.toNat : Nat) : Int) := by omega
    refine onNat_mk hm (need_mk ⟨by omega, tu_at (by omega) ?_⟩)
    rw [← hm]
    refine swing74 (p := pz hs i) (h := hs.getD i noHi) (t := angT (hs.getD i noHi).2.2) (hg.ok (by omega)) k1 ht.ok ?_
    have hsw := swing_good hg k1 ht
    have hsok := hsw.ok (by omega)
    refine lowest84 (p := swingP (pz hs i) (hs.getD i noHi) (angT (hs.getD i noHi).2.2)) ⟨hsok.p.le (by decide), hsok.q.le (by decide), hsok.x.le (by decide), hsok.y.le (by decide), hsok.d.le (by decide)⟩ (gcdP_pos hsw.d1) ?_
    refine need_mk ⟨by omega, ?_⟩
    rw [wr (by omega) (by omega)]
    have := hJ (i + 1, a ++ [pz hs (i + 1)]) ⟨hlt, by simp only; rw [List.range_succ, List.map_append, ← ha]; rfl⟩ (by omega)
    simp only [List.length_append, List.length_singleton, List.map_append] at this
    rw [List.take_of_length_le (by simp)]
    exact this
  · have he : i = hs.length := by simp at hb; omega
    subst he
    rw [sub_all _ (by simp), ha]; exact h

theorem linB_ok {l : Li} (h : linB l = true) : 1 ≤ l.1.length ∧ l.1.length ≤ 4 ∧ l.2.length + 1 = l.1.length ∧ (∀ p ∈ l.1, panB p = true) ∧ l.2.all hiB = true := by
  simp only [linB, Bool.and_eq_true, decide_eq_true_iff] at h
  have := win_iff.1 h.1.1.1
  exact ⟨by omega, by omega, by have := h.1.1.2; omega, List.all_eq_true.1 h.1.2, h.2⟩
structure LiSz (l : Li) : Prop where
  ps : l.1.length ≤ 1000000000
  hs : l.2.length ≤ 1000000000
  each : ∀ p ∈ l.1, p.length ≤ 1000000000
theorem poses21 {l : Li} {R : V → Prop} (hs : LiSz l) (h : R (if linB l = true then .tup [.lst 5 ((pzs l.2).map po), iv 0] else .tup [nilS, iv 50])) : K0 Try.prog 21 [.agg (lk l)] R := by
  obtain ⟨ps, hs'⟩ := l
  refine K0_of_W0 (kps := kp0) hM hmH Try.func21 (see (p := K0 Try.prog 24 [V.agg [V.lst 1 (List.map (fun p => [V.lst 2 (List.map sp p)]) ps), V.lst 5 (List.map hi hs')]] fun v => onIntK IntKind.i64 v fun n => ifB (n != (0 : Int)) (R (V.tup [nilS, iv n])) (K0 Try.prog 54 [V.agg tabC, V.agg [V.lst 1 (List.map (fun p => [V.lst 2 (List.map sp p)]) ps), V.lst 5 (List.map hi hs')]] fun v => onLst v fun s es => R (V.tup [V.lst s es, iv (0 : Int)]))) (by kernel_rfl) ?_)
  refine check24 hs.ps hs.hs hs.each (onIntK_iv ?_)
  cases hl : linB (ps, hs') with
  | false => rw [hl] at h; exact h
  | true =>
    rw [hl] at h
    obtain ⟨h1, h2, h3, h4, h5⟩ := linB_ok hl
    refine poses54 (by simp only at h2 h3; omega) h5 (onLst_lst h)

/-! panels where they are -/
def panAt (z : Po) (p : List Sp) : Pd := (p.map (place z), z.2.2.2.2)
def pans (l : Li) : List Pd := (List.range l.1.length).map fun i => panAt (pz l.2 i) (l.1.getD i [])
theorem panB_ok {p : List Sp} (h : panB p = true) : 3 ≤ p.length ∧ p.length ≤ 8 ∧ (∀ s ∈ p, SpOK s) ∧ convB p = true := by
  simp only [panB, Bool.and_eq_true] at h
  have := win_iff.1 h.1.1
  exact ⟨by omega, by omega, fun s hs => spB_iff.1 (List.all_eq_true.1 h.1.2 s hs), h.2⟩
theorem pan_getD {ps : List (List Sp)} {i : Nat} (h : i < ps.length) : ps[i]? = some (ps.getD i []) := by simp [List.getD, List.getElem?_eq_getElem h]
theorem panels57 {l : Li} {R : V → Prop} (hl : linB l = true) (h : R (.lst 2 ((pans l).map pd))) : K0 Try.prog 57 [tabV, .agg (lk l)] R := by
  obtain ⟨ps, hs⟩ := l
  obtain ⟨h1, h2, h3, h4, h5⟩ := linB_ok hl
  simp only at h1 h2 h3 h4 h5
  refine K0_of_W0 (kps := kp57) hC38 hmH Try.func57 (see (p := K0 Try.prog 54 [V.agg tabC, V.agg [V.lst 1 (List.map (fun p => [V.lst 2 (List.map sp p)]) ps), V.lst 5 (List.map hi hs)]] fun v => onLst v fun s es => Lp (kp57 0) (W Try.prog C38 46 kp57 0 (cdAt [1, 1, 0, 1, 0, 0] (bodyOf Try.f57))) (Qblk 0 (Qseq (W Try.prog C38 46 kp57 0 (cdAt [1, 1, 1] (bodyOf Try.f57))) (Qend0 Try.prog Try.f57 R))) (St.mk (mkT [(3, V.ptr 1 0 0), (5, V.sl 0 0 0), (13, V.lst s es), (14, iv (↑es.length : Int)), (15, iv (0 : Int))]) (Hp.mk [(0, O.rows 2 true []), (1, O.rows 2 true [[V.lst 1 (List.map (fun p => [V.lst 2 (List.map sp p)]) ps), V.lst 5 (List.map hi hs)]])] 4))) (by kernel_rfl) ?_)
  refine poses54 (by omega) h5 (onLst_lst ?_)
  obtain ⟨z, hz⟩ : ∃ z, z = pzs hs := ⟨_, rfl⟩
  rw [← hz]
  have hzl : z.length = ps.length := by rw [hz, pzs_length]; exact h3
  refine Lp.of (σ := Nat × List Pd) (fun s => ⟨mkT [(3, .ptr 1 0 0), (5, .sl 0 0 s.2.length), (13, .lst 5 (z.map po)), (14, iv ((z.map po).length : Int)), (15, iv (s.1 : Int))], ⟨[(0, .rows 2 true (s.2.map pd)), (1, .rows 2 true [[.lst 1 (ps.map fun p => [pl p]), .lst 5 (hs.map hi)]])], 4⟩⟩)
    (fun s => s.1 ≤ ps.length ∧ s.2 = (List.range s.1).map fun i => panAt (pz hs i) (ps.getD i [])) (fun s => ps.length - s.1) (0, []) (by kernel_rfl) ⟨by simp, rfl⟩ ?_
  rintro ⟨i, a⟩ ⟨hi', ha⟩ J hJ
  simp only at hi' ha
  refine see (p := ifB (decide ((↑i : Int) < (↑(List.map po z).length : Int))) (onSome (List.map po z)[i]? fun row => onCons (List.drop 0 row) fun u r => onIntK IntKind.i64 u fun n => onCons r fun u r => onIntK IntKind.i64 u fun n_1 => onCons r fun u r => onIntK IntKind.i64 u fun n_2 => onCons r fun u r => onIntK IntKind.i64 u fun n_3 => onCons r fun u r => onIntK IntKind.i64 u fun n_4 => onSome (List.map (fun p => [V.lst 2 (List.map sp p)]) ps)[i]? fun row => onSome row[0]? fun v => onLst v fun s es => Lp (kp57 2) (W Try.prog C38 46 kp57 2 (cdAt [1, 1, 0, 1, 0, 0, 1, 1, 0, 0, 1, 1, 0, 1, 0, 0] (bodyOf Try.f57))) (Qblk 2 (Qseq (W Try.prog C38 46 kp57 1 (cdAt [1, 1, 0, 1, 0, 0, 1, 1, 0, 0, 1, 1, 1] (bodyOf Try.f57))) (Qblk 1 (Qseq (W Try.prog C38 46 kp57 0 (cdAt [1, 1, 0, 1, 0, 0, 1, 1, 1] (bodyOf Try.f57))) (Qlp (kp57 0) J (Qblk 0 (Qseq (W Try.prog C38 46 kp57 0 (cdAt [1, 1, 1] (bodyOf Try.f57))) (Qend0 Try.prog Try.f57 R)))))))) (St.mk (mkT [(3, V.ptr 1 0 0), (5, V.sl 0 0 a.length), (7, V.ptr 2 0 0), (8, V.sl 3 0 0), (13, V.lst 5 (List.map po z)), (14, iv (↑(List.map po z).length : Int)), (15, iv (↑i : Int)), (24, V.lst s es), (25, iv (↑es.length : Int)), (26, iv (0 : Int))]) (Hp.mk [(3, O.rows 2 true []), (0, O.rows 2 true (List.map pd a)), (1, O.rows 2 true [[V.lst 1 (List.map (fun p => [V.lst 2 (List.map sp p)]) ps), V.lst 5 (List.map hi hs)]]), (2, O.rows 5 true [[iv n, iv n_1, iv n_2, iv n_3, iv n_4]])] 8))) (R (V.lst 2 (sub (List.map pd a) 0 a.length)))) (by kernel_rfl) ?_
  have hal : a.length = i := by rw [ha]; simp
  refine ifB_mk (fun hb => ?_) (fun hb => ?_)
  · have hlt : i < ps.length := by simp at hb; omega
    obtain ⟨p, hp⟩ : ∃ p, p = ps.getD i [] := ⟨_, rfl⟩
    obtain ⟨x, hx⟩ : ∃ x, x = pz hs i := ⟨_, rfl⟩
    have hpo := panB_ok (h4 p (by rw [hp]; exact List.mem_of_getElem? (pan_getD hlt)))
    have hgood := pz_good h5 i (by omega)
    rw [← hx] at hgood
    have hok := hgood.ok (by omega)
    refine po_at (x := x) (by rw [hz, hx]; exact pzs_get (by omega)) (row_at (p := p) (by rw [hp]; exact pan_getD hlt) ?_)
    refine Lp.of (σ := Nat × List Sp) (fun s => ⟨mkT [(3, .ptr 1 0 0), (5, .sl 0 0 a.length), (7, .ptr 2 0 0), (8, .sl 3 0 s.2.length), (13, .lst 5 (z.map po)), (14, iv ((z.map po).length : Int)), (15, iv (i : Int)), (24, pl p), (25, iv ((p.map sp).length : Int)), (26, iv (s.1 : Int))], ⟨[(3, .rows 2 true (s.2.map sp)), (0, .rows 2 true (a.map pd)), (1, .rows 2 true [[.lst 1 (ps.map fun p => [pl p]), .lst 5 (hs.map hi)]]), (2, .rows 5 true [po x])], 8⟩⟩)
      (fun s => s.1 ≤ p.length ∧ s.2 = (p.take s.1).map (place x)) (fun s => p.length - s.1) (0, []) (by kernel_rfl) ⟨by simp, by simp⟩ ?_
    rintro ⟨j, c⟩ ⟨hj, hc⟩ J1 hJ1
    simp only at hj hc
    refine see (p := ifB (decide ((↑j : Int) < (↑(List.map sp p).length : Int))) (onSome (List.map sp p)[j]? fun row => onCons (List.drop 0 row) fun u r => onIntK IntKind.i64 u fun n => onCons r fun u r => onIntK IntKind.i64 u fun n_1 => K0 Try.prog 86 [V.agg [iv x.1, iv x.2.1, iv x.2.2.1, iv x.2.2.2.1, iv x.2.2.2.2], V.agg [iv n, iv n_1]] fun v => onAgg v fun cs => onCons cs fun u r => onIntK IntKind.i64 u fun n => onCons r fun u r => onIntK IntKind.i64 u fun n_2 => onNil r (need ((c.length + 1) * 16 ≤ 140737488355328) (J1 (St.mk (mkT [(3, V.ptr 1 0 0), (5, V.sl 0 0 a.length), (7, V.ptr 2 0 0), (8, V.sl 3 0 (c.length + 1)), (13, V.lst 5 (List.map po z)), (14, iv (↑(List.map po z).length : Int)), (15, iv (↑i : Int)), (24, V.lst 2 (List.map sp p)), (25, iv (↑(List.map sp p).length : Int)), (26, iv (IntKind.i64.wrap ((↑j : Int) + (1 : Int))))]) (Hp.mk [(3, O.rows 2 true (List.take c.length (List.map sp c) ++ [[iv n, iv n_2]])), (0, O.rows 2 true (List.map pd a)), (1, O.rows 2 true [[V.lst 1 (List.map (fun p => [V.lst 2 (List.map sp p)]) ps), V.lst 5 (List.map hi hs)]]), (2, O.rows 5 true [[iv x.1, iv x.2.1, iv x.2.2.1, iv x.2.2.2.1, iv x.2.2.2.2]])] 8))))) (need ((a.length + 1) * 32 ≤ 140737488355328) (J (St.mk (mkT [(3, V.ptr 1 0 0), (5, V.sl 0 0 (a.length + 1)), (13, V.lst 5 (List.map po z)), (14, iv (↑(List.map po z).length : Int)), (15, iv (IntKind.i64.wrap ((↑i : Int) + (1 : Int))))]) (Hp.mk [(0, O.rows 2 true (List.take a.length (List.map pd a) ++ [[V.lst 2 (sub (List.map sp c) 0 c.length), iv x.2.2.2.2]])), (1, O.rows 2 true [[V.lst 1 (List.map (fun p => [V.lst 2 (List.map sp p)]) ps), V.lst 5 (List.map hi hs)]])] 4))))) (by kernel_rfl) ?_
    have hcl : c.length = j := by rw [hc]; simp; omega
    refine ifB_mk (fun hb2 => ?_) (fun hb2 => ?_)
    · have hjl : j < p.length := by simp at hb2; omega
      have hso := hpo.2.2.1 p[j] (List.getElem_mem hjl)
      refine sp_at (List.getElem?_eq_getElem hjl) (place86 (p := x) (s := p[j]) (hok.p.le (by decide)) (hok.q.le (by decide)) (hok.x.le (by decide)) (hok.y.le (by decide)) hso.1 hso.2 ?_)
      refine need_mk ⟨by omega, ?_⟩
      rw [wr (by omega) (by omega)]
      have := hJ1 (j + 1, c ++ [place x p[j]]) ⟨hjl, by simp only; rw [List.take_succ_eq_append_getElem hjl, List.map_append, hc]; rfl⟩ (by omega)
      simp only [List.length_append, List.length_singleton, List.map_append] at this
      rw [List.take_of_length_le (by simp)]
      exact this
    · have hje : j = p.length := by simp at hb2; omega
      subst hje
      rw [List.take_length] at hc
      refine need_mk ⟨by omega, ?_⟩
      rw [wr (by omega) (by omega), sub_all _ (by simp)]
      have := hJ (i + 1, a ++ [panAt x p]) ⟨hlt, by simp only; rw [List.range_succ, List.map_append, ha, hx, hp]; rfl⟩ (by omega)
      simp only [List.length_append, List.length_singleton, List.map_append] at this
      rw [List.take_of_length_le (by simp)]
      rw [hc]
      exact this
  · have he : i = ps.length := by simp [hzl] at hb; omega
    subst he
    rw [sub_all _ (by simp), ha]; exact h
end Go.Proofs.Ytahoindkdkhpmaa
