/- A7: a part of the proof. -/
import Derived.Test.YtahoindkdkhpmaaXA6
namespace Go.Proofs.Ytahoindkdkhpmaa
open Go Go.Proofs.Ytahoindkdkhpmaa.Clean
set_option linter.unusedVariables false
set_option linter.unusedSimpArgs false
set_option maxRecDepth 20000

/-! where a panel is: the program -/
theorem pans_get {l : Li} {m : Nat} (h : m < l.1.length) : (pans l)[m]? = some (panAt (pz l.2 m) (l.1.getD m [])) := by simp [pans, h]
theorem pd_at {l : List Pd} {i : Nat} {x : Pd} {k : Nat → List (List V) → Int → Prop} (h : l[i]? = some x) (hk : k 2 (x.1.map sp) x.2) :
    onSome (List.map pd l)[i]? fun row => onCons (List.drop 0 row) fun u r => onLst u fun s es => onCons r fun u r => onIntK .i64 u fun n => k s es n :=
  onSome_mk (x := pd x) (by simp [h]) hk
def cornR (l : Li) (i : Int) : V := if linB l = true then (if win i 0 (l.1.length - 1) = true then .tup [pl (panAt (pz l.2 i.toNat) (l.1.getD i.toNat [])).1, iv (pz l.2 i.toNat).2.2.2.2, iv 0] else .tup [nilS, iv 0, iv 2]) else .tup [nilS, iv 0, iv 50]
theorem wr_len {α : Type} {l : List α} (h : l.length ≤ 1000000000) : IntKind.i64.wrap ((l.length : Int) - 1) = (l.length : Int) - 1 := wr (by omega) (by omega)
theorem corners26 {l : Li} {i : Int} {R : V → Prop} (hs : LiSz l) (h : R (cornR l i)) : K0 Try.prog 26 [.agg (lk l), iv i] R := by
  refine K0_of_W0 (kps := kp0) hM hmH Try.func26 (see (p := K0 Try.prog 24 [V.agg [V.lst 1 (List.map (fun p => [V.lst 2 (List.map sp p)]) l.1), V.lst 5 (List.map hi l.2)]] fun v => onIntK IntKind.i64 v fun n => ifB (n != (0 : Int)) (R (V.tup [nilS, iv (0 : Int), iv n])) (K0 Try.prog 47 [iv i, iv (0 : Int), iv (IntKind.i64.wrap ((↑(List.map (fun p => [V.lst 2 (List.map sp p)]) l.1).length : Int) - (1 : Int)))] fun v => onBool v fun b => ifB (!b) (R (V.tup [nilS, iv (0 : Int), iv (2 : Int)])) (K0 Try.prog 57 [V.agg tabC, V.agg [V.lst 1 (List.map (fun p => [V.lst 2 (List.map sp p)]) l.1), V.lst 5 (List.map hi l.2)]] fun v => onLst v fun s es => onNat i fun m => need (s = 2) (onSome es[m]? fun row => onCons (List.drop 0 row) fun u r => onLst u fun s es => onCons r fun u r => onIntK IntKind.i64 u fun n => R (V.tup [V.lst s es, iv n, iv (0 : Int)]))))) (by kernel_rfl) ?_)
  refine check24 (ps := l.1) (hs := l.2) hs.ps hs.hs hs.each (onIntK_iv ?_)
  unfold cornR at h
  cases hl : linB l with
  | false => rw [hl] at h; exact h
  | true =>
    rw [hl] at h
    rw [if_pos rfl] at h
    refine ifB_mk (fun hb => by simp at hb) (fun _ => ?_)
    rw [wr_len (by have := hs.ps; simpa using this), List.length_map]
    refine within47 (onBool_bv ?_)
    refine ifB_mk (fun hb => ?_) (fun hb => ?_)
    · rw [if_neg (by simpa using hb)] at h; exact h
    · have hw : win i 0 (l.1.length - 1) = true := by simpa using hb
      rw [if_pos hw] at h
      have hw := win_iff.1 hw
      obtain ⟨m, hm⟩ : ∃ m : Nat, i = (m : Int) := ⟨i.toNat, by omega⟩
      subst hm
      rw [Int.toNat_natCast] at h
      refine panels57 hl (onLst_lst (onNat_mk rfl (need_mk ⟨rfl, pd_at (pans_get (by omega)) h⟩)))

/-! the gap: the program -/
def plcB (a b : Sp) : Bool := spB a && spB b
def plcC (l : Li) (a b : Sp) : Int := if linB l = true then (if plcB a b = true then 0 else 2) else 50
theorem checkPlaces59 {l : Li} {a b : Sp} {R : V → Prop} (hs : LiSz l) (h : R (iv (plcC l a b))) : K0 Try.prog 59 [.agg (lk l), .agg (sp a), .agg (sp b)] R := by
  refine K0_of_W0 (kps := kp0) hM hmH Try.func59 (see (p := K0 Try.prog 24 [V.agg [V.lst 1 (List.map (fun p => [V.lst 2 (List.map sp p)]) l.1), V.lst 5 (List.map hi l.2)]] fun v => onIntK IntKind.i64 v fun n => ifB (n != (0 : Int)) (R (iv n)) (K0 Try.prog 51 [V.lst 2 [[iv a.1, iv a.2], [iv b.1, iv b.2]]] fun v => onBool v fun b => ifB (!b) (R (iv (2 : Int))) (R (iv (0 : Int))))) (by kernel_rfl) ?_)
  refine check24 (ps := l.1) (hs := l.2) hs.ps hs.hs hs.each (onIntK_iv ?_)
  unfold plcC at h
  cases hl : linB l with
  | false => rw [hl] at h; exact h
  | true =>
    rw [hl] at h
    rw [if_pos rfl] at h
    refine ifB_mk (fun hb => by simp at hb) (fun _ => ?_)
    refine areSpots51 (l := [a, b]) (by simp) (onBool_bv ?_)
    have he : spsB [a, b] = plcB a b := by simp [spsB, plcB]
    rw [he]
    cases hp : plcB a b with
    | false => rw [hp] at h; exact h
    | true => rw [hp] at h; exact h
def gapZ (z : Po) (a b : Sp) : Sp := ((place z a).1 - b.1 * z.2.2.2.2, (place z a).2 - b.2 * z.2.2.2.2)
theorem gap60 {z : Po} {a b : Sp} {R : V → Prop} (hz : PoOK 16000 20000000 z) (ha : SpOK a) (hb : SpOK b) (h : R (.agg (sp (gapZ z a b)))) : K0 Try.prog 60 [.agg (po z), .agg (sp a), .agg (sp b)] R := by
  refine K0_of_W0 (kps := kp0) hM hmH Try.func60 (see (p := K0 Try.prog 86 [V.agg [iv z.1, iv z.2.1, iv z.2.2.1, iv z.2.2.2.1, iv z.2.2.2.2], V.agg [iv a.1, iv a.2]] fun v => onAgg v fun cs => onCons cs fun u r => onIntK IntKind.i64 u fun n => onCons r fun u r => onIntK IntKind.i64 u fun n_1 => onNil r (R (V.agg [iv (IntKind.i64.wrap (n - IntKind.i64.wrap (b.1 * z.2.2.2.2))), iv (IntKind.i64.wrap (n_1 - IntKind.i64.wrap (b.2 * z.2.2.2.2)))]))) (by kernel_rfl) ?_)
  refine place86 (p := z) (s := a) (hz.p.le (by decide)) (hz.q.le (by decide)) (hz.x.le (by decide)) (hz.y.le (by decide)) ha.1 ha.2 ?_
  have b1 := place_bd hz.p hz.q hz.x hz.y ha.1 ha.2
  show R _
  rw [(hb.1.mul hz.d).wr, (hb.2.mul hz.d).wr, (b1.1.sub (hb.1.mul hz.d)).wr, (b1.2.sub (hb.2.mul hz.d)).wr]
  exact h
def gapR (l : Li) (a b : Sp) : V := if plcC l a b = 0 then .tup [iv (gapZ (pz l.2 l.2.length) a b).1, iv (gapZ (pz l.2 l.2.length) a b).2, iv (pz l.2 l.2.length).2.2.2.2, iv 0] else .tup [iv 0, iv 0, iv 0, iv (plcC l a b)]
theorem plcC_ok {l : Li} {a b : Sp} (h : plcC l a b = 0) : linB l = true ∧ SpOK a ∧ SpOK b := by
  unfold plcC at h
  cases hl : linB l with
  | false => rw [hl] at h; simp at h
  | true =>
    rw [hl] at h
    cases hp : plcB a b with
    | false => rw [hp] at h; simp at h
    | true =>
      simp only [plcB, Bool.and_eq_true] at hp
      exact ⟨rfl, spB_iff.1 hp.1, spB_iff.1 hp.2⟩
theorem gap29 {l : Li} {a b : Sp} {R : V → Prop} (hs : LiSz l) (h : R (gapR l a b)) : K0 Try.prog 29 [.agg (lk l), .agg (sp a), .agg (sp b)] R := by
  refine K0_of_W0 (kps := kp0) hM hmH Try.func29 (see (p := K0 Try.prog 59 [V.agg [V.lst 1 (List.map (fun p => [V.lst 2 (List.map sp p)]) l.1), V.lst 5 (List.map hi l.2)], V.agg [iv a.1, iv a.2], V.agg [iv b.1, iv b.2]] fun v => onIntK IntKind.i64 v fun n => ifB (n != (0 : Int)) (R (V.tup [iv (0 : Int), iv (0 : Int), iv (0 : Int), iv n])) (K0 Try.prog 54 [V.agg tabC, V.agg [V.lst 1 (List.map (fun p => [V.lst 2 (List.map sp p)]) l.1), V.lst 5 (List.map hi l.2)]] fun v => onLst v fun s es => need (s = 5) (onSome es[(List.map hi l.2).length]? fun row => onCons (List.drop 0 row) fun u r => onIntK IntKind.i64 u fun n => onCons r fun u r => onIntK IntKind.i64 u fun n_1 => onCons r fun u r => onIntK IntKind.i64 u fun n_2 => onCons r fun u r => onIntK IntKind.i64 u fun n_3 => onCons r fun u r => onIntK IntKind.i64 u fun n_4 => K0 Try.prog 60 [V.agg [iv n, iv n_1, iv n_2, iv n_3, iv n_4], V.agg [iv a.1, iv a.2], V.agg [iv b.1, iv b.2]] fun v => onAgg v fun cs => onCons cs fun u r => onIntK IntKind.i64 u fun n => onCons r fun u r => onIntK IntKind.i64 u fun n_5 => onNil r (R (V.tup [iv n, iv n_5, iv n_4, iv (0 : Int)]))))) (by kernel_rfl) ?_)
  refine checkPlaces59 (l := l) (a := a) (b := b) hs (onIntK_iv ?_)
  unfold gapR at h
  refine ifB_mk (fun hb => ?_) (fun hb => ?_)
  · rw [if_neg (by simpa using hb)] at h; exact h
  · have h0 : plcC l a b = 0 := by simpa using hb
    rw [if_pos h0] at h
    obtain ⟨hl, ha, hb'⟩ := plcC_ok h0
    obtain ⟨h1, h2, h3, h4, h5⟩ := linB_ok hl
    refine poses54 (ps := l.1) (hs := l.2) (by omega) h5 (onLst_lst (need_mk ⟨rfl, ?_⟩))
    refine po_at (x := pz l.2 l.2.length) (by rw [List.length_map]; exact pzs_get (Nat.le_refl _)) ?_
    exact gap60 (z := pz l.2 l.2.length) (a := a) (b := b) ((pz_good h5 l.2.length (Nat.le_refl _)).ok (by omega)) ha hb' h

/-! the specification's poses -/
theorem at45 {p : Po} {s : Sp} {R : V → Prop} (h1 : Bd 1000000 p.1) (h2 : Bd 1000000 p.2.1) (h3 : Bd 1000000000 p.2.2.1) (h4 : Bd 1000000000 p.2.2.2.1) (hs : Bd 50 s.1) (ht : Bd 50 s.2) (h : R (.agg (sp (place p s)))) :
    K0 Try.prog 45 [.agg (po p), .agg (sp s)] R := by
  refine K0_of_W0 (kps := kp0) hM hmH Try.func45 (see (p := R (V.agg [iv (IntKind.i64.wrap (IntKind.i64.wrap (IntKind.i64.wrap (p.1 * s.1) - IntKind.i64.wrap (p.2.1 * s.2)) + p.2.2.1)), iv (IntKind.i64.wrap (IntKind.i64.wrap (IntKind.i64.wrap (p.2.1 * s.1) + IntKind.i64.wrap (p.1 * s.2)) + p.2.2.2.1))])) (by kernel_rfl) ?_)
  rw [(h1.mul hs).wr, (h2.mul ht).wr, (h2.mul hs).wr, (h1.mul ht).wr, ((h1.mul hs).sub (h2.mul ht)).wr, ((h2.mul hs).add (h1.mul ht)).wr, (((h1.mul hs).sub (h2.mul ht)).add h3).wr, (((h2.mul hs).add (h1.mul ht)).add h4).wr]
  exact h
theorem gcd_natAbs {A : Int} {a b : Int} (ha : Bd A a) (hb : Bd A b) : Bd A (Nat.gcd a.natAbs b.natAbs : Int) := by
  rw [Bd.abs] at *
  rw [Int.natAbs_natCast]
  by_cases h : 0 < a.natAbs
  · have := Nat.gcd_le_left b.natAbs h
    omega
  · have : a.natAbs = 0 := by omega
    rw [this, Nat.gcd_zero_left]; exact hb
theorem lowest99 {p : Po} {R : V → Prop} (hp : PoOK 1000000000 1000000000 p) (h0 : gcdP p ≠ 0) (h : R (.agg (po (lowP p)))) : K0 Try.prog 99 [.agg (po p)] R := by
  refine K0_of_W0 (kps := kp0) hM hmH Try.func99 (see (p := K0 Try.prog 79 [iv p.1, iv p.2.1] fun v => onIntK IntKind.i64 v fun n => K0 Try.prog 79 [iv p.2.2.1, iv p.2.2.2.1] fun v => onIntK IntKind.i64 v fun n_1 => K0 Try.prog 79 [iv n, iv n_1] fun v => onIntK IntKind.i64 v fun n => K0 Try.prog 79 [iv n, iv p.2.2.2.2] fun v => onIntK IntKind.i64 v fun n => need (n ≠ (0 : Int)) (need (n ≠ (0 : Int)) (need (n ≠ (0 : Int)) (need (n ≠ (0 : Int)) (need (n ≠ (0 : Int)) (R (V.agg [iv (IntKind.i64.wrap (p.1.tdiv n)), iv (IntKind.i64.wrap (p.2.1.tdiv n)), iv (IntKind.i64.wrap (p.2.2.1.tdiv n)), iv (IntKind.i64.wrap (p.2.2.2.1.tdiv n)), iv (IntKind.i64.wrap (p.2.2.2.2.tdiv n))]))))))) (by kernel_rfl) ?_)
  have g1 := gcd_natAbs hp.p hp.q
  have g2 := gcd_natAbs hp.x hp.y
  have g3 := gcd_natAbs g1 g2
  refine divisor79 (hp.p.le (by decide)) (hp.q.le (by decide)) (onIntK_iv ?_)
  refine divisor79 (hp.x.le (by decide)) (hp.y.le (by decide)) (onIntK_iv ?_)
  refine divisor79 (g1.le (by decide)) (g2.le (by decide)) (onIntK_iv ?_)
  refine divisor79 (g3.le (by decide)) (hp.d.le (by decide)) (onIntK_iv ?_)
  simp only [Int.natAbs_natCast]
  have he : Nat.gcd (Nat.gcd (Nat.gcd p.1.natAbs p.2.1.natAbs) (Nat.gcd p.2.2.1.natAbs p.2.2.2.1.natAbs)) p.2.2.2.2.natAbs = gcdP p := by
    simp only [gcdP, gcdl, List.foldl, Nat.gcd_zero_left, Nat.gcd_assoc]
  simp only [he]
  have hne : ((gcdP p : Nat) : Int) ≠ 0 := by omega
  refine need_mk ⟨hne, need_mk ⟨hne, need_mk ⟨hne, need_mk ⟨hne, need_mk ⟨hne, ?_⟩⟩⟩⟩⟩
  rw [(hp.p.tdiv _).wr, (hp.q.tdiv _).wr, (hp.x.tdiv _).wr, (hp.y.tdiv _).wr, (hp.d.tdiv _).wr]
  exact h
def tuV (t : Int × Int × Int) : V := .agg [iv t.1, iv t.2.1, iv t.2.2]
theorem turn98' : ∀ k, k < 36 → K0 Try.prog 98 [iv ((k : Nat) : Int)] fun v => v = tuV (angT (k : Int))
  | 0, _ => K0_ran hmH (fun g => !(Nat.beq g 73)) knows48 500 Try.func98 (by kernel_rfl)
  | 1, _ => K0_ran hmH (fun g => !(Nat.beq g 73)) knows48 500 Try.func98 (by kernel_rfl)
  | 2, _ => K0_ran hmH (fun g => !(Nat.beq g 73)) knows48 500 Try.func98 (by kernel_rfl)
  | 3, _ => K0_ran hmH (fun g => !(Nat.beq g 73)) knows48 500 Try.func98 (by kernel_rfl)
  | 4, _ => K0_ran hmH (fun g => !(Nat.beq g 73)) knows48 500 Try.func98 (by kernel_rfl)
  | 5, _ => K0_ran hmH (fun g => !(Nat.beq g 73)) knows48 500 Try.func98 (by kernel_rfl)
  | 6, _ => K0_ran hmH (fun g => !(Nat.beq g 73)) knows48 500 Try.func98 (by kernel_rfl)
  | 7, _ => K0_ran hmH (fun g => !(Nat.beq g 73)) knows48 500 Try.func98 (by kernel_rfl)
  | 8, _ => K0_ran hmH (fun g => !(Nat.beq g 73)) knows48 500 Try.func98 (by kernel_rfl)
  | 9, _ => K0_ran hmH (fun g => !(Nat.beq g 73)) knows48 500 Try.func98 (by kernel_rfl)
  | 10, _ => K0_ran hmH (fun g => !(Nat.beq g 73)) knows48 500 Try.func98 (by kernel_rfl)
  | 11, _ => K0_ran hmH (fun g => !(Nat.beq g 73)) knows48 500 Try.func98 (by kernel_rfl)
  | 12, _ => K0_ran hmH (fun g => !(Nat.beq g 73)) knows48 500 Try.func98 (by kernel_rfl)
  | 13, _ => K0_ran hmH (fun g => !(Nat.beq g 73)) knows48 500 Try.func98 (by kernel_rfl)
  | 14, _ => K0_ran hmH (fun g => !(Nat.beq g 73)) knows48 500 Try.func98 (by kernel_rfl)
  | 15, _ => K0_ran hmH (fun g => !(Nat.beq g 73)) knows48 500 Try.func98 (by kernel_rfl)
  | 16, _ => K0_ran hmH (fun g => !(Nat.beq g 73)) knows48 500 Try.func98 (by kernel_rfl)
  | 17, _ => K0_ran hmH (fun g => !(Nat.beq g 73)) knows48 500 Try.func98 (by kernel_rfl)
  | 18, _ => K0_ran hmH (fun g => !(Nat.beq g 73)) knows48 500 Try.func98 (by kernel_rfl)
  | 19, _ => K0_ran hmH (fun g => !(Nat.beq g 73)) knows48 500 Try.func98 (by kernel_rfl)
  | 20, _ => K0_ran hmH (fun g => !(Nat.beq g 73)) knows48 500 Try.func98 (by kernel_rfl)
  | 21, _ => K0_ran hmH (fun g => !(Nat.beq g 73)) knows48 500 Try.func98 (by kernel_rfl)
  | 22, _ => K0_ran hmH (fun g => !(Nat.beq g 73)) knows48 500 Try.func98 (by kernel_rfl)
  | 23, _ => K0_ran hmH (fun g => !(Nat.beq g 73)) knows48 500 Try.func98 (by kernel_rfl)
  | 24, _ => K0_ran hmH (fun g => !(Nat.beq g 73)) knows48 500 Try.func98 (by kernel_rfl)
  | 25, _ => K0_ran hmH (fun g => !(Nat.beq g 73)) knows48 500 Try.func98 (by kernel_rfl)
  | 26, _ => K0_ran hmH (fun g => !(Nat.beq g 73)) knows48 500 Try.func98 (by kernel_rfl)
  | 27, _ => K0_ran hmH (fun g => !(Nat.beq g 73)) knows48 500 Try.func98 (by kernel_rfl)
  | 28, _ => K0_ran hmH (fun g => !(Nat.beq g 73)) knows48 500 Try.func98 (by kernel_rfl)
  | 29, _ => K0_ran hmH (fun g => !(Nat.beq g 73)) knows48 500 Try.func98 (by kernel_rfl)
  | 30, _ => K0_ran hmH (fun g => !(Nat.beq g 73)) knows48 500 Try.func98 (by kernel_rfl)
  | 31, _ => K0_ran hmH (fun g => !(Nat.beq g 73)) knows48 500 Try.func98 (by kernel_rfl)
  | 32, _ => K0_ran hmH (fun g => !(Nat.beq g 73)) knows48 500 Try.func98 (by kernel_rfl)
  | 33, _ => K0_ran hmH (fun g => !(Nat.beq g 73)) knows48 500 Try.func98 (by kernel_rfl)
  | 34, _ => K0_ran hmH (fun g => !(Nat.beq g 73)) knows48 500 Try.func98 (by kernel_rfl)
  | 35, _ => K0_ran hmH (fun g => !(Nat.beq g 73)) knows48 500 Try.func98 (by kernel_rfl)
  | k + 36, h => by omega
theorem turn98 {n : Int} {R : V → Prop} (h0 : 0 ≤ n) (h1 : n ≤ 35) (h : R (tuV (angT n))) : K0 Try.prog 98 [iv n] R := by
  obtain ⟨k, rfl⟩ : ∃ k : Nat, n = (k : Int) := ⟨n.toNat, by omega⟩
  exact (turn98' k (by omega)).to h
theorem next85 {p : Po} {h : Hi} {R : V → Prop} (hp : ∃ i, i ≤ 2 ∧ PoGood i p) (hh : HiOK h) (h0 : 0 ≤ h.2.2) (h1 : h.2.2 ≤ 35) (hr : R (.agg (po (lowP (swingP p h (angT h.2.2)))))) :
    K0 Try.prog 85 [.agg (po p), .agg (hi h)] R := by
  refine K0_of_W0 (kps := kp0) hM hmH Try.func85 (see (p := K0 Try.prog 98 [iv h.2.2] fun v => onAgg v fun cs => onCons cs fun u r => onIntK IntKind.i64 u fun n => onCons r fun u r => onIntK IntKind.i64 u fun n_1 => onCons r fun u r => onIntK IntKind.i64 u fun n_2 => onNil r (K0 Try.prog 45 [V.agg [iv p.1, iv p.2.1, iv p.2.2.1, iv p.2.2.2.1, iv p.2.2.2.2], V.agg [iv h.1.1, iv h.1.2]] fun v => onAgg v fun cs => onCons cs fun u r => onIntK IntKind.i64 u fun n_3 => onCons r fun u r => onIntK IntKind.i64 u fun n_4 => onNil r (K0 Try.prog 45 [V.agg [iv (IntKind.i64.wrap (IntKind.i64.wrap (n * p.1) - IntKind.i64.wrap (n_1 * p.2.1))), iv (IntKind.i64.wrap (IntKind.i64.wrap (n_1 * p.1) + IntKind.i64.wrap (n * p.2.1))), iv (0 : Int), iv (0 : Int), iv (IntKind.i64.wrap (n_2 * p.2.2.2.2))], V.agg [iv h.2.1.1, iv h.2.1.2]] fun v => onAgg v fun cs => onCons cs fun u r => onIntK IntKind.i64 u fun n_5 => onCons r fun u r => onIntK IntKind.i64 u fun n_6 => onNil r (K0 Try.prog 99 [V.agg [iv (IntKind.i64.wrap (IntKind.i64.wrap (n * p.1) - IntKind.i64.wrap (n_1 * p.2.1))), iv (IntKind.i64.wrap (IntKind.i64.wrap (n_1 * p.1) + IntKind.i64.wrap (n * p.2.1))), iv (IntKind.i64.wrap (IntKind.i64.wrap (n_3 * n_2) - n_5)), iv (IntKind.i64.wrap (IntKind.i64.wrap (n_4 * n_2) - n_6)), iv (IntKind.i64.wrap (n_2 * p.2.2.2.2))]] fun v => onAgg v fun cs => onCons cs fun u r => onIntK IntKind.i64 u fun n => onCons r fun u r => onIntK IntKind.i64 u fun n_7 => onCons r fun u r => onIntK IntKind.i64 u fun n_8 => onCons r fun u r => onIntK IntKind.i64 u fun n_9 => onCons r fun u r => onIntK IntKind.i64 u fun n_10 => onNil r (R (V.agg [iv n, iv n_7, iv n_8, iv n_9, iv n_10])))))) (by kernel_rfl) ?_)
  obtain ⟨i, hi2, hg⟩ := hp
  have hp : PoOK 16000 20000000 p := hg.ok (by omega)
  obtain ⟨t, ht⟩ : ∃ t, t = angT h.2.2 := ⟨_, rfl⟩
  have htu := angT_ok h.2.2
  have hsw := swing_good hg hh htu
  have hsok := hsw.ok (by omega)
  rw [← ht] at htu hsw hsok hr
  refine turn98 h0 h1 ?_
  rw [← ht]
  have ht := htu.ok
  have hT := turnP_ok hp ht
  have w0 : IntKind.i64.wrap (t.1 * p.1) = t.1 * p.1 := (ht.p.mul hp.p).wr
  have w1 : IntKind.i64.wrap (t.2.1 * p.2.1) = t.2.1 * p.2.1 := (ht.q.mul hp.q).wr
  have w2 : IntKind.i64.wrap (t.2.1 * p.1) = t.2.1 * p.1 := (ht.q.mul hp.p).wr
  have w3 : IntKind.i64.wrap (t.1 * p.2.1) = t.1 * p.2.1 := (ht.p.mul hp.q).wr
  have w4 : IntKind.i64.wrap (t.2.2 * p.2.2.2.2) = t.2.2 * p.2.2.2.2 := (ht.r.mul hp.d).wr
  have w5 : IntKind.i64.wrap (t.1 * p.1 - t.2.1 * p.2.1) = t.1 * p.1 - t.2.1 * p.2.1 := hT.p.wr
  have w6 : IntKind.i64.wrap (t.2.1 * p.1 + t.1 * p.2.1) = t.2.1 * p.1 + t.1 * p.2.1 := hT.q.wr
  refine at45 (p := p) (s := h.1) (hp.p.le (by decide)) (hp.q.le (by decide)) (hp.x.le (by decide)) (hp.y.le (by decide)) hh.ax hh.ay ?_
  have b1 := place_bd hp.p hp.q hp.x hp.y hh.ax hh.ay
  have b2 := place_bd hT.p hT.q hT.x hT.y hh.bx hh.b_y
  refine onAgg_agg (onCons_cons (onIntK_iv (onCons_cons (onIntK_iv (onNil_nil ?_)))))
  rw [w0, w1, w2, w3, w4, w5, w6]
  refine at45 (p := turnP p t) (s := h.2.1) (hT.p.le (by decide)) (hT.q.le (by decide)) (hT.x.le (by decide)) (hT.y.le (by decide)) hh.bx hh.b_y ?_
  refine onAgg_agg (onCons_cons (onIntK_iv (onCons_cons (onIntK_iv (onNil_nil ?_)))))
  rw [Int.mul_comm (place p h.1).1 t.2.2, Int.mul_comm (place p h.1).2 t.2.2]
  rw [(ht.r.mul b1.1).wr, (ht.r.mul b1.2).wr, ((ht.r.mul b1.1).sub b2.1).wr, ((ht.r.mul b1.2).sub b2.2).wr]
  exact lowest99 (p := swingP p h t) ⟨hsok.p.le (by decide), hsok.q.le (by decide), hsok.x.le (by decide), hsok.y.le (by decide), hsok.d.le (by decide)⟩ (gcdP_pos hsw.d1) hr
theorem placed56 {l : Li} {R : V → Prop} (hl : l.2.length ≤ 3) (hh : l.2.all hiB = true) (h : R (.lst 5 ((pzs l.2).map po))) : K0 Try.prog 56 [.agg (lk l)] R := by
  obtain ⟨ps, hs⟩ := l
  simp only at hl hh h
  refine K0_of_W0 (kps := kp56) hM hmH Try.func56 (see (p := Lp (kp56 0) (W Try.prog CM 28 kp56 0 (cdAt [1, 1, 0, 1, 0, 0] (bodyOf Try.f56))) (Qblk 0 (Qseq (W Try.prog CM 28 kp56 0 (cdAt [1, 1, 1] (bodyOf Try.f56))) (Qend0 Try.prog Try.f56 R))) (St.mk (mkT [(1, V.ptr 0 0 0), (3, V.sl 1 0 1), (4, iv (0 : Int))]) (Hp.mk [(0, O.rows 2 true [[V.lst 1 (List.map (fun p => [V.lst 2 (List.map sp p)]) ps), V.lst 5 (List.map hi hs)]]), (1, O.rows 5 true [[iv (1 : Int), iv (0 : Int), iv (0 : Int), iv (0 : Int), iv (1 : Int)]])] 3))) (by kernel_rfl) ?_)
  refine Lp.of (σ := Nat × List Po) (fun s => ⟨mkT [(1, .ptr 0 0 0), (3, .sl 1 0 s.2.length), (4, iv (s.1 : Int))], ⟨[(0, .rows 2 true [[.lst 1 (ps.map fun p => [pl p]), .lst 5 (hs.map hi)]]), (1, .rows 5 true (s.2.map po))], 3⟩⟩) (fun s => s.1 ≤ hs.length ∧ s.2 = (List.range (s.1 + 1)).map (pz hs)) (fun s => hs.length - s.1) (0, [(1, 0, 0, 0, 1)]) (by kernel_rfl) ⟨by simp, rfl⟩ ?_
  rintro ⟨i, a⟩ ⟨hi', ha⟩ J hJ
  simp only at hi' ha
  refine see (p := ifB (decide ((↑i : Int) < (↑(List.map hi hs).length : Int))) (need (i < a.length) (onSome (List.map po a)[0 + i]? fun row => onCons (List.drop 0 row) fun u r => onIntK IntKind.i64 u fun n => onCons r fun u r => onIntK IntKind.i64 u fun n_1 => onCons r fun u r => onIntK IntKind.i64 u fun n_2 => onCons r fun u r => onIntK IntKind.i64 u fun n_3 => onCons r fun u r => onIntK IntKind.i64 u fun n_4 => onSome (List.map hi hs)[i]? fun row => onCons (List.drop 0 row) fun u r => onIntK IntKind.i64 u fun n_5 => onCons r fun u r => onIntK IntKind.i64 u fun n_6 => onCons r fun u r => onIntK IntKind.i64 u fun n_7 => onCons r fun u r => onIntK IntKind.i64 u fun n_8 => onCons r fun u r => onIntK IntKind.i64 u fun n_9 => K0 Try.prog 85 [V.agg [iv n, iv n_1, iv n_2, iv n_3, iv n_4], V.agg [iv n_5, iv n_6, iv n_7, iv n_8, iv n_9]] fun v => onAgg v fun cs => onCons cs fun u r => onIntK IntKind.i64 u fun n => onCons r fun u r => onIntK IntKind.i64 u fun n_10 => onCons r fun u r => onIntK IntKind.i64 u fun n_11 => onCons r fun u r => onIntK IntKind.i64 u fun n_12 => onCons r fun u r => onIntK IntKind.i64 u fun n_13 => onNil r (need ((a.length + 1) * 40 ≤ 140737488355328) (J (St.mk (mkT [(1, V.ptr 0 0 0), (3, V.sl 1 0 (a.length + 1)), (4, iv (IntKind.i64.wrap ((↑i : Int) + (1 : Int))))]) (Hp.mk [(0, O.rows 2 true [[V.lst 1 (List.map (fun p => [V.lst 2 (List.map sp p)]) ps), V.lst 5 (List.map hi hs)]]), (1, O.rows 5 true (List.take a.length (List.map po a) ++ [[iv n, iv n_10, iv n_11, iv n_12, iv n_13]]))] 3)))))) (R (V.lst 5 (sub (List.map po a) 0 a.length)))) (by kernel_rfl) ?_
  have hal : a.length = i + 1 := by rw [ha]; simp
  refine ifB_mk (fun hb => ?_) (fun hb => ?_)
  · have hlt : i < hs.length := by simp at hb; omega
    obtain ⟨k1, k2, k3⟩ := hi_getD_ok hh hlt
    have hg := pz_good hh i hi'
    refine need_mk ⟨by omega, po_at (x := pz hs i) (by rw [Nat.zero_add, ha]; simp) (hi_at (hi_getD hlt) ?_)⟩
    refine next85 (p := pz hs i) (h := hs.getD i noHi) ⟨i, by omega, hg⟩ k1 k2 k3 ?_
    refine onAgg_agg (onCons_cons (onIntK_iv (onCons_cons (onIntK_iv (onCons_cons (onIntK_iv (onCons_cons (onIntK_iv (onCons_cons (onIntK_iv (onNil_nil ?_)))))))))))
    refine need_mk ⟨by omega, ?_⟩
    rw [wr (by omega) (by omega)]
    have := hJ (i + 1, a ++ [pz hs (i + 1)]) ⟨hlt, by simp only; rw [List.range_succ, List.map_append, ← ha]; rfl⟩ (by omega)
    simp only [List.length_append, List.length_singleton, List.map_append] at this
    rw [List.take_of_length_le (by simp)]
    exact this
  · have he : i = hs.length := by simp at hb; omega
    subst he
    rw [sub_all _ (by simp), ha]; exact h
theorem poses22 {l : Li} {R : V → Prop} (hs : LiSz l) (h : R (if linB l = true then .tup [.lst 5 ((pzs l.2).map po), iv 0] else .tup [nilS, iv 50])) : K0 Try.prog 22 [.agg (lk l)] R := by
  refine K0_of_W0 (kps := kp0) hM hmH Try.func22 (see (p := K0 Try.prog 55 [V.agg [V.lst 1 (List.map (fun p => [V.lst 2 (List.map sp p)]) l.1), V.lst 5 (List.map hi l.2)]] fun v => onBool v fun b => ifB (!b) (R (V.tup [nilS, iv (50 : Int)])) (K0 Try.prog 56 [V.agg [V.lst 1 (List.map (fun p => [V.lst 2 (List.map sp p)]) l.1), V.lst 5 (List.map hi l.2)]] fun v => onLst v fun s es => R (V.tup [V.lst s es, iv (0 : Int)]))) (by kernel_rfl) ?_)
  refine valid55 (l := l) hs (onBool_bv ?_)
  cases hl : linB l with
  | false => rw [hl] at h; exact h
  | true =>
    rw [hl] at h
    obtain ⟨h1, h2, h3, h4, h5⟩ := linB_ok hl
    exact placed56 (l := l) (by omega) h5 (onLst_lst h)
theorem cornered58 {l : Li} {n : Nat} {R : V → Prop} (hl : linB l = true) (hn : n < l.1.length) (h : R (.tup [pl (panAt (pz l.2 n) (l.1.getD n [])).1, iv (pz l.2 n).2.2.2.2])) : K0 Try.prog 58 [.agg (lk l), iv (n : Int)] R := by
  obtain ⟨ps, hs⟩ := l
  obtain ⟨h1, h2, h3, h4, h5⟩ := linB_ok hl
  simp only at h1 h2 h3 h4 h5 hn h
  refine K0_of_W0 (kps := kp58) hM hmH Try.func58 (see (p := K0 Try.prog 56 [V.agg [V.lst 1 (List.map (fun p => [V.lst 2 (List.map sp p)]) ps), V.lst 5 (List.map hi hs)]] fun v => onLst v fun s es => need (s = 5) (onSome es[n]? fun row => onCons (List.drop 0 row) fun u r => onIntK IntKind.i64 u fun n_1 => onCons r fun u r => onIntK IntKind.i64 u fun n_2 => onCons r fun u r => onIntK IntKind.i64 u fun n_3 => onCons r fun u r => onIntK IntKind.i64 u fun n_4 => onCons r fun u r => onIntK IntKind.i64 u fun n_5 => Lp (kp58 0) (W Try.prog CM 40 kp58 0 (cdAt [1, 1, 1, 0, 1, 0, 0] (bodyOf Try.f58))) (Qblk 0 (Qseq (W Try.prog CM 40 kp58 0 (cdAt [1, 1, 1, 1] (bodyOf Try.f58))) (Qend0 Try.prog Try.f58 R))) (St.mk (mkT [(1, iv (↑n : Int)), (2, V.ptr 0 0 0), (6, V.ptr 1 0 0), (7, V.sl 2 0 0), (8, iv (0 : Int))]) (Hp.mk [(2, O.rows 2 true []), (0, O.rows 2 true [[V.lst 1 (List.map (fun p => [V.lst 2 (List.map sp p)]) ps), V.lst 5 (List.map hi hs)]]), (1, O.rows 5 true [[iv n_1, iv n_2, iv n_3, iv n_4, iv n_5]])] 5)))) (by kernel_rfl) ?_)
  obtain ⟨p, hp⟩ : ∃ p, p = ps.getD n [] := ⟨_, rfl⟩
  obtain ⟨x, hx⟩ : ∃ x, x = pz hs n := ⟨_, rfl⟩
  have hpg : ps[n]? = some p := by rw [hp]; exact pan_getD hn
  have hpo := panB_ok (h4 p (List.mem_of_getElem? hpg))
  have hgood := pz_good h5 n (by omega)
  rw [← hx] at hgood
  have hok := hgood.ok (by omega)
  refine placed56 (l := (ps, hs)) (by simp only; omega) h5 (onLst_lst (need_mk ⟨rfl, po_at (x := x) (by rw [hx]; exact pzs_get (by simp only; omega)) ?_⟩))
  rw [← hp, ← hx] at h
  refine Lp.of (σ := Nat × List Sp) (fun s => ⟨mkT [(1, iv (n : Int)), (2, .ptr 0 0 0), (6, .ptr 1 0 0), (7, .sl 2 0 s.2.length), (8, iv (s.1 : Int))], ⟨[(2, .rows 2 true (s.2.map sp)), (0, .rows 2 true [[.lst 1 (ps.map fun p => [pl p]), .lst 5 (hs.map hi)]]), (1, .rows 5 true [po x])], 5⟩⟩)
    (fun s => s.1 ≤ p.length ∧ s.2 = (p.take s.1).map (place x)) (fun s => p.length - s.1) (0, []) (by kernel_rfl) ⟨by simp, by simp⟩ ?_
  rintro ⟨i, c⟩ ⟨hi', hc⟩ J hJ
  simp only at hi' hc
  refine see (p := onSome (List.map (fun p => [V.lst 2 (List.map sp p)]) ps)[n]? fun row => onSome row[0]? fun v => onLst v fun s es => ifB (decide ((↑i : Int) < (↑es.length : Int))) (onSome (List.map (fun p => [V.lst 2 (List.map sp p)]) ps)[n]? fun row => onSome row[0]? fun v => onLst v fun s es => need (s = 2) (onSome es[i]? fun row => onCons (List.drop 0 row) fun u r => onIntK IntKind.i64 u fun n_1 => onCons r fun u r => onIntK IntKind.i64 u fun n_2 => K0 Try.prog 45 [V.agg [iv x.1, iv x.2.1, iv x.2.2.1, iv x.2.2.2.1, iv x.2.2.2.2], V.agg [iv n_1, iv n_2]] fun v => onAgg v fun cs => onCons cs fun u r => onIntK IntKind.i64 u fun n_3 => onCons r fun u r => onIntK IntKind.i64 u fun n_4 => onNil r (need ((c.length + 1) * 16 ≤ 140737488355328) (J (St.mk (mkT [(1, iv (↑n : Int)), (2, V.ptr 0 0 0), (6, V.ptr 1 0 0), (7, V.sl 2 0 (c.length + 1)), (8, iv (IntKind.i64.wrap ((↑i : Int) + (1 : Int))))]) (Hp.mk [(2, O.rows 2 true (List.take c.length (List.map sp c) ++ [[iv n_3, iv n_4]])), (0, O.rows 2 true [[V.lst 1 (List.map (fun p => [V.lst 2 (List.map sp p)]) ps), V.lst 5 (List.map hi hs)]]), (1, O.rows 5 true [[iv x.1, iv x.2.1, iv x.2.2.1, iv x.2.2.2.1, iv x.2.2.2.2]])] 5)))))) (R (V.tup [V.lst 2 (sub (List.map sp c) 0 c.length), iv x.2.2.2.2]))) (by kernel_rfl) ?_
  have hcl : c.length = i := by rw [hc]; simp; omega
  refine row_at hpg (ifB_mk (fun hb => ?_) (fun hb => ?_))
  · have hlt : i < p.length := by simp at hb; omega
    have hso := hpo.2.2.1 p[i] (List.getElem_mem hlt)
    refine row_at hpg (need_mk ⟨rfl, sp_at (List.getElem?_eq_getElem hlt) ?_⟩)
    refine at45 (p := x) (s := p[i]) (hok.p.le (by decide)) (hok.q.le (by decide)) (hok.x.le (by decide)) (hok.y.le (by decide)) hso.1 hso.2 ?_
    refine onAgg_agg (onCons_cons (onIntK_iv (onCons_cons (onIntK_iv (onNil_nil (need_mk ⟨by omega, ?_⟩))))))
    rw [wr (by omega) (by omega)]
    have := hJ (i + 1, c ++ [place x p[i]]) ⟨hlt, by simp only; rw [List.take_succ_eq_append_getElem hlt, List.map_append, hc]; rfl⟩ (by omega)
    simp only [List.length_append, List.length_singleton, List.map_append] at this
    rw [List.take_of_length_le (by simp)]
    exact this
  · have he : i = p.length := by simp at hb; omega
    subst he
    rw [List.take_length] at hc
    rw [sub_all _ (by simp), hc]
    exact h
theorem corners27 {l : Li} {i : Int} {R : V → Prop} (hs : LiSz l) (h : R (cornR l i)) : K0 Try.prog 27 [.agg (lk l), iv i] R := by
  refine K0_of_W0 (kps := kp0) hM hmH Try.func27 (see (p := K0 Try.prog 55 [V.agg [V.lst 1 (List.map (fun p => [V.lst 2 (List.map sp p)]) l.1), V.lst 5 (List.map hi l.2)]] fun v => onBool v fun b => ifB (!b) (R (V.tup [nilS, iv (0 : Int), iv (50 : Int)])) (K0 Try.prog 49 [iv i, iv (0 : Int), iv (IntKind.i64.wrap ((↑(List.map (fun p => [V.lst 2 (List.map sp p)]) l.1).length : Int) - (1 : Int)))] fun v => onBool v fun b => ifB (!b) (R (V.tup [nilS, iv (0 : Int), iv (2 : Int)])) (K0 Try.prog 58 [V.agg [V.lst 1 (List.map (fun p => [V.lst 2 (List.map sp p)]) l.1), V.lst 5 (List.map hi l.2)], iv i] fun v => onTup v fun vs => onCons vs fun u r => onLst u fun s es => onCons r fun u r => onIntK IntKind.i64 u fun n => onNil r (R (V.tup [V.lst s es, iv n, iv (0 : Int)]))))) (by kernel_rfl) ?_)
  refine valid55 (l := l) hs (onBool_bv ?_)
  unfold cornR at h
  cases hl : linB l with
  | false => rw [hl] at h; exact h
  | true =>
    rw [hl] at h
    rw [if_pos rfl] at h
    refine ifB_mk (fun hb => by simp at hb) (fun _ => ?_)
    rw [wr_len (by have := hs.ps; simpa using this), List.length_map]
    refine within49 (onBool_bv ?_)
    refine ifB_mk (fun hb => ?_) (fun hb => ?_)
    · rw [if_neg (by simpa using hb)] at h; exact h
    · have hw : win i 0 (l.1.length - 1) = true := by simpa using hb
      rw [if_pos hw] at h
      have hw := win_iff.1 hw
      obtain ⟨m, hm⟩ : ∃ m : Nat, i = (m : Int) := ⟨i.toNat, by omega⟩
      subst hm
      rw [Int.toNat_natCast] at h
      exact cornered58 (l := l) (n := m) hl (by omega) (onTup_tup (onCons_cons (onLst_lst (onCons_cons (onIntK_iv (onNil_nil h))))))
theorem asked61 {l : Li} {a b : Sp} {R : V → Prop} (hs : LiSz l) (h : R (iv (plcC l a b))) : K0 Try.prog 61 [.agg (lk l), .agg (sp a), .agg (sp b)] R := by
  refine K0_of_W0 (kps := kp0) hM hmH Try.func61 (see (p := K0 Try.prog 55 [V.agg [V.lst 1 (List.map (fun p => [V.lst 2 (List.map sp p)]) l.1), V.lst 5 (List.map hi l.2)]] fun v => onBool v fun b_1 => ifB (!b_1) (R (iv (50 : Int))) (K0 Try.prog 82 [V.agg [iv a.1, iv a.2]] fun v => onBool v fun b_2 => ifB (!b_2) (R (iv (2 : Int))) (K0 Try.prog 82 [V.agg [iv b.1, iv b.2]] fun v => onBool v fun b => ifB (!b) (R (iv (2 : Int))) (R (iv (0 : Int)))))) (by kernel_rfl) ?_)
  refine valid55 (l := l) hs (onBool_bv ?_)
  unfold plcC at h
  cases hl : linB l with
  | false => rw [hl] at h; exact h
  | true =>
    rw [hl] at h
    refine ifB_mk (fun hb => by simp at hb) (fun _ => ?_)
    refine spot82 (s := a) (onBool_bv (ifB_mk (fun hb => ?_) (fun hb => spot82 (s := b) (onBool_bv (ifB_mk (fun hb2 => ?_) (fun hb2 => ?_))))))
    · have : plcB a b = false := by simp at hb; simp [plcB, hb]
      rw [this] at h; exact h
    · have : plcB a b = false := by simp at hb2; simp [plcB, hb2]
      rw [this] at h; exact h
    · have : plcB a b = true := by simp at hb hb2; simp [plcB, hb, hb2]
      rw [this] at h; exact h
theorem off62 {l : Li} {a b : Sp} {R : V → Prop} (hl : linB l = true) (ha : SpOK a) (hb : SpOK b) (h : R (.tup [iv (gapZ (pz l.2 l.2.length) a b).1, iv (gapZ (pz l.2 l.2.length) a b).2, iv (pz l.2 l.2.length).2.2.2.2])) :
    K0 Try.prog 62 [.agg (lk l), .agg (sp a), .agg (sp b)] R := by
  refine K0_of_W0 (kps := kp0) hM hmH Try.func62 (see (p := K0 Try.prog 56 [V.agg [V.lst 1 (List.map (fun p => [V.lst 2 (List.map sp p)]) l.1), V.lst 5 (List.map hi l.2)]] fun v => onLst v fun s es => onNat (IntKind.i64.wrap ((↑es.length : Int) - (1 : Int))) fun m => need (s = 5) (onSome es[m]? fun row => onCons (List.drop 0 row) fun u r => onIntK IntKind.i64 u fun n => onCons r fun u r => onIntK IntKind.i64 u fun n_1 => onCons r fun u r => onIntK IntKind.i64 u fun n_2 => onCons r fun u r => onIntK IntKind.i64 u fun n_3 => onCons r fun u r => onIntK IntKind.i64 u fun n_4 => K0 Try.prog 45 [V.agg [iv n, iv n_1, iv n_2, iv n_3, iv n_4], V.agg [iv a.1, iv a.2]] fun v => onAgg v fun cs => onCons cs fun u r => onIntK IntKind.i64 u fun n => onCons r fun u r => onIntK IntKind.i64 u fun n_5 => onNil r (R (V.tup [iv (IntKind.i64.wrap (n - IntKind.i64.wrap (b.1 * n_4))), iv (IntKind.i64.wrap (n_5 - IntKind.i64.wrap (b.2 * n_4))), iv n_4])))) (by kernel_rfl) ?_)
  obtain ⟨h1, h2, h3, h4, h5⟩ := linB_ok hl
  have hz : PoOK 16000 20000000 (pz l.2 l.2.length) := (pz_good h5 l.2.length (Nat.le_refl _)).ok (by omega)
  obtain ⟨z, hzz⟩ : ∃ z, z = pz l.2 l.2.length := ⟨_, rfl⟩
  rw [← hzz] at hz h
  refine placed56 (l := l) (by omega) h5 (onLst_lst (onNat_mk (m := l.2.length) ?_ (need_mk ⟨rfl, po_at (x := z) (by rw [hzz]; exact pzs_get (Nat.le_refl _)) ?_⟩)))
  · rw [List.length_map, pzs_length, wr (by omega) (by omega)]; omega
  · refine at45 (p := z) (s := a) (hz.p.le (by decide)) (hz.q.le (by decide)) (hz.x.le (by decide)) (hz.y.le (by decide)) ha.1 ha.2 ?_
    have b1 := place_bd hz.p hz.q hz.x hz.y ha.1 ha.2
    refine onAgg_agg (onCons_cons (onIntK_iv (onCons_cons (onIntK_iv (onNil_nil ?_)))))
    rw [(hb.1.mul hz.d).wr, (hb.2.mul hz.d).wr, (b1.1.sub (hb.1.mul hz.d)).wr, (b1.2.sub (hb.2.mul hz.d)).wr]
    exact h
theorem gap30 {l : Li} {a b : Sp} {R : V → Prop} (hs : LiSz l) (h : R (gapR l a b)) : K0 Try.prog 30 [.agg (lk l), .agg (sp a), .agg (sp b)] R := by
  refine K0_of_W0 (kps := kp0) hM hmH Try.func30 (see (p := K0 Try.prog 61 [V.agg [V.lst 1 (List.map (fun p => [V.lst 2 (List.map sp p)]) l.1), V.lst 5 (List.map hi l.2)], V.agg [iv a.1, iv a.2], V.agg [iv b.1, iv b.2]] fun v => onIntK IntKind.i64 v fun n => ifB (n != (0 : Int)) (R (V.tup [iv (0 : Int), iv (0 : Int), iv (0 : Int), iv n])) (K0 Try.prog 62 [V.agg [V.lst 1 (List.map (fun p => [V.lst 2 (List.map sp p)]) l.1), V.lst 5 (List.map hi l.2)], V.agg [iv a.1, iv a.2], V.agg [iv b.1, iv b.2]] fun v => onTup v fun vs => onCons vs fun u r => onIntK IntKind.i64 u fun n => onCons r fun u r => onIntK IntKind.i64 u fun n_1 => onCons r fun u r => onIntK IntKind.i64 u fun n_2 => onNil r (R (V.tup [iv n, iv n_1, iv n_2, iv (0 : Int)])))) (by kernel_rfl) ?_)
  refine asked61 (l := l) (a := a) (b := b) hs (onIntK_iv ?_)
  unfold gapR at h
  refine ifB_mk (fun hb => ?_) (fun hb => ?_)
  · rw [if_neg (by simpa using hb)] at h; exact h
  · have h0 : plcC l a b = 0 := by simpa using hb
    rw [if_pos h0] at h
    obtain ⟨hl, ha, hb'⟩ := plcC_ok h0
    exact off62 (l := l) (a := a) (b := b) hl ha hb' (onTup_tup (onCons_cons (onIntK_iv (onCons_cons (onIntK_iv (onCons_cons (onIntK_iv (onNil_nil h))))))))

/-! great linkages -/
def greatB (l : Li) : Bool := decide (l.1.length > 10) || decide (l.2.length > 10) || l.1.any fun p => decide (p.length > 20)
theorem greatB_sz {l : Li} (h : greatB l = false) : LiSz l := by
  simp only [greatB, Bool.or_eq_false_iff, decide_eq_false_iff_not, List.any_eq_false, decide_eq_true_iff] at h
  exact ⟨by omega, by omega, fun p hp => by have := h.2 p hp; omega⟩
theorem great15 {l : Li} {R : V → Prop} (h : R (bv (greatB l))) : K0 Try.prog 15 [.agg (lk l)] R := by
  refine K0_of_W0 (kps := kp15) hM hmH Try.func15 (see (p := ifB (decide ((↑(List.map (fun p => [V.lst 2 (List.map sp p)]) l.1).length : Int) > (10 : Int))) (R (bv true)) (ifB (decide ((↑(List.map hi l.2).length : Int) > (10 : Int))) (R (bv true)) (Lp (kp15 0) (W Try.prog CM 28 kp15 0 (cdAt [1, 1, 0, 1, 0, 0] (bodyOf Try.f15))) (Qblk 0 (Qseq (W Try.prog CM 28 kp15 0 (cdAt [1, 1, 1] (bodyOf Try.f15))) (Qend0 Try.prog Try.f15 R))) (St.mk (mkT [(1, V.ptr 0 0 0), (3, iv (0 : Int))]) (Hp.mk [(0, O.rows 2 true [[V.lst 1 (List.map (fun p => [V.lst 2 (List.map sp p)]) l.1), V.lst 5 (List.map hi l.2)]])] 1))))) (by kernel_rfl) ?_)
  refine ifB_mk (fun hb => ?_) (fun hb => ifB_mk (fun hb2 => ?_) (fun hb2 => ?_))
  · have : greatB l = true := by simp at hb; have : 10 < l.1.length := by omega
                                 simp [greatB, this]
    rw [this] at h; exact h
  · have : greatB l = true := by simp at hb2; have : 10 < l.2.length := by omega
                                 simp [greatB, this]
    rw [this] at h; exact h
  have h1 : l.1.length ≤ 10 := by simp at hb; omega
  have h2 : l.2.length ≤ 10 := by simp at hb2; omega
  refine Lp.of (σ := Nat) (fun s => ⟨mkT [(1, .ptr 0 0 0), (3, iv (s : Int))], ⟨[(0, .rows 2 true [lk l])], 1⟩⟩) (fun s => s ≤ l.1.length ∧ ∀ p ∈ l.1.take s, p.length ≤ 20) (fun s => l.1.length - s) 0 (by kernel_rfl) ⟨by simp, by simp⟩ ?_
  rintro i ⟨hi', ha⟩ J hJ
  refine see (p := ifB (decide ((↑i : Int) < (↑(List.map (fun p => [V.lst 2 (List.map sp p)]) l.1).length : Int))) (onSome (List.map (fun p => [V.lst 2 (List.map sp p)]) l.1)[i]? fun row => onSome row[0]? fun v => onLst v fun s es => ifB (decide ((↑es.length : Int) > (20 : Int))) (R (bv true)) (J (St.mk (mkT [(1, V.ptr 0 0 0), (3, iv (IntKind.i64.wrap ((↑i : Int) + (1 : Int))))]) (Hp.mk [(0, O.rows 2 true [[V.lst 1 (List.map (fun p => [V.lst 2 (List.map sp p)]) l.1), V.lst 5 (List.map hi l.2)]])] 1)))) (R (bv false))) (by kernel_rfl) ?_
  refine ifB_mk (fun hb3 => ?_) (fun hb3 => ?_)
  · have hlt : i < l.1.length := by simp at hb3; omega
    refine row_at (List.getElem?_eq_getElem hlt) (ifB_mk (fun hb4 => ?_) (fun hb4 => ?_))
    · have : greatB l = true := by
        simp at hb4
        simp only [greatB, Bool.or_eq_true, List.any_eq_true, decide_eq_true_iff]
        exact .inr ⟨l.1[i], List.getElem_mem hlt, by omega⟩
      rw [this] at h; exact h
    · rw [wr (by omega) (by omega)]
      refine hJ (i + 1) ⟨hlt, fun p hp => ?_⟩ (by omega)
      rw [List.take_succ_eq_append_getElem hlt, List.mem_append, List.mem_singleton] at hp
      rcases hp with hp | hp
      · exact ha p hp
      · subst hp; simp at hb4; omega
  · have he : i = l.1.length := by simp at hb3; omega
    subst he
    rw [List.take_length] at ha
    have : greatB l = false := by
      simp only [greatB, Bool.or_eq_false_iff, decide_eq_false_iff_not, List.any_eq_false, decide_eq_true_iff]
      exact ⟨⟨by omega, by omega⟩, fun p hp => by have := ha p hp; omega⟩
    rw [this] at h; exact h
end Go.Proofs.Ytahoindkdkhpmaa
