/- B2: a part of the proof. -/
import Derived.Test.YtahoindkdkhpmaaXB1
namespace Go.Proofs.Ytahoindkdkhpmaa
open Go Go.Proofs.Ytahoindkdkhpmaa.Clean
set_option linter.unusedVariables false
set_option linter.unusedSimpArgs false
set_option maxRecDepth 20000

/-! the line along an edge -/
def edA (e : List Sp) : Int := (e.getD 1 (0, 0)).2 - (e.getD 0 (0, 0)).2
def edB (e : List Sp) : Int := (e.getD 0 (0, 0)).1 - (e.getD 1 (0, 0)).1
def edG (e : List Sp) : Nat := gcdl [edA e, edB e]
def lnA (e : List Sp) : Int := (edA e).tdiv (edG e)
def lnB (e : List Sp) : Int := (edB e).tdiv (edG e)
def lnC (e : List Sp) : Int := lnA e * (e.getD 0 (0, 0)).1 + lnB e * (e.getD 0 (0, 0)).2
def lnG (e : List Sp) (d : Int) : Nat := gcdl [lnC e, d]
def lineP (e : List Sp) (d : Int) : Ap := (true, lnA e, lnB e, (lnC e).tdiv (lnG e d), d.tdiv (lnG e d), [])
theorem gcdl2 (a b : Int) : gcdl [a, b] = Nat.gcd a.natAbs b.natAbs := by simp [gcdl, List.foldl]
theorem gcdl2_zero {a b : Int} (h : gcdl [a, b] = 0) : a = 0 ∧ b = 0 := by
  rw [gcdl2] at h
  have := Nat.gcd_eq_zero_iff.1 h
  omega
theorem getD_rot0 {l : List Sp} {i : Nat} (hi : i < l.length) : (rot l i).getD 0 (0, 0) = l.getD i (0, 0) := by
  rw [rot_getD hi (by omega), Nat.add_zero, Nat.mod_eq_of_lt hi]
theorem getD_rot1 {l : List Sp} {i : Nat} (h3 : 3 ≤ l.length) (hi : i < l.length) : (rot l i).getD 1 (0, 0) = l.getD ((i + 1) % l.length) (0, 0) := rot_getD hi (by omega)
theorem mod_succ_ne {n i : Nat} (hn : 2 ≤ n) (hi : i < n) : (i + 1) % n ≠ i := by
  by_cases h : i + 1 < n
  · rw [Nat.mod_eq_of_lt h]; omega
  · rw [show i + 1 = n by omega, Nat.mod_self]; omega
theorem edge_ne {p : Pd} (hp : PdOK p) {i : Nat} (hi : i < p.1.length) : edG (rot p.1 i) ≠ 0 := by
  intro h0
  obtain ⟨ha, hb⟩ := gcdl2_zero h0
  unfold edA at ha
  unfold edB at hb
  have h3 := hp.len3
  rw [getD_rot0 hi, getD_rot1 h3 hi] at ha hb
  have hc := (convB_iff h3).1 hp.cv
  -- a corner that is no end of this edge
  obtain ⟨k, hk, hki, hki1⟩ : ∃ k, k < p.1.length ∧ k ≠ i ∧ k ≠ (i + 1) % p.1.length := by
    refine Classical.byContradiction fun hn => ?_
    have : ∀ k, k < p.1.length → k = i ∨ k = (i + 1) % p.1.length := fun k hk => Classical.byContradiction fun hc => hn ⟨k, hk, fun h => hc (.inl h), fun h => hc (.inr h)⟩
    have a0 := this 0 (by omega)
    have a1 := this 1 (by omega)
    have a2 := this 2 (by omega)
    omega
  have := hc i k hi hk hki hki1
  unfold lft side at this
  rw [decide_eq_true_iff] at this
  have e1 : (p.1.getD ((i + 1) % p.1.length) (0, 0)).2 - (p.1.getD i (0, 0)).2 = 0 := ha
  have e2 : (p.1.getD ((i + 1) % p.1.length) (0, 0)).1 - (p.1.getD i (0, 0)).1 = 0 := by omega
  rw [e1, e2] at this
  simp at this
theorem ed_bd {e : List Sp} (he : EdOK e) : Bd 3125000 (edA e) ∧ Bd 3125000 (edB e) := by
  obtain ⟨g0, g1⟩ := pair_some he.len3
  have m0 := List.mem_of_getElem? g0
  have m1 := List.mem_of_getElem? g1
  exact ⟨(he.df _ m1 _ m0).2, (he.df _ m0 _ m1).1⟩
theorem ln_bd {e : List Sp} (he : EdOK e) : Bd 3125000 (lnA e) ∧ Bd 3125000 (lnB e) ∧ Bd 68359375000000 (lnC e) := by
  obtain ⟨g0, _⟩ := pair_some he.len3
  have c0 := he.c _ (List.mem_of_getElem? g0)
  have a := (ed_bd he).1.tdiv (edG e)
  have b := (ed_bd he).2.tdiv (edG e)
  exact ⟨a, b, Bd.le (B := 68359375000000) ((a.mul c0.1).add (b.mul c0.2)) (by decide)⟩
theorem line90 {p : Pd} {i : Nat} {R : V → Prop} (hp : PdOK p) (hi : i < p.1.length) (h : R (apV (lineP (rot p.1 i) p.2) 0)) (h' : ∀ a b c d : Int, R (.agg [bv true, iv a, iv b, iv c, iv d, .lst 0 []]) → R (.agg [bv true, iv a, iv b, iv c, iv d, nilS])) : K0 Try.prog 90 [.agg (pd p), iv (i : Int)] R := by
  refine K0_of_W0 (kps := kp0) hM hmH Try.func90 (see (p := K0 Try.prog 80 [V.lst 2 (List.map sp p.1)] fun v => onLst v fun s es => need (s = 1) (onSome es[i]? fun row => onSome row[0]? fun v => onLst v fun s es => need (s = 2) (onSome es[0]? fun row => onCons (List.drop 0 row) fun u r => onIntK IntKind.i64 u fun n => onCons r fun u r => onIntK IntKind.i64 u fun n_1 => need (s = 2) (onSome es[1]? fun row => onCons (List.drop 0 row) fun u r => onIntK IntKind.i64 u fun n_2 => onCons r fun u r => onIntK IntKind.i64 u fun n_3 => K0 Try.prog 78 [V.lst 1 [[iv (IntKind.i64.wrap (n_3 - n_1))], [iv (IntKind.i64.wrap (n - n_2))]]] fun v => onIntK IntKind.i64 v fun n_4 => need (n_4 ≠ (0 : Int)) (need (n_4 ≠ (0 : Int)) (K0 Try.prog 78 [V.lst 1 [[iv (IntKind.i64.wrap (IntKind.i64.wrap (IntKind.i64.wrap ((IntKind.i64.wrap (n_3 - n_1)).tdiv n_4) * n) + IntKind.i64.wrap (IntKind.i64.wrap ((IntKind.i64.wrap (n - n_2)).tdiv n_4) * n_1)))], [iv p.2]]] fun v => onIntK IntKind.i64 v fun n_5 => need (n_5 ≠ (0 : Int)) (need (n_5 ≠ (0 : Int)) (R (V.agg [bv true, iv (IntKind.i64.wrap ((IntKind.i64.wrap (n_3 - n_1)).tdiv n_4)), iv (IntKind.i64.wrap ((IntKind.i64.wrap (n - n_2)).tdiv n_4)), iv (IntKind.i64.wrap ((IntKind.i64.wrap (IntKind.i64.wrap (IntKind.i64.wrap ((IntKind.i64.wrap (n_3 - n_1)).tdiv n_4) * n) + IntKind.i64.wrap (IntKind.i64.wrap ((IntKind.i64.wrap (n - n_2)).tdiv n_4) * n_1))).tdiv n_5)), iv (IntKind.i64.wrap (p.2.tdiv n_5)), nilS]))))))))) (by kernel_rfl) ?_)
  have he := rot_ok hp hi
  have hg := edge_ne hp hi
  refine edges80 (by have := hp.len8; omega) (onLst_lst (need_mk ⟨rfl, row_at (rots_get hi) ?_⟩))
  obtain ⟨e, hee⟩ : ∃ e, e = rot p.1 i := ⟨_, rfl⟩
  rw [← hee] at he hg h ⊢
  obtain ⟨g0, g1⟩ := pair_some he.len3
  refine need_mk ⟨rfl, sp_at g0 (need_mk ⟨rfl, sp_at g1 ?_⟩)⟩
  have m0 := List.mem_of_getElem? g0
  have m1 := List.mem_of_getElem? g1
  have c0 := he.c _ m0
  have ba := (ed_bd he).1
  have bb := (ed_bd he).2
  obtain ⟨la, lb, lc⟩ := ln_bd he
  have wa : IntKind.i64.wrap ((e.getD 1 (0, 0)).2 - (e.getD 0 (0, 0)).2) = edA e := ba.wr
  have wb : IntKind.i64.wrap ((e.getD 0 (0, 0)).1 - (e.getD 1 (0, 0)).1) = edB e := bb.wr
  rw [wa, wb]
  refine divisor78 (l := [edA e, edB e]) (fun n hn => ?_) (by simp) (onIntK_iv ?_)
  · simp at hn
    rcases hn with rfl | rfl
    · exact ba.le (by decide)
    · exact bb.le (by decide)
  rw [show gcdl [edA e, edB e] = edG e from rfl]
  have hne : ((edG e : Nat) : Int) ≠ 0 := by omega
  refine need_mk ⟨hne, need_mk ⟨hne, ?_⟩⟩
  have wla : IntKind.i64.wrap ((edA e).tdiv (edG e)) = lnA e := la.wr
  have wlb : IntKind.i64.wrap ((edB e).tdiv (edG e)) = lnB e := lb.wr
  rw [wla, wlb, (la.mul c0.1).wr, (lb.mul c0.2).wr]
  rw [show IntKind.i64.wrap (lnA e * (e.getD 0 (0, 0)).1 + lnB e * (e.getD 0 (0, 0)).2) = lnC e from lc.wr]
  have d1 := hp.d1
  have d2 := hp.d2
  have hd : Bd 15625 p.2 := ⟨by omega, d2⟩
  refine divisor78 (l := [lnC e, p.2]) (fun n hn => ?_) (by simp) (onIntK_iv ?_)
  · simp at hn
    rcases hn with rfl | rfl
    · exact lc.le (by decide)
    · exact hd.le (by decide)
  rw [show gcdl [lnC e, p.2] = lnG e p.2 from rfl]
  have hg2 : ((lnG e p.2 : Nat) : Int) ≠ 0 := fun h0 => by
    have := (gcdl2_zero (show gcdl [lnC e, p.2] = 0 by have : lnG e p.2 = 0 := by omega
                                                       exact this)).2
    omega
  refine need_mk ⟨hg2, need_mk ⟨hg2, ?_⟩⟩
  rw [(lc.tdiv _).wr, (hd.tdiv _).wr]
  exact h' _ _ _ _ h

/-! two panels -/
def negP (a : Ap) : Ap := (a.1, -a.2.1, -a.2.2.1, -a.2.2.2.1, a.2.2.2.2.1, a.2.2.2.2.2)
def fstI (p q : Pd) : Int := ixI (fun x => (-1 : Int) == x) (insP p q)
def apartP (p q : Pd) : Ap :=
  if 0 ≤ fstI p q then lineP (rot p.1 (fstI p q).toNat) p.2
  else if 0 ≤ fstI q p then negP (lineP (rot q.1 (fstI q p).toNat) q.2)
  else (false, 0, 0, 0, 0, insP p q ++ insP q p)
/-- how many cells a row of the list Inside has -/
def apS (a : Ap) : Nat := bif a.1 then 0 else 1
theorem insP_length (p q : Pd) : (insP p q).length = p.1.length := by simp [insP, rots_length]
theorem fstI_cases (p q : Pd) : (fstI p q = -1 ∧ ∀ x ∈ insP p q, x ≠ -1) ∨ ∃ i : Nat, i < p.1.length ∧ fstI p q = (i : Int) := by
  rcases ixI_cases (fun x => (-1 : Int) == x) (insP p q) with ⟨h1, h2⟩ | ⟨i, hi, h1, _⟩
  · exact .inl ⟨h1, fun x hx hc => by have := h2 x hx; simp [hc] at this⟩
  · exact .inr ⟨i, by rw [insP_length] at hi; exact hi, h1⟩
theorem apart66 {p q : Pd} {R : V → Prop} (hp : PdOK p) (hq : PdOK q) (h : R (apV (apartP p q) (apS (apartP p q)))) : K0 Try.prog 66 [.agg (pd p), .agg (pd q)] R := by
  refine K0_of_W0 (kps := kp0) hM hmH Try.func66 (see (p := KB Try.prog (fun x => none) 88 [V.agg [V.lst 2 (List.map sp p.1), iv p.2], V.agg [V.lst 2 (List.map sp q.1), iv q.2]] (Hp.mk [] 0) fun v => onLst v fun s es => guardB (s.beq 1 || s.beq 0) (KB Try.prog (fun x => none) 88 [V.agg [V.lst 2 (List.map sp q.1), iv q.2], V.agg [V.lst 2 (List.map sp p.1), iv p.2]] (Hp.mk [] 0) fun v => onLst v fun s es_1 => guardB (s.beq 1 || s.beq 0) (KB Try.prog (fun x => none) 89 [V.sl 0 0 es.length, iv (-1 : Int)] (Hp.mk [(0, O.rows 1 true es)] 1) fun v => onIntK IntKind.i64 v fun n => ifB (decide (n ≥ (0 : Int))) (K0 Try.prog 90 [V.agg [V.lst 2 (List.map sp p.1), iv p.2], iv n] fun v => onAgg v fun cs => onCons cs fun u r => onBool u fun b => onCons r fun u r => onIntK IntKind.i64 u fun n => onCons r fun u r => onIntK IntKind.i64 u fun n_1 => onCons r fun u r => onIntK IntKind.i64 u fun n_2 => onCons r fun u r => onIntK IntKind.i64 u fun n_3 => onCons r fun u r => onLst u fun s es => onNil r (R (V.agg [bv b, iv n, iv n_1, iv n_2, iv n_3, V.lst s es]))) (KB Try.prog (fun x => none) 89 [V.sl 0 0 es_1.length, iv (-1 : Int)] (Hp.mk [(0, O.rows 1 true es_1)] 1) fun v => onIntK IntKind.i64 v fun n => ifB (decide (n ≥ (0 : Int))) (K0 Try.prog 90 [V.agg [V.lst 2 (List.map sp q.1), iv q.2], iv n] fun v => onAgg v fun cs => onCons cs fun u r => onBool u fun b => onCons r fun u r => onIntK IntKind.i64 u fun n => onCons r fun u r => onIntK IntKind.i64 u fun n_1 => onCons r fun u r => onIntK IntKind.i64 u fun n_2 => onCons r fun u r => onIntK IntKind.i64 u fun n_3 => onCons r fun u r => onLst u fun s es => onNil r (R (V.agg [bv b, iv (IntKind.i64.wrap ((0 : Int) - n)), iv (IntKind.i64.wrap ((0 : Int) - n_1)), iv (IntKind.i64.wrap ((0 : Int) - n_2)), iv n_3, V.lst s es]))) (need ((es.length + (sub es_1 0 es_1.length).length) * 8 ≤ 140737488355328) (R (V.agg [bv false, iv (0 : Int), iv (0 : Int), iv (0 : Int), iv (0 : Int), V.lst 1 (sub (List.take es.length es ++ sub es_1 0 es_1.length) 0 (es.length + (sub es_1 0 es_1.length).length))]))))))) (by kernel_rfl) ?_)
  have hp8 := hp.len8
  have hq8 := hq.len8
  refine inside88 hp hq (onLst_lst (guardB_mk rfl (inside88 hq hp (onLst_lst (guardB_mk rfl ?_)))))
  rw [il_length, il_length, sub_all (il (insP q p)) (by rw [il_length])]
  refine index89 (l := insP p q) (by rw [insP_length]; omega) (onIntK_iv ?_)
  rw [show ixI (fun x => (-1 : Int) == x) (insP p q) = fstI p q from rfl]
  unfold apartP at h
  rcases fstI_cases p q with ⟨h1, h2⟩ | ⟨i, hi, h1⟩
  · rw [h1, if_neg (by omega)] at h
    rw [h1]
    refine ifB_mk (fun hc => by simp at hc) (fun _ => ?_)
    refine index89 (l := insP q p) (by rw [insP_length]; omega) (onIntK_iv ?_)
    rw [show ixI (fun x => (-1 : Int) == x) (insP q p) = fstI q p from rfl]
    rcases fstI_cases q p with ⟨k1, k2⟩ | ⟨i, hi, k1⟩
    · rw [k1, if_neg (by omega)] at h
      rw [k1]
      refine ifB_mk (fun hc => by simp at hc) (fun _ => need_mk ⟨by rw [il_length, insP_length, insP_length]; omega, ?_⟩)
      rw [sub_all _ (by simp [il_length]), List.take_of_length_le (by rw [il_length]; exact Nat.le_refl _), il_append]
      exact h
    · rw [k1, if_pos (by omega), Int.toNat_natCast] at h
      rw [k1]
      refine ifB_mk (fun _ => ?_) (fun hc => by simp at hc)
      have he := rot_ok hq hi
      obtain ⟨la, lb, lc⟩ := ln_bd he
      have hc := lc.tdiv (lnG (rot q.1 i) q.2)
      refine line90 hq hi ?_ (fun a b c d hr => hr)
      show R _
      rw [wr (by have := la.1; have := la.2; simp only [lineP]; omega) (by have := la.1; have := la.2; simp only [lineP]; omega), wr (by have := lb.1; have := lb.2; simp only [lineP]; omega) (by have := lb.1; have := lb.2; simp only [lineP]; omega), wr (by have := hc.1; have := hc.2; simp only [lineP]; omega) (by have := hc.1; have := hc.2; simp only [lineP]; omega), Int.zero_sub, Int.zero_sub, Int.zero_sub]
      exact h
  · rw [h1, if_pos (by omega), Int.toNat_natCast] at h
    rw [h1]
    refine ifB_mk (fun _ => ?_) (fun hc => by simp at hc)
    refine line90 hp hi ?_ (fun a b c d hr => hr)
    show R _
    exact h

/-- the error of a linkage and two panels -/
def twoC (l : Li) (i k : Int) : Int := if linB l = true then (if (win i 0 (l.1.length - 1) && win k 0 (l.1.length - 1) && !(i == k)) = true then 0 else 2) else 50
theorem twoC_ok {l : Li} {i k : Int} (h : twoC l i k = 0) : linB l = true ∧ 0 ≤ i ∧ i < l.1.length ∧ 0 ≤ k ∧ k < l.1.length ∧ i ≠ k := by
  unfold twoC at h
  cases hl : linB l with
  | false => rw [hl] at h; simp at h
  | true =>
    rw [hl] at h
    refine ⟨rfl, ?_⟩
    by_cases hc : (win i 0 (l.1.length - 1) && win k 0 (l.1.length - 1) && !(i == k)) = true
    · simp only [Bool.and_eq_true, win_iff, Bool.not_eq_true', beq_eq_false_iff_ne] at hc
      omega
    · rw [if_neg hc] at h; simp at h
def panI (l : Li) (i : Int) : Pd := panAt (pz l.2 i.toNat) (l.1.getD i.toNat [])
theorem panI_ok {l : Li} {i : Int} (hl : linB l = true) (h0 : 0 ≤ i) (h1 : i < l.1.length) : PdOK (panI l i) := by
  obtain ⟨a1, a2, a3, a4, a5⟩ := linB_ok hl
  exact panAt_ok (pz_good a5 i.toNat (by omega)) (by omega) (a4 _ (List.mem_of_getElem? (pan_getD (by omega))))
def pairR (l : Li) (i k : Int) : V := if twoC l i k = 0 then .tup [.agg (pd (panI l i)), .agg (pd (panI l k)), iv 0] else .tup [.agg [nilS, iv 0], .agg [nilS, iv 0], iv (twoC l i k)]
theorem pair65 {l : Li} {i k : Int} {R : V → Prop} (hs : LiSz l) (h : R (pairR l i k)) : K0 Try.prog 65 [.agg (lk l), iv i, iv k] R := by
  refine K0_of_W0 (kps := kp0) hM hmH Try.func65 (see (p := K0 Try.prog 24 [V.agg [V.lst 1 (List.map (fun p => [V.lst 2 (List.map sp p)]) l.1), V.lst 5 (List.map hi l.2)]] fun v => onIntK IntKind.i64 v fun n => ifB (n != (0 : Int)) (R (V.tup [V.agg [nilS, iv (0 : Int)], V.agg [nilS, iv (0 : Int)], iv n])) (K0 Try.prog 47 [iv i, iv (0 : Int), iv (IntKind.i64.wrap ((↑(List.map (fun p => [V.lst 2 (List.map sp p)]) l.1).length : Int) - (1 : Int)))] fun v => onBool v fun b => ifB (!b) (R (V.tup [V.agg [nilS, iv (0 : Int)], V.agg [nilS, iv (0 : Int)], iv (2 : Int)])) (K0 Try.prog 47 [iv k, iv (0 : Int), iv (IntKind.i64.wrap ((↑(List.map (fun p => [V.lst 2 (List.map sp p)]) l.1).length : Int) - (1 : Int)))] fun v => onBool v fun b => ifB (!b) (R (V.tup [V.agg [nilS, iv (0 : Int)], V.agg [nilS, iv (0 : Int)], iv (2 : Int)])) (ifB (i == k) (R (V.tup [V.agg [nilS, iv (0 : Int)], V.agg [nilS, iv (0 : Int)], iv (2 : Int)])) (K0 Try.prog 57 [V.agg tabC, V.agg [V.lst 1 (List.map (fun p => [V.lst 2 (List.map sp p)]) l.1), V.lst 5 (List.map hi l.2)]] fun v => onLst v fun s es => onNat i fun m => need (s = 2) (onSome es[m]? fun row => onCons (List.drop 0 row) fun u r => onLst u fun s_1 es_1 => onCons r fun u r => onIntK IntKind.i64 u fun n => onNat k fun m => need (s = 2) (onSome es[m]? fun row => onCons (List.drop 0 row) fun u r => onLst u fun s es => onCons r fun u r => onIntK IntKind.i64 u fun n_1 => R (V.tup [V.agg [V.lst s_1 es_1, iv n], V.agg [V.lst s es, iv n_1], iv (0 : Int)])))))))) (by kernel_rfl) ?_)
  refine check24 (ps := l.1) (hs := l.2) hs.ps hs.hs hs.each (onIntK_iv ?_)
  unfold pairR twoC at h
  cases hl : linB l with
  | false => rw [hl] at h; exact h
  | true =>
    rw [hl] at h
    rw [if_pos rfl] at h
    refine ifB_mk (fun hb => by simp at hb) (fun _ => ?_)
    rw [wr_len (by have := hs.ps; simpa using this), List.length_map]
    refine within47 (onBool_bv (ifB_mk (fun hb => ?_) (fun hb => within47 (onBool_bv (ifB_mk (fun hb2 => ?_) (fun hb2 => ifB_mk (fun hb3 => ?_) (fun hb3 => ?_)))))))
    · have hb : win i 0 (l.1.length - 1) = false := by simpa using hb
      rw [hb] at h; exact h
    · have hb : win k 0 (l.1.length - 1) = false := by simpa using hb2
      rw [hb, Bool.and_false] at h; exact h
    · rw [hb3, Bool.not_true, Bool.and_false] at h; exact h
    · have w1 : win i 0 (l.1.length - 1) = true := by simpa using hb
      have w2 : win k 0 (l.1.length - 1) = true := by simpa using hb2
      rw [w1, w2, hb3] at h
      have w1 := win_iff.1 w1
      have w2 := win_iff.1 w2
      obtain ⟨m, rfl⟩ : ∃ m : Nat, i = (m : Int) := ⟨i.toNat, by omega⟩
      obtain ⟨n, rfl⟩ : ∃ m : Nat, k = (m : Int) := ⟨k.toNat, by omega⟩
      refine panels57 hl (onLst_lst (onNat_mk rfl (need_mk ⟨rfl, pd_at (pans_get (by omega)) (onNat_mk rfl (need_mk ⟨rfl, pd_at (pans_get (by omega)) ?_⟩))⟩)))
      exact h
def clashR (l : Li) (i k : Int) : V := if twoC l i k = 0 then .tup [apV (apartP (panI l i) (panI l k)) (apS (apartP (panI l i) (panI l k))), iv (bif (apartP (panI l i) (panI l k)).1 then 0 else 51)] else .tup [.agg [bv false, iv 0, iv 0, iv 0, iv 0, nilS], iv (twoC l i k)]
theorem clash35 {l : Li} {i k : Int} {R : V → Prop} (hs : LiSz l) (h : R (clashR l i k)) : K0 Try.prog 35 [.agg (lk l), iv i, iv k] R := by
  refine K0_of_W0 (kps := kp0) hM hmH Try.func35 (see (p := K0 Try.prog 65 [V.agg [V.lst 1 (List.map (fun p => [V.lst 2 (List.map sp p)]) l.1), V.lst 5 (List.map hi l.2)], iv i, iv k] fun v => onTup v fun vs => onCons vs fun u r => onAgg u fun cs => onCons cs fun u r_1 => onLst u fun s es => onCons r_1 fun u r_2 => onIntK IntKind.i64 u fun n => onNil r_2 (onCons r fun u r => onAgg u fun cs => onCons cs fun u r_3 => onLst u fun s_1 es_1 => onCons r_3 fun u r_4 => onIntK IntKind.i64 u fun n_1 => onNil r_4 (onCons r fun u r => onIntK IntKind.i64 u fun n_2 => onNil r (ifB (n_2 != (0 : Int)) (R (V.tup [V.agg [bv false, iv (0 : Int), iv (0 : Int), iv (0 : Int), iv (0 : Int), nilS], iv n_2])) (K0 Try.prog 66 [V.agg [V.lst s es, iv n], V.agg [V.lst s_1 es_1, iv n_1]] fun v => onAgg v fun cs => onCons cs fun u r => onBool u fun b => onCons r fun u r => onIntK IntKind.i64 u fun n => onCons r fun u r => onIntK IntKind.i64 u fun n_3 => onCons r fun u r => onIntK IntKind.i64 u fun n_4 => onCons r fun u r => onIntK IntKind.i64 u fun n_5 => onCons r fun u r => onLst u fun s es => onNil r (ifB (!b) (R (V.tup [V.agg [bv b, iv n, iv n_3, iv n_4, iv n_5, V.lst s es], iv (51 : Int)])) (R (V.tup [V.agg [bv b, iv n, iv n_3, iv n_4, iv n_5, V.lst s es], iv (0 : Int)])))))))) (by kernel_rfl) ?_)
  refine pair65 (l := l) hs ?_
  unfold clashR at h
  unfold pairR
  by_cases h0 : twoC l i k = 0
  · rw [if_pos h0] at h ⊢
    obtain ⟨hl, i0, i1, k0, k1, _⟩ := twoC_ok h0
    refine (onTup_tup (onCons_cons (onAgg_agg (onCons_cons (onLst_lst (onCons_cons (onIntK_iv (onNil_nil (onCons_cons (onAgg_agg (onCons_cons (onLst_lst (onCons_cons (onIntK_iv (onNil_nil (onCons_cons (onIntK_iv (onNil_nil (?_)))))))))))))))))))
    refine ifB_mk (fun hb => by simp at hb) (fun _ => ?_)
    refine apart66 (p := panI l i) (q := panI l k) (panI_ok hl i0 i1) (panI_ok hl k0 k1) ?_
    obtain ⟨a, ha⟩ : ∃ a, a = apartP (panI l i) (panI l k) := ⟨_, rfl⟩
    rw [← ha] at h ⊢
    refine (onAgg_agg (onCons_cons (onBool_bv (onCons_cons (onIntK_iv (onCons_cons (onIntK_iv (onCons_cons (onIntK_iv (onCons_cons (onIntK_iv (onCons_cons (onLst_lst (onNil_nil (?_)))))))))))))))
    cases hc : a.1 with
    | false => rw [hc] at h; unfold apV at h; rw [hc] at h; exact h
    | true => rw [hc] at h; unfold apV at h; rw [hc] at h; exact h
  · rw [if_neg h0] at h ⊢
    refine (onTup_tup (onCons_cons (onAgg_agg (onCons_cons (onLst_nil (onCons_cons (onIntK_iv (onNil_nil (onCons_cons (onAgg_agg (onCons_cons (onLst_nil (onCons_cons (onIntK_iv (onNil_nil (onCons_cons (onIntK_iv (onNil_nil (?_)))))))))))))))))))
    exact ifB_mk (fun _ => h) (fun hb => by simp at hb; exact absurd hb h0)
end Go.Proofs.Ytahoindkdkhpmaa
