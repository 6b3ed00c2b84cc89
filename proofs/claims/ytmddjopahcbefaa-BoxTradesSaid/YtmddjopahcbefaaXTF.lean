/- After trading in circles no group does better; everybody likes its lot at least as much as its own. -/
import Derived.Test.YtmddjopahcbefaaXTE
namespace Go.Proofs.Ytmddjopahcbefaa
open Go Go.Proofs.Ytmddjopahcbefaa.Clean
set_option linter.unusedVariables false
set_option linter.unusedSimpArgs false
set_option maxRecDepth 10000

theorem favourite46 {l : List Nat} {L : Nat} {R : V → Prop} (hl : l.length ≤ 1000 ∧ ∀ x ∈ l, x < 8) (hL : L < 256) (h : R (iv (fav l L : Int))) : K0G Try.prog glX 83 [.lst 1 (nn l), sv L] R := by
  refine K0_of_WY0 hmX hcM 100 Try.func83 (see (p := La 0 [(1 : Tmp), (7 : Tmp), (8 : Tmp), (9 : Tmp)] (WY Try.prog cfM 95 (Env.mk (Bs.mk 0 []) 0 none 18 83 0) (cdAt [1, 0, 1, 0, 0] (bodyOf Try.f83))) (Qblk 0 (Qthen (WY Try.prog cfM 98 (Env.mk (Bs.mk 0 []) 0 none 18 83 0) (cdAt [1, 1] (bodyOf Try.f83)) (QendX Try.prog Try.f83 fun v h => R (frzW h v))) (QendX Try.prog Try.f83 fun v h => R (frzW h v)))) (St.mk (mkT [(1, V.raw (Value.int IntKind.u8 (↑L : Int))), (7, V.lst 1 (nn l)), (8, iv (↑(nn l).length : Int)), (9, iv (0 : Int))]) (Hp.mk [] 0 []))) (by kernel_rfl) ?_)
  refine La.of (σ := Nat) (fun k => sh46 l L k) (fun k => k ≤ l.length ∧ ∀ (j z : Nat), j < k → l[j]? = some z → L.testBit z = false) (fun k => l.length - k) 0 (by kernel_rfl) ⟨by simp, by simp⟩ ?_
  rintro k ⟨hk, hk1⟩ J hJ
  refine see (p := ifB (decide ((↑k : Int) < (↑(nn l).length : Int))) (onSome (nn l)[k]? fun row => onSome row[0]? fun v => onIntK IntKind.i64 v fun n => K0G Try.prog glX 84 [V.raw (Value.int IntKind.u8 (↑L : Int)), iv n] fun v => onBool v fun b => ifB b (R (iv n)) (J (St.mk (mkT [(1, V.raw (Value.int IntKind.u8 (↑L : Int))), (7, V.lst 1 (nn l)), (8, iv (↑(nn l).length : Int)), (9, iv (IntKind.i64.wrap ((↑k : Int) + (1 : Int))))]) (Hp.mk [] 0 [])))) (R (iv (0 : Int)))) (by kernel_rfl) ?_
  refine ifB_mk (fun hb => ?_) (fun hb => ?_)
  · have hlt : k < l.length := by rw [nn_length] at hb; have := of_decide_eq_true hb; omega
    have hx := getN hlt
    generalize l.getD k 0 = x at hx
    refine nel hx (has47 hL (hl.2 x (List.mem_of_getElem? hx)) (onBool_bv (ifB_mk (fun hc => ?_) (fun hc => ?_))))
    · rw [fav_eq hx hc hk1] at h
      exact h
    · rw [wr1 hlt (by omega)]
      refine hJ (k + 1) ⟨hlt, fun j z hj hz => ?_⟩ (by omega)
      rcases Nat.lt_succ_iff_lt_or_eq.1 hj with g | g
      · exact hk1 j z g hz
      · subst g; rw [hx] at hz; cases hz; exact hc
  · have hk : k = l.length := by rw [nn_length] at hb; have := of_decide_eq_false hb; omega
    rw [fav_out fun j z hz => hk1 j z (by have := (List.getElem?_eq_some_iff.1 hz).1; omega) hz] at h
    exact h

def dif (L c : Nat) : Nat := L &&& (255 ^^^ c)
theorem dif_bits : ∀ L, L < 256 → ∀ c, c < 256 → IntKind.u8.wrap (↑(BitVec.ofInt 8 ((L : Nat) : Int) &&& ~~~BitVec.ofInt 8 ((c : Nat) : Int)).toNat : Int) = ((dif L c : Nat) : Int) := by decide +kernel
theorem dif_bit {L c x : Nat} (hL : L < 256) : (dif L c).testBit x = (L.testBit x && !c.testBit x) := by
  unfold dif
  rw [Nat.testBit_and, Nat.testBit_xor, show (255 : Nat) = 2 ^ 8 - 1 by decide, Nat.testBit_two_pow_sub_one]
  cases hx : L.testBit x with
  | false => rfl
  | true =>
    have := bit8 hL hx
    simp [this]
theorem dif_le (L c : Nat) : dif L c ≤ L := Nat.and_le_left
theorem sub_all {l : List Nat} {n : Nat} (h : l.length = n) : sub (nn l) 0 n = nn l := by
  simp only [sub, List.drop_zero]
  exact List.take_of_length_le (by rw [nn_length]; omega)
theorem set_nn (l : List Nat) (i x : Nat) : (nn l).set i [iv (x : Int)] = nn (l.set i x) := by simp [nn, List.map_set]
theorem hJs {J : St → Prop} {s s' : St} (he : s = s') (h : J s') : J s := he ▸ h
theorem trade14 {w : List (List Nat)} {R : V → Prop} (hw : WokN w) (h : ∀ t : List Nat, t.length = w.length → Core w t → R (.tup [.lst 1 (nn t), iv 0])) : K0G Try.prog glX 31 [.lst 1 (wn w)] R := by
  refine K0_of_WY0 hmX hcM 100 Try.func31 (see (p := K0G Try.prog glX 80 [V.lst 1 (wn w)] fun v => onIntK IntKind.i64 v fun n => ifB (n != (0 : Int)) (R (V.tup [nilS, iv n])) (need ((wn w).length ≤ (wn w).length) (need (8 * (wn w).length ≤ 140737488355328) (need ((wn w).length ≤ 9223372036854775807) (K0G Try.prog glX 81 [iv (↑(wn w).length : Int)] fun v => onIntK IntKind.u8 v fun n => La 0 [(0 : Tmp), (5 : Tmp), (6 : Tmp)] (WY Try.prog cfM 93 (Env.mk (Bs.mk 0 []) 0 none 59 31 0) (cdAt [1, 1, 1, 0, 1, 0, 0] (bodyOf Try.f31))) (Qblk 0 (Qthen (WY Try.prog cfM 96 (Env.mk (Bs.mk 0 []) 0 none 59 31 0) (cdAt [1, 1, 1, 1] (bodyOf Try.f31)) (QendX Try.prog Try.f31 fun v h => R (frzW h v))) (QendX Try.prog Try.f31 fun v h => R (frzW h v)))) (St.mk (mkT [(0, V.lst 1 (wn w)), (5, V.sl (Id.p 0) 0 (wn w).length), (6, V.raw (Value.int IntKind.u8 n))]) (Hp.mk [(0, O.rows 1 true (List.replicate (wn w).length [iv (0 : Int)]))] 1 []))))))) (by kernel_rfl) ?_)
  obtain ⟨hw1, hw2⟩ := hw
  rw [wn_length]
  refine (show K0G Try.prog glX 80 [V.lst 1 (wl (ofW w))] _ from wishes43 (fun _ => onIntK_iv (ifB_f rfl ?_)) (fun hn => absurd (wok_of.2 ⟨hw1, hw2⟩) hn)) |> cast (by rw [wl_of])
  refine need_mk ⟨Nat.le_refl _, need_mk ⟨by omega, need_mk ⟨by omega, firsts44 (by omega) (onIntK_u8 ?_)⟩⟩⟩
  have h8 : 2 ^ w.length ≤ 2 ^ 8 := Nat.pow_le_pow_right (by omega) hw1.2
  have hwv : ∀ t, (w.getD t []).length ≤ 1000 ∧ ∀ x ∈ w.getD t [], x < 8 := by
    intro t
    cases ht : w[t]? with
    | none => simp [List.getD, ht]
    | some l =>
      have he : w.getD t [] = l := by simp [List.getD, ht]
      rw [he]
      obtain ⟨a1, a2, _⟩ := hw2 t l ht
      refine ⟨by omega, fun x hx => ?_⟩
      obtain ⟨j, hj⟩ := List.getElem?_of_mem hx
      have := a2 j x hj
      omega
  refine La.of (σ := List Nat × Nat) (fun s => sh14 w s.1 s.2) (fun s => s.1.length = w.length ∧ s.2 < 2 ^ w.length ∧ Part w s.2 s.1) (fun s => s.2) (List.replicate w.length 0, 2 ^ w.length - 1) (by simp [sh14, nn, sv, u8v]) ⟨by simp, by have := Nat.two_pow_pos w.length; simp only; omega, fun _ => 0, 0, fun t ht hL => ?_, fun t u ht hu hL => ?_⟩ ?_
  · simp only [Nat.testBit_two_pow_sub_one, decide_eq_false_iff_not] at hL; exact absurd ht hL
  · simp only [Nat.testBit_two_pow_sub_one, decide_eq_false_iff_not] at hL; exact absurd ht hL
  rintro ⟨s, L⟩ ⟨hs, hL, hP⟩ J hJ
  simp only at hs hL hP
  have h256 : L < 256 := Nat.lt_of_lt_of_le hL h8
  have hLn : ∀ x, L.testBit x = true → x < w.length := fun x hx => (Nat.pow_lt_pow_iff_right (a := 2) (by omega)).1 (Nat.lt_of_le_of_lt (Nat.ge_two_pow_of_testBit hx) hL)
  refine see (p := ifB ((↑L : Int) != (0 : Int)) (K0G Try.prog glX 82 [V.raw (Value.int IntKind.u8 (↑L : Int))] fun v => onIntK IntKind.i64 v fun n => La 0 [(0 : Tmp), (5 : Tmp), (6 : Tmp), (7 : Tmp), (25 : Tmp), (26 : Tmp)] (WY Try.prog cfM 86 (Env.mk (Bs.mk 0 []) 0 none 59 31 2) (cdAt [1, 1, 1, 0, 1, 0, 0, 1, 0, 1, 0, 1, 0, 0] (bodyOf Try.f31))) (Qblk 2 (Qthen (WY Try.prog cfM 89 (Env.mk (Bs.mk 0 []) 0 none 59 31 1) (cdAt [1, 1, 1, 0, 1, 0, 0, 1, 0, 1, 1] (bodyOf Try.f31)) (Qblk 1 (Qla 0 [(0 : Tmp), (5 : Tmp), (6 : Tmp)] J (Qblk 0 (Qthen (WY Try.prog cfM 96 (Env.mk (Bs.mk 0 []) 0 none 59 31 0) (cdAt [1, 1, 1, 1] (bodyOf Try.f31)) (QendX Try.prog Try.f31 fun v h => R (frzW h v))) (QendX Try.prog Try.f31 fun v h => R (frzW h v))))))) (Qblk 1 (Qla 0 [(0 : Tmp), (5 : Tmp), (6 : Tmp)] J (Qblk 0 (Qthen (WY Try.prog cfM 96 (Env.mk (Bs.mk 0 []) 0 none 59 31 0) (cdAt [1, 1, 1, 1] (bodyOf Try.f31)) (QendX Try.prog Try.f31 fun v h => R (frzW h v))) (QendX Try.prog Try.f31 fun v h => R (frzW h v)))))))) (St.mk (mkT [(0, V.lst 1 (wn w)), (5, V.sl (Id.p 0) 0 w.length), (6, V.raw (Value.int IntKind.u8 (↑L : Int))), (7, iv n), (25, iv (↑(wn w).length : Int)), (26, iv (0 : Int))]) (Hp.mk [(0, O.rows 1 true (nn s))] 1 []))) (R (V.tup [V.lst 1 (sub (nn s) 0 w.length), iv (0 : Int)]))) (by kernel_rfl) ?_
  refine ifB_mk (fun hb => ?_) (fun hb => ?_)
  rotate_left
  · have hL0 : L = 0 := by simp at hb; omega
    subst hL0
    rw [sub_all hs]
    exact h s hs (part_end hP)
  have hL0 : L ≠ 0 := by simp at hb; omega
  obtain ⟨hf8, hfb⟩ := fi_bit L h256 hL0
  refine first45 h256 (onIntK_iv ?_)
  generalize fi L = a0 at hf8 hfb
  -- where each points to
  let f : Nat → Nat := fun t => fav (w.getD t []) L
  have toL : ∀ t, t < w.length → L.testBit (f t) = true := fun t ht => by
    obtain ⟨k, hk⟩ := all_in (hw2 t _ (getW ht)) (hLn _ hfb)
    exact (fav_spec hk hfb).1
  have itL : ∀ k a, L.testBit a = true → L.testBit (itf f k a) = true := fun k a ha => by
    induction k with
    | zero => exact ha
    | succ k ih => exact toL _ (hLn _ ih)
  refine La.of (σ := Nat × Nat) (fun q => sh14a w s L q.1 q.2) (fun q => q.2 ≤ w.length ∧ q.1 = itf f q.2 a0) (fun q => w.length - q.2) (a0, 0) (by kernel_rfl) ⟨by simp, rfl⟩ ?_
  rintro ⟨x, k⟩ ⟨hk, hx⟩ I hI
  simp only at hk hx
  refine see (p := ifB (decide ((↑k : Int) < (↑(wn w).length : Int))) (onSome (wn w)[x]? fun row => onSome row[0]? fun v => onLst v fun s_1 es => K0G Try.prog glX 83 [V.lst s_1 es, V.raw (Value.int IntKind.u8 (↑L : Int))] fun v => onIntK IntKind.i64 v fun n => I (St.mk (mkT [(0, V.lst 1 (wn w)), (5, V.sl (Id.p 0) 0 w.length), (6, V.raw (Value.int IntKind.u8 (↑L : Int))), (7, iv n), (25, iv (↑(wn w).length : Int)), (26, iv (IntKind.i64.wrap ((↑k : Int) + (1 : Int))))]) (Hp.mk [(0, O.rows 1 true (nn s))] 1 []))) (La 0 [(0 : Tmp), (5 : Tmp), (6 : Tmp), (7 : Tmp), (8 : Tmp)] (WY Try.prog cfM 85 (Env.mk (Bs.mk 0 []) 0 none 59 31 4) (cdAt [1, 1, 1, 0, 1, 0, 0, 1, 0, 1, 1, 1, 0, 0, 0] (bodyOf Try.f31))) (Qblk 4 (Qthen (WY Try.prog cfM 87 (Env.mk (Bs.mk 0 []) 0 none 59 31 1) (cdAt [1, 1, 1, 0, 1, 0, 0, 1, 0, 1, 1, 1, 1] (bodyOf Try.f31)) (Qblk 1 (Qla 0 [(0 : Tmp), (5 : Tmp), (6 : Tmp)] J (Qblk 0 (Qthen (WY Try.prog cfM 96 (Env.mk (Bs.mk 0 []) 0 none 59 31 0) (cdAt [1, 1, 1, 1] (bodyOf Try.f31)) (QendX Try.prog Try.f31 fun v h => R (frzW h v))) (QendX Try.prog Try.f31 fun v h => R (frzW h v))))))) (Qblk 1 (Qla 0 [(0 : Tmp), (5 : Tmp), (6 : Tmp)] J (Qblk 0 (Qthen (WY Try.prog cfM 96 (Env.mk (Bs.mk 0 []) 0 none 59 31 0) (cdAt [1, 1, 1, 1] (bodyOf Try.f31)) (QendX Try.prog Try.f31 fun v h => R (frzW h v))) (QendX Try.prog Try.f31 fun v h => R (frzW h v)))))))) (St.mk (mkT [(0, V.lst 1 (wn w)), (5, V.sl (Id.p 0) 0 w.length), (6, V.raw (Value.int IntKind.u8 (↑L : Int))), (7, iv (↑x : Int)), (8, V.raw (Value.int IntKind.u8 (0 : Int)))]) (Hp.mk [(0, O.rows 1 true (nn s))] 1 [])))) (by kernel_rfl) ?_
  have hxL : L.testBit x = true := by rw [hx]; exact itL k a0 hfb
  refine ifB_mk (fun hb => ?_) (fun hb => ?_)
  · have hlt : k < w.length := by rw [wn_length] at hb; have := of_decide_eq_true hb; omega
    refine wel (getW (hLn x hxL)) (favourite46 (hwv x) h256 (onIntK_iv ?_))
    rw [wr1 hlt (by omega)]
    exact hI (f x, k + 1) ⟨hlt, by simp only; rw [hx]; rfl⟩ (by simp only; omega)
  have hkn : k = w.length := by rw [wn_length] at hb; have := of_decide_eq_false hb; omega
  subst hkn
  obtain ⟨p, hp1, hp2⟩ := closes (n := w.length) (f := f) (a := a0) (fun k => hLn _ (itL k a0 hfb))
  rw [← hx] at hp2
  clear hx hI hb
  refine La.of (σ := (Nat × Nat) × List Nat × Nat) (fun q => sh14b w q.2.1 L q.1.1 q.1.2) (fun q => q.2.2 ≤ w.length ∧ q.1.1 = itf f q.2.2 x ∧ q.1.2 < 256 ∧ (∀ m, q.1.2.testBit m = true ↔ ∃ j, j < q.2.2 ∧ itf f j x = m) ∧ (∀ i j, i < j → j < q.2.2 → itf f i x ≠ itf f j x) ∧ q.2.1.length = w.length ∧ ∀ t, t < w.length → q.2.1.getD t 0 = bif q.1.2.testBit t then f t else s.getD t 0) (fun q => w.length - q.2.2) ((x, 0), s, 0) (by kernel_rfl) ⟨by simp, rfl, by simp, by simp, by simp, hs, by simp⟩ ?_
  rintro ⟨⟨y, c⟩, u, k⟩ ⟨hk, hy, hc, hcb, hd, hu, hus⟩ H hH
  simp only at hk hy hc hcb hd hu hus
  refine see (p := K0G Try.prog glX 84 [V.raw (Value.int IntKind.u8 (↑c : Int)), iv (↑y : Int)] fun v => onBool v fun b => ifB (!b) (K0G Try.prog glX 85 [V.raw (Value.int IntKind.u8 (↑c : Int)), iv (↑y : Int)] fun v => onIntK IntKind.u8 v fun n => onSome (wn w)[y]? fun row => onSome row[0]? fun v => onLst v fun s es => K0G Try.prog glX 83 [V.lst s es, V.raw (Value.int IntKind.u8 (↑L : Int))] fun v => onIntK IntKind.i64 v fun n_1 => need (y < w.length) (onSome (nn u)[0 + y]? fun row => guardB ((0 + 1).ble row.length) (need (y < w.length) (onSome ((nn u).set (0 + y) (iv n_1 :: (List.append ([] : List V)) (List.drop 1 row)))[0 + y]? fun row_1 => onSome row_1[0]? fun v => onIntK IntKind.i64 v fun n_2 => H (St.mk (mkT [(0, V.lst 1 (wn w)), (5, V.sl (Id.p 0) 0 w.length), (6, V.raw (Value.int IntKind.u8 (↑L : Int))), (7, iv n_2), (8, V.raw (Value.int IntKind.u8 n))]) (Hp.mk [(0, O.rows 1 true ((nn u).set (0 + y) (iv n_1 :: (List.append ([] : List V)) (List.drop 1 row))))] 1 [])))))) (J (St.mk (mkT [(0, V.lst 1 (wn w)), (5, V.sl (Id.p 0) 0 w.length), (6, V.raw (Value.int IntKind.u8 (IntKind.u8.wrap (↑(BitVec.ofInt 8 (↑L : Int) &&& ~~~BitVec.ofInt 8 (↑c : Int)).toNat : Int))))]) (Hp.mk [(0, O.rows 1 true (nn u))] 1 [])))) (by kernel_rfl) ?_
  have hyL : L.testBit y = true := by rw [hy]; exact itL k x hxL
  have hyn := hLn y hyL
  have hy8 : y < 8 := by omega
  refine has47 hc hy8 (onBool_bv (ifB_mk (fun hb => ?_) (fun hb => ?_)))
  · have hbf : c.testBit y = false := by simpa using hb
    have hdk : ∀ i, i < k → itf f i x ≠ y := fun i hi he => by
      have := (hcb y).2 ⟨i, hi, he⟩
      rw [this] at hbf; cases hbf
    have hd' : ∀ i j, i < j → j < k + 1 → itf f i x ≠ itf f j x := fun i j hij hj => by
      rcases Nat.lt_succ_iff_lt_or_eq.1 hj with g | g
      · exact hd i j hij g
      · subst g; rw [← hy]; exact hdk i hij
    have hkn : k + 1 ≤ w.length := distinct_le (g := fun i => itf f i x) (fun i _ => hLn _ (itL i x hxL)) hd'
    obtain ⟨z, hz⟩ : ∃ z, u[y]? = some z := ⟨u.getD y 0, getN (by omega)⟩
    refine with48 hc hy8 (onIntK_u8 (wel (getW hyn) (favourite46 (hwv y) h256 (onIntK_iv (need_mk ⟨hyn, onSome_mk (x := [iv (z : Int)]) (by rw [Nat.zero_add]; exact nn_get hz) (guardB_mk rfl (need_mk ⟨hyn, ?_⟩))⟩)))))
    rw [show iv ((fav (w.getD y []) L : Nat) : Int) :: (List.append ([] : List V)) (List.drop 1 [iv (z : Int)]) = [iv ((fav (w.getD y []) L : Nat) : Int)] from rfl, Nat.zero_add, set_nn]
    refine nel (x := f y) (by rw [List.getElem?_set_self (by omega)]) ?_
    refine hH ((f y, c ||| 2 ^ y), u.set y (f y), k + 1) ⟨hkn, by simp only; rw [hy]; rfl, wi_lt c hc y hy8, fun m => ?_, hd', by simp [hu], fun t ht => ?_⟩ (by simp only; omega)
    · simp only
      rw [Nat.testBit_or, Nat.testBit_two_pow, Bool.or_eq_true, hcb, decide_eq_true_iff]
      constructor
      · rintro (⟨j, j1, j2⟩ | rfl)
        · exact ⟨j, by omega, j2⟩
        · exact ⟨k, by omega, hy.symm⟩
      · rintro ⟨j, j1, j2⟩
        rcases Nat.lt_succ_iff_lt_or_eq.1 j1 with g | g
        · exact .inl ⟨j, g, j2⟩
        · subst g; exact .inr (by rw [hy]; exact j2)
    · simp only
      rw [Nat.testBit_or, Nat.testBit_two_pow]
      by_cases hty : y = t
      · subst hty
        simp [List.getD, List.getElem?_set_self (show y < u.length by omega)]
      · have hg : (u.set y (f y)).getD t 0 = u.getD t 0 := by simp [List.getD, List.getElem?_set_ne hty]
        rw [hg, hus t ht]
        simp [hty]
  · have hbt : c.testBit y = true := by simpa using hb
    obtain ⟨i, hi, hie⟩ := (hcb y).1 hbt
    have hi0 := first_back hp1 hp2 hd hi (by rw [← hy, hie])
    subst hi0
    have ring : Ring f x k := ⟨by omega, by rw [← hy, ← hie]; rfl, hd⟩
    have hcL : ∀ m, c.testBit m = true → L.testBit m = true := fun m hm => by
      obtain ⟨j, _, rfl⟩ := (hcb m).1 hm
      exact itL j x hxL
    rw [dif_bits L h256 c hc]
    refine hJ (u, dif L c) ⟨hu, Nat.lt_of_le_of_lt (dif_le _ _) hL, part_step ⟨hw1, hw2⟩ hLn (fun m => dif_bit h256) hcL hus (fun m hm => (hcb _).2 (ring.next ((hcb m).1 hm))) (fun m q hm hq he => ring.inj ((hcb m).1 hm) ((hcb q).1 hq) he) hP⟩ ?_
    simp only
    rcases Nat.lt_or_eq_of_le (dif_le L c) with g | g
    · exact g
    · have := dif_bit (L := L) (c := c) (x := y) h256
      rw [g, hyL, hbt] at this
      cases this
theorem trade14_bad {w : List (List Int)} {R : V → Prop} (hw : ¬ Wok w) (h : R (.tup [nilS, iv 2])) : K0G Try.prog glX 31 [.lst 1 (wl w)] R := by
  refine K0_of_WY0 hmX hcM 100 Try.func31 (see (p := K0G Try.prog glX 80 [V.lst 1 (wl w)] fun v => onIntK IntKind.i64 v fun n => ifB (n != (0 : Int)) (R (V.tup [nilS, iv n])) (need ((wl w).length ≤ (wl w).length) (need (8 * (wl w).length ≤ 140737488355328) (need ((wl w).length ≤ 9223372036854775807) (K0G Try.prog glX 81 [iv (↑(wl w).length : Int)] fun v => onIntK IntKind.u8 v fun n => La 0 [(0 : Tmp), (5 : Tmp), (6 : Tmp)] (WY Try.prog cfM 93 (Env.mk (Bs.mk 0 []) 0 none 59 31 0) (cdAt [1, 1, 1, 0, 1, 0, 0] (bodyOf Try.f31))) (Qblk 0 (Qthen (WY Try.prog cfM 96 (Env.mk (Bs.mk 0 []) 0 none 59 31 0) (cdAt [1, 1, 1, 1] (bodyOf Try.f31)) (QendX Try.prog Try.f31 fun v h => R (frzW h v))) (QendX Try.prog Try.f31 fun v h => R (frzW h v)))) (St.mk (mkT [(0, V.lst 1 (wl w)), (5, V.sl (Id.p 0) 0 (wl w).length), (6, V.raw (Value.int IntKind.u8 n))]) (Hp.mk [(0, O.rows 1 true (List.replicate (wl w).length [iv (0 : Int)]))] 1 []))))))) (by kernel_rfl) ?_)
  exact wishes43 (fun ho => absurd ho hw) (fun _ => onIntK_iv (ifB_t rfl h))

theorem core_once {w : List (List Nat)} {t : List Nat} (hl : t.length = w.length) (h : Core w t) : OnceN t w.length := by
  obtain ⟨rk, h1, h2⟩ := h
  have g : ∀ {i x : Nat}, t[i]? = some x → i < w.length ∧ t.getD i 0 = x := fun {i x} hi => by
    have := (List.getElem?_eq_some_iff.1 hi).1
    exact ⟨by omega, by simp [List.getD, hi]⟩
  refine ⟨hl, fun i x hi => ?_, fun i j x hij hi hj => ?_⟩
  · obtain ⟨a, rfl⟩ := g hi
    exact (h1 i a).1
  · obtain ⟨a, b⟩ := g hi
    obtain ⟨a', b'⟩ := g hj
    have := h2 i j a a' (by rw [b, b'])
    omega
end Go.Proofs.Ytmddjopahcbefaa
