/- A part of the proof. -/
import Derived.ProofKit
import Derived.Deep.Slices
import Derived.Carry
import Derived.Test.YtmdimnmdoifkfaaXU6G7
import Derived.Test.YtmdimnmdoifkfaaXU6G13
namespace Go.Proofs.Ytmdimnmdoifkfaa
open Go Go.Proofs.Ytmdimnmdoifkfaa.Clean
set_option linter.unusedVariables false
set_option linter.unusedSimpArgs false
set_option maxRecDepth 10000
theorem hcK : cfK.ok Try.prog := by
  have h : (cfgG Try.prog glX moK poK rtB (inN [75, 54, 32, 56]) kpK).ok Try.prog := cfgG_ok rtB_ok
  exact ⟨h.1, h.2⟩
theorem table74 {l : List (List Int)} {R : V → Prop} (hl : l.length ≤ 10) (hw : ∀ x ∈ l, x.length ≤ 12) (h : R (bv (dc (TabP l)))) : K0G Try.prog glX 74 [.lst 1 (tl l)] R := by
  refine K0_of_WY0 hmX hcK 3000 Try.func74 (see (p := ifB (decide ((↑(tl l).length : Int) ≥ (1 : Int))) (ifB (!decide ((↑(tl l).length : Int) ≤ (8 : Int))) (R (bv false)) (La 0 [(0 : Tmp), (3 : Tmp)] (WY Try.prog cfK 2994 (Env.mk (Bs.mk 0 []) 0 none 54 74 0) (cdAt [1, 1, 0, 1, 0, 0] (bodyOf Try.f74))) (Qblk 0 (Qthen (WY Try.prog cfK 2997 (Env.mk (Bs.mk 0 []) 0 none 54 74 0) (cdAt [1, 1, 1] (bodyOf Try.f74)) (QendX Try.prog Try.f74 fun v h => R (frzW h v))) (QendX Try.prog Try.f74 fun v h => R (frzW h v)))) (St.mk (mkT [(0, V.lst 1 (tl l)), (3, iv (0 : Int))]) (Hp.mk [] 0 [])))) (R (bv false))) (by kernel_rfl) ?_)
  have tlen := tl_length l
  rw [tlen]
  refine ifB_mk (fun c1 => ifB_mk (fun c2 => rf h (fun hp => by have := hp.2.1; simp at c2; omega)) (fun c2 => ?_)) (fun c1 => rf h (fun hp => by have := hp.1; have := of_decide_eq_false c1; omega))
  have l1 : 1 ≤ l.length := by have := of_decide_eq_true c1; omega
  have l8 : l.length ≤ 8 := by simp at c2; omega
  refine La.of (σ := Nat) (fun k => sh74a l k) (fun k => k ≤ l.length ∧ ∀ x ∈ l.take k, Nums x ((l.length : Int) + 1) 0 1000 ∧ tot x = 1000) (fun k => l.length - k) 0 (by kernel_rfl) ⟨by simp, by simp⟩ ?_
  rintro k ⟨g1, g2⟩ J hJ
  refine see (p := ifB (decide ((↑k : Int) < (↑(tl l).length : Int))) (onSome (tl l)[k]? fun row => onSome row[0]? fun v => onLst v fun s es => ifB ((↑es.length : Int) != IntKind.i64.wrap ((↑(tl l).length : Int) + (1 : Int))) (R (bv false)) (La 0 [(0 : Tmp), (3 : Tmp), (4 : Tmp), (5 : Tmp)] (WY Try.prog cfK 2985 (Env.mk (Bs.mk 0 []) 0 none 54 74 2) (cdAt [1, 1, 0, 1, 0, 0, 1, 0, 0, 1, 1, 0, 1, 0, 0] (bodyOf Try.f74))) (Qblk 2 (Qthen (WY Try.prog cfK 2988 (Env.mk (Bs.mk 0 []) 0 none 54 74 1) (cdAt [1, 1, 0, 1, 0, 0, 1, 0, 0, 1, 1, 1] (bodyOf Try.f74)) (Qblk 1 (Qthen (WY Try.prog cfK 2992 (Env.mk (Bs.mk 0 []) 0 none 54 74 0) (cdAt [1, 1, 0, 1, 0, 0, 1, 1] (bodyOf Try.f74)) (Qla 0 [(0 : Tmp), (3 : Tmp)] J (Qblk 0 (Qthen (WY Try.prog cfK 2997 (Env.mk (Bs.mk 0 []) 0 none 54 74 0) (cdAt [1, 1, 1] (bodyOf Try.f74)) (QendX Try.prog Try.f74 fun v h => R (frzW h v))) (QendX Try.prog Try.f74 fun v h => R (frzW h v)))))) (Qla 0 [(0 : Tmp), (3 : Tmp)] J (Qblk 0 (Qthen (WY Try.prog cfK 2997 (Env.mk (Bs.mk 0 []) 0 none 54 74 0) (cdAt [1, 1, 1] (bodyOf Try.f74)) (QendX Try.prog Try.f74 fun v h => R (frzW h v))) (QendX Try.prog Try.f74 fun v h => R (frzW h v)))))))) (Qblk 1 (Qthen (WY Try.prog cfK 2992 (Env.mk (Bs.mk 0 []) 0 none 54 74 0) (cdAt [1, 1, 0, 1, 0, 0, 1, 1] (bodyOf Try.f74)) (Qla 0 [(0 : Tmp), (3 : Tmp)] J (Qblk 0 (Qthen (WY Try.prog cfK 2997 (Env.mk (Bs.mk 0 []) 0 none 54 74 0) (cdAt [1, 1, 1] (bodyOf Try.f74)) (QendX Try.prog Try.f74 fun v h => R (frzW h v))) (QendX Try.prog Try.f74 fun v h => R (frzW h v)))))) (Qla 0 [(0 : Tmp), (3 : Tmp)] J (Qblk 0 (Qthen (WY Try.prog cfK 2997 (Env.mk (Bs.mk 0 []) 0 none 54 74 0) (cdAt [1, 1, 1] (bodyOf Try.f74)) (QendX Try.prog Try.f74 fun v h => R (frzW h v))) (QendX Try.prog Try.f74 fun v h => R (frzW h v))))))))) (St.mk (mkT [(0, V.lst 1 (tl l)), (3, iv (↑k : Int)), (4, iv (0 : Int)), (5, iv (0 : Int))]) (Hp.mk [] 0 [])))) (R (bv true))) (by kernel_rfl) ?_
  refine ifB_mk (fun hc => ?_) (fun hc => ?_)
  · have hlt : k < l.length := by rw [tl_length] at hc; have := of_decide_eq_true hc; omega
    obtain ⟨x, hx⟩ := getI hlt
    refine tl_get hx ?_
    have hx12 := hw x (mem_at hx)
    rw [nl_length, show IntKind.i64.wrap (((tl l).length : Int) + 1) = (l.length : Int) + 1 from by rw [tlen]; exact wr (by omega) (by omega)]
    refine ifB_mk (fun c => rf h (fun hp => by have := (hp.2.2 x (mem_at hx)).1.1; simp at c; omega)) (fun c => ?_)
    have hxl : (x.length : Int) = (l.length : Int) + 1 := by simpa using c
    refine La.of (σ := Int × Nat) (fun s => sh74b l k s.1 s.2) (fun s => s.2 ≤ x.length ∧ s.1 = tot (x.take s.2) ∧ ∀ y ∈ x.take s.2, Inn 0 1000 y) (fun s => x.length - s.2) (0, 0) (by kernel_rfl) ⟨by simp, by simp [tot], by simp⟩ ?_
    rintro ⟨t, i⟩ ⟨f1, f2, f3⟩ I hI
    simp only at f1 f2 f3
    refine see (p := onSome (tl l)[k]? fun row => onSome row[0]? fun v => onLst v fun s es => ifB (decide ((↑i : Int) < (↑es.length : Int))) (onSome (tl l)[k]? fun row => onSome row[0]? fun v => onLst v fun s es => need (s = 1) (onSome es[i]? fun row => onSome row[0]? fun v => onIntK IntKind.i64 v fun n => ifB (decide (n ≥ (0 : Int))) (ifB (!decide (n ≤ (1000 : Int))) (R (bv false)) (onSome (tl l)[k]? fun row => onSome row[0]? fun v => onLst v fun s es => need (s = 1) (onSome es[i]? fun row => onSome row[0]? fun v => onIntK IntKind.i64 v fun n => I (St.mk (mkT [(0, V.lst 1 (tl l)), (3, iv (↑k : Int)), (4, iv (IntKind.i64.wrap (t + n))), (5, iv (IntKind.i64.wrap ((↑i : Int) + (1 : Int))))]) (Hp.mk [] 0 []))))) (R (bv false)))) (ifB (t != (1000 : Int)) (R (bv false)) (J (St.mk (mkT [(0, V.lst 1 (tl l)), (3, iv (IntKind.i64.wrap ((↑k : Int) + (1 : Int))))]) (Hp.mk [] 0 []))))) (by kernel_rfl) ?_
    refine tl_get hx ?_
    rw [nl_length]
    refine ifB_mk (fun d1 => ?_) (fun d1 => ?_)
    · have hi : i < x.length := by have := of_decide_eq_true d1; omega
      obtain ⟨y, hy⟩ := getI hi
      refine tl_get hx (need_mk ⟨rfl, iel hy ?_⟩)
      refine ifB_mk (fun e1 => ifB_mk (fun e2 => rf h (fun hp => by have := ((hp.2.2 x (mem_at hx)).1.2 y (mem_at hy)).2; simp at e2; omega)) (fun e2 => ?_)) (fun e1 => rf h (fun hp => by have := ((hp.2.2 x (mem_at hx)).1.2 y (mem_at hy)).1; have := of_decide_eq_false e1; omega))
      have e1 := of_decide_eq_true e1
      have e2 : y ≤ 1000 := by simpa using e2
      have et : t + y = tot (x.take (i + 1)) := by rw [take_succ' hy, tot_app, f2]
      have ha := all_take (P := fun y => Inn 0 1000 y) hy f3 ⟨e1, e2⟩
      have tb := tot_bnd (a := x.take (i + 1)) ha
      have hlen12 : (x.take (i + 1)).length ≤ 12 := by simp; omega
      refine tl_get hx (need_mk ⟨rfl, iel hy ?_⟩)
      rw [wr1i hi (by omega), wr (by omega) (by omega)]
      exact hI (t + y, i + 1) ⟨hi, et, ha⟩ (by simp only; omega)
    · have hi : x.length ≤ i := by have := of_decide_eq_false d1; omega
      rw [List.take_of_length_le hi] at f2
      have f3 := all_all hi f3
      refine ifB_mk (fun e1 => rf h (fun hp => by have := (hp.2.2 x (mem_at hx)).2; simp at e1; omega)) (fun e1 => ?_)
      rw [wr1i hlt (by omega)]
      exact hJ (k + 1) ⟨hlt, all_take hx g2 ⟨⟨hxl, f3⟩, by rw [← f2]; simpa using e1⟩⟩ (by omega)
  · have hk : l.length ≤ k := by rw [tl_length] at hc; have := of_decide_eq_false hc; omega
    exact rt h ⟨l1, l8, all_all hk g2⟩
theorem check38 {l : List (List Int)} {R : V → Prop} (hl : l.length ≤ 10) (hw : ∀ x ∈ l, x.length ≤ 12) (h : R (iv (if dc (TabP l) = true then 0 else 8))) : K0G Try.prog glX 38 [.lst 1 (tl l)] R := by
  refine K0_of_WY0 hmX hcK 3000 Try.func38 (see (p := K0G Try.prog glX 74 [V.lst 1 (tl l)] fun v => onBool v fun b => ifB (!b) (R (iv (8 : Int))) (R (iv (0 : Int)))) (by kernel_rfl) ?_)
  refine table74 hl hw (onBool_bv ?_)
  cases hq : dc (TabP l) with
  | true => rw [hq] at h; exact ifB_f rfl h
  | false => rw [hq] at h; exact ifB_t rfl h
theorem mgo_app : ∀ (a c : List Int) (k : Nat) (s : Int × Int), mgo (a ++ c) k s = mgo c (k + a.length) (mgo a k s)
  | [], c, k, s => rfl
  | x :: a, c, k, s => by
    show mgo (a ++ c) (k + 1) (mstep s k x) = mgo c (k + (a.length + 1)) (mgo a (k + 1) (mstep s k x))
    rw [mgo_app a c, show k + 1 + a.length = k + (a.length + 1) from by omega]
theorem mgo_inv : ∀ (a : List Int) (k : Nat) (s : Int × Int), (∀ x ∈ a, 0 ≤ x) → (s.2 = 0 ∧ s.1 = -1 ∨ 0 < s.2) → ((mgo a k s).2 = 0 ∧ (mgo a k s).1 = -1 ∨ 0 < (mgo a k s).2)
  | [], k, s, ha, h => h
  | x :: a, k, s, ha, h => by
    refine mgo_inv a (k + 1) (mstep s k x) (fun y hy => ha y (by simp [hy])) ?_
    have := ha x (by simp)
    unfold mstep
    split
    · exact .inr (by simp only; omega)
    · split
      · rcases h with h | h
        · exact .inl ⟨h.1, rfl⟩
        · exact .inr h
      · exact h
theorem seen_plc {b : List Int} {N : Nat} (hN : N ≤ 16) (hb : ∀ x ∈ b, Inn (-1) ((N : Int) - 1) x) : kindOf b = mostF (rg N (cnt b)) := by
  have e : cts b = rg N (cnt b) ++ List.replicate (16 - N) 0 := by
    refine List.ext_getElem? (fun i => ?_)
    by_cases hi : i < N
    · rw [List.getElem?_append_left (by rw [rg_length]; exact hi)]
      simp [cts, rg, hi, show i < 16 by omega]
    · rw [List.getElem?_append_right (by rw [rg_length]; omega), rg_length]
      by_cases h16 : i < 16
      · have : cnt b i = 0 := by
          unfold cnt
          rw [List.count_eq_zero.2 (fun hm => by have := (hb _ hm).2; omega)]
          rfl
        simp [cts, h16, this, show i - N < 16 - N by omega]
      · simp [cts, h16, show ¬ i - N < 16 - N by omega]
  unfold kindOf mostF
  rw [e, mgo_app]
  have := mgo_zeros (16 - N) (0 + (rg N (cnt b)).length) [] (mgo (rg N (cnt b)) 0 (-1, 0)) (mgo_inv _ _ _ (fun x hx => by
    unfold rg at hx
    rw [List.mem_map] at hx
    obtain ⟨i, _, rfl⟩ := hx
    exact (cnt_le b i).1) (.inl ⟨rfl, rfl⟩))
  rw [List.append_nil] at this
  rw [this]
  rfl
theorem cnt_ad (b : List Int) (i : Nat) : cnt (b ++ [(i : Int)]) = ad (cnt b) i 1 := by
  funext k
  rw [cnt_app]
  unfold ad
  by_cases h : k = i
  · subst h; rw [if_pos rfl, if_pos rfl]
  · rw [if_neg (by omega), if_neg h]
theorem cnt_not (b : List Int) : cnt (b ++ [-1]) = cnt b := by
  funext k
  rw [cnt_app, if_neg (by omega)]; omega
theorem sub_app (b : List Int) (x : Int) : sub (List.take (0 + (nl b).length) ([] ++ nl b) ++ [[iv x]]) 0 (0 + (nl b).length + 1) = nl (b ++ [x]) := by
  rw [List.nil_append, Nat.zero_add, List.take_length]
  have : (nl b).length + 1 = (nl (b ++ [x])).length := by simp [nl]
  rw [this]
  have e : nl b ++ [[iv x]] = nl (b ++ [x]) := by simp [nl]
  rw [e]
  simp [sub]
theorem sum_row {row : List Int} {N : Nat} (hrow : row.length = N + 1) : sumN (N + 1) (fun i => row.getD i 0) = tot row := by
  rw [← tot_rg]
  congr 1
  refine List.ext_getElem? (fun i => ?_)
  by_cases hi : i < N + 1
  · simp [rg, hi, List.getD, show i < row.length by omega]
  · simp [rg, hi, show ¬ i < row.length by omega]
theorem counted103 {N n : Nat} {row : List Int} (hrow : row.length = N + 1) (hN1 : 1 ≤ N) (hN : N ≤ 15) (hr : ∀ x ∈ row, 0 ≤ x ∧ x ≤ 1000) (ht : tot row = 1000) (hn1 : 1 ≤ n) (hn : n ≤ 5) : ∀ (left : Nat) (b : List Int) (s : Nat) (w : Int) (g : Nat → Int) {args : List V} {Q : V → Us → Prop}, b.length + left = n → (b = [] ∨ s = 1) → (∀ x ∈ b, Inn (-1) ((N : Int) - 1) x) → 0 ≤ w → (∀ j, 0 ≤ g j) → sumN (N + 1) g + w * 1000 ^ left ≤ 1000000000000000 →
    Q (.tup []) [nl (rg (N + 1) (fun j => g j + sqA N (fun i => row.getD i 0) 0 left (cnt b) w j))] →
    KM Try.prog glX 103 [.lst 1 (nl row), .lst s (nl b), iv (n : Int), iv w, .sl (.p 0) 0 (N + 1)] ⟨[(0, O.rows 1 true (nl (rg (N + 1) g)))], 1, []⟩ (poK 103 args) Q := by
  intro left
  have hlen : IntKind.i64.wrap (((nl row).length : Int) - 1) = (N : Int) := by rw [nl_length, hrow, wr (by omega) (by omega)]; omega
  induction left with
  | zero =>
    intro b s w g args Q hb hs hbx hw hg hsum h
    obtain ⟨cs, hcs⟩ : ∃ cs, cs = rg (N + 1) g := ⟨_, rfl⟩
    obtain ⟨M, hM⟩ : ∃ M, M = N + 1 := ⟨_, rfl⟩
    rw [← hcs, ← hM]
    refine KM_of_WYKp hmX hcK 3000 Try.func103 (fun R hR => ?_)
    refine see (p := ifB ((↑(nl b).length : Int) == (↑n : Int)) (K0G Try.prog glX 53 [V.lst s (nl b)] fun v => onIntK IntKind.i64 v fun n => ifB (decide (n < (0 : Int))) (onNat (IntKind.i64.wrap ((↑(nl row).length : Int) - (1 : Int))) fun m => need (m < M) (onSome (nl cs)[0 + m]? fun row_1 => onSome row_1[0]? fun v => onIntK IntKind.i64 v fun n => onNat (IntKind.i64.wrap ((↑(nl row).length : Int) - (1 : Int))) fun m => need (m < M) (onSome (nl cs)[0 + m]? fun row => guardB ((0 + 1).ble row.length) (R (V.tup []) (Hp.mk [(0, O.rows 1 true ((nl cs).set (0 + m) (iv (IntKind.i64.wrap (n + w)) :: (List.append []) (List.drop 1 row))))] 1 []))))) (onNat n fun m => need (m < M) (onSome (nl cs)[0 + m]? fun row => onSome row[0]? fun v => onIntK IntKind.i64 v fun n_1 => onNat n fun m => need (m < M) (onSome (nl cs)[0 + m]? fun row => guardB ((0 + 1).ble row.length) (R (V.tup []) (Hp.mk [(0, O.rows 1 true ((nl cs).set (0 + m) (iv (IntKind.i64.wrap (n_1 + w)) :: (List.append []) (List.drop 1 row))))] 1 [])))))) (La 1 [(0 : Tmp), (1 : Tmp), (2 : Tmp), (3 : Tmp), (4 : Tmp), (11 : Tmp)] (WY Try.prog cfK 2996 (Env.mk (Bs.mk 0 []) 1 none 64 103 0) (cdAt [1, 1, 0, 0] (bodyOf Try.f103))) (Qblk 0 (QendX Try.prog Try.f103 R)) (St.mk (mkT [(0, V.lst 1 (nl row)), (1, V.lst s (nl b)), (2, iv (↑n : Int)), (3, iv w), (4, V.sl (Id.p 0) 0 M), (11, iv (0 : Int))]) (Hp.mk [(0, O.rows 1 true (nl cs))] 1 [])))) (by kernel_rfl) ?_
    subst hcs hM
    have hbn : b ≠ [] := by intro q; rw [q] at hb; simp at hb; omega
    have hs1 : s = 1 := hs.elim (fun q => (hbn q).elim) id
    subst hs1
    refine ifB_t (by rw [nl_length]; simp; omega) (seen53 (by omega) (onIntK_iv ?_))
    have hk := seen_plc (N := N) (by omega) hbx
    have hm := mostR (rg N (cnt b))
    rw [rg_length] at hm
    rw [hk, hlen]
    have hsw : sumN (N + 1) g + w ≤ 1000000000000000 := by simpa using hsum
    have fin : ∀ p : Nat, plc (rg N (cnt b)) = p → p < N + 1 → R (V.tup []) (Hp.mk [(0, O.rows 1 true ((nl (rg (N + 1) g)).set (0 + p) (iv (IntKind.i64.wrap (g p + w)) :: (List.append []) (List.drop 1 [iv (g p)]))))] 1 []) := fun p hp hpN => by
      have hgp : g p ≤ sumN (N + 1) g := sumN_ge (fun k _ => hg k) hpN
      have hg0 := hg p
      rw [wr (by omega) (by omega), rg_set hpN]
      have e : rg (N + 1) (fun j => if p = j then g p + w else g j) = rg (N + 1) (fun j => g j + sqA N (fun i => row.getD i 0) 0 0 (cnt b) w j) := rg_congr fun j => by
        simp only [sqA, hp]
        by_cases hj : p = j
        · subst hj; rw [if_pos rfl, if_pos rfl]
        · rw [if_neg hj, if_neg hj]; omega
      rw [e]
      exact hR _ _ h
    refine ifB_mk (fun c => ?_) (fun c => ?_)
    · have hp : plc (rg N (cnt b)) = N := by unfold plc; rw [if_pos (by have := of_decide_eq_true c; omega), rg_length]
      exact onNat_mk (m := N) rfl (need_mk ⟨by omega, onSome_mk (rg_get (by omega)) (onSome_mk (rfl : [iv (g N)][0]? = some _) (onIntK_iv (onNat_mk (m := N) rfl (need_mk ⟨by omega, onSome_mk (rg_get (by omega)) (guardB_mk rfl (fin N hp (by omega)))⟩))))⟩)
    · obtain ⟨p, hp'⟩ : ∃ p : Nat, mostF (rg N (cnt b)) = (p : Int) := ⟨(mostF (rg N (cnt b))).toNat, by have := of_decide_eq_false c; omega⟩
      have hp : plc (rg N (cnt b)) = p := by unfold plc; rw [if_neg (by omega), hp']; rfl
      exact onNat_mk (m := p) hp' (need_mk ⟨by omega, onSome_mk (rg_get (by omega)) (onSome_mk (rfl : [iv (g p)][0]? = some _) (onIntK_iv (onNat_mk (m := p) hp' (need_mk ⟨by omega, onSome_mk (rg_get (by omega)) (guardB_mk rfl (fin p hp (by omega)))⟩))))⟩)
  | succ left ih =>
    intro b s w g args Q hb hs hbx hw hg hsum h
    obtain ⟨cs, hcs⟩ : ∃ cs, cs = rg (N + 1) g := ⟨_, rfl⟩
    obtain ⟨M, hM⟩ : ∃ M, M = N + 1 := ⟨_, rfl⟩
    rw [← hcs, ← hM]
    refine KM_of_WYKp hmX hcK 3000 Try.func103 (fun R hR => ?_)
    refine see (p := ifB ((↑(nl b).length : Int) == (↑n : Int)) (K0G Try.prog glX 53 [V.lst s (nl b)] fun v => onIntK IntKind.i64 v fun n => ifB (decide (n < (0 : Int))) (onNat (IntKind.i64.wrap ((↑(nl row).length : Int) - (1 : Int))) fun m => need (m < M) (onSome (nl cs)[0 + m]? fun row_1 => onSome row_1[0]? fun v => onIntK IntKind.i64 v fun n => onNat (IntKind.i64.wrap ((↑(nl row).length : Int) - (1 : Int))) fun m => need (m < M) (onSome (nl cs)[0 + m]? fun row => guardB ((0 + 1).ble row.length) (R (V.tup []) (Hp.mk [(0, O.rows 1 true ((nl cs).set (0 + m) (iv (IntKind.i64.wrap (n + w)) :: (List.append []) (List.drop 1 row))))] 1 []))))) (onNat n fun m => need (m < M) (onSome (nl cs)[0 + m]? fun row => onSome row[0]? fun v => onIntK IntKind.i64 v fun n_1 => onNat n fun m => need (m < M) (onSome (nl cs)[0 + m]? fun row => guardB ((0 + 1).ble row.length) (R (V.tup []) (Hp.mk [(0, O.rows 1 true ((nl cs).set (0 + m) (iv (IntKind.i64.wrap (n_1 + w)) :: (List.append []) (List.drop 1 row))))] 1 [])))))) (La 1 [(0 : Tmp), (1 : Tmp), (2 : Tmp), (3 : Tmp), (4 : Tmp), (11 : Tmp)] (WY Try.prog cfK 2996 (Env.mk (Bs.mk 0 []) 1 none 64 103 0) (cdAt [1, 1, 0, 0] (bodyOf Try.f103))) (Qblk 0 (QendX Try.prog Try.f103 R)) (St.mk (mkT [(0, V.lst 1 (nl row)), (1, V.lst s (nl b)), (2, iv (↑n : Int)), (3, iv w), (4, V.sl (Id.p 0) 0 M), (11, iv (0 : Int))]) (Hp.mk [(0, O.rows 1 true (nl cs))] 1 [])))) (by kernel_rfl) ?_
    refine ifB_f (by rw [nl_length]; simp; omega) ?_
    generalize htm : (fun (i j : Nat) => if i < N then sqA N (fun i => row.getD i 0) 0 left (ad (cnt b) i 1) (w * row.getD i 0) j else sqA N (fun i => row.getD i 0) 0 left (cnt b) (w * row.getD N 0) j) = tm
    have rn : ∀ i, 0 ≤ row.getD i 0 := fun i => by
      by_cases hi : i < row.length
      · obtain ⟨x, hx⟩ := getI hi
        rw [getD_get hx]; exact (hr x (mem_at hx)).1
      · simp [List.getD, hi]
    have t0 : ∀ i j, 0 ≤ tm i j := fun i j => by
      rw [← htm]
      show 0 ≤ if i < N then _ else _
      split
      · exact sqA_nn rn _ _ _ _ (Int.mul_nonneg hw (rn i))
      · exact sqA_nn rn _ _ _ _ (Int.mul_nonneg hw (rn N))
    have ts : ∀ i, i ≤ N → sumN (N + 1) (tm i) = w * row.getD i 0 * 1000 ^ left := fun i hi => by
      have hS : sumN (N + 1) (fun i => row.getD i 0) = 1000 := by rw [sum_row hrow, ht]
      rw [← htm]
      by_cases hlt : i < N
      · rw [sumN_congr (g := sqA N (fun i => row.getD i 0) 0 left (ad (cnt b) i 1) (w * row.getD i 0)) (fun j _ => if_pos hlt), sqA_sum, hS]
      · have : i = N := by omega
        subst this
        rw [sumN_congr (g := sqA i (fun i => row.getD i 0) 0 left (cnt b) (w * row.getD i 0)) (fun j _ => if_neg hlt), sqA_sum, hS]
    have gs : ∀ k, k ≤ N + 1 → sumN (N + 1) (fun j => g j + sumN k (fun i => tm i j)) = sumN (N + 1) g + w * 1000 ^ left * sumN k (fun i => row.getD i 0) := fun k hk => by
      rw [sumN_add, sumN_swap]
      congr 1
      rw [← sumN_mul]
      refine sumN_congr (fun i hi => ?_)
      rw [ts i (by omega), Int.mul_assoc, Int.mul_assoc, Int.mul_comm (1000 ^ left)]
    have bnd : ∀ k, k ≤ N + 1 → sumN (N + 1) (fun j => g j + sumN k (fun i => tm i j)) ≤ 1000000000000000 := fun k hk => by
      rw [gs k hk]
      have h1 : sumN k (fun i => row.getD i 0) ≤ 1000 := by
        have := sumN_mono (n := k) (m := N + 1) (f := fun i => row.getD i 0) (fun i _ => rn i) hk
        rw [sum_row hrow, ht] at this
        exact this
      have h2 : 0 ≤ w * 1000 ^ left := Int.mul_nonneg hw (pow_nn (by decide) _)
      have h3 := Int.mul_le_mul_of_nonneg_left h1 h2
      have e3 : w * 1000 ^ left * 1000 = w * 1000 ^ (left + 1) := by rw [Int.mul_assoc, ← Int.pow_succ]
      rw [e3] at h3
      omega
    refine La.of (σ := List Int × Nat) (fun x => sh103 row b s n w M x.1 x.2) (fun x => x.2 ≤ N + 1 ∧ x.1 = rg (N + 1) (fun j => g j + sumN x.2 (fun i => tm i j))) (fun x => N + 1 - x.2) (cs, 0) (by kernel_rfl) ⟨by simp, by rw [hcs]; exact rg_congr fun j => by show g j = g j + 0; omega⟩ ?_
    rintro ⟨cs, k⟩ ⟨g1, g2⟩ J hJ
    simp only at g1 g2
    refine see (p := ifB (decide ((↑k : Int) < (↑(nl row).length : Int))) (ifB ((↑k : Int) == IntKind.i64.wrap ((↑(nl row).length : Int) - (1 : Int))) (onSome (nl row)[k]? fun row_1 => onSome row_1[0]? fun v => onIntK IntKind.i64 v fun n_1 => ifB (decide (n_1 > (0 : Int))) (onSome (nl row)[k]? fun row_2 => onSome row_2[0]? fun v => onIntK IntKind.i64 v fun n_2 => guardB (s.beq 1 || (nl b).isEmpty) (need ((0 + (nl b).length) * 8 ≤ 140737488355328) (need ((0 + (nl b).length + 1) * 8 ≤ 140737488355328) (KM Try.prog glX 103 [V.lst 1 (nl row), V.lst 1 (sub (List.take (0 + (nl b).length) ([] ++ nl b) ++ [[iv (-1 : Int)]]) 0 (0 + (nl b).length + 1)), iv (↑n : Int), iv (IntKind.i64.wrap (w * n_2)), V.sl (Id.p 0) 0 M] (Hp.mk [(0, O.rows 1 true (nl cs))] 1 []) (poK 103 [V.lst 1 (nl row), V.lst 1 (sub (List.take (0 + (nl b).length) ([] ++ nl b) ++ [[iv (-1 : Int)]]) 0 (0 + (nl b).length + 1)), iv (↑n : Int), iv (IntKind.i64.wrap (w * n_2)), V.sl (Id.p 0) 0 M]) fun v us => onTup v fun vs => onNil vs (J (St.mk (mkT [(0, V.lst 1 (nl row)), (1, V.lst s (nl b)), (2, iv (↑n : Int)), (3, iv w), (4, V.sl (Id.p 0) 0 M), (11, iv (IntKind.i64.wrap ((↑k : Int) + (1 : Int))))]) (Hp.mk [(0, O.rows 1 true (List.getD us 0 []))] 1 []))))))) (J (St.mk (mkT [(0, V.lst 1 (nl row)), (1, V.lst s (nl b)), (2, iv (↑n : Int)), (3, iv w), (4, V.sl (Id.p 0) 0 M), (11, iv (IntKind.i64.wrap ((↑k : Int) + (1 : Int))))]) (Hp.mk [(0, O.rows 1 true (nl cs))] 1 [])))) (onSome (nl row)[k]? fun row_1 => onSome row_1[0]? fun v => onIntK IntKind.i64 v fun n_1 => ifB (decide (n_1 > (0 : Int))) (onSome (nl row)[k]? fun row_2 => onSome row_2[0]? fun v => onIntK IntKind.i64 v fun n_2 => guardB (s.beq 1 || (nl b).isEmpty) (need ((0 + (nl b).length) * 8 ≤ 140737488355328) (need ((0 + (nl b).length + 1) * 8 ≤ 140737488355328) (KM Try.prog glX 103 [V.lst 1 (nl row), V.lst 1 (sub (List.take (0 + (nl b).length) ([] ++ nl b) ++ [[iv (↑k : Int)]]) 0 (0 + (nl b).length + 1)), iv (↑n : Int), iv (IntKind.i64.wrap (w * n_2)), V.sl (Id.p 0) 0 M] (Hp.mk [(0, O.rows 1 true (nl cs))] 1 []) (poK 103 [V.lst 1 (nl row), V.lst 1 (sub (List.take (0 + (nl b).length) ([] ++ nl b) ++ [[iv (↑k : Int)]]) 0 (0 + (nl b).length + 1)), iv (↑n : Int), iv (IntKind.i64.wrap (w * n_2)), V.sl (Id.p 0) 0 M]) fun v us => onTup v fun vs => onNil vs (J (St.mk (mkT [(0, V.lst 1 (nl row)), (1, V.lst s (nl b)), (2, iv (↑n : Int)), (3, iv w), (4, V.sl (Id.p 0) 0 M), (11, iv (IntKind.i64.wrap ((↑k : Int) + (1 : Int))))]) (Hp.mk [(0, O.rows 1 true (List.getD us 0 []))] 1 []))))))) (J (St.mk (mkT [(0, V.lst 1 (nl row)), (1, V.lst s (nl b)), (2, iv (↑n : Int)), (3, iv w), (4, V.sl (Id.p 0) 0 M), (11, iv (IntKind.i64.wrap ((↑k : Int) + (1 : Int))))]) (Hp.mk [(0, O.rows 1 true (nl cs))] 1 []))))) (R (V.tup []) (Hp.mk [(0, O.rows 1 true (nl cs))] 1 []))) (by kernel_rfl) ?_
    subst hM
    refine ifB_mk (fun c1 => ?_) (fun c1 => ?_)
    · have hlt : k < N + 1 := by rw [nl_length, hrow] at c1; have := of_decide_eq_true c1; omega
      obtain ⟨r, hrk⟩ := getI (l := row) (k := k) (by omega)
      have r0 := hr r (mem_at hrk)
      have gr : row.getD k 0 = r := getD_get hrk
      have nx : ∀ j, (g j + sumN (k + 1) (fun i => tm i j)) = (g j + sumN k (fun i => tm i j)) + tm k j := fun j => by
        show g j + (sumN k (fun i => tm i j) + tm k j) = _; omega
      have skip : ¬ r > 0 → J (sh103 row b s n w (N + 1) cs (k + 1)) := fun h0 => by
        refine hJ (cs, k + 1) ⟨hlt, ?_⟩ (by simp only; omega)
        rw [g2]
        refine rg_congr fun j => ?_
        rw [nx]
        have : tm k j = 0 := by
          rw [← htm]
          show (if k < N then _ else _) = _
          have hr0 : r = 0 := by omega
          split
          · rw [gr, hr0, Int.mul_zero]; exact sqA_w0 _ _ _ _ _ _
          · have : k = N := by omega
            subst this
            rw [gr, hr0, Int.mul_zero]; exact sqA_w0 _ _ _ _ _ _
        omega
      have wb : 0 ≤ w * r ∧ w * r ≤ 1000000000000000 ∧ sumN (N + 1) (fun j => g j + sumN k (fun i => tm i j)) + w * r * 1000 ^ left ≤ 1000000000000000 := by
        have h1 := bnd (k + 1) (by omega)
        rw [sumN_congr (g := fun j => (g j + sumN k (fun i => tm i j)) + tm k j) (fun j _ => nx j), sumN_add, ts k (by omega), gr] at h1
        have h2 : 0 ≤ w * r := Int.mul_nonneg hw r0.1
        have h3 : (1 : Int) ≤ 1000 ^ left := by
          have := pow_le (r := 1) (m := 1000) (by decide) (by decide) left
          rwa [Int.one_pow] at this
        have h4 := Int.mul_le_mul_of_nonneg_left h3 h2
        rw [Int.mul_one] at h4
        have h5 := sumN_nn (n := N + 1) (f := fun j => g j + sumN k (fun i => tm i j)) (fun j _ => by
          have := hg j
          have := sumN_nn (n := k) (f := fun i => tm i j) (fun i _ => t0 i j)
          omega)
        exact ⟨h2, by omega, h1⟩
      have gd : (s.beq 1 || (nl b).isEmpty) = true := by
        rcases hs with rfl | rfl
        · simp [nl]
        · rfl
      have go : ∀ (x : Int), Inn (-1) ((N : Int) - 1) x → (∀ j, sqA N (fun i => row.getD i 0) 0 left (cnt (b ++ [x])) (w * r) j = tm k j) → ∀ {args : List V}, KM Try.prog glX 103 [V.lst 1 (nl row), V.lst 1 (nl (b ++ [x])), iv (n : Int), iv (w * r), V.sl (Id.p 0) 0 (N + 1)] (Hp.mk [(0, O.rows 1 true (nl cs))] 1 []) (poK 103 args) fun v us => v = .tup [] ∧ us = [nl (rg (N + 1) (fun j => g j + sumN (k + 1) (fun i => tm i j)))] := fun x hx hxt args => by
        rw [g2]
        refine ih (b ++ [x]) 1 (w * r) (fun j => g j + sumN k (fun i => tm i j)) (by simp; omega) (.inr rfl) (fun y hy => ?_) wb.1 (fun j => ?_) wb.2.2 ⟨rfl, ?_⟩
        · rcases List.mem_append.1 hy with hy | hy
          · exact hbx y hy
          · rw [List.mem_singleton.1 hy]; exact hx
        · have := hg j
          have := sumN_nn (n := k) (f := fun i => tm i j) (fun i _ => t0 i j)
          omega
        · congr 2
          exact rg_congr fun j => by rw [nx, hxt]
      have bl : (nl b).length ≤ 5 := by rw [nl_length]; omega
      have fin : ∀ us : Us, us = [nl (rg (N + 1) (fun j => g j + sumN (k + 1) (fun i => tm i j)))] → J (St.mk (mkT [(0, V.lst 1 (nl row)), (1, V.lst s (nl b)), (2, iv (n : Int)), (3, iv w), (4, V.sl (Id.p 0) 0 (N + 1)), (11, iv ((k + 1 : Nat) : Int))]) (Hp.mk [(0, O.rows 1 true (List.getD us 0 []))] 1 [])) := fun us hus => by
        subst hus
        exact hJ (rg (N + 1) (fun j => g j + sumN (k + 1) (fun i => tm i j)), k + 1) ⟨hlt, rfl⟩ (by simp only; omega)
      rw [hlen, wr1i hlt (by omega), sub_app, sub_app]
      refine ifB_mk (fun c2 => iel hrk (ifB_mk (fun c3 => iel hrk (guardB_mk gd (need_mk ⟨by omega, need_mk ⟨by omega, ?_⟩⟩))) (fun c3 => skip (of_decide_eq_false c3)))) (fun c2 => iel hrk (ifB_mk (fun c3 => iel hrk (guardB_mk gd (need_mk ⟨by omega, need_mk ⟨by omega, ?_⟩⟩))) (fun c3 => skip (of_decide_eq_false c3))))
      · have hkN : k = N := by simp at c2; omega
        rw [wr (n := w * r) (by omega) (by omega)]
        refine (go (-1) ⟨by omega, by omega⟩ (fun j => ?_)).mono ?_
        · rw [cnt_not, ← htm]
          show _ = if k < N then _ else _
          rw [if_neg (by omega), ← hkN, gr]
        · rintro v us ⟨rfl, hus⟩
          exact onTup_tup (onNil_nil (fin us hus))
      · have hkN : k ≠ N := by intro q; rw [q] at c2; simp at c2
        rw [wr (n := w * r) (by omega) (by omega)]
        refine (go (k : Int) ⟨by omega, by omega⟩ (fun j => ?_)).mono ?_
        · rw [cnt_ad, ← htm]
          show _ = if k < N then _ else _
          rw [if_pos (by omega), gr]
        · rintro v us ⟨rfl, hus⟩
          exact onTup_tup (onNil_nil (fin us hus))
    · have hk : k = N + 1 := by rw [nl_length, hrow] at c1; have := of_decide_eq_false c1; omega
      have e : cs = rg (N + 1) (fun j => g j + sqA N (fun i => row.getD i 0) 0 (left + 1) (cnt b) w j) := by
        rw [g2, hk]
        refine rg_congr fun j => ?_
        congr 1
        show sumN N (fun i => tm i j) + tm N j = sumN N (fun i => if 0 ≤ i then sqA N (fun i => row.getD i 0) 0 left (ad (cnt b) i 1) (w * row.getD i 0) j else 0) + sqA N (fun i => row.getD i 0) 0 left (cnt b) (w * row.getD N 0) j
        rw [← htm]
        congr 1
        · exact sumN_congr (fun i hi => by rw [if_pos (Nat.zero_le _)]; exact if_pos hi)
        · exact if_neg (by omega)
      rw [e]
      exact hR _ _ h
theorem KM_args {P : Program} {G : Nat → Option (List V)} {f : FuncId} {args args' : List V} {h0 : Hp} {post : Hp → Us → Hp} {Q : V → Us → Prop} (h : KM P G f args h0 post Q) (hr : ∀ F w ν xs, repL F w ν args' xs → repL F w ν args xs) : KM P G f args' h0 post Q := by
  unfold KM at *
  exact fun ν F w xs g1 g2 g3 => h ν F w xs g1 g2 (hr _ _ _ _ g3)
theorem counted76 {l : List (List Int)} {row : List Int} {kind n : Nat} {R : V → Prop} (hT : TabP l) (hrow : l[kind]? = some row) (hn1 : 1 ≤ n) (hn : n ≤ 5) (h : R (.lst 1 (nl (chV row n)))) : K0G Try.prog glX 76 [.lst 1 (tl l), iv (kind : Int), iv (n : Int)] R := by
  refine K0_of_WY0 hmX hcK 3000 Try.func76 (see (p := onNat (IntKind.i64.wrap ((↑(tl l).length : Int) + (1 : Int))) fun n_1 => onNat (IntKind.i64.wrap ((↑(tl l).length : Int) + (1 : Int))) fun m => need (n_1 ≤ m) (need (8 * m ≤ 140737488355328) (need (m ≤ 9223372036854775807) (onSome (tl l)[kind]? fun row => onSome row[0]? fun v => onLst v fun s es => KM Try.prog glX 103 [V.lst s es, nilS, iv (↑n : Int), iv (1 : Int), V.sl (Id.p 0) 0 n_1] (Hp.mk [(0, O.rows 1 true (List.replicate n_1 [iv (0 : Int)]))] 1 []) (poK 103 [V.lst s es, nilS, iv (↑n : Int), iv (1 : Int), V.sl (Id.p 0) 0 n_1]) fun v us => onTup v fun vs => onNil vs (R (V.lst 1 (sub (List.getD us 0 []) 0 n_1))))))) (by kernel_rfl) ?_)
  have l1 := hT.1
  have l8 := hT.2.1
  have hr := hT.2.2 row (mem_at hrow)
  have hlen := hr.1.1
  rw [tl_length, wr (n := (l.length : Int) + 1) (by omega) (by omega)]
  refine onNat_mk (m := l.length + 1) (by omega) (onNat_mk (m := l.length + 1) (by omega) (need_mk ⟨Nat.le_refl _, need_mk ⟨by omega, need_mk ⟨by omega, tl_get hrow ?_⟩⟩⟩))
  have e1 : List.replicate (l.length + 1) [iv (0 : Int)] = nl (rg (l.length + 1) (fun _ => 0)) := by
    refine List.ext_getElem? (fun i => ?_)
    by_cases hi : i < l.length + 1
    · simp [nl, rg, hi]
    · simp [nl, rg, hi]
  rw [e1]
  refine KM_args (counted103 (N := l.length) (n := n) (row := row) (by omega) l1 (by omega) hr.1.2 hr.2 hn1 hn n [] 0 1 (fun _ => 0) (by simp) (.inl rfl) (by simp) (by decide) (fun _ => Int.le_refl _) ?_ ?_) (fun F w ν xs hx => by
    simp only [repL] at hx ⊢
    obtain ⟨x, xs', rfl, h1, y, ys, rfl, h2, h3⟩ := hx
    exact ⟨x, _, rfl, h1, y, ys, rfl, .inl ⟨rfl, h2⟩, h3⟩)
  · rw [sumN_zero]
    have := p5 (a := 1000) (n := n) (by decide) (by decide) hn
    omega
  · refine onTup_tup (onNil_nil ?_)
    have e2 : rg (l.length + 1) (fun j => (0 : Int) + sqA l.length (fun i => row.getD i 0) 0 n (cnt []) 1 j) = chV row n := by
      unfold chV
      rw [show row.length = l.length + 1 from by omega]
      refine rg_congr fun j => ?_
      rw [Int.zero_add, sqA_cntA (row := row) (by omega) j l.length 0 n (cnt []) 1 (by omega) (fun i _ => rfl)]
      rfl
    show R (.lst 1 (sub (nl (rg (l.length + 1) (fun j => (0 : Int) + sqA l.length (fun i => row.getD i 0) 0 n (cnt []) 1 j))) 0 (l.length + 1)))
    rw [e2, sub_all' _ (by rw [chV_length]; omega)]
    exact h
end Go.Proofs.Ytmdimnmdoifkfaa
namespace Go.Proofs.Ytmdimnmdoifkfaa
open Go Go.Proofs.Ytmdimnmdoifkfaa.Clean
set_option linter.unusedVariables false
set_option linter.unusedSimpArgs false
set_option maxRecDepth 10000
theorem counted76n {l : List (List Int)} {row : List Int} {kind m : Nat} {n : Int} {R : V → Prop} (hm : n = (m : Int)) (hT : TabP l) (hrow : l[kind]? = some row) (hn1 : 1 ≤ m) (hn : m ≤ 5) (h : R (.lst 1 (nl (chV row m)))) : K0G Try.prog glX 76 [.lst 1 (tl l), iv (kind : Int), iv n] R := by
  subst hm
  exact counted76 hT hrow hn1 hn h
def ChP (l : List (List Int)) (kind n : Int) : Prop := TabP l ∧ 0 ≤ kind ∧ kind < (l.length : Int) ∧ 1 ≤ n ∧ n ≤ 5
theorem chances34 {l : List (List Int)} {kind n : Int} {R : V → Prop} (hl : l.length ≤ 10) (hw : ∀ x ∈ l, x.length ≤ 12) (h1 : ∀ e, ¬ ChP l kind n → e ≠ 0 → errT l e → R (.tup [nilS, iv e]))
    (h0 : ∀ (row : List Int) (k m : Nat), TabP l → kind = (k : Int) → l[k]? = some row → n = (m : Int) → 1 ≤ m → m ≤ 5 → R (.tup [.lst 1 (nl (chV row m)), iv 0])) : K0G Try.prog glX 34 [.lst 1 (tl l), iv kind, iv n] R := by
  refine K0_of_WY0 hmX hcK 3000 Try.func34 (see (p := K0G Try.prog glX 74 [V.lst 1 (tl l)] fun v => onBool v fun b => ifB (!b) (R (V.tup [nilS, iv (8 : Int)])) (ifB (decide (kind ≥ (0 : Int))) (ifB (!decide (kind ≤ IntKind.i64.wrap ((↑(tl l).length : Int) - (1 : Int)))) (R (V.tup [nilS, iv (2 : Int)])) (ifB (decide (n ≥ (1 : Int))) (ifB (!decide (n ≤ (5 : Int))) (R (V.tup [nilS, iv (2 : Int)])) (K0G Try.prog glX 76 [V.lst 1 (tl l), iv kind, iv n] fun v => onLst v fun s es => R (V.tup [V.lst s es, iv (0 : Int)]))) (R (V.tup [nilS, iv (2 : Int)])))) (R (V.tup [nilS, iv (2 : Int)])))) (by kernel_rfl) ?_)
  refine table74 hl hw (onBool_bv (ifB_mk (fun c => ?_) (fun c => ?_)))
  · have hT : ¬ TabP l := fun hp => by rw [dc_t hp] at c; cases c
    exact h1 _ (fun q => hT q.1) (by decide) ⟨fun q => (hT q).elim, fun _ => rfl⟩
  have hT : TabP l := dc_true (by cases hq : dc (TabP l) with | true => rfl | false => rw [hq] at c; cases c)
  have l1 := hT.1
  have E2 : errT l 2 := ⟨fun _ => rfl, fun q => (q hT).elim⟩
  rw [tl_length, wr (n := (l.length : Int) - 1) (by have := hT.2.1; omega) (by have := hT.2.1; omega)]
  refine ifB_mk (fun c1 => ifB_mk (fun c2 => h1 _ (fun q => by have := q.2.2.1; simp at c2; omega) (by decide) E2) (fun c2 => ifB_mk (fun c3 => ifB_mk (fun c4 => h1 _ (fun q => by have := q.2.2.2.2; simp at c4; omega) (by decide) E2) (fun c4 => ?_)) (fun c3 => h1 _ (fun q => by have := q.2.2.2.1; have := of_decide_eq_false c3; omega) (by decide) E2))) (fun c1 => h1 _ (fun q => by have := q.2.1; have := of_decide_eq_false c1; omega) (by decide) E2)
  have c1 := of_decide_eq_true c1
  have c2 : kind ≤ (l.length : Int) - 1 := by simpa using c2
  have c3 := of_decide_eq_true c3
  have c4 : n ≤ 5 := by simpa using c4
  obtain ⟨k, rfl⟩ : ∃ k : Nat, kind = (k : Int) := ⟨kind.toNat, by omega⟩
  obtain ⟨m, rfl⟩ : ∃ m : Nat, n = (m : Int) := ⟨n.toNat, by omega⟩
  obtain ⟨row, hrow⟩ := getI (l := l) (k := k) (by omega)
  exact counted76 hT hrow (by omega) (by omega) (onLst_lst (h0 row k m hT rfl hrow rfl (by omega) (by omega)))
set_option maxHeartbeats 1000000 in
theorem wrong36 {l : List (List Int)} {n : Int} {counts bins : List Int} {R : V → Prop} (hl : l.length ≤ 10) (hw : ∀ x ∈ l, x.length ≤ 12) (hc : counts.length ≤ 20) (hb : bins.length ≤ 20) (h1 : ∀ e, ¬ WrP l n counts bins → e ≠ 0 → errT l e → R (.tup [nilS, iv e]))
    (h0 : ∀ n1 : Nat, TabP l → n = (n1 : Int) → 1 ≤ n1 → n1 ≤ 5 → Nums counts l.length 0 1000 → Nums bins l.length (-1) 7 → R (.tup [.lst 2 (ml (rm (wrT counts bins l n1 l.length))), iv 0])) : K0G Try.prog glX 36 [.lst 1 (tl l), iv n, .lst 1 (nl counts), .lst 1 (nl bins)] R := by
  refine K0_of_WY0 hmX hcK 3000 Try.func36 (see (p := K0G Try.prog glX 74 [V.lst 1 (tl l)] fun v => onBool v fun b => ifB (!b) (R (V.tup [nilS, iv (8 : Int)])) (ifB (decide (n ≥ (1 : Int))) (ifB (!decide (n ≤ (5 : Int))) (R (V.tup [nilS, iv (2 : Int)])) (ifB ((↑(nl counts).length : Int) != (↑(tl l).length : Int)) (R (V.tup [nilS, iv (2 : Int)])) (ifB ((↑(nl bins).length : Int) != (↑(tl l).length : Int)) (R (V.tup [nilS, iv (2 : Int)])) (La 0 [(0 : Tmp), (1 : Tmp), (2 : Tmp), (3 : Tmp), (10 : Tmp)] (WY Try.prog cfK 2993 (Env.mk (Bs.mk 0 []) 0 none 128 36 0) (cdAt [1, 1, 1, 0, 1, 0, 0] (bodyOf Try.f36))) (Qblk 0 (Qthen (WY Try.prog cfK 2996 (Env.mk (Bs.mk 0 []) 0 none 128 36 0) (cdAt [1, 1, 1, 1] (bodyOf Try.f36)) (QendX Try.prog Try.f36 fun v h => R (frzW h v))) (QendX Try.prog Try.f36 fun v h => R (frzW h v)))) (St.mk (mkT [(0, V.lst 1 (tl l)), (1, iv n), (2, V.lst 1 (nl counts)), (3, V.lst 1 (nl bins)), (10, iv (0 : Int))]) (Hp.mk [] 0 [])))))) (R (V.tup [nilS, iv (2 : Int)])))) (by kernel_rfl) ?_)
  refine table74 hl hw (onBool_bv (ifB_mk (fun c => ?_) (fun c => ?_)))
  · have hT : ¬ TabP l := fun hp => by rw [dc_t hp] at c; cases c
    exact h1 _ (fun q => hT q.1) (by decide) ⟨fun q => (hT q).elim, fun _ => rfl⟩
  have hT : TabP l := dc_true (by cases hq : dc (TabP l) with | true => rfl | false => rw [hq] at c; cases c)
  have l1 := hT.1
  have l8 := hT.2.1
  have E2 : errT l 2 := ⟨fun _ => rfl, fun q => (q hT).elim⟩
  have tlen := tl_length l
  rw [tlen, nl_length, nl_length]
  refine ifB_mk (fun c3 => ifB_mk (fun c4 => h1 _ (fun q => by have := q.2.2.1; simp at c4; omega) (by decide) E2) (fun c4 => ifB_mk (fun c5 => h1 _ (fun q => by have := q.2.2.2.1.1; simp at c5; omega) (by decide) E2) (fun c5 => ifB_mk (fun c6 => h1 _ (fun q => by have := q.2.2.2.2.1; simp at c6; omega) (by decide) E2) (fun c6 => ?_)))) (fun c3 => h1 _ (fun q => by have := q.2.1; have := of_decide_eq_false c3; omega) (by decide) E2)
  have c3 := of_decide_eq_true c3
  have c4 : n ≤ 5 := by simpa using c4
  have lc : counts.length = l.length := by simp at c5; omega
  have lb : bins.length = l.length := by simp at c6; omega
  refine La.of (σ := Nat) (fun k => sh36a l n counts bins k) (fun k => k ≤ l.length ∧ (∀ x ∈ counts.take k, Inn 0 1000 x) ∧ ∀ x ∈ bins.take k, Inn (-1) 7 x) (fun k => l.length - k) 0 (by kernel_rfl) ⟨by simp, by simp, by simp⟩ ?_
  rintro k ⟨g1, g2, g3⟩ J hJ
  refine see (p := ifB (decide ((↑k : Int) < (↑(tl l).length : Int))) (onSome (nl counts)[k]? fun row => onSome row[0]? fun v => onIntK IntKind.i64 v fun n_1 => ifB (decide (n_1 ≥ (0 : Int))) (ifB (!decide (n_1 ≤ (1000 : Int))) (R (V.tup [nilS, iv (2 : Int)])) (onSome (nl bins)[k]? fun row => onSome row[0]? fun v => onIntK IntKind.i64 v fun n_2 => ifB (decide (n_2 ≥ (-1 : Int))) (ifB (!decide (n_2 ≤ (7 : Int))) (R (V.tup [nilS, iv (2 : Int)])) (J (St.mk (mkT [(0, V.lst 1 (tl l)), (1, iv n), (2, V.lst 1 (nl counts)), (3, V.lst 1 (nl bins)), (10, iv (IntKind.i64.wrap ((↑k : Int) + (1 : Int))))]) (Hp.mk [] 0 [])))) (R (V.tup [nilS, iv (2 : Int)])))) (R (V.tup [nilS, iv (2 : Int)]))) (La 0 [(0 : Tmp), (1 : Tmp), (2 : Tmp), (3 : Tmp), (11 : Tmp), (12 : Tmp)] (WY Try.prog cfK 2991 (Env.mk (Bs.mk 0 []) 0 none 128 36 2) (cdAt [1, 1, 1, 1, 1, 0, 1, 0, 0] (bodyOf Try.f36))) (Qblk 2 (Qthen (WY Try.prog cfK 2994 (Env.mk (Bs.mk 0 []) 0 none 128 36 0) (cdAt [1, 1, 1, 1, 1, 1] (bodyOf Try.f36)) (QendX Try.prog Try.f36 fun v h => R (frzW h v))) (QendX Try.prog Try.f36 fun v h => R (frzW h v)))) (St.mk (mkT [(0, V.lst 1 (tl l)), (1, iv n), (2, V.lst 1 (nl counts)), (3, V.lst 1 (nl bins)), (11, V.sl (Id.p 0) 0 8), (12, iv (0 : Int))]) (Hp.mk [(0, O.rows 2 true [[iv (0 : Int), iv (0 : Int)], [iv (0 : Int), iv (0 : Int)], [iv (0 : Int), iv (0 : Int)], [iv (0 : Int), iv (0 : Int)], [iv (0 : Int), iv (0 : Int)], [iv (0 : Int), iv (0 : Int)], [iv (0 : Int), iv (0 : Int)], [iv (0 : Int), iv (0 : Int)]])] 1 [])))) (by kernel_rfl) ?_
  refine ifB_mk (fun d => ?_) (fun d => ?_)
  · have hlt : k < l.length := by rw [tlen] at d; have := of_decide_eq_true d; omega
    obtain ⟨x, hx⟩ := getI (l := counts) (k := k) (by omega)
    obtain ⟨y, hy⟩ := getI (l := bins) (k := k) (by omega)
    refine iel hx (ifB_mk (fun e1 => ifB_mk (fun e2 => h1 _ (fun q => by have := (q.2.2.2.1.2 x (mem_at hx)).2; simp at e2; omega) (by decide) E2) (fun e2 => iel hy (ifB_mk (fun e3 => ifB_mk (fun e4 => h1 _ (fun q => by have := (q.2.2.2.2.2 y (mem_at hy)).2; simp at e4; omega) (by decide) E2) (fun e4 => ?_)) (fun e3 => h1 _ (fun q => by have := (q.2.2.2.2.2 y (mem_at hy)).1; have := of_decide_eq_false e3; omega) (by decide) E2)))) (fun e1 => h1 _ (fun q => by have := (q.2.2.2.1.2 x (mem_at hx)).1; have := of_decide_eq_false e1; omega) (by decide) E2))
    rw [wr1i hlt (by omega)]
    exact hJ (k + 1) ⟨hlt, all_take hx g2 ⟨of_decide_eq_true e1, by simpa using e2⟩, all_take hy g3 ⟨of_decide_eq_true e3, by simpa using e4⟩⟩ (by omega)
  have hk : k = l.length := by rw [tlen] at d; have := of_decide_eq_false d; omega
  have hC : Nums counts l.length 0 1000 := ⟨by omega, all_all (by omega) g2⟩
  have hB : Nums bins l.length (-1) 7 := ⟨by omega, all_all (by omega) g3⟩
  obtain ⟨n1, hn1⟩ : ∃ n1 : Nat, n = (n1 : Int) := ⟨n.toNat, by omega⟩
  have WB := fun k (hk : k ≤ l.length) => wrT_bd (n := n1) (by omega) hT hC hB k hk
  refine La.of (σ := List (Int × Int) × Nat) (fun s => sh36b l n counts bins s.1 s.2) (fun s => s.2 ≤ l.length ∧ s.1 = rm (wrT counts bins l n1 s.2)) (fun s => l.length - s.2) (rm (fun _ => (0, 0)), 0) (by kernel_rfl) ⟨by simp, rfl⟩ ?_
  clear hk d g1 g2 g3 hJ
  clear J k
  intro s hs J2 hI
  obtain ⟨m, k⟩ := s
  obtain ⟨g1, g2⟩ := hs
  simp only at g1 g2
  obtain ⟨I, hIe⟩ : ∃ I, I = J2 := ⟨_, rfl⟩
  subst hIe
  obtain ⟨J, -⟩ : ∃ J : St → Prop, True := ⟨fun _ => True, trivial⟩
  refine see (p := ifB (decide ((↑k : Int) < (↑(tl l).length : Int))) (K0G Try.prog glX 76 [V.lst 1 (tl l), iv (↑k : Int), iv n] fun v => onLst v fun s es => La 0 [(0 : Tmp), (1 : Tmp), (2 : Tmp), (3 : Tmp), (11 : Tmp), (12 : Tmp), (13 : Tmp), (14 : Tmp)] (WY Try.prog cfK 2984 (Env.mk (Bs.mk 0 []) 0 none 128 36 4) (cdAt [1, 1, 1, 1, 1, 0, 1, 0, 0, 1, 0, 0, 1, 1, 0, 0] (bodyOf Try.f36))) (Qblk 4 (Qblk 3 (Qthen (WY Try.prog cfK 2989 (Env.mk (Bs.mk 0 []) 0 none 128 36 2) (cdAt [1, 1, 1, 1, 1, 0, 1, 0, 0, 1, 1] (bodyOf Try.f36)) (Qla 0 [(0 : Tmp), (1 : Tmp), (2 : Tmp), (3 : Tmp), (11 : Tmp), (12 : Tmp)] I (Qblk 2 (Qthen (WY Try.prog cfK 2994 (Env.mk (Bs.mk 0 []) 0 none 128 36 0) (cdAt [1, 1, 1, 1, 1, 1] (bodyOf Try.f36)) (QendX Try.prog Try.f36 fun v h => R (frzW h v))) (QendX Try.prog Try.f36 fun v h => R (frzW h v)))))) (Qla 0 [(0 : Tmp), (1 : Tmp), (2 : Tmp), (3 : Tmp), (11 : Tmp), (12 : Tmp)] I (Qblk 2 (Qthen (WY Try.prog cfK 2994 (Env.mk (Bs.mk 0 []) 0 none 128 36 0) (cdAt [1, 1, 1, 1, 1, 1] (bodyOf Try.f36)) (QendX Try.prog Try.f36 fun v h => R (frzW h v))) (QendX Try.prog Try.f36 fun v h => R (frzW h v)))))))) (St.mk (mkT [(0, V.lst 1 (tl l)), (1, iv n), (2, V.lst 1 (nl counts)), (3, V.lst 1 (nl bins)), (11, V.sl (Id.p 0) 0 8), (12, iv (↑k : Int)), (13, V.lst s es), (14, iv (0 : Int))]) (Hp.mk [(0, O.rows 2 true (ml m))] 1 []))) (R (V.tup [V.lst 2 (sub (ml m) 0 8), iv (0 : Int)]))) (by kernel_rfl) ?_
  refine ifB_mk (fun d => ?_) (fun d => ?_)
  · have hlt : k < l.length := by rw [tlen] at d; have := of_decide_eq_true d; omega
    obtain ⟨row, hrow⟩ := getI hlt
    have hn := hT.2.2 row (mem_at hrow)
    have hlen := hn.1.1
    obtain ⟨c, hck⟩ := getI (l := counts) (k := k) (by omega)
    have hc01 := hC.2 c (mem_at hck)
    obtain ⟨b, hbk⟩ := getI (l := bins) (k := k) (by omega)
    refine counted76n hn1 hT hrow (by omega) (by omega) (onLst_lst ?_)
    have hw1 := chV_length row n1
    have hw2 := chV_nn (row := row) (n := n1) (fun x hx => (hn.1.2 x hx).1)
    have hw3 := chV_tot (n := n1) (show row ≠ [] by intro hq; rw [hq] at hlen; simp at hlen; omega) (by omega) hn.2
    have hrd : chV (l.getD k []) n1 = chV row n1 := by simp [List.getD, hrow]
    have hT1 : wrT counts bins l n1 (k + 1) = wrR counts bins k (chV row n1) bins.length (wrT counts bins l n1 k) := by rw [← hrd]; rfl
    have g3 := WB k g1
    generalize chV row n1 = ways at hw1 hw2 hw3 hT1 ⊢
    have pm := p5 (a := 1000) (n := n1) (by decide) (by decide) (by omega)
    generalize wrT counts bins l n1 k = f0 at g2 g3 hT1
    have bd := fun i (hi : i ≤ ways.length) => wrR_bd (bins := bins) hck hc01.1 hc01.2 hw2 g3 i hi
    have tb := fun i => tot_mono hw2 i
    rw [hw3] at tb
    refine La.of (σ := List (Int × Int) × Nat) (fun s => sh36c l n counts bins ways s.1 k s.2) (fun s => s.2 ≤ bins.length ∧ s.1 = rm (wrR counts bins k ways s.2 f0)) (fun s => bins.length - s.2) (m, 0) (by kernel_rfl) ⟨by simp, g2⟩ ?_
    intro s hs H hH
    obtain ⟨m, i⟩ := s
    obtain ⟨f1, f2⟩ := hs
    simp only at f1 f2
    refine see (p := ifB (decide ((↑i : Int) < (↑(tl l).length : Int))) (onSome (nl bins)[i]? fun row => onSome row[0]? fun v => onIntK IntKind.i64 v fun n_1 => ifB (decide (n_1 < (0 : Int))) (H (St.mk (mkT [(0, V.lst 1 (tl l)), (1, iv n), (2, V.lst 1 (nl counts)), (3, V.lst 1 (nl bins)), (11, V.sl (Id.p 0) 0 8), (12, iv (↑k : Int)), (13, V.lst 1 (nl ways)), (14, iv (IntKind.i64.wrap ((↑i : Int) + (1 : Int))))]) (Hp.mk [(0, O.rows 2 true (ml m))] 1 []))) (onSome (nl bins)[i]? fun row => onSome row[0]? fun v => onIntK IntKind.i64 v fun n_2 => onNat n_2 fun m_1 => need (m_1 < 8) (onSome (ml m)[0 + m_1]? fun row => onCons (List.drop 0 row) fun u r => onIntK IntKind.i64 u fun n_3 => onCons r fun u r => onIntK IntKind.i64 u fun n_4 => onSome (nl counts)[k]? fun row => onSome row[0]? fun v => onIntK IntKind.i64 v fun n_5 => onSome (nl ways)[i]? fun row => onSome row[0]? fun v => onIntK IntKind.i64 v fun n_6 => onSome (nl bins)[k]? fun row => onSome row[0]? fun v => onIntK IntKind.i64 v fun n_7 => onSome (nl bins)[i]? fun row => onSome row[0]? fun v => onIntK IntKind.i64 v fun n_8 => ifB (n_7 != n_8) (onSome (nl counts)[k]? fun row => onSome row[0]? fun v => onIntK IntKind.i64 v fun n_9 => onSome (nl ways)[i]? fun row => onSome row[0]? fun v => onIntK IntKind.i64 v fun n_10 => onSome (nl bins)[i]? fun row => onSome row[0]? fun v => onIntK IntKind.i64 v fun n_11 => onNat n_11 fun m_2 => need (m_2 < 8) (onSome (ml m)[0 + m_2]? fun row => guardB ((0 + 2).ble row.length) (H (St.mk (mkT [(0, V.lst 1 (tl l)), (1, iv n), (2, V.lst 1 (nl counts)), (3, V.lst 1 (nl bins)), (11, V.sl (Id.p 0) 0 8), (12, iv (↑k : Int)), (13, V.lst 1 (nl ways)), (14, iv (IntKind.i64.wrap ((↑i : Int) + (1 : Int))))]) (Hp.mk [(0, O.rows 2 true ((ml m).set (0 + m_2) (iv (IntKind.i64.wrap (n_3 + IntKind.i64.wrap (n_9 * n_10))) :: iv (IntKind.i64.wrap (n_4 + IntKind.i64.wrap (n_5 * n_6))) :: (List.append []) (List.drop 2 row))))] 1 []))))) (onSome (nl bins)[i]? fun row => onSome row[0]? fun v => onIntK IntKind.i64 v fun n_9 => onNat n_9 fun m_2 => need (m_2 < 8) (onSome (ml m)[0 + m_2]? fun row => guardB ((0 + 2).ble row.length) (H (St.mk (mkT [(0, V.lst 1 (tl l)), (1, iv n), (2, V.lst 1 (nl counts)), (3, V.lst 1 (nl bins)), (11, V.sl (Id.p 0) 0 8), (12, iv (↑k : Int)), (13, V.lst 1 (nl ways)), (14, iv (IntKind.i64.wrap ((↑i : Int) + (1 : Int))))]) (Hp.mk [(0, O.rows 2 true ((ml m).set (0 + m_2) (iv n_3 :: iv (IntKind.i64.wrap (n_4 + IntKind.i64.wrap (n_5 * n_6))) :: (List.append []) (List.drop 2 row))))] 1 [])))))))) (I (St.mk (mkT [(0, V.lst 1 (tl l)), (1, iv n), (2, V.lst 1 (nl counts)), (3, V.lst 1 (nl bins)), (11, V.sl (Id.p 0) 0 8), (12, iv (IntKind.i64.wrap ((↑k : Int) + (1 : Int))))]) (Hp.mk [(0, O.rows 2 true (ml m))] 1 [])))) (by kernel_rfl) ?_
    refine ifB_mk (fun b2 => ?_) (fun b2 => ?_)
    · have hlti : i < bins.length := by rw [tlen] at b2; have := of_decide_eq_true b2; omega
      obtain ⟨bb, hbi⟩ := getI hlti
      have hbb := hB.2 bb (mem_at hbi)
      obtain ⟨x, hx⟩ := getI (l := ways) (k := i) (by omega)
      have x0 := hw2 x (mem_at hx)
      have nx : wrR counts bins k ways (i + 1) f0 = wst counts bins k ways i (wrR counts bins k ways i f0) := rfl
      have bd0 := bd i (by omega)
      have bd1 := bd (i + 1) (by omega)
      have tbi := tb (i + 1)
      have fin : ∀ m', m' = ml (rm (wrR counts bins k ways (i + 1) f0)) → H ⟨mkT [(0, V.lst 1 (tl l)), (1, iv n), (2, V.lst 1 (nl counts)), (3, V.lst 1 (nl bins)), (11, V.sl (Id.p 0) 0 8), (12, iv (k : Int)), (13, V.lst 1 (nl ways)), (14, iv ((i + 1 : Nat) : Int))], ⟨[(0, O.rows 2 true m')], 1, []⟩⟩ := fun m' hm' => by
        rw [hm']
        exact hH (rm (wrR counts bins k ways (i + 1) f0), i + 1) ⟨hlti, rfl⟩ (by simp only; omega)
      rw [f2]
      generalize hF : wrR counts bins k ways i f0 = f at nx bd0 fin
      refine iel hbi ?_
      rw [wr1i hlti (by omega)]
      have gb : bins.getD i 0 = bb := getD_get hbi
      have gk : bins.getD k 0 = b := getD_get hbk
      have gc : counts.getD k 0 = c := getD_get hck
      have gw : ways.getD i 0 = x := getD_get hx
      refine ifB_mk (fun b3 => fin _ (by rw [nx]; unfold wst; rw [gb, if_pos (by have := of_decide_eq_true b3; have := hbb.1; omega)])) (fun b3 => ?_)
      have hbn : bb ≠ -1 := by have := of_decide_eq_false b3; omega
      have h07 : 0 ≤ bb ∧ bb ≤ 7 := by have := hbb.1; have := hbb.2; omega
      obtain ⟨p, rfl⟩ : ∃ p : Nat, bb = (p : Int) := ⟨bb.toNat, by omega⟩
      have cx0 := Int.mul_nonneg hc01.1 x0
      have nx2 : wrR counts bins k ways (i + 1) f0 = bump f p (if b ≠ (p : Int) then c * x else 0) (c * x) := by
        rw [nx]; unfold wst; rw [gb, if_neg hbn, gk, gc, gw]; rfl
      have bp := bd0 p
      have bq := bd1 p
      rw [nx2] at bq
      have e2 : (bump f p (if b ≠ (p : Int) then c * x else 0) (c * x) p).2 = (f p).2 + c * x := by simp [bump]
      rw [e2] at bq
      have hcx : c * x ≤ 9000000000000000000 := by omega
      have hs2 : (f p).2 + c * x ≤ 9000000000000000000 := by omega
      refine iel hbi (onNat_mk (m := p) rfl (need_mk ⟨by omega, onSome_mk (rm_get (by omega)) ?_⟩))
      refine onCons_cons (onIntK_iv (onCons_cons (onIntK_iv (iel hck (iel hx (iel hbk (iel hbi ?_)))))))
      rw [wr (n := c * x) (by omega) (by omega), wr (n := (f p).2 + c * x) (by omega) (by omega)]
      refine ifB_mk (fun b4 => ?_) (fun b4 => ?_)
      · refine iel hck (iel hx (iel hbi (onNat_mk (m := p) rfl (need_mk ⟨by omega, onSome_mk (rm_get (by omega)) (guardB_mk rfl ?_)⟩))))
        rw [wr (n := c * x) (by omega) (by omega), wr (n := (f p).1 + c * x) (by omega) (by omega)]
        refine fin _ ?_
        have s2 : (ml (rm f)).set (0 + p) (iv ((f p).1 + c * x) :: iv ((f p).2 + c * x) :: List.append [] (List.drop 2 [iv (f p).1, iv (f p).2])) = ml (rm (fun j => if p = j then ((f p).1 + c * x, (f p).2 + c * x) else f j)) := rm_set (by omega)
        rw [s2, nx2]
        congr 2
        funext j
        unfold bump
        by_cases hj : p = j
        · subst hj; rw [if_pos rfl, if_pos rfl, if_pos (by simpa using b4)]
        · rw [if_neg hj, if_neg hj]
      · refine iel hbi (onNat_mk (m := p) rfl (need_mk ⟨by omega, onSome_mk (rm_get (by omega)) (guardB_mk rfl ?_)⟩))
        refine fin _ ?_
        have s2 : (ml (rm f)).set (0 + p) (iv (f p).1 :: iv ((f p).2 + c * x) :: List.append [] (List.drop 2 [iv (f p).1, iv (f p).2])) = ml (rm (fun j => if p = j then ((f p).1, (f p).2 + c * x) else f j)) := rm_set (by omega)
        rw [s2, nx2]
        congr 2
        funext j
        unfold bump
        by_cases hj : p = j
        · subst hj; rw [if_pos rfl, if_pos rfl, if_neg (by simpa using b4), Int.add_zero]
        · rw [if_neg hj, if_neg hj]
    · have hi : i = bins.length := by rw [tlen] at b2; have := of_decide_eq_false b2; omega
      subst hi
      rw [wr1i hlt (by omega), f2]
      exact hI (rm (wrR counts bins k ways bins.length f0), k + 1) ⟨hlt, by rw [hT1]⟩ (by simp only; omega)
  · have hk : k = l.length := by rw [tlen] at d; have := of_decide_eq_false d; omega
    rw [g2, hk]
    have := h0 n1 hT hn1 (by omega) (by omega) hC hB
    rw [show sub (ml (rm (wrT counts bins l n1 l.length))) 0 8 = ml (rm (wrT counts bins l n1 l.length)) from by
      have : (ml (rm (wrT counts bins l n1 l.length))).length = 8 := by rw [ml_length, rm_length]
      rw [← this]; simp [sub]]
    exact this
theorem errT_uniq {l : List (List Int)} {e f : Int} (h : errT l e) (g : errT l f) : e = f := by
  by_cases hT : TabP l
  · rw [h.1 hT, g.1 hT]
  · rw [h.2 hT, g.2 hT]
theorem errT_some (l : List (List Int)) : ∃ e, errT l e ∧ e ≠ 0 := by
  by_cases hT : TabP l
  · exact ⟨2, ⟨fun _ => rfl, fun q => (q hT).elim⟩, by decide⟩
  · exact ⟨8, ⟨fun q => (hT q).elim, fun _ => rfl⟩, by decide⟩
theorem ch_both {l : List (List Int)} {kind n : Int} (hl : l.length ≤ 10) (hw : ∀ x ∈ l, x.length ≤ 12) : ∃ (s1 : Nat) (x : List Int) (X : V) (e : Int), (s1 = 1 ∨ s1 = 0 ∧ x = []) ∧ x.length ≤ 20 ∧ (∀ k : Nat → List (List V) → Prop, k s1 (nl x) → onLst X k) ∧ (∀ R : V → Prop, R (.tup [X, iv e]) → K0G Try.prog glX 33 [.lst 1 (tl l), iv kind, iv n] R) ∧ (∀ R : V → Prop, R (.tup [X, iv e]) → K0G Try.prog glX 34 [.lst 1 (tl l), iv kind, iv n] R) := by
  by_cases hP : ChP l kind n
  · obtain ⟨hT, k0, k1, n1, n5⟩ := hP
    obtain ⟨k, rfl⟩ : ∃ k : Nat, kind = (k : Int) := ⟨kind.toNat, by omega⟩
    obtain ⟨m, rfl⟩ : ∃ m : Nat, n = (m : Int) := ⟨n.toNat, by omega⟩
    obtain ⟨row, hrow⟩ := getI (l := l) (k := k) (by omega)
    have hlen := hw row (mem_at hrow)
    have same : ∀ (R : V → Prop), R (.tup [.lst 1 (nl (chV row m)), iv 0]) → ∀ (row' : List Int) (k' m' : Nat), TabP l → (k : Int) = (k' : Int) → l[k']? = some row' → (m : Int) = (m' : Int) → 1 ≤ m' → m' ≤ 5 → R (.tup [.lst 1 (nl (chV row' m')), iv 0]) := fun R h row' k' m' _ hk hrow' hm _ _ => by
      have hk : k' = k := by omega
      have hm : m' = m := by omega
      subst hk hm
      rw [hrow] at hrow'
      cases hrow'
      exact h
    exact ⟨1, chV row m, .lst 1 (nl (chV row m)), 0, .inl rfl, by rw [chV_length]; omega, fun k h => h, fun R h => chances33 hl hw (fun e hq => (hq ⟨hT, k0, k1, n1, n5⟩).elim) (same R h), fun R h => chances34 hl hw (fun e hq => (hq ⟨hT, k0, k1, n1, n5⟩).elim) (same R h)⟩
  · obtain ⟨e, he, _⟩ := errT_some l
    have no : ∀ {p : Prop} (k m : Nat), TabP l → kind = (k : Int) → ∀ row, l[k]? = some row → n = (m : Int) → 1 ≤ m → m ≤ 5 → p := fun k m hT hk row hrow hm h1 h5 => (hP ⟨hT, by omega, by have := (List.getElem?_eq_some_iff.1 hrow).1; omega, by omega, by omega⟩).elim
    exact ⟨0, [], nilS, e, .inr ⟨rfl, rfl⟩, by simp, fun k h => h, fun R h => chances33 hl hw (fun f _ _ hf => by rw [errT_uniq hf he]; exact h) (fun row k m hT hk hrow hm h1 h5 => no k m hT hk row hrow hm h1 h5), fun R h => chances34 hl hw (fun f _ _ hf => by rw [errT_uniq hf he]; exact h) (fun row k m hT hk hrow hm h1 h5 => no k m hT hk row hrow hm h1 h5)⟩
theorem wr_both {l : List (List Int)} {n : Int} {counts bins : List Int} (hl : l.length ≤ 10) (hw : ∀ x ∈ l, x.length ≤ 12) (hc : counts.length ≤ 20) (hb : bins.length ≤ 20) : ∃ (s2 : Nat) (m : List (Int × Int)) (X : V) (e : Int), (s2 = 2 ∨ s2 = 0 ∧ m = []) ∧ m.length ≤ 20 ∧ (∀ k : Nat → List (List V) → Prop, k s2 (ml m) → onLst X k) ∧ (∀ R : V → Prop, R (.tup [X, iv e]) → K0G Try.prog glX 35 [.lst 1 (tl l), iv n, .lst 1 (nl counts), .lst 1 (nl bins)] R) ∧ (∀ R : V → Prop, R (.tup [X, iv e]) → K0G Try.prog glX 36 [.lst 1 (tl l), iv n, .lst 1 (nl counts), .lst 1 (nl bins)] R) := by
  by_cases hP : WrP l n counts bins
  · obtain ⟨n1, hn1⟩ : ∃ n1 : Nat, n = (n1 : Int) := ⟨n.toNat, by have := hP.2.1; omega⟩
    have same : ∀ (R : V → Prop), R (.tup [.lst 2 (ml (rm (wrT counts bins l n1 l.length))), iv 0]) → ∀ n2 : Nat, TabP l → n = (n2 : Int) → 1 ≤ n2 → n2 ≤ 5 → Nums counts l.length 0 1000 → Nums bins l.length (-1) 7 → R (.tup [.lst 2 (ml (rm (wrT counts bins l n2 l.length))), iv 0]) := fun R h n2 _ hn2 _ _ _ _ => by
      rw [show n2 = n1 from by omega]; exact h
    exact ⟨2, rm (wrT counts bins l n1 l.length), .lst 2 (ml (rm (wrT counts bins l n1 l.length))), 0, .inl rfl, by rw [rm_length]; omega, fun k h => h, fun R h => wrong35 hl hw hc hb (fun e hq => (hq hP).elim) (same R h), fun R h => wrong36 hl hw hc hb (fun e hq => (hq hP).elim) (same R h)⟩
  · obtain ⟨e, he, _⟩ := errT_some l
    have no : ∀ {p : Prop} (n2 : Nat), TabP l → n = (n2 : Int) → 1 ≤ n2 → n2 ≤ 5 → Nums counts l.length 0 1000 → Nums bins l.length (-1) 7 → p := fun n2 hT hn h1 h5 hC hB => (hP ⟨hT, by omega, by omega, hC, hB⟩).elim
    exact ⟨0, [], nilS, e, .inr ⟨rfl, rfl⟩, by simp, fun k h => h, fun R h => wrong35 hl hw hc hb (fun f _ _ hf => by rw [errT_uniq hf he]; exact h) (fun n2 a b c d e f => no n2 a b c d e f), fun R h => wrong36 hl hw hc hb (fun f _ _ hf => by rw [errT_uniq hf he]; exact h) (fun n2 a b c d e f => no n2 a b c d e f)⟩
theorem K0_args' {P : Program} {G : Nat → Option (List V)} {f : FuncId} {args args' : List V} {R : V → Prop} (h : K0G P G f args R) (hr : ∀ F w xs, riL F w args' xs → riL F w args xs) : K0G P G f args' R := fun F w xs g1 g2 g3 => h F w xs g1 g2 (hr F w xs g3)
theorem law6 {l : List (List Int)} {kind n : Int} {counts bins : List Int} {R : V → Prop} (hl : l.length ≤ 9223372036854775807) (h : R (bv true)) : K0G Try.prog glX 6 [.lst 1 (tl l), iv kind, iv n, .lst 1 (nl counts), .lst 1 (nl bins)] R := by
  refine K0_of_WY0 hmX hcK 3000 Try.func6 (see (p := K0G Try.prog glX 31 [V.lst 1 (tl l)] fun v => onBool v fun b => ifB b (R (bv true)) (ifB (decide ((↑(tl l).length : Int) > (4 : Int))) (ifB (decide (n > (3 : Int))) (R (bv true)) (ifB (decide ((↑(nl counts).length : Int) > (20 : Int))) (R (bv true)) (ifB (decide ((↑(nl bins).length : Int) > (20 : Int))) (R (bv true)) (K0G Try.prog glX 33 [V.lst 1 (tl l), iv kind, iv n] fun v => onTup v fun vs => onCons vs fun u r => onLst u fun s es => onCons r fun u r => onIntK IntKind.i64 u fun n_1 => onNil r (K0G Try.prog glX 34 [V.lst 1 (tl l), iv kind, iv n] fun v => onTup v fun vs => onCons vs fun u r => onLst u fun s_1 es_1 => onCons r fun u r => onIntK IntKind.i64 u fun n_2 => onNil r (K0G Try.prog glX 35 [V.lst 1 (tl l), iv n, V.lst 1 (nl counts), V.lst 1 (nl bins)] fun v => onTup v fun vs => onCons vs fun u r => onLst u fun s_2 es_2 => onCons r fun u r => onIntK IntKind.i64 u fun n_3 => onNil r (K0G Try.prog glX 36 [V.lst 1 (tl l), iv n, V.lst 1 (nl counts), V.lst 1 (nl bins)] fun v => onTup v fun vs => onCons vs fun u r => onLst u fun s_3 es_3 => onCons r fun u r => onIntK IntKind.i64 u fun n => onNil r (ifB ((↑es_2.length : Int) != (↑es_3.length : Int)) (R (bv false)) (La 0 [(0 : Tmp), (11 : Tmp), (12 : Tmp), (13 : Tmp), (14 : Tmp), (15 : Tmp), (16 : Tmp), (17 : Tmp), (18 : Tmp), (72 : Tmp), (73 : Tmp), (74 : Tmp)] (WY Try.prog cfK 2989 (Env.mk (Bs.mk 0 []) 0 none 107 6 0) (cdAt [1, 1, 1, 1, 1, 1, 1, 0, 1, 0, 0] (bodyOf Try.f6))) (Qblk 0 (Qthen (WY Try.prog cfK 2992 (Env.mk (Bs.mk 0 []) 0 none 107 6 0) (cdAt [1, 1, 1, 1, 1, 1, 1, 1] (bodyOf Try.f6)) (QendX Try.prog Try.f6 fun v h => R (frzW h v))) (QendX Try.prog Try.f6 fun v h => R (frzW h v)))) (St.mk (mkT [(0, V.lst 1 (tl l)), (11, V.lst s es), (12, iv n_1), (13, V.lst s_1 es_1), (14, iv n_2), (15, V.lst s_2 es_2), (16, iv n_3), (17, V.lst s_3 es_3), (18, iv n), (72, V.lst s_2 es_2), (73, iv (↑es_2.length : Int)), (74, iv (0 : Int))]) (Hp.mk [] 0 []))))))))))) (ifB (decide ((↑(nl counts).length : Int) > (20 : Int))) (R (bv true)) (ifB (decide ((↑(nl bins).length : Int) > (20 : Int))) (R (bv true)) (K0G Try.prog glX 33 [V.lst 1 (tl l), iv kind, iv n] fun v => onTup v fun vs => onCons vs fun u r => onLst u fun s es => onCons r fun u r => onIntK IntKind.i64 u fun n_1 => onNil r (K0G Try.prog glX 34 [V.lst 1 (tl l), iv kind, iv n] fun v => onTup v fun vs => onCons vs fun u r => onLst u fun s_1 es_1 => onCons r fun u r => onIntK IntKind.i64 u fun n_2 => onNil r (K0G Try.prog glX 35 [V.lst 1 (tl l), iv n, V.lst 1 (nl counts), V.lst 1 (nl bins)] fun v => onTup v fun vs => onCons vs fun u r => onLst u fun s_2 es_2 => onCons r fun u r => onIntK IntKind.i64 u fun n_3 => onNil r (K0G Try.prog glX 36 [V.lst 1 (tl l), iv n, V.lst 1 (nl counts), V.lst 1 (nl bins)] fun v => onTup v fun vs => onCons vs fun u r => onLst u fun s_3 es_3 => onCons r fun u r => onIntK IntKind.i64 u fun n => onNil r (ifB ((↑es_2.length : Int) != (↑es_3.length : Int)) (R (bv false)) (La 0 [(0 : Tmp), (11 : Tmp), (12 : Tmp), (13 : Tmp), (14 : Tmp), (15 : Tmp), (16 : Tmp), (17 : Tmp), (18 : Tmp), (72 : Tmp), (73 : Tmp), (74 : Tmp)] (WY Try.prog cfK 2989 (Env.mk (Bs.mk 0 []) 0 none 107 6 0) (cdAt [1, 1, 1, 1, 1, 1, 1, 0, 1, 0, 0] (bodyOf Try.f6))) (Qblk 0 (Qthen (WY Try.prog cfK 2992 (Env.mk (Bs.mk 0 []) 0 none 107 6 0) (cdAt [1, 1, 1, 1, 1, 1, 1, 1] (bodyOf Try.f6)) (QendX Try.prog Try.f6 fun v h => R (frzW h v))) (QendX Try.prog Try.f6 fun v h => R (frzW h v)))) (St.mk (mkT [(0, V.lst 1 (tl l)), (11, V.lst s es), (12, iv n_1), (13, V.lst s_1 es_1), (14, iv n_2), (15, V.lst s_2 es_2), (16, iv n_3), (17, V.lst s_3 es_3), (18, iv n), (72, V.lst s_2 es_2), (73, iv (↑es_2.length : Int)), (74, iv (0 : Int))]) (Hp.mk [] 0 [])))))))))))) (by kernel_rfl) ?_)
  refine wide31 hl (fun b hb => onBool_bv (ifB_mk (fun _ => h) (fun c => ?_)))
  obtain ⟨l10, l12⟩ := hb c
  have tlen := tl_length l
  refine ifB_mk (fun _ => ifB_mk (fun _ => h) (fun _ => ifB_mk (fun _ => h) (fun c1 => ifB_mk (fun _ => h) (fun c2 => ?_)))) (fun _ => ifB_mk (fun _ => h) (fun c1 => ifB_mk (fun _ => h) (fun c2 => ?_)))
  all_goals
    have c1 : counts.length ≤ 20 := by rw [nl_length] at c1; have := of_decide_eq_false c1; omega
    have c2 : bins.length ≤ 20 := by rw [nl_length] at c2; have := of_decide_eq_false c2; omega
    obtain ⟨s1, x, X, e, hs1, hx20, hX, h33, h34⟩ := ch_both (kind := kind) (n := n) l10 l12
    obtain ⟨s2, m, Y, g, hs2, hm20, hY, h35, h36⟩ := wr_both (n := n) l10 l12 c1 c2
    have mlen := ml_length m
    refine h33 _ (onTup_tup (onCons_cons (hX _ (onCons_cons (onIntK_iv (onNil_nil ?_))))))
    refine h34 _ (onTup_tup (onCons_cons (hX _ (onCons_cons (onIntK_iv (onNil_nil ?_))))))
    refine h35 _ (onTup_tup (onCons_cons (hY _ (onCons_cons (onIntK_iv (onNil_nil ?_))))))
    refine h36 _ (onTup_tup (onCons_cons (hY _ (onCons_cons (onIntK_iv (onNil_nil (ifB_f (by simp) ?_)))))))
    refine La.of (σ := Nat) (fun k => sh6 l s1 s2 x m e g k) (fun k => k ≤ m.length) (fun k => m.length - k) 0 (by kernel_rfl) (by simp) ?_
    intro k g1 J hJ
    refine see (p := ifB (decide ((↑k : Int) < (↑(ml m).length : Int))) (need (s2 = 2) (onSome (ml m)[k]? fun row => onCons (List.drop 0 row) fun u r => onIntK IntKind.i64 u fun n => onCons r fun u r => onIntK IntKind.i64 u fun n_1 => need (s2 = 2) (onSome (ml m)[k]? fun row => onCons (List.drop 0 row) fun u r => onIntK IntKind.i64 u fun n_2 => onCons r fun u r => onIntK IntKind.i64 u fun n_3 => ifB (!(fun b => n == n_2 && b) ((fun b => n_1 == n_3 && b) true)) (R (bv false)) (J (St.mk (mkT [(0, V.lst 1 (tl l)), (11, V.lst s1 (nl x)), (12, iv e), (13, V.lst s1 (nl x)), (14, iv e), (15, V.lst s2 (ml m)), (16, iv g), (17, V.lst s2 (ml m)), (18, iv g), (72, V.lst s2 (ml m)), (73, iv (↑(ml m).length : Int)), (74, iv (IntKind.i64.wrap ((↑k : Int) + (1 : Int))))]) (Hp.mk [] 0 [])))))) (K0G Try.prog glX 37 [V.lst 1 (tl l)] fun v => onIntK IntKind.i64 v fun n => K0G Try.prog glX 38 [V.lst 1 (tl l)] fun v => onIntK IntKind.i64 v fun n_1 => ifB (n == n_1) (K0G Try.prog glX 26 [V.lst s1 (nl x), V.lst s1 (nl x)] fun v => onBool v fun b => ifB b (ifB (e == e) (R (bv (g == g))) (R (bv false))) (R (bv false))) (R (bv false)))) (by kernel_rfl) ?_
    refine ifB_mk (fun d => ?_) (fun d => ?_)
    · have hlt : k < m.length := by rw [mlen] at d; have := of_decide_eq_true d; omega
      have s22 : s2 = 2 := hs2.elim id (fun q => by rw [q.2] at hlt; simp at hlt)
      obtain ⟨y, hy⟩ := getI hlt
      have hmy : (ml m)[k]? = some [iv y.1, iv y.2] := by simp [ml, mxr, hy]
      rw [wr1i hlt (by omega)]
      refine need_mk ⟨s22, onSome_mk hmy (onCons_cons (onIntK_iv (onCons_cons (onIntK_iv ?_))))⟩
      refine need_mk ⟨s22, onSome_mk hmy (onCons_cons (onIntK_iv (onCons_cons (onIntK_iv ?_))))⟩
      exact ifB_f (by simp) (hJ (k + 1) hlt (by omega))
    · have call : K0G Try.prog glX 26 [V.lst s1 (nl x), V.lst s1 (nl x)] fun v => onBool v fun b => ifB b (ifB (e == e) (R (bv (g == g))) (R (bv false))) (R (bv false)) := by
        have base := same26 (l := x) (R := fun v => onBool v fun b => ifB b (ifB (e == e) (R (bv (g == g))) (R (bv false))) (R (bv false))) (by omega) (onBool_bv (ifB_t rfl (ifB_t (by simp) (by simpa using h))))
        rcases hs1 with rfl | ⟨rfl, rfl⟩
        · exact base
        · refine K0_args' base (fun F w xs hx => ?_)
          simp only [riL, ri] at hx ⊢
          obtain ⟨y, ys, rfl, h1, z, zs, rfl, h2, h3⟩ := hx
          refine ⟨y, _, rfl, ?_, z, zs, rfl, ?_, h3⟩
          · rcases h1 with h1 | ⟨a, cap, q1, q2, _⟩
            · exact .inl h1
            · exact .inr ⟨a, cap, q1, q2, .inl rfl⟩
          · rcases h2 with h1 | ⟨a, cap, q1, q2, _⟩
            · exact .inl h1
            · exact .inr ⟨a, cap, q1, q2, .inl rfl⟩
      refine table37 l10 l12 (fun hT => onIntK_iv (check38 l10 l12 (onIntK_iv (ifB_t (by rw [dc_t hT]; rfl) call)))) (fun hT => onIntK_iv (check38 l10 l12 (onIntK_iv (ifB_t (by rw [dc_f hT]; rfl) call))))
end Go.Proofs.Ytmdimnmdoifkfaa
namespace Go.Proofs.Ytmdimnmdoifkfaa.Clean
open Go.Deep
set_option linter.unusedSimpArgs false
set_option linter.unusedVariables false
section
variable {H : Type} (enc : TypeId × Value → H) (P : Program) (w : World)
def FW (r : Nat) : Prop := r < w.heap.size
def Opens (t : TypeId) {α : Type} (f : α → List V) (ok : α → Prop) : Prop :=
  ∀ fuel cs x, DataW.trod enc P w 0 (fun _ => true) true fuel t cs = some x → ∃ a, riL (FW w) w (f a) cs ∧ ok a ∧ ∀ u ∈ cs, u.oneCell' = true
end
section
variable {H : Type} {enc : TypeId × Value → H} {P : Program} {w : World}
theorem riL_one {v : V} {x : Value} (h : ri (FW w) w v x) : riL (FW w) w [v] [x] := by simp only [riL]; exact ⟨x, [], rfl, h, rfl⟩
theorem riL_get : ∀ {vs : List V} {xs : List Value}, riL (FW w) w vs xs → ∀ (i : Nat) v, vs[i]? = some v → ∃ x, xs[i]? = some x ∧ ri (FW w) w v x
  | [], xs, h, i, v, hi => by simp at hi
  | u :: vs, xs, h, i, v, hi => by
    simp only [riL] at h
    obtain ⟨x, ys, rfl, h2, h3⟩ := h
    cases i with
    | zero => simp at hi; subst hi; exact ⟨x, rfl, h2⟩
    | succ i => simp at hi; simpa using riL_get h3 i v hi
theorem riL_length : ∀ {vs : List V} {xs : List Value}, riL (FW w) w vs xs → xs.length = vs.length
  | [], xs, h => by simp only [riL] at h; simp [h]
  | v :: vs, xs, h => by simp only [riL] at h; obtain ⟨x, ys, rfl, _, h3⟩ := h; simp [riL_length h3]
theorem opens_int {t : TypeId} {k : IntKind} (ht : P.underlying t = some (.int k)) : Opens enc P w t (fun n : Int => [.raw (.int k n)]) (fun n => (Lit.int k n).wf = true) := by
  intro fuel cs x h
  obtain ⟨n, rfl, _, hw⟩ := DataW.trod_int ht h
  exact ⟨n, riL_one (by simp [ri]), hw, by simp [Value.oneCell']⟩
theorem opens_slice {t e : TypeId} {s : Nat} {α : Type} {f : α → List V} {ok : α → Prop} (ht : P.underlying t = some (.slice e)) (hs : P.cellsOf e = s) (hpos : s ≠ 0) (ho : Opens enc P w e f ok) :
    Opens enc P w t (fun l : List α => [.lst s (l.map f)]) (fun l => l.length ≤ maxLen ∧ ∀ a ∈ l, ok a) := by
  intro fuel cs x h
  rcases open_slice ht h with ⟨rfl, _⟩ | ⟨a, len, cap, m, n, D, Pl, rfl, _, hl, hm, hmm, _, hx⟩
  · exact ⟨[], riL_one (by simp [ri]), by simp, by simp [Value.oneCell']⟩
  · simp only [if_true] at hmm
    subst hmm
    rw [hs] at hx
    have each : ∀ i, i < len → ∃ q : α, (∃ cs', w.cells? 0 (a.add (i * s)) s = some cs' ∧ riL (FW w) w (f q) cs' ∧ ∀ u ∈ cs', u.oneCell' = true) ∧ ok q := by
      intro i hi
      obtain ⟨cs', h1, h2⟩ := hx i (by omega)
      obtain ⟨q, h3, h4, h5⟩ := ho _ _ _ h2
      exact ⟨q, ⟨cs', h1, h3, h5⟩, h4⟩
    obtain ⟨q, hq⟩ : ∃ q : Nat → Option α, ∀ i, i < len → ∃ y, q i = some y ∧ (∃ cs', w.cells? 0 (a.add (i * s)) s = some cs' ∧ riL (FW w) w (f y) cs' ∧ ∀ u ∈ cs', u.oneCell' = true) ∧ ok y := by
      refine Classical.axiomOfChoice (r := fun i (o : Option α) => i < len → ∃ y, o = some y ∧ (∃ cs', w.cells? 0 (a.add (i * s)) s = some cs' ∧ riL (FW w) w (f y) cs' ∧ ∀ u ∈ cs', u.oneCell' = true) ∧ ok y) ?_
      intro i
      by_cases hi : i < len
      · obtain ⟨y, hy⟩ := each i hi
        exact ⟨some y, fun _ => ⟨y, rfl, hy⟩⟩
      · exact ⟨none, fun h => (hi h).elim⟩
    let l : List α := (List.range len).filterMap q
    have hl' : l.length = len ∧ ∀ i, i < len → l[i]? = q i := by
      have key : ∀ k, k ≤ len → ((List.range k).filterMap q).length = k ∧ ∀ i, i < k → ((List.range k).filterMap q)[i]? = q i := by
        intro k
        induction k with
        | zero => intro _; simp
        | succ k ih =>
          intro hk
          obtain ⟨h1, h2⟩ := ih (by omega)
          obtain ⟨y, hy, _⟩ := hq k (by omega)
          have : (List.range (k + 1)).filterMap q = (List.range k).filterMap q ++ [y] := by rw [List.range_succ, List.filterMap_append]; simp [hy]
          rw [this]
          refine ⟨by simp [h1], fun i hi => ?_⟩
          by_cases hik : i < k
          · rw [List.getElem?_append_left (by omega)]; exact h2 i hik
          · have : i = k := by omega
            subst this
            rw [List.getElem?_append_right (by omega), h1, hy]; simp
      exact key len (Nat.le_refl _)
    refine ⟨l, riL_one ?_, ⟨by omega, fun b hb => ?_⟩, by simp [Value.oneCell']⟩
    · simp only [ri]
      refine .inr ⟨a, m, by simp [hl'.1]; exact hl, by simp [hl'.1], ?_⟩
      by_cases h0 : len = 0
      · left
        have : l = [] := List.eq_nil_of_length_eq_zero (by omega)
        simp [this]
      · right
        have cell : ∀ (i : Nat) (cs' : List Value), i < len → w.cells? 0 (a.add (i * s)) s = some cs' → ∀ j, j < s → w.cell? (a.add (i * s + j)) = cs'[j]? ∧ cs'.length = s := by
          intro i cs' hi hc j hj
          obtain ⟨_, hlen, hcc⟩ := World.cells?_some hc
          have := hcc j hj
          rw [add_add] at this
          exact ⟨this, hlen⟩
        obtain ⟨y0, hy0, ⟨cs0, c1, _, _⟩, _⟩ := hq 0 (by omega)
        have hc0 := (cell 0 cs0 (by omega) c1 0 (by omega))
        have hsome : ∃ u, w.cell? a = some u := by
          have h1 := hc0.1
          rw [Nat.zero_mul, Nat.zero_add] at h1
          have : a.add 0 = a := by simp [Addr.add]
          rw [this] at h1
          rw [h1]
          exact ⟨cs0[0]'(by omega), List.getElem?_eq_getElem (by omega)⟩
        obtain ⟨u0, hu0⟩ := hsome
        have hspot : a.spot = none := by
          unfold World.cell? at hu0
          split at hu0
          · split at hu0
            · cases hu0
            · rename_i h; simpa using h
          · cases hu0
        obtain ⟨ab, ao, asp⟩ := a
        simp only at hspot
        subst hspot
        refine ⟨rfl, World.block_lt_of_cell? w _ hu0, ?_⟩
        rw [riRows_iff]
        intro i row hrow
        rw [List.getElem?_map, Option.map_eq_some_iff] at hrow
        obtain ⟨b, hb, rfl⟩ := hrow
        have hi : i < len := by have := (List.getElem?_eq_some_iff.1 hb).1; omega
        obtain ⟨y, hy, ⟨cs', g1, g2, g3⟩, _⟩ := hq i hi
        rw [hl'.2 i hi, hy] at hb
        simp at hb
        subst hb
        have hlen' := riL_length g2
        obtain ⟨_, hclen, _⟩ := World.cells?_some g1
        refine ⟨by omega, fun j v hj => ?_⟩
        obtain ⟨z, z1, z2⟩ := riL_get g2 j v hj
        have hjs : j < s := by have := (List.getElem?_eq_some_iff.1 z1).1; omega
        refine ⟨z, ?_, g3 z (List.mem_of_getElem? z1), z2⟩
        have := (cell i cs' hi g1 j hjs).1
        rw [add_lit, ← Nat.add_assoc] at this
        rw [this]; exact z1
    · obtain ⟨i, hi⟩ := List.mem_iff_getElem?.1 hb
      have hil : i < len := by have := (List.getElem?_eq_some_iff.1 hi).1; omega
      obtain ⟨y, hy, _, hok⟩ := hq i hil
      rw [hl'.2 i hil, hy] at hi
      simp at hi
      exact hi ▸ hok
theorem arg_int {t : TypeId} {k : IntKind} {v : Value} {d : DataW H} {p : List MemPlace} {r : Reach} {b0 : Nat} (ht : P.underlying t = some (.int k)) (hval : Value.okWide P w r b0 t v) (h : DataW.Trod enc P w 0 (fun _ => true) true t v d p) :
    ∃ n, ri (FW w) w (.raw (.int k n)) v ∧ (Lit.int k n).wf = true := by
  obtain ⟨n, rfl, _, _, hw⟩ := ChangeShapes.open_int ht hval h
  exact ⟨n, by simp [ri], hw⟩
theorem arg_slice {t e : TypeId} {v : Value} {d : DataW H} {p : List MemPlace} {r : Reach} {b0 : Nat} {α : Type} {f : α → V} {ok : α → Prop} (ht : P.underlying t = some (.slice e)) (hval : Value.okWide P w r b0 t v) (h : DataW.Trod enc P w 0 (fun _ => true) true t v d p)
    (ho : Opens enc P w t (fun a => [f a]) ok) : ∃ a, ri (FW w) w (f a) v ∧ ok a := by
  obtain ⟨a, len, cap, rfl⟩ := WideShapes.okWide_slice ht hval
  obtain ⟨fuel, hf⟩ := h
  obtain ⟨y, h1, h2, _⟩ := ho _ _ _ hf
  simp only [Value.cells, riL] at h1
  obtain ⟨x, xs, hx, h3, _⟩ := h1
  simp at hx
  exact ⟨y, by rw [hx.1]; exact h3, h2⟩
end
end Go.Proofs.Ytmdimnmdoifkfaa.Clean
