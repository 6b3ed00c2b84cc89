/- Lists that have each lot once. -/
import Derived.Test.YtmddjopahcbefaaXTA
namespace Go.Proofs.Ytmddjopahcbefaa
open Go Go.Proofs.Ytmddjopahcbefaa.Clean
set_option linter.unusedVariables false
set_option linter.unusedSimpArgs false
set_option maxRecDepth 10000

theorem nl_length (l : List Int) : (nl l).length = l.length := by simp [nl]
theorem wl_length (w : List (List Int)) : (wl w).length = w.length := by simp [wl]
theorem iel {l : List Int} {i : Nat} {x : Int} {k : Int → Prop} (h : l[i]? = some x) (hk : k x) : onSome (nl l)[i]? fun row => onSome row[0]? fun v => onIntK IntKind.i64 v fun n => k n := onSome_mk (by simp [nl, h] : (nl l)[i]? = some [iv x]) hk
theorem wlel {w : List (List Int)} {i : Nat} {l : List Int} {k : Nat → List (List V) → Prop} (h : w[i]? = some l) (hk : k 1 (nl l)) : onSome (wl w)[i]? fun row => onSome row[0]? fun v => onLst v fun s es => k s es := onSome_mk (by simp [wl, h] : (wl w)[i]? = some [.lst 1 (nl l)]) hk
theorem getI {l : List Int} {i : Nat} (h : i < l.length) : l[i]? = some (l.getD i 0) := by simp [List.getD, h]
theorem getWI {w : List (List Int)} {i : Nat} (h : i < w.length) : w[i]? = some (w.getD i []) := by simp [List.getD, h]
theorem wr1i {i n : Nat} (h : i < n) (hn : (n : Int) ≤ 9223372036854775807) : IntKind.i64.wrap ((i : Int) + 1) = ((i + 1 : Nat) : Int) := by rw [wr (by omega) (by omega)]; simp
theorem onNat_c {m : Nat} {k : Nat → Prop} (h : k m) : onNat (m : Int) k := onNat_mk rfl h

/-- l has each of 0 .. n - 1 once. -/
def Once (l : List Int) (n : Nat) : Prop := l.length = n ∧ (∀ (i : Nat) (x : Int), l[i]? = some x → 0 ≤ x ∧ x < n) ∧ ∀ (i j : Nat) (x : Int), i < j → l[i]? = some x → l[j]? ≠ some x
theorem once50 {l : List Int} {n : Nat} {R : V → Prop} (hn : 1 ≤ n ∧ n ≤ 8) (h : ∀ b, (b = true ↔ Once l n) → R (bv b)) : K0G Try.prog glX 87 [.lst 1 (nl l), iv (n : Int)] R := by
  refine K0_of_WY0 hmX hcM 100 Try.func87 (see (p := ifB ((↑(nl l).length : Int) != (↑n : Int)) (R (bv false)) (La 0 [(1 : Tmp), (5 : Tmp), (12 : Tmp), (13 : Tmp), (14 : Tmp)] (WY Try.prog cfM 93 (Env.mk (Bs.mk 0 []) 0 none 32 87 0) (cdAt [1, 1, 1, 0, 1, 0, 0] (bodyOf Try.f87))) (Qblk 0 (Qthen (WY Try.prog cfM 96 (Env.mk (Bs.mk 0 []) 0 none 32 87 0) (cdAt [1, 1, 1, 1] (bodyOf Try.f87)) (QendX Try.prog Try.f87 fun v h => R (frzW h v))) (QendX Try.prog Try.f87 fun v h => R (frzW h v)))) (St.mk (mkT [(1, iv (↑n : Int)), (5, V.raw (Value.int IntKind.u8 (0 : Int))), (12, V.lst 1 (nl l)), (13, iv (↑(nl l).length : Int)), (14, iv (0 : Int))]) (Hp.mk [] 0 [])))) (by kernel_rfl) ?_)
  rw [nl_length]
  refine ifB_mk (fun hc => h false ⟨(fun h => by cases h), fun ho => ?_⟩) (fun hc => ?_)
  · simp [ho.1] at hc
  have hln : l.length = n := by simp at hc; omega
  refine La.of (σ := Nat × Nat) (fun s => sh50 l n s.1 s.2) (fun s => s.1 < 256 ∧ s.2 ≤ n ∧ (∀ m, m < 8 → (s.1.testBit m = true ↔ ∃ j, j < s.2 ∧ l[j]? = some (m : Int))) ∧ (∀ (i : Nat) x, i < s.2 → l[i]? = some x → 0 ≤ x ∧ x < n) ∧ ∀ (i j : Nat) x, i < j → j < s.2 → l[i]? = some x → l[j]? ≠ some x) (fun s => n - s.2) (0, 0) (by rw [← hln, ← nl_length]; kernel_rfl) ⟨by simp, by simp, by simp, by simp, by simp⟩ ?_
  rintro ⟨s, k⟩ ⟨h1, h2, h3, h4, h5⟩ J hJ
  simp only at h1 h2 h3 h4 h5
  refine see (p := ifB (decide ((↑k : Int) < (↑(nl l).length : Int))) (onSome (nl l)[k]? fun row => onSome row[0]? fun v => onIntK IntKind.i64 v fun n_1 => ifB (decide ((0 : Int) ≤ n_1)) (ifB (!decide (n_1 ≤ IntKind.i64.wrap ((↑n : Int) - (1 : Int)))) (R (bv false)) (K0G Try.prog glX 84 [V.raw (Value.int IntKind.u8 (↑s : Int)), iv n_1] fun v => onBool v fun b => ifB b (R (bv false)) (K0G Try.prog glX 85 [V.raw (Value.int IntKind.u8 (↑s : Int)), iv n_1] fun v => onIntK IntKind.u8 v fun n_2 => J (St.mk (mkT [(1, iv (↑n : Int)), (5, V.raw (Value.int IntKind.u8 n_2)), (12, V.lst 1 (nl l)), (13, iv (↑(nl l).length : Int)), (14, iv (IntKind.i64.wrap ((↑k : Int) + (1 : Int))))]) (Hp.mk [] 0 []))))) (R (bv false))) (R (bv true))) (by kernel_rfl) ?_
  refine ifB_mk (fun hb => ?_) (fun hb => ?_)
  · have hlt : k < l.length := by rw [nl_length] at hb; have := of_decide_eq_true hb; omega
    have hx := getI hlt
    generalize l.getD k 0 = x at hx
    refine iel hx ?_
    rw [wr (by omega) (by omega)]
    refine ifB_mk (fun ha => ?_) (fun ha => h false ⟨(fun h => by cases h), fun ho => ?_⟩)
    rotate_left
    · have := ho.2.1 k x hx; have := of_decide_eq_false ha; omega
    refine ifB_mk (fun hc => h false ⟨(fun h => by cases h), fun ho => ?_⟩) (fun hc => ?_)
    · have := ho.2.1 k x hx; simp at hc; omega
    have hx0 : 0 ≤ x := of_decide_eq_true ha
    have hxn : x < n := by simp at hc; omega
    obtain ⟨m, rfl⟩ : ∃ m : Nat, x = (m : Int) := ⟨x.toNat, by omega⟩
    have hm8 : m < 8 := by omega
    refine has47 h1 hm8 (onBool_bv (ifB_mk (fun hd => h false ⟨(fun h => by cases h), fun ho => ?_⟩) (fun hd => ?_)))
    · obtain ⟨j, g1, g2⟩ := (h3 m hm8).1 hd
      exact (ho.2.2 j k _ g1 g2 hx).elim
    refine with48 h1 hm8 (onIntK_u8 ?_)
    rw [wr1i hlt (by omega)]
    refine hJ (s ||| 2 ^ m, k + 1) ⟨wi_lt s h1 m hm8, (by omega), fun q hq => ?_, fun i y hi hy => ?_, fun i j y hij hj hy => ?_⟩ (by simp only; omega)
    · rw [wi_bit s h1 m hm8 q hq, Bool.or_eq_true, decide_eq_true_iff, h3 q hq]
      constructor
      · rintro (⟨j, g1, g2⟩ | rfl)
        · exact ⟨j, by omega, g2⟩
        · exact ⟨k, by omega, hx⟩
      · rintro ⟨j, g1, g2⟩
        rcases Nat.lt_succ_iff_lt_or_eq.1 g1 with g | g
        · exact .inl ⟨j, g, g2⟩
        · subst g; rw [hx] at g2; simp at g2; exact .inr (by omega)
    · rcases Nat.lt_succ_iff_lt_or_eq.1 hi with g | g
      · exact h4 i y g hy
      · subst g; rw [hx] at hy; cases hy; exact ⟨hx0, hxn⟩
    · rcases Nat.lt_succ_iff_lt_or_eq.1 hj with g | g
      · exact h5 i j y hij g hy
      · subst g
        intro he
        rw [hx] at he; cases he
        have := (h3 m hm8).2 ⟨i, hij, hy⟩
        rw [this] at hd; cases hd
  · have hk : k = l.length := by rw [nl_length] at hb; have := of_decide_eq_false hb; omega
    refine h true ⟨fun _ => ⟨hln, fun i x hi => h4 i x ?_ hi, fun i j x hij hi hj => h5 i j x hij ?_ hi hj⟩, fun _ => rfl⟩
    · have := (List.getElem?_eq_some_iff.1 hi).1; omega
    · have := (List.getElem?_eq_some_iff.1 hj).1; omega

theorem hJ' {J : St → Prop} {s s' : St} (he : s = s') (h : J s') : J s := he ▸ h
theorem bl_get {s : List Bool} {m : Nat} {b : Bool} (h : s[m]? = some b) : (bl s)[0 + m]? = some [bv b] := by rw [Nat.zero_add]; simp [bl, h]
theorem order16 {l : List Int} {n : Nat} {R : V → Prop} (hn : 1 ≤ n ∧ n ≤ 8) (h : ∀ b, (b = true ↔ Once l n) → R (bv b)) : K0G Try.prog glX 89 [.lst 1 (nl l), iv (n : Int)] R := by
  refine K0_of_WY0 hmX hcM 100 Try.func89 (see (p := ifB ((↑(nl l).length : Int) != (↑n : Int)) (R (bv false)) (need (n ≤ n) (need (1 * n ≤ 140737488355328) (need (n ≤ 9223372036854775807) (La 0 [(0 : Tmp), (1 : Tmp), (5 : Tmp), (6 : Tmp)] (WY Try.prog cfM 93 (Env.mk (Bs.mk 0 []) 0 none 41 89 0) (cdAt [1, 1, 1, 0, 1, 0, 0] (bodyOf Try.f89))) (Qblk 0 (Qthen (WY Try.prog cfM 96 (Env.mk (Bs.mk 0 []) 0 none 41 89 0) (cdAt [1, 1, 1, 1] (bodyOf Try.f89)) (QendX Try.prog Try.f89 fun v h => R (frzW h v))) (QendX Try.prog Try.f89 fun v h => R (frzW h v)))) (St.mk (mkT [(0, V.lst 1 (nl l)), (1, iv (↑n : Int)), (5, V.sl (Id.p 0) 0 n), (6, iv (0 : Int))]) (Hp.mk [(0, O.rows 1 true (List.replicate n [bv false]))] 1 []))))))) (by kernel_rfl) ?_)
  rw [nl_length]
  refine ifB_mk (fun hc => h false ⟨(fun h => by cases h), fun ho => ?_⟩) (fun hc => ?_)
  · simp [ho.1] at hc
  have hln : l.length = n := by simp at hc; omega
  refine need_mk ⟨Nat.le_refl _, need_mk ⟨by omega, need_mk ⟨by omega, ?_⟩⟩⟩
  refine La.of (σ := List Bool × Nat) (fun s => sh16 l n s.1 s.2) (fun s => s.1.length = n ∧ s.2 ≤ n ∧ (∀ m : Nat, s.1[m]? = some true ↔ ∃ j, j < s.2 ∧ l[j]? = some (m : Int)) ∧ (∀ (i : Nat) x, i < s.2 → l[i]? = some x → 0 ≤ x ∧ x < n) ∧ ∀ (i j : Nat) x, i < j → j < s.2 → l[i]? = some x → l[j]? ≠ some x) (fun s => n - s.2) (List.replicate n false, 0) (by simp [sh16, bl]) ⟨by simp, by simp, (fun m => by simp [List.getElem?_replicate]), by simp, by simp⟩ ?_
  rintro ⟨s, k⟩ ⟨h1, h2, h3, h4, h5⟩ J hJ
  simp only at h1 h2 h3 h4 h5
  refine see (p := ifB (decide ((↑k : Int) < (↑n : Int))) (onSome (nl l)[k]? fun row => onSome row[0]? fun v => onIntK IntKind.i64 v fun n_1 => ifB (decide (n_1 ≥ (0 : Int))) (ifB (!decide (n_1 ≤ IntKind.i64.wrap ((↑n : Int) - (1 : Int)))) (R (bv false)) (onSome (nl l)[k]? fun row => onSome row[0]? fun v => onIntK IntKind.i64 v fun n_2 => onNat n_2 fun m => need (m < n) (onSome (bl s)[0 + m]? fun row => onSome row[0]? fun v => onBool v fun b => ifB b (R (bv false)) (onSome (nl l)[k]? fun row => onSome row[0]? fun v => onIntK IntKind.i64 v fun n_3 => onNat n_3 fun m => need (m < n) (onSome (bl s)[0 + m]? fun row => guardB ((0 + 1).ble row.length) (J (St.mk (mkT [(0, V.lst 1 (nl l)), (1, iv (↑n : Int)), (5, V.sl (Id.p 0) 0 n), (6, iv (IntKind.i64.wrap ((↑k : Int) + (1 : Int))))]) (Hp.mk [(0, O.rows 1 true ((bl s).set (0 + m) (bv true :: (List.append ([] : List V)) (List.drop 1 row))))] 1 [])))))))) (R (bv false))) (R (bv true))) (by kernel_rfl) ?_
  refine ifB_mk (fun hb => ?_) (fun hb => ?_)
  · have hlt : k < l.length := by have := of_decide_eq_true hb; omega
    have hx := getI hlt
    generalize l.getD k 0 = x at hx
    refine iel hx ?_
    rw [wr (by omega) (by omega)]
    refine ifB_mk (fun ha => ?_) (fun ha => h false ⟨(fun h => by cases h), fun ho => ?_⟩)
    rotate_left
    · have := ho.2.1 k x hx; have := of_decide_eq_false ha; omega
    refine ifB_mk (fun hc => h false ⟨(fun h => by cases h), fun ho => ?_⟩) (fun hc => ?_)
    · have := ho.2.1 k x hx; simp at hc; omega
    have hx0 : 0 ≤ x := of_decide_eq_true ha
    have hxn : x < n := by simp at hc; omega
    obtain ⟨m, rfl⟩ : ∃ m : Nat, x = (m : Int) := ⟨x.toNat, by omega⟩
    have hmn : m < n := by omega
    obtain ⟨b, hb'⟩ : ∃ b, s[m]? = some b := ⟨s.getD m false, by simp [List.getD, h1, hmn]⟩
    refine iel hx (onNat_c (need_mk ⟨hmn, onSome_mk (bl_get hb') (onBool_bv (ifB_mk (fun hd => h false ⟨(fun h => by cases h), fun ho => ?_⟩) (fun hd => ?_)))⟩))
    · subst hd
      obtain ⟨j, g1, g2⟩ := (h3 m).1 hb'
      exact (ho.2.2 j k _ g1 g2 hx).elim
    subst hd
    refine iel hx (onNat_c (need_mk ⟨hmn, onSome_mk (bl_get hb') ?_⟩))
    rw [wr1i hlt (by omega)]
    refine hJ' ?_ (hJ (s.set m true, k + 1) ⟨(by simp [h1]), (by omega), fun q => ?_, fun i y hi hy => ?_, fun i j y hij hj hy => ?_⟩ (by simp only; omega))
    · simp [sh16, bl, List.map_set]
    · rw [List.getElem?_set]
      by_cases hqm : m = q
      · subst hqm
        simp only [if_true]
        rw [if_pos (by omega)]
        simp only [true_iff]
        exact ⟨k, by omega, hx⟩
      · rw [if_neg hqm, h3 q]
        constructor
        · rintro ⟨j, g1, g2⟩; exact ⟨j, by omega, g2⟩
        · rintro ⟨j, g1, g2⟩
          rcases Nat.lt_succ_iff_lt_or_eq.1 g1 with g | g
          · exact ⟨j, g, g2⟩
          · subst g; rw [hx] at g2; simp at g2; omega
    · rcases Nat.lt_succ_iff_lt_or_eq.1 hi with g | g
      · exact h4 i y g hy
      · subst g; rw [hx] at hy; cases hy; exact ⟨hx0, hxn⟩
    · rcases Nat.lt_succ_iff_lt_or_eq.1 hj with g | g
      · exact h5 i j y hij g hy
      · subst g
        intro he
        rw [hx] at he; cases he
        have := (h3 m).2 ⟨i, hij, hy⟩
        rw [hb'] at this; cases this
  · have hk : k = l.length := by have := of_decide_eq_false hb; omega
    refine h true ⟨fun _ => ⟨hln, fun i x hi => h4 i x ?_ hi, fun i j x hij hi hj => h5 i j x hij ?_ hi hj⟩, fun _ => rfl⟩
    · have := (List.getElem?_eq_some_iff.1 hi).1; omega
    · have := (List.getElem?_eq_some_iff.1 hj).1; omega

/-- From one to eight traders, whose wishes are all lots. -/
def Wok (w : List (List Int)) : Prop := (1 ≤ w.length ∧ w.length ≤ 8) ∧ ∀ (i : Nat) l, w[i]? = some l → Once l w.length
theorem wishes43 {w : List (List Int)} {R : V → Prop} (h1 : Wok w → R (iv 0)) (h0 : ¬ Wok w → R (iv 2)) : K0G Try.prog glX 80 [.lst 1 (wl w)] R := by
  refine K0_of_WY0 hmX hcM 100 Try.func80 (see (p := ifB (decide ((1 : Int) ≤ (↑(wl w).length : Int))) (ifB (!decide ((↑(wl w).length : Int) ≤ (8 : Int))) (R (iv (2 : Int))) (La 0 [(0 : Tmp), (9 : Tmp), (10 : Tmp), (11 : Tmp)] (WY Try.prog cfM 94 (Env.mk (Bs.mk 0 []) 0 none 21 80 0) (cdAt [1, 1, 0, 1, 0, 0] (bodyOf Try.f80))) (Qblk 0 (Qthen (WY Try.prog cfM 97 (Env.mk (Bs.mk 0 []) 0 none 21 80 0) (cdAt [1, 1, 1] (bodyOf Try.f80)) (QendX Try.prog Try.f80 fun v h => R (frzW h v))) (QendX Try.prog Try.f80 fun v h => R (frzW h v)))) (St.mk (mkT [(0, V.lst 1 (wl w)), (9, V.lst 1 (wl w)), (10, iv (↑(wl w).length : Int)), (11, iv (0 : Int))]) (Hp.mk [] 0 [])))) (R (iv (2 : Int)))) (by kernel_rfl) ?_)
  refine ifB_mk (fun ha => ?_) (fun ha => h0 fun ho => ?_)
  rotate_left
  · have := of_decide_eq_false ha; have := ho.1; rw [wl_length] at *; omega
  refine ifB_mk (fun hb => h0 fun ho => ?_) (fun hb => ?_)
  · have := ho.1; rw [wl_length] at hb; simp at hb; omega
  have hw : 1 ≤ w.length ∧ w.length ≤ 8 := by rw [wl_length] at ha hb; simp at ha hb; omega
  refine La.of (σ := Nat) (fun k => sh43 w k) (fun k => k ≤ w.length ∧ ∀ (i : Nat) l, i < k → w[i]? = some l → Once l w.length) (fun k => w.length - k) 0 (by kernel_rfl) ⟨by simp, by simp⟩ ?_
  rintro k ⟨hk, hk1⟩ J hJ
  refine see (p := ifB (decide ((↑k : Int) < (↑(wl w).length : Int))) (onSome (wl w)[k]? fun row => onSome row[0]? fun v => onLst v fun s es => K0G Try.prog glX 87 [V.lst s es, iv (↑(wl w).length : Int)] fun v => onBool v fun b => ifB (!b) (R (iv (2 : Int))) (J (St.mk (mkT [(0, V.lst 1 (wl w)), (9, V.lst 1 (wl w)), (10, iv (↑(wl w).length : Int)), (11, iv (IntKind.i64.wrap ((↑k : Int) + (1 : Int))))]) (Hp.mk [] 0 [])))) (R (iv (0 : Int)))) (by kernel_rfl) ?_
  refine ifB_mk (fun hb => ?_) (fun hb => ?_)
  · have hlt : k < w.length := by rw [wl_length] at hb; have := of_decide_eq_true hb; omega
    have hx := getWI hlt
    generalize w.getD k [] = l at hx
    refine wlel hx ?_
    rw [wl_length]
    refine once50 hw (fun b hbo => onBool_bv (ifB_mk (fun hc => h0 fun ho => ?_) (fun hc => ?_)))
    · have := hbo.2 (ho.2 k l hx); subst this; cases hc
    have hb1 : b = true := by cases b with | true => rfl | false => cases hc
    rw [wr1i hlt (by omega), ← wl_length]
    refine hJ (k + 1) ⟨hlt, fun i y hi hy => ?_⟩ (by omega)
    rcases Nat.lt_succ_iff_lt_or_eq.1 hi with g | g
    · exact hk1 i y g hy
    · subst g; rw [hx] at hy; cases hy; exact hbo.1 hb1
  · have hk : k = w.length := by rw [wl_length] at hb; have := of_decide_eq_false hb; omega
    exact h1 ⟨hw, fun i l hi => hk1 i l (by have := (List.getElem?_eq_some_iff.1 hi).1; omega) hi⟩
theorem wishes15 {w : List (List Int)} {R : V → Prop} (h1 : Wok w → R (bv true)) (h0 : ¬ Wok w → R (bv false)) : K0G Try.prog glX 86 [.lst 1 (wl w)] R := by
  refine K0_of_WY0 hmX hcM 100 Try.func86 (see (p := ifB (decide ((↑(wl w).length : Int) < (1 : Int))) (R (bv false)) (ifB (decide ((↑(wl w).length : Int) > (8 : Int))) (R (bv false)) (La 0 [(0 : Tmp), (3 : Tmp)] (WY Try.prog cfM 94 (Env.mk (Bs.mk 0 []) 0 none 26 86 0) (cdAt [1, 1, 0, 1, 0, 0] (bodyOf Try.f86))) (Qblk 0 (Qthen (WY Try.prog cfM 97 (Env.mk (Bs.mk 0 []) 0 none 26 86 0) (cdAt [1, 1, 1] (bodyOf Try.f86)) (QendX Try.prog Try.f86 fun v h => R (frzW h v))) (QendX Try.prog Try.f86 fun v h => R (frzW h v)))) (St.mk (mkT [(0, V.lst 1 (wl w)), (3, iv (0 : Int))]) (Hp.mk [] 0 []))))) (by kernel_rfl) ?_)
  refine ifB_mk (fun ha => h0 fun ho => ?_) (fun ha => ?_)
  · have := of_decide_eq_true ha; have := ho.1; rw [wl_length] at *; omega
  refine ifB_mk (fun hb => h0 fun ho => ?_) (fun hb => ?_)
  · have := ho.1; rw [wl_length] at hb; simp at hb; omega
  have hw : 1 ≤ w.length ∧ w.length ≤ 8 := by rw [wl_length] at ha hb; simp at ha hb; omega
  refine La.of (σ := Nat) (fun k => sh15 w k) (fun k => k ≤ w.length ∧ ∀ (i : Nat) l, i < k → w[i]? = some l → Once l w.length) (fun k => w.length - k) 0 (by kernel_rfl) ⟨by simp, by simp⟩ ?_
  rintro k ⟨hk, hk1⟩ J hJ
  refine see (p := ifB (decide ((↑k : Int) < (↑(wl w).length : Int))) (onSome (wl w)[k]? fun row => onSome row[0]? fun v => onLst v fun s es => K0G Try.prog glX 89 [V.lst s es, iv (↑(wl w).length : Int)] fun v => onBool v fun b => ifB (!b) (R (bv false)) (J (St.mk (mkT [(0, V.lst 1 (wl w)), (3, iv (IntKind.i64.wrap ((↑k : Int) + (1 : Int))))]) (Hp.mk [] 0 [])))) (R (bv true))) (by kernel_rfl) ?_
  refine ifB_mk (fun hb => ?_) (fun hb => ?_)
  · have hlt : k < w.length := by rw [wl_length] at hb; have := of_decide_eq_true hb; omega
    have hx := getWI hlt
    generalize w.getD k [] = l at hx
    refine wlel hx ?_
    rw [wl_length]
    refine order16 hw (fun b hbo => onBool_bv (ifB_mk (fun hc => h0 fun ho => ?_) (fun hc => ?_)))
    · have := hbo.2 (ho.2 k l hx); subst this; cases hc
    have hb1 : b = true := by cases b with | true => rfl | false => cases hc
    rw [wr1i hlt (by omega)]
    refine hJ (k + 1) ⟨hlt, fun i y hi hy => ?_⟩ (by omega)
    rcases Nat.lt_succ_iff_lt_or_eq.1 hi with g | g
    · exact hk1 i y g hy
    · subst g; rw [hx] at hy; cases hy; exact hbo.1 hb1
  · have hk : k = w.length := by rw [wl_length] at hb; have := of_decide_eq_false hb; omega
    exact h1 ⟨hw, fun i l hi => hk1 i l (by have := (List.getElem?_eq_some_iff.1 hi).1; omega) hi⟩
end Go.Proofs.Ytmddjopahcbefaa
