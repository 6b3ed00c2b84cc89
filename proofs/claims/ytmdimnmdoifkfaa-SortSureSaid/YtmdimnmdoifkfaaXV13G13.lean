/- A part of the proof. -/
import Derived.Test.YtmdimnmdoifkfaaProg
import Derived.ProofKit
import Derived.Deep.Slices
import Derived.Carry
import Derived.Test.YtmdimnmdoifkfaaXV13G7
import Derived.Test.YtmdimnmdoifkfaaXV13G10
import Derived.Test.YtmdimnmdoifkfaaXV13G11
import Derived.Test.YtmdimnmdoifkfaaXV13G12
namespace Go.Proofs.Ytmdimnmdoifkfaa
open Go Go.Proofs.Ytmdimnmdoifkfaa.Clean
set_option linter.unusedVariables false
set_option maxRecDepth 100000
theorem tok0 : Facts Try.prog glX tb0 := trivial
theorem t0 : KFX fa0 := k0 tok0
theorem tok1 : Facts Try.prog glX tb1 := ⟨t0, tok0⟩
theorem t1 : KFX fa1 := k1 tok1
theorem tok2 : Facts Try.prog glX tb2 := ⟨t1, tok1⟩
theorem t2 : KFX fa2 := k2 tok2
theorem tok3 : Facts Try.prog glX tb3 := ⟨t2, tok2⟩
theorem t3 : KFX fa3 := k3 tok3
theorem tok4 : Facts Try.prog glX tb4 := ⟨t3, tok3⟩
theorem t4 : KFX fa4 := k4 tok4
theorem tok5 : Facts Try.prog glX tb5 := ⟨t4, tok4⟩
theorem t5 : KFX fa5 := k5 tok5
end Go.Proofs.Ytmdimnmdoifkfaa
namespace Go.Proofs.Ytmdimnmdoifkfaa
open Go Go.Proofs.Ytmdimnmdoifkfaa.Clean
set_option linter.unusedVariables false
set_option maxRecDepth 100000
end Go.Proofs.Ytmdimnmdoifkfaa
namespace Go.Proofs.Ytmdimnmdoifkfaa
open Go Go.Proofs.Ytmdimnmdoifkfaa.Clean
set_option linter.unusedVariables false
set_option linter.unusedSimpArgs false
set_option maxRecDepth 10000
theorem alive44 {R : V → Prop} (h : R (bv true)) : K0G Try.prog glX 44 [] R := K0G.mono' (show K0G Try.prog glX 44 [] fun v => v = bv true from t5) fun v hv => by rw [hv]; exact h
end Go.Proofs.Ytmdimnmdoifkfaa
namespace Go.Proofs.Ytmdimnmdoifkfaa
open Go Go.Proofs.Ytmdimnmdoifkfaa.Clean
set_option linter.unusedVariables false
set_option linter.unusedSimpArgs false
set_option maxRecDepth 10000
theorem hcF : cfF.ok Try.prog := by
  have h : (cfgG Try.prog glX moB poB rtB (inN [54, 101, 32, 56]) kpF).ok Try.prog := cfgG_ok rtB_ok
  exact ⟨h.1, h.2⟩
theorem tl_length (l : List (List Int)) : (tl l).length = l.length := by simp [tl]
theorem tl_get {l : List (List Int)} {i : Nat} {x : List Int} {k : Nat → List (List V) → Prop} (h : l[i]? = some x) (hk : k 1 (nl x)) : onSome (tl l)[i]? fun row => onSome row[0]? fun v => onLst v fun s es => k s es := onSome_mk (by simp [tl, h] : (tl l)[i]? = some [.lst 1 (nl x)]) hk
theorem wr1b {i n : Nat} (h : i < n) (hn : n ≤ 9223372036854775807) : IntKind.i64.wrap ((i : Int) + 1) = ((i + 1 : Nat) : Int) := by rw [wr (by omega) (by omega)]; simp
theorem tot_app (a : List Int) (x : Int) : tot (a ++ [x]) = tot a + x := by
  induction a with
  | nil => simp [tot]
  | cons y a ih => show y + tot (a ++ [x]) = y + tot a + x; rw [ih]; omega
theorem tot_bnd {a : List Int} (h : ∀ x ∈ a, 0 ≤ x ∧ x ≤ 1000) : 0 ≤ tot a ∧ tot a ≤ 1000 * a.length := by
  induction a with
  | nil => simp [tot]
  | cons y a ih =>
    have := ih (fun x hx => h x (by simp [hx]))
    have := h y (by simp)
    show 0 ≤ y + tot a ∧ y + tot a ≤ 1000 * ((a.length + 1 : Nat) : Int)
    omega
theorem tot_rg (g : Nat → Int) : ∀ m, tot (rg m g) = sumN m g
  | 0 => rfl
  | m + 1 => by
    have : rg (m + 1) g = rg m g ++ [g m] := by simp [rg, List.range_succ]
    rw [this, tot_app, tot_rg g m]
    rfl
theorem sum78 {l : List Int} {R : V → Prop} (hl : l.length ≤ 1000) (hb : ∀ x ∈ l, 0 ≤ x ∧ x ≤ 1000) (h : R (iv (tot l))) : K0G Try.prog glX 78 [.lst 1 (nl l)] R := by
  refine K0_of_WY0 hmX hcF 3000 Try.func78 (see (p := La 0 [(3 : Tmp), (6 : Tmp), (7 : Tmp), (8 : Tmp)] (WY Try.prog cfF 2994 (Env.mk (Bs.mk 0 []) 0 none 17 78 0) (cdAt [1, 1, 0, 1, 0, 0] (bodyOf Try.f78))) (Qblk 0 (Qthen (WY Try.prog cfF 2997 (Env.mk (Bs.mk 0 []) 0 none 17 78 0) (cdAt [1, 1, 1] (bodyOf Try.f78)) (QendX Try.prog Try.f78 fun v h => R (frzW h v))) (QendX Try.prog Try.f78 fun v h => R (frzW h v)))) (St.mk (mkT [(3, iv (0 : Int)), (6, V.lst 1 (nl l)), (7, iv (↑(nl l).length : Int)), (8, iv (0 : Int))]) (Hp.mk [] 0 []))) (by kernel_rfl) ?_)
  refine La.of (σ := Int × Nat) (fun s => sh78 l s.1 s.2) (fun s => s.2 ≤ l.length ∧ s.1 = tot (l.take s.2)) (fun s => l.length - s.2) (0, 0) (by kernel_rfl) ⟨by simp, by simp [tot]⟩ ?_
  rintro ⟨t, k⟩ ⟨g1, g2⟩ J hJ
  simp only at g1 g2
  refine see (p := ifB (decide ((↑k : Int) < (↑(nl l).length : Int))) (onSome (nl l)[k]? fun row => onSome row[0]? fun v => onIntK IntKind.i64 v fun n => J (St.mk (mkT [(3, iv (IntKind.i64.wrap (t + n))), (6, V.lst 1 (nl l)), (7, iv (↑(nl l).length : Int)), (8, iv (IntKind.i64.wrap ((↑k : Int) + (1 : Int))))]) (Hp.mk [] 0 []))) (R (iv t))) (by kernel_rfl) ?_
  refine ifB_mk (fun hc => ?_) (fun hc => ?_)
  · have hlt : k < l.length := by rw [nl_length] at hc; have := of_decide_eq_true hc; omega
    obtain ⟨x, hx⟩ := getI hlt
    have e : tot (l.take (k + 1)) = t + x := by rw [take_succ' hx, tot_app, g2]
    have b1 := tot_bnd (a := l.take (k + 1)) (fun y hy => hb y (mem_take hy))
    have : (l.take (k + 1)).length ≤ 1000 := by simp; omega
    refine iel hx ?_
    rw [wr1i hlt hl, wr (by omega) (by omega)]
    exact hJ (t + x, k + 1) ⟨hlt, e.symm⟩ (by simp only; omega)
  · have hk : l.length ≤ k := by rw [nl_length] at hc; have := of_decide_eq_false hc; omega
    rw [List.take_of_length_le hk] at g2
    rw [g2]
    exact h
theorem wide31 {l : List (List Int)} {R : V → Prop} (hl : l.length ≤ 9223372036854775807) (h : ∀ b, (b = false → l.length ≤ 10 ∧ ∀ x ∈ l, x.length ≤ 12) → R (bv b)) : K0G Try.prog glX 31 [.lst 1 (tl l)] R := by
  refine K0_of_WY0 hmX hcF 3000 Try.func31 (see (p := La 0 [(0 : Tmp), (5 : Tmp), (6 : Tmp), (7 : Tmp)] (WY Try.prog cfF 2995 (Env.mk (Bs.mk 0 []) 0 none 18 31 0) (cdAt [1, 0, 1, 0, 0] (bodyOf Try.f31))) (Qblk 0 (Qthen (WY Try.prog cfF 2998 (Env.mk (Bs.mk 0 []) 0 none 18 31 0) (cdAt [1, 1] (bodyOf Try.f31)) (QendX Try.prog Try.f31 fun v h => R (frzW h v))) (QendX Try.prog Try.f31 fun v h => R (frzW h v)))) (St.mk (mkT [(0, V.lst 1 (tl l)), (5, V.lst 1 (tl l)), (6, iv (↑(tl l).length : Int)), (7, iv (0 : Int))]) (Hp.mk [] 0 []))) (by kernel_rfl) ?_)
  refine La.of (σ := Nat) (fun k => sh31 l k) (fun k => k ≤ l.length ∧ ∀ x ∈ l.take k, x.length ≤ 12) (fun k => l.length - k) 0 (by kernel_rfl) ⟨by simp, by simp⟩ ?_
  rintro k ⟨g1, g2⟩ J hJ
  refine see (p := ifB (decide ((↑k : Int) < (↑(tl l).length : Int))) (onSome (tl l)[k]? fun row => onSome row[0]? fun v => onLst v fun s es => ifB (decide ((↑es.length : Int) > (12 : Int))) (R (bv true)) (J (St.mk (mkT [(0, V.lst 1 (tl l)), (5, V.lst 1 (tl l)), (6, iv (↑(tl l).length : Int)), (7, iv (IntKind.i64.wrap ((↑k : Int) + (1 : Int))))]) (Hp.mk [] 0 [])))) (R (bv (decide ((↑(tl l).length : Int) > (10 : Int)))))) (by kernel_rfl) ?_
  refine ifB_mk (fun hc => ?_) (fun hc => ?_)
  · have hlt : k < l.length := by rw [tl_length] at hc; have := of_decide_eq_true hc; omega
    obtain ⟨x, hx⟩ := getI hlt
    refine tl_get hx (ifB_mk (fun _ => h _ (fun h => by cases h)) (fun c => ?_))
    rw [wr1b hlt hl]
    exact hJ (k + 1) ⟨hlt, all_take hx g2 (by rw [nl_length] at c; have := of_decide_eq_false c; omega)⟩ (by omega)
  · have hk : l.length ≤ k := by rw [tl_length] at hc; have := of_decide_eq_false hc; omega
    refine h _ (fun hb => ⟨?_, all_all hk g2⟩)
    rw [tl_length] at hb
    have := of_decide_eq_false hb
    omega
def TabP (l : List (List Int)) : Prop := 1 ≤ l.length ∧ l.length ≤ 8 ∧ ∀ x ∈ l, Nums x ((l.length : Int) + 1) 0 1000 ∧ tot x = 1000
theorem table37 {l : List (List Int)} {R : V → Prop} (hl : l.length ≤ 10) (hw : ∀ x ∈ l, x.length ≤ 12) (h0 : TabP l → R (iv 0)) (h8 : ¬ TabP l → R (iv 8)) : K0G Try.prog glX 37 [.lst 1 (tl l)] R := by
  refine K0_of_WY0 hmX hcF 3000 Try.func37 (see (p := ifB (decide ((1 : Int) ≤ (↑(tl l).length : Int))) (ifB (!decide ((↑(tl l).length : Int) ≤ (8 : Int))) (R (iv (8 : Int))) (La 0 [(0 : Tmp), (9 : Tmp), (10 : Tmp), (11 : Tmp)] (WY Try.prog cfF 2994 (Env.mk (Bs.mk 0 []) 0 none 27 37 0) (cdAt [1, 1, 0, 1, 0, 0] (bodyOf Try.f37))) (Qblk 0 (Qthen (WY Try.prog cfF 2997 (Env.mk (Bs.mk 0 []) 0 none 27 37 0) (cdAt [1, 1, 1] (bodyOf Try.f37)) (QendX Try.prog Try.f37 fun v h => R (frzW h v))) (QendX Try.prog Try.f37 fun v h => R (frzW h v)))) (St.mk (mkT [(0, V.lst 1 (tl l)), (9, V.lst 1 (tl l)), (10, iv (↑(tl l).length : Int)), (11, iv (0 : Int))]) (Hp.mk [] 0 [])))) (R (iv (8 : Int)))) (by kernel_rfl) ?_)
  rw [tl_length]
  refine ifB_mk (fun c1 => ifB_mk (fun c2 => h8 (fun hp => by have := hp.2.1; simp at c2; omega)) (fun c2 => ?_)) (fun c1 => h8 (fun hp => by have := hp.1; have := of_decide_eq_false c1; omega))
  have l1 : 1 ≤ l.length := by have := of_decide_eq_true c1; omega
  have l8 : l.length ≤ 8 := by simp at c2; omega
  refine La.of (σ := Nat) (fun k => sh37 l k) (fun k => k ≤ l.length ∧ ∀ x ∈ l.take k, Nums x ((l.length : Int) + 1) 0 1000 ∧ tot x = 1000) (fun k => l.length - k) 0 (by rw [← tl_length]; kernel_rfl) ⟨by simp, by simp⟩ ?_
  rintro k ⟨g1, g2⟩ J hJ
  refine see (p := ifB (decide ((↑k : Int) < (↑(tl l).length : Int))) (onSome (tl l)[k]? fun row => onSome row[0]? fun v => onLst v fun s es => K0G Try.prog glX 77 [V.lst s es, iv (IntKind.i64.wrap ((↑(tl l).length : Int) + (1 : Int))), iv (0 : Int), iv (1000 : Int)] fun v => onBool v fun b => ifB (!b) (R (iv (8 : Int))) (K0G Try.prog glX 78 [V.lst s es] fun v => onIntK IntKind.i64 v fun n => ifB (n != (1000 : Int)) (R (iv (8 : Int))) (J (St.mk (mkT [(0, V.lst 1 (tl l)), (9, V.lst 1 (tl l)), (10, iv (↑(tl l).length : Int)), (11, iv (IntKind.i64.wrap ((↑k : Int) + (1 : Int))))]) (Hp.mk [] 0 []))))) (R (iv (0 : Int)))) (by kernel_rfl) ?_
  have tlen := tl_length l
  refine ifB_mk (fun hc => ?_) (fun hc => ?_)
  · have hlt : k < l.length := by rw [tl_length] at hc; have := of_decide_eq_true hc; omega
    obtain ⟨x, hx⟩ := getI hlt
    refine tl_get hx ?_
    have hx12 := hw x (mem_at hx)
    rw [show IntKind.i64.wrap (((tl l).length : Int) + 1) = (l.length : Int) + 1 from by rw [tlen]; exact wr (by omega) (by omega)]
    refine nums77 (by omega) (onBool_bv (ifB_mk (fun c => h8 (fun hp => ?_)) (fun c => ?_)))
    · rw [dc_t (hp.2.2 x (mem_at hx)).1] at c; cases c
    have hn : Nums x ((l.length : Int) + 1) 0 1000 := dc_true (by cases hq : dc (Nums x ((l.length : Int) + 1) 0 1000) with | true => rfl | false => rw [hq] at c; cases c)
    refine sum78 (by omega) hn.2 (onIntK_iv (ifB_mk (fun c => h8 (fun hp => by have := (hp.2.2 x (mem_at hx)).2; simp at c; omega)) (fun c => ?_)))
    rw [wr1i hlt (by omega)]
    exact hJ (k + 1) ⟨hlt, all_take hx g2 ⟨hn, by simpa using c⟩⟩ (by omega)
  · have hk : l.length ≤ k := by rw [tl_length] at hc; have := of_decide_eq_false hc; omega
    exact h0 ⟨l1, l8, all_all hk g2⟩
def chV (row : List Int) (n : Nat) : List Int := rg row.length (cntA row [] n 1)
theorem chV_length (row : List Int) (n : Nat) : (chV row n).length = row.length := by simp [chV, rg]
theorem chances73 {row : List Int} {n N : Nat} {R : V → Prop} (hrow : row.length = N + 1) (hN : N ≤ 100) (hr : ∀ x ∈ row, 0 ≤ x ∧ x ≤ 1000) (ht : tot row = 1000) (hn : n ≤ 5) (h : R (.lst 1 (nl (chV row n)))) : K0G Try.prog glX 73 [.lst 1 (nl row), iv (n : Int)] R := by
  refine K0_of_WY0 hmX hcF 3000 Try.func73 (see (p := onNat (IntKind.i64.wrap ((↑(nl row).length : Int) - (1 : Int))) fun n_1 => onNat (IntKind.i64.wrap ((↑(nl row).length : Int) - (1 : Int))) fun m => need (n_1 ≤ m) (need (8 * m ≤ 140737488355328) (need (m ≤ 9223372036854775807) (need ((nl row).length ≤ (nl row).length) (need (8 * (nl row).length ≤ 140737488355328) (need ((nl row).length ≤ 9223372036854775807) (KM Try.prog glX 100 [iv (0 : Int), iv (↑n : Int), iv (1 : Int), V.ptr (Id.p 0) 0 0, V.ptr (Id.p 1) 0 0, V.ptr (Id.p 3) 0 0, V.ptr (Id.p 5) 0 0, V.ptr (Id.p 6) 0 0] (Hp.mk [(0, O.rows 1 false [[iv (IntKind.i64.wrap ((↑(nl row).length : Int) - (1 : Int)))]]), (1, O.rows 1 false [[V.sl (Id.p 2) 0 (nl row).length]]), (2, O.rows 1 true (List.replicate (nl row).length [iv (0 : Int)])), (3, O.rows 1 false [[V.sl (Id.p 4) 0 n_1]]), (4, O.rows 1 true (List.replicate n_1 [iv (0 : Int)])), (5, O.rows 1 false [[V.lst 1 (nl row)]]), (6, O.rows 1 false [[V.fn (Fn.func 100) [] [V.ptr (Id.p 0) 0 0, V.ptr (Id.p 1) 0 0, V.ptr (Id.p 3) 0 0, V.ptr (Id.p 5) 0 0, V.ptr (Id.p 6) 0 0]]])] 7 []) (poB 100 [iv (0 : Int), iv (↑n : Int), iv (1 : Int), V.ptr (Id.p 1) 0 0, V.ptr (Id.p 5) 0 0, V.ptr (Id.p 3) 0 0, V.ptr (Id.p 0) 0 0, V.ptr (Id.p 6) 0 0]) fun v us => onTup v fun vs => onNil vs (R (V.lst 1 (sub (List.getD us 1 []) 0 (nl row).length)))))))))) (by kernel_rfl) ?_)
  have hlen : (nl row).length = N + 1 := by rw [nl_length, hrow]
  have hw : IntKind.i64.wrap (((N + 1 : Nat) : Int) - 1) = (N : Int) := by rw [wr (by omega) (by omega)]; omega
  rw [hlen, hw]
  refine onNat_mk (m := N) rfl (onNat_mk (m := N) rfl (need_mk ⟨Nat.le_refl _, need_mk ⟨by omega, need_mk ⟨by omega, need_mk ⟨Nat.le_refl _, need_mk ⟨by omega, need_mk ⟨by omega, ?_⟩⟩⟩⟩⟩⟩))
  have e1 : List.replicate (N + 1) [iv (0 : Int)] = nl (rg (N + 1) (fun _ => 0)) := by
    refine List.ext_getElem? (fun i => ?_)
    by_cases hi : i < N + 1
    · simp [nl, rg, hi]
    · simp [nl, rg, hi]
  have e2 : List.replicate N [iv (0 : Int)] = nl (List.replicate N 0) := by simp [nl]
  rw [e1, e2]
  have b1 : (1 : Int) * fac n ≤ 120 * 1000 ^ (5 - n) := by
    rcases n with _ | _ | _ | _ | _ | _ | n <;> first | decide | omega
  have b2 : sumN (N + 1) (fun _ => 0) + 1 * tot (row.drop 0) ^ n ≤ 1000000000000000 := by
    rw [sumN_zero, List.drop_zero, ht]
    have := p5 (a := 1000) (n := n) (by decide) (by decide) hn
    omega
  refine say100 hrow hN hr N 0 n 1 (fun _ => 0) (List.replicate N 0) (by omega) (by simp) hn (by decide) b1 (fun _ => Int.le_refl _) b2 (fun s' h1 h2 => ?_)
  refine onTup_tup (onNil_nil ?_)
  have e3 : rg (N + 1) (fun j => (0 : Int) + cntA (row.drop 0) ((List.replicate N (0 : Int)).take 0) n 1 j) = chV row n := by
    unfold chV
    rw [hrow]
    exact rg_congr fun j => by rw [Int.zero_add]; rfl
  show R (.lst 1 (sub (nl (rg (N + 1) (fun j => (0 : Int) + cntA (row.drop 0) ((List.replicate N (0 : Int)).take 0) n 1 j))) 0 (N + 1)))
  rw [e3, sub_all' _ (by rw [chV_length, hrow])]
  exact h
theorem mgo_zeros : ∀ (p k : Nat) (c : List Int) (s : Int × Int), (s.2 = 0 ∧ s.1 = -1 ∨ 0 < s.2) → mgo (List.replicate p 0 ++ c) k s = mgo c (k + p) s
  | 0, k, c, s, h => by simp
  | p + 1, k, c, s, h => by
    rw [List.replicate_succ, List.cons_append]
    have e : mstep s k 0 = s := by
      unfold mstep
      rcases h with ⟨h1, h2⟩ | h
      · rw [if_neg (by omega), if_pos (by omega), ← h2]
      · rw [if_neg (by omega), if_neg (by omega)]
    show mgo (List.replicate p 0 ++ c) (k + 1) (mstep s k 0) = _
    rw [e, mgo_zeros p (k + 1) c s h, show k + 1 + p = k + (p + 1) from by omega]
theorem plc_zeros (p : Nat) : plc (List.replicate p 0) = p := by
  have : mostF (List.replicate p 0) = -1 := by
    have := mgo_zeros p 0 [] (-1, 0) (.inl ⟨rfl, rfl⟩)
    rw [List.append_nil] at this
    unfold mostF
    rw [this]
    rfl
  unfold plc
  rw [if_pos this]
  simp
theorem plc_one {p q : Nat} {n : Int} (hn : 0 < n) : plc (List.replicate p 0 ++ n :: List.replicate q 0) = p := by
  have : mostF (List.replicate p 0 ++ n :: List.replicate q 0) = (p : Int) := by
    unfold mostF
    rw [mgo_zeros p 0 _ (-1, 0) (.inl ⟨rfl, rfl⟩)]
    show (mgo (List.replicate q 0) (0 + p + 1) (mstep (-1, 0) (0 + p) n)).1 = _
    have e : mstep (-1, 0) (0 + p) n = (((0 + p : Nat) : Int), n) := if_pos hn
    have := mgo_zeros q (0 + p + 1) [] (((0 + p : Nat) : Int), n) (.inr hn)
    rw [List.append_nil] at this
    rw [e, this]
    show ((0 + p : Nat) : Int) = p
    omega
  unfold plc
  rw [this, if_neg (by omega)]
  rfl
theorem ch_zero (l : Nat) : ch l 0 = 1 := by cases l <;> rfl
theorem rep_app (q : Nat) (pre : List Int) : pre ++ [0] ++ List.replicate q 0 = pre ++ List.replicate (q + 1) 0 := by rw [List.append_assoc, List.replicate_succ]; rfl
theorem cntA_none : ∀ (row pre : List Int) (w : Int) (j q : Nat), row.length = q + 1 → cntA row pre 0 w j = if plc (pre ++ List.replicate q 0) = j then w else 0
  | [], pre, w, j, q, h => by cases h
  | z :: [], pre, w, j, q, h => by
    have : q = 0 := by simpa using h.symm
    subst this
    simp [cntA]
  | r :: s :: rs, pre, w, j, q, h => by
    rw [cntA_step]
    show 0 + cntA (s :: rs) (pre ++ [((0 : Nat) : Int)]) (0 - 0) (w * ch 0 0 * r ^ 0) j = _
    rw [ch_zero, Int.zero_add]
    obtain ⟨q', rfl⟩ : ∃ q', q = q' + 1 := ⟨q - 1, by simp at h; omega⟩
    rw [cntA_none (s :: rs) _ _ j q' (by simp at h ⊢; omega)]
    rw [show pre ++ [((0 : Nat) : Int)] ++ List.replicate q' 0 = pre ++ List.replicate (q' + 1) 0 from rep_app q' pre]
    simp
end Go.Proofs.Ytmdimnmdoifkfaa
namespace Go.Proofs.Ytmdimnmdoifkfaa
open Go Go.Proofs.Ytmdimnmdoifkfaa.Clean
set_option linter.unusedVariables false
set_option maxRecDepth 100000
abbrev Sw := Int × Int × Bool
end Go.Proofs.Ytmdimnmdoifkfaa
namespace Go.Proofs.Ytmdimnmdoifkfaa
open Go Go.Proofs.Ytmdimnmdoifkfaa.Clean
set_option linter.unusedVariables false
set_option linter.unusedSimpArgs false
set_option maxRecDepth 10000
def gtS (x y : Sw) : Prop := y.1 < x.1 ∨ (x.1 = y.1 ∧ y.2.1 < x.2.1)
instance (x y : Sw) : Decidable (gtS x y) := by unfold gtS; infer_instance
end Go.Proofs.Ytmdimnmdoifkfaa
namespace Go.Proofs.Ytmdimnmdoifkfaa
open Go Go.Proofs.Ytmdimnmdoifkfaa.Clean
set_option linter.unusedVariables false
set_option linter.unusedSimpArgs false
set_option maxRecDepth 10000
end Go.Proofs.Ytmdimnmdoifkfaa
namespace Go.Proofs.Ytmdimnmdoifkfaa
open Go Go.Proofs.Ytmdimnmdoifkfaa.Clean
set_option linter.unusedVariables false
set_option maxRecDepth 100000
noncomputable def hB (b : Bt) : Hp := ⟨[(0, O.rows 5 false [bel b])], 1, []⟩
end Go.Proofs.Ytmdimnmdoifkfaa
namespace Go.Proofs.Ytmdimnmdoifkfaa
open Go Go.Proofs.Ytmdimnmdoifkfaa.Clean
set_option linter.unusedVariables false
set_option linter.unusedSimpArgs false
set_option maxRecDepth 10000
instance (S : Int) (l : List Fd) (j : Nat) : Decidable (nearP S l j) := by unfold nearP; infer_instance
end Go.Proofs.Ytmdimnmdoifkfaa
namespace Go.Proofs.Ytmdimnmdoifkfaa
open Go Go.Proofs.Ytmdimnmdoifkfaa.Clean
set_option linter.unusedVariables false
set_option linter.unusedSimpArgs false
set_option maxRecDepth 10000
def ltK (a x : Sw) : Prop := a.1 < x.1 ∨ (a.1 = x.1 ∧ a.2.1 < x.2.1)
instance (a x : Sw) : Decidable (ltK a x) := by unfold ltK; infer_instance
end Go.Proofs.Ytmdimnmdoifkfaa
namespace Go.Proofs.Ytmdimnmdoifkfaa
open Go Go.Proofs.Ytmdimnmdoifkfaa.Clean
set_option linter.unusedVariables false
set_option linter.unusedSimpArgs false
set_option maxRecDepth 10000
end Go.Proofs.Ytmdimnmdoifkfaa
namespace Go.Proofs.Ytmdimnmdoifkfaa
open Go Go.Proofs.Ytmdimnmdoifkfaa.Clean
set_option linter.unusedVariables false
set_option linter.unusedSimpArgs false
set_option maxRecDepth 10000
theorem onLst_nilS {k : Nat → List (List V) → Prop} (h : k 0 []) : onLst nilS k := h
theorem chV_tot {row : List Int} {n : Nat} (hr : row ≠ []) (hn : n ≤ 5) (ht : tot row = 1000) : tot (chV row n) = 1000 ^ n := by
  unfold chV
  rw [tot_rg, cntA_sum row [] n 1 row.length hr (by simp) hn, ht]
  simp
theorem chV_nn {row : List Int} {n : Nat} (hr : ∀ x ∈ row, 0 ≤ x) : ∀ x ∈ chV row n, 0 ≤ x := fun x hx => by
  unfold chV rg at hx
  rw [List.mem_map] at hx
  obtain ⟨j, _, rfl⟩ := hx
  exact cntA_nn _ _ _ _ _ hr (by decide)
theorem tot_mono {l : List Int} (h : ∀ x ∈ l, 0 ≤ x) : ∀ k, 0 ≤ tot (l.take k) ∧ tot (l.take k) ≤ tot l := by
  induction l with
  | nil => intro k; simp [tot]
  | cons y l ih =>
    intro k
    have hy := h y (by simp)
    rcases k with _ | k
    · have := ih (fun x hx => h x (by simp [hx])) l.length
      rw [List.take_of_length_le (Nat.le_refl _)] at this
      show 0 ≤ 0 ∧ 0 ≤ y + tot l
      omega
    · have := ih (fun x hx => h x (by simp [hx])) k
      show 0 ≤ y + tot (l.take k) ∧ y + tot (l.take k) ≤ y + tot l
      omega
end Go.Proofs.Ytmdimnmdoifkfaa
namespace Go.Proofs.Ytmdimnmdoifkfaa
open Go Go.Proofs.Ytmdimnmdoifkfaa.Clean
set_option linter.unusedVariables false
set_option maxRecDepth 100000
def mxr (x : Int × Int) : List V := [iv x.1, iv x.2]
def ml (l : List (Int × Int)) : List (List V) := l.map mxr
def kpH : FuncId → Nat → Option (List Tmp) := slotsOf [(35, 0, [1, 2, 3, 12, 42, 43, 44]), (35, 2, [1, 2, 3, 12, 13, 15, 42, 43, 44, 52, 53, 54]), (13, 0, [9, 10, 12, 56, 57, 58]), (13, 2, [9, 10, 12, 78, 79, 80])]
noncomputable def cfH : Cfg := { cfgG Try.prog glX moB poB rtB (inN [54, 101, 32, 56]) kpH with clean := fun g => !inN [100] g }
noncomputable def sh35a (l : List (List Int)) (n : Nat) (counts bins : List Int) (m : List (Int × Int)) (k : Nat) : St := ⟨mkT [(1, iv (n : Int)), (2, V.lst 1 (nl counts)), (3, V.lst 1 (nl bins)), (12, V.sl (Id.p 0) 0 8), (42, V.lst 1 (tl l)), (43, iv ((tl l).length : Int)), (44, iv (k : Int))], ⟨[(0, O.rows 2 true (ml m))], 1, []⟩⟩
noncomputable def sh35b (l : List (List Int)) (n : Nat) (counts bins ways : List Int) (m : List (Int × Int)) (k i : Nat) : St := ⟨mkT [(1, iv (n : Int)), (2, V.lst 1 (nl counts)), (3, V.lst 1 (nl bins)), (12, V.sl (Id.p 0) 0 8), (13, iv (k : Int)), (15, V.lst 1 (nl ways)), (42, V.lst 1 (tl l)), (43, iv ((tl l).length : Int)), (44, iv (k : Int)), (52, V.lst 1 (nl bins)), (53, iv ((nl bins).length : Int)), (54, iv (i : Int))], ⟨[(0, O.rows 2 true (ml m))], 1, []⟩⟩
noncomputable def sh13a (l : List (List Int)) (m : List (Int × Int)) (s : Bool) (k : Nat) : St := ⟨mkT [(9, bv true), (10, V.lst 2 (ml m)), (12, bv s), (56, V.lst 1 (tl l)), (57, iv ((tl l).length : Int)), (58, iv (k : Int))], ⟨[], 0, []⟩⟩
noncomputable def sh13b (m : List (Int × Int)) (s : Bool) (k : Nat) : St := ⟨mkT [(9, bv true), (10, V.lst 2 (ml m)), (12, bv s), (78, V.lst 2 (ml m)), (79, iv ((ml m).length : Int)), (80, iv (k : Int))], ⟨[], 0, []⟩⟩
end Go.Proofs.Ytmdimnmdoifkfaa
namespace Go.Proofs.Ytmdimnmdoifkfaa
open Go Go.Proofs.Ytmdimnmdoifkfaa.Clean
set_option linter.unusedVariables false
set_option linter.unusedSimpArgs false
set_option maxRecDepth 10000
theorem hcH : cfH.ok Try.prog := by
  have h : (cfgG Try.prog glX moB poB rtB (inN [54, 101, 32, 56]) kpH).ok Try.prog := cfgG_ok rtB_ok
  exact ⟨h.1, h.2⟩
def rm (f : Nat → Int × Int) : List (Int × Int) := (List.range 8).map f
theorem rm_length (f : Nat → Int × Int) : (rm f).length = 8 := by simp [rm]
theorem ml_length (m : List (Int × Int)) : (ml m).length = m.length := by simp [ml]
theorem rm_get {p : Nat} {f : Nat → Int × Int} (h : p < 8) : (ml (rm f))[0 + p]? = some [iv (f p).1, iv (f p).2] := by rw [Nat.zero_add]; simp [rm, ml, mxr, h]
theorem rm_set {p : Nat} {f : Nat → Int × Int} {u v : Int} (h : p < 8) : (ml (rm f)).set (0 + p) [iv u, iv v] = ml (rm (fun j => if p = j then (u, v) else f j)) := by
  rw [Nat.zero_add]
  refine List.ext_getElem? (fun i => ?_)
  rw [List.getElem?_set]
  by_cases hi : i < 8
  · by_cases hp : p = i
    · subst hp; simp [ml, rm, mxr, h]
    · rw [if_neg hp]; simp [ml, rm, hi, hp]
  · rw [if_neg (by omega)]; simp [ml, rm, hi]
def bump (f : Nat → Int × Int) (p : Nat) (q r : Int) : Nat → Int × Int := fun j => if p = j then ((f j).1 + q, (f j).2 + r) else f j
def wst (counts bins : List Int) (kind : Nat) (ways : List Int) (i : Nat) (f : Nat → Int × Int) : Nat → Int × Int :=
  if bins.getD i 0 = -1 then f else bump f (bins.getD i 0).toNat (if bins.getD kind 0 ≠ bins.getD i 0 then counts.getD kind 0 * ways.getD i 0 else 0) (counts.getD kind 0 * ways.getD i 0)
def wrR (counts bins : List Int) (kind : Nat) (ways : List Int) : Nat → (Nat → Int × Int) → Nat → Int × Int
  | 0, f => f
  | i + 1, f => wst counts bins kind ways i (wrR counts bins kind ways i f)
def wrT (counts bins : List Int) (l : List (List Int)) (n : Nat) : Nat → Nat → Int × Int
  | 0 => fun _ => (0, 0)
  | k + 1 => wrR counts bins k (chV (l.getD k []) n) bins.length (wrT counts bins l n k)
def Bd (f : Nat → Int × Int) (B : Int) : Prop := ∀ j, 0 ≤ (f j).1 ∧ (f j).1 ≤ (f j).2 ∧ (f j).2 ≤ B
theorem bump_bd {f : Nat → Int × Int} {B p q P : Int} {b : Nat} (h : Bd f B) (h1 : 0 ≤ p) (h2 : p ≤ q) (h3 : q ≤ P) (h4 : 0 ≤ P) : Bd (bump f b p q) (B + P) := fun j => by
  have := h j
  unfold bump
  split
  · simp only; omega
  · omega
theorem wst_bd {counts bins ways : List Int} {kind i : Nat} {f : Nat → Int × Int} {B P : Int} (h : Bd f B) (h0 : 0 ≤ counts.getD kind 0 * ways.getD i 0) (h1 : counts.getD kind 0 * ways.getD i 0 ≤ P) : Bd (wst counts bins kind ways i f) (B + P) := by
  unfold wst
  split
  · exact fun j => by have := h j; omega
  · refine bump_bd h ?_ ?_ h1 (by omega)
    · split <;> omega
    · split <;> omega
theorem getD_get {l : List Int} {i : Nat} {x : Int} (h : l[i]? = some x) : l.getD i 0 = x := by simp [List.getD, h]
theorem wrR_bd {counts bins ways : List Int} {kind : Nat} {c : Int} (hc : counts[kind]? = some c) (c0 : 0 ≤ c) (c1 : c ≤ 1000) (hw : ∀ x ∈ ways, 0 ≤ x) {f : Nat → Int × Int} {B : Int} (h : Bd f B) : ∀ i, i ≤ ways.length → Bd (wrR counts bins kind ways i f) (B + 1000 * tot (ways.take i))
  | 0, _ => fun j => by have := h j; simp [wrR, tot]; omega
  | i + 1, hi => by
    obtain ⟨x, hx⟩ := getI (l := ways) (k := i) (by omega)
    have x0 := hw x (mem_at hx)
    have e : B + 1000 * tot (ways.take (i + 1)) = (B + 1000 * tot (ways.take i)) + 1000 * x := by rw [take_succ' hx, tot_app]; omega
    rw [e]
    have := wrR_bd (bins := bins) hc c0 c1 hw h i (by omega)
    refine wst_bd this ?_ ?_
    · rw [getD_get hc, getD_get hx]; exact Int.mul_nonneg c0 x0
    · rw [getD_get hc, getD_get hx]; exact Int.mul_le_mul_of_nonneg_right c1 x0
set_option maxHeartbeats 1000000 in
theorem wrong35 {l : List (List Int)} {n0 : Int} {counts bins : List Int} {R : V → Prop} (hl : l.length ≤ 10) (hw : ∀ x ∈ l, x.length ≤ 12) (hc : counts.length ≤ 20) (hb : bins.length ≤ 20) (h1 : ∀ e, e ≠ 0 → R (.tup [nilS, iv e]))
    (h0 : ∀ n : Nat, TabP l → n0 = (n : Int) → 1 ≤ n → n ≤ 5 → Nums counts l.length 0 1000 → Nums bins l.length (-1) 7 → R (.tup [.lst 2 (ml (rm (wrT counts bins l n l.length))), iv 0])) : K0G Try.prog glX 35 [.lst 1 (tl l), iv n0, .lst 1 (nl counts), .lst 1 (nl bins)] R := by
  refine K0_of_WY0 hmX hcH 3000 Try.func35 (see (p := K0G Try.prog glX 37 [V.lst 1 (tl l)] fun v => onIntK IntKind.i64 v fun n => ifB (n != (0 : Int)) (R (V.tup [nilS, iv n])) (ifB (decide ((1 : Int) ≤ n0)) (ifB (!decide (n0 ≤ (5 : Int))) (R (V.tup [nilS, iv (2 : Int)])) (K0G Try.prog glX 77 [V.lst 1 (nl counts), iv (↑(tl l).length : Int), iv (0 : Int), iv (1000 : Int)] fun v => onBool v fun b => ifB (!b) (R (V.tup [nilS, iv (2 : Int)])) (K0G Try.prog glX 77 [V.lst 1 (nl bins), iv (↑(tl l).length : Int), iv (-1 : Int), iv (7 : Int)] fun v => onBool v fun b => ifB (!b) (R (V.tup [nilS, iv (2 : Int)])) (La 0 [(1 : Tmp), (2 : Tmp), (3 : Tmp), (12 : Tmp), (42 : Tmp), (43 : Tmp), (44 : Tmp)] (WY Try.prog cfH 2991 (Env.mk (Bs.mk 0 []) 0 none 97 35 0) (cdAt [1, 1, 1, 1, 1, 0, 1, 0, 0] (bodyOf Try.f35))) (Qblk 0 (Qthen (WY Try.prog cfH 2994 (Env.mk (Bs.mk 0 []) 0 none 97 35 0) (cdAt [1, 1, 1, 1, 1, 1] (bodyOf Try.f35)) (QendX Try.prog Try.f35 fun v h => R (frzW h v))) (QendX Try.prog Try.f35 fun v h => R (frzW h v)))) (St.mk (mkT [(1, iv n0), (2, V.lst 1 (nl counts)), (3, V.lst 1 (nl bins)), (12, V.sl (Id.p 0) 0 8), (42, V.lst 1 (tl l)), (43, iv (↑(tl l).length : Int)), (44, iv (0 : Int))]) (Hp.mk [(0, O.rows 2 true [[iv (0 : Int), iv (0 : Int)], [iv (0 : Int), iv (0 : Int)], [iv (0 : Int), iv (0 : Int)], [iv (0 : Int), iv (0 : Int)], [iv (0 : Int), iv (0 : Int)], [iv (0 : Int), iv (0 : Int)], [iv (0 : Int), iv (0 : Int)], [iv (0 : Int), iv (0 : Int)]])] 1 [])))))) (R (V.tup [nilS, iv (2 : Int)])))) (by kernel_rfl) ?_)
  refine table37 hl hw (fun hT => onIntK_iv (ifB_f rfl ?_)) (fun hT => onIntK_iv (ifB_t rfl (h1 _ (by decide))))
  have tlen := tl_length l
  rw [tlen]
  refine ifB_mk (fun c3 => ifB_mk (fun c4 => h1 _ (by decide)) (fun c4 => ?_)) (fun c3 => h1 _ (by decide))
  have c3 := of_decide_eq_true c3
  have c4 : n0 ≤ 5 := by simpa using c4
  obtain ⟨n, rfl⟩ : ∃ n : Nat, n0 = (n : Int) := ⟨n0.toNat, by omega⟩
  refine nums77 (by omega) (onBool_bv (ifB_mk (fun _ => h1 _ (by decide)) (fun c => ?_)))
  have hC : Nums counts l.length 0 1000 := dc_true (by cases hq : dc (Nums counts l.length 0 1000) with | true => rfl | false => rw [hq] at c; cases c)
  refine nums77 (by omega) (onBool_bv (ifB_mk (fun _ => h1 _ (by decide)) (fun c => ?_)))
  have hB : Nums bins l.length (-1) 7 := dc_true (by cases hq : dc (Nums bins l.length (-1) 7) with | true => rfl | false => rw [hq] at c; cases c)
  have lc := hC.1
  have lb := hB.1
  have l8 := hT.2.1
  refine La.of (σ := List (Int × Int) × Nat) (fun s => sh35a l n counts bins s.1 s.2) (fun s => s.2 ≤ l.length ∧ s.1 = rm (wrT counts bins l n s.2) ∧ Bd (wrT counts bins l n s.2) (s.2 * 1000000000000000000)) (fun s => l.length - s.2) (rm (fun _ => (0, 0)), 0) (by rw [← tlen]; kernel_rfl) ⟨by simp, rfl, fun j => by simp [wrT]⟩ ?_
  rintro ⟨m, k⟩ ⟨g1, g2, g3⟩ J hJ
  simp only at g1 g2 g3
  refine see (p := ifB (decide ((↑k : Int) < (↑(tl l).length : Int))) (onSome (tl l)[k]? fun row => onSome row[0]? fun v => onLst v fun s es => K0G Try.prog glX 73 [V.lst s es, iv (↑n : Int)] fun v => onLst v fun s es => La 0 [(1 : Tmp), (2 : Tmp), (3 : Tmp), (12 : Tmp), (13 : Tmp), (15 : Tmp), (42 : Tmp), (43 : Tmp), (44 : Tmp), (52 : Tmp), (53 : Tmp), (54 : Tmp)] (WY Try.prog cfH 2982 (Env.mk (Bs.mk 0 []) 0 none 97 35 2) (cdAt [1, 1, 1, 1, 1, 0, 1, 0, 0, 1, 1, 0, 0, 1, 1, 1, 0, 0] (bodyOf Try.f35))) (Qblk 2 (Qblk 1 (Qthen (WY Try.prog cfH 2988 (Env.mk (Bs.mk 0 []) 0 none 97 35 0) (cdAt [1, 1, 1, 1, 1, 0, 1, 0, 0, 1, 1, 1] (bodyOf Try.f35)) (Qla 0 [(1 : Tmp), (2 : Tmp), (3 : Tmp), (12 : Tmp), (42 : Tmp), (43 : Tmp), (44 : Tmp)] J (Qblk 0 (Qthen (WY Try.prog cfH 2994 (Env.mk (Bs.mk 0 []) 0 none 97 35 0) (cdAt [1, 1, 1, 1, 1, 1] (bodyOf Try.f35)) (QendX Try.prog Try.f35 fun v h => R (frzW h v))) (QendX Try.prog Try.f35 fun v h => R (frzW h v)))))) (Qla 0 [(1 : Tmp), (2 : Tmp), (3 : Tmp), (12 : Tmp), (42 : Tmp), (43 : Tmp), (44 : Tmp)] J (Qblk 0 (Qthen (WY Try.prog cfH 2994 (Env.mk (Bs.mk 0 []) 0 none 97 35 0) (cdAt [1, 1, 1, 1, 1, 1] (bodyOf Try.f35)) (QendX Try.prog Try.f35 fun v h => R (frzW h v))) (QendX Try.prog Try.f35 fun v h => R (frzW h v)))))))) (St.mk (mkT [(1, iv (↑n : Int)), (2, V.lst 1 (nl counts)), (3, V.lst 1 (nl bins)), (12, V.sl (Id.p 0) 0 8), (13, iv (↑k : Int)), (15, V.lst s es), (42, V.lst 1 (tl l)), (43, iv (↑(tl l).length : Int)), (44, iv (↑k : Int)), (52, V.lst 1 (nl bins)), (53, iv (↑(nl bins).length : Int)), (54, iv (0 : Int))]) (Hp.mk [(0, O.rows 2 true (ml m))] 1 []))) (R (V.tup [V.lst 2 (sub (ml m) 0 8), iv (0 : Int)]))) (by kernel_rfl) ?_
  refine ifB_mk (fun b1 => ?_) (fun b1 => ?_)
  · have hlt : k < l.length := by rw [tlen] at b1; have := of_decide_eq_true b1; omega
    obtain ⟨row, hrow⟩ := getI hlt
    have hn := hT.2.2 row (mem_at hrow)
    have hlen := hn.1.1
    obtain ⟨c, hck⟩ := getI (l := counts) (k := k) (by omega)
    have hc01 := hC.2 c (mem_at hck)
    obtain ⟨b, hbk⟩ := getI (l := bins) (k := k) (by omega)
    refine tl_get hrow (chances73 (N := l.length) (by omega) (by omega) hn.1.2 hn.2 (by omega) (onLst_lst ?_))
    have hw1 := chV_length row n
    have hw2 := chV_nn (row := row) (n := n) (fun x hx => (hn.1.2 x hx).1)
    have hw3 := chV_tot (n := n) (show row ≠ [] by intro hq; rw [hq] at hlen; simp at hlen; omega) (by omega) hn.2
    have hrd : chV (l.getD k []) n = chV row n := by simp [List.getD, hrow]
    have hT1 : wrT counts bins l n (k + 1) = wrR counts bins k (chV row n) bins.length (wrT counts bins l n k) := by rw [← hrd]; rfl
    generalize chV row n = ways at hw1 hw2 hw3 hT1 ⊢
    have pm := p5 (a := 1000) (n := n) (by decide) (by decide) (by omega)
    generalize wrT counts bins l n k = f0 at g2 g3 hT1
    have bd := fun i (hi : i ≤ ways.length) => wrR_bd (bins := bins) hck hc01.1 hc01.2 hw2 g3 i hi
    have tb := fun i => tot_mono hw2 i
    rw [hw3] at tb
    refine La.of (σ := List (Int × Int) × Nat) (fun s => sh35b l n counts bins ways s.1 k s.2) (fun s => s.2 ≤ bins.length ∧ s.1 = rm (wrR counts bins k ways s.2 f0)) (fun s => bins.length - s.2) (m, 0) (by kernel_rfl) ⟨by simp, g2⟩ ?_
    rintro ⟨m, i⟩ ⟨f1, f2⟩ I hI
    simp only at f1 f2
    refine see (p := ifB (decide ((↑i : Int) < (↑(nl bins).length : Int))) (onSome (nl bins)[i]? fun row => onSome row[0]? fun v => onIntK IntKind.i64 v fun n_1 => ifB (n_1 == (-1 : Int)) (I (St.mk (mkT [(1, iv (↑n : Int)), (2, V.lst 1 (nl counts)), (3, V.lst 1 (nl bins)), (12, V.sl (Id.p 0) 0 8), (13, iv (↑k : Int)), (15, V.lst 1 (nl ways)), (42, V.lst 1 (tl l)), (43, iv (↑(tl l).length : Int)), (44, iv (↑k : Int)), (52, V.lst 1 (nl bins)), (53, iv (↑(nl bins).length : Int)), (54, iv (IntKind.i64.wrap ((↑i : Int) + (1 : Int))))]) (Hp.mk [(0, O.rows 2 true (ml m))] 1 []))) (onSome (nl counts)[k]? fun row => onSome row[0]? fun v => onIntK IntKind.i64 v fun n_2 => onSome (nl ways)[i]? fun row => onSome row[0]? fun v => onIntK IntKind.i64 v fun n_3 => onNat n_1 fun m_1 => need (m_1 < 8) (onSome (ml m)[0 + m_1]? fun row => onSome row[1]? fun v => onIntK IntKind.i64 v fun n_4 => onNat n_1 fun m_2 => need (m_2 < 8) (onSome (ml m)[0 + m_2]? fun row => guardB ((1 + 1).ble row.length) (onSome (nl bins)[k]? fun row_1 => onSome row_1[0]? fun v => onIntK IntKind.i64 v fun n_5 => ifB (n_5 != n_1) (onNat n_1 fun m_3 => need (m_3 < 8) (onSome ((ml m).set (0 + m_2) (List.take 1 row ++ [iv (IntKind.i64.wrap (n_4 + IntKind.i64.wrap (n_2 * n_3)))] ++ List.drop 2 row))[0 + m_3]? fun row_2 => onSome row_2[0]? fun v => onIntK IntKind.i64 v fun n_6 => onNat n_1 fun m_4 => need (m_4 < 8) (onSome ((ml m).set (0 + m_2) (List.take 1 row ++ [iv (IntKind.i64.wrap (n_4 + IntKind.i64.wrap (n_2 * n_3)))] ++ List.drop 2 row))[0 + m_4]? fun row_3 => guardB ((0 + 1).ble row_3.length) (I (St.mk (mkT [(1, iv (↑n : Int)), (2, V.lst 1 (nl counts)), (3, V.lst 1 (nl bins)), (12, V.sl (Id.p 0) 0 8), (13, iv (↑k : Int)), (15, V.lst 1 (nl ways)), (42, V.lst 1 (tl l)), (43, iv (↑(tl l).length : Int)), (44, iv (↑k : Int)), (52, V.lst 1 (nl bins)), (53, iv (↑(nl bins).length : Int)), (54, iv (IntKind.i64.wrap ((↑i : Int) + (1 : Int))))]) (Hp.mk [(0, O.rows 2 true (((ml m).set (0 + m_2) (List.take 1 row ++ [iv (IntKind.i64.wrap (n_4 + IntKind.i64.wrap (n_2 * n_3)))] ++ List.drop 2 row)).set (0 + m_4) (iv (IntKind.i64.wrap (n_6 + IntKind.i64.wrap (n_2 * n_3))) :: (List.append []) (List.drop 1 row_3))))] 1 [])))))) (I (St.mk (mkT [(1, iv (↑n : Int)), (2, V.lst 1 (nl counts)), (3, V.lst 1 (nl bins)), (12, V.sl (Id.p 0) 0 8), (13, iv (↑k : Int)), (15, V.lst 1 (nl ways)), (42, V.lst 1 (tl l)), (43, iv (↑(tl l).length : Int)), (44, iv (↑k : Int)), (52, V.lst 1 (nl bins)), (53, iv (↑(nl bins).length : Int)), (54, iv (IntKind.i64.wrap ((↑i : Int) + (1 : Int))))]) (Hp.mk [(0, O.rows 2 true ((ml m).set (0 + m_2) (List.take 1 row ++ [iv (IntKind.i64.wrap (n_4 + IntKind.i64.wrap (n_2 * n_3)))] ++ List.drop 2 row)))] 1 [])))))))) (J (St.mk (mkT [(1, iv (↑n : Int)), (2, V.lst 1 (nl counts)), (3, V.lst 1 (nl bins)), (12, V.sl (Id.p 0) 0 8), (42, V.lst 1 (tl l)), (43, iv (↑(tl l).length : Int)), (44, iv (IntKind.i64.wrap ((↑k : Int) + (1 : Int))))]) (Hp.mk [(0, O.rows 2 true (ml m))] 1 [])))) (by kernel_rfl) ?_
    have blen := nl_length bins
    refine ifB_mk (fun b2 => ?_) (fun b2 => ?_)
    · have hlti : i < bins.length := by rw [blen] at b2; have := of_decide_eq_true b2; omega
      obtain ⟨bb, hbi⟩ := getI hlti
      have hbb := hB.2 bb (mem_at hbi)
      obtain ⟨x, hx⟩ := getI (l := ways) (k := i) (by omega)
      have x0 := hw2 x (mem_at hx)
      have nx : wrR counts bins k ways (i + 1) f0 = wst counts bins k ways i (wrR counts bins k ways i f0) := rfl
      have bd0 := bd i (by omega)
      have bd1 := bd (i + 1) (by omega)
      have tbi := tb (i + 1)
      have fin : ∀ m', m' = ml (rm (wrR counts bins k ways (i + 1) f0)) → I ⟨mkT [(1, iv (n : Int)), (2, V.lst 1 (nl counts)), (3, V.lst 1 (nl bins)), (12, V.sl (Id.p 0) 0 8), (13, iv (k : Int)), (15, V.lst 1 (nl ways)), (42, V.lst 1 (tl l)), (43, iv ((tl l).length : Int)), (44, iv (k : Int)), (52, V.lst 1 (nl bins)), (53, iv ((nl bins).length : Int)), (54, iv ((i + 1 : Nat) : Int))], ⟨[(0, O.rows 2 true m')], 1, []⟩⟩ := fun m' hm' => by
        rw [hm']
        exact hI (rm (wrR counts bins k ways (i + 1) f0), i + 1) ⟨hlti, rfl⟩ (by simp only; omega)
      rw [f2]
      generalize hF : wrR counts bins k ways i f0 = f at nx bd0 fin
      refine iel hbi ?_
      rw [wr1i hlti (by omega)]
      have gb : bins.getD i 0 = bb := getD_get hbi
      have gk : bins.getD k 0 = b := getD_get hbk
      have gc : counts.getD k 0 = c := getD_get hck
      have gw : ways.getD i 0 = x := getD_get hx
      refine ifB_mk (fun b3 => fin _ (by rw [nx]; unfold wst; rw [gb, if_pos (by simpa using b3)])) (fun b3 => ?_)
      have hbn : bb ≠ -1 := by simpa using b3
      have h07 : 0 ≤ bb ∧ bb ≤ 7 := by have := hbb.1; have := hbb.2; omega
      obtain ⟨p, rfl⟩ : ∃ p : Nat, bb = (p : Int) := ⟨bb.toNat, by omega⟩
      have cx0 := Int.mul_nonneg hc01.1 x0
      have nx2 : wrR counts bins k ways (i + 1) f0 = bump f p (if b ≠ (p : Int) then c * x else 0) (c * x) := by
        rw [nx]; unfold wst; rw [gb, if_neg hbn, gk, gc, gw]; rfl
      have bp := bd0 p
      have bq := bd1 p
      rw [nx2] at bq
      have e2 : (bump f p (if b ≠ (p : Int) then c * x else 0) (c * x) p).2 = (f p).2 + c * x := by simp [bump]
      rw [e2] at bq
      refine iel hck (iel hx ?_)
      refine onNat_mk (m := p) rfl (need_mk ⟨by omega, onSome_mk (rm_get (by omega)) ?_⟩)
      refine onSome_mk (rfl : [iv (f p).1, iv (f p).2][1]? = some (iv (f p).2)) (onIntK_iv ?_)
      refine onNat_mk (m := p) rfl (need_mk ⟨by omega, onSome_mk (rm_get (by omega)) (guardB_mk rfl (iel hbk ?_))⟩)
      have hcx : c * x ≤ 9000000000000000000 := by omega
      have hs2 : (f p).2 + c * x ≤ 9000000000000000000 := by omega
      rw [wr (n := c * x) (by omega) (by omega), wr (n := (f p).2 + c * x) (by omega) (by omega)]
      have s1 : (ml (rm f)).set (0 + p) (List.take 1 [iv (f p).1, iv (f p).2] ++ [iv ((f p).2 + c * x)] ++ List.drop 2 [iv (f p).1, iv (f p).2]) = ml (rm (fun j => if p = j then ((f p).1, (f p).2 + c * x) else f j)) := rm_set (by omega)
      rw [s1]
      refine ifB_mk (fun b4 => ?_) (fun b4 => ?_)
      · refine onNat_mk (m := p) rfl (need_mk ⟨by omega, onSome_mk (rm_get (by omega)) ?_⟩)
        rw [if_pos rfl]
        refine onSome_mk (rfl : [iv (f p).1, iv ((f p).2 + c * x)][0]? = some (iv (f p).1)) (onIntK_iv ?_)
        refine onNat_mk (m := p) rfl (need_mk ⟨by omega, onSome_mk (rm_get (by omega)) (guardB_mk rfl ?_)⟩)
        rw [if_pos rfl, wr (n := (f p).1 + c * x) (by omega) (by omega)]
        have s2 : (ml (rm (fun j => if p = j then ((f p).1, (f p).2 + c * x) else f j))).set (0 + p) (iv ((f p).1 + c * x) :: List.append [] (List.drop 1 [iv (f p).1, iv ((f p).2 + c * x)])) = ml (rm (fun j => if p = j then ((f p).1 + c * x, (f p).2 + c * x) else (fun j => if p = j then ((f p).1, (f p).2 + c * x) else f j) j)) := rm_set (by omega)
        rw [s2]
        refine fin _ ?_
        rw [nx2]
        congr 2
        funext j
        unfold bump
        by_cases hj : p = j
        · subst hj; rw [if_pos rfl, if_pos rfl, if_pos (by simpa using b4)]
        · rw [if_neg hj, if_neg hj]; simp only; rw [if_neg hj]
      · refine fin _ ?_
        rw [nx2]
        congr 2
        funext j
        unfold bump
        by_cases hj : p = j
        · subst hj; rw [if_pos rfl, if_pos rfl, if_neg (by simpa using b4), Int.add_zero]
        · rw [if_neg hj, if_neg hj]
    · have hi : i = bins.length := by rw [blen] at b2; have := of_decide_eq_false b2; omega
      subst hi
      rw [wr1i hlt (by omega), f2]
      refine hJ (rm (wrR counts bins k ways bins.length f0), k + 1) ⟨hlt, by rw [hT1], ?_⟩ (by simp only; omega)
      have := bd bins.length (by omega)
      rw [hT1]
      intro j
      have h1 := this j
      have h2 := tb bins.length
      simp only
      omega
  · have hk : k = l.length := by rw [tlen] at b1; have := of_decide_eq_false b1; omega
    rw [g2, hk]
    have := h0 n hT rfl (by omega) (by omega) hC hB
    rw [show sub (ml (rm (wrT counts bins l n l.length))) 0 8 = ml (rm (wrT counts bins l n l.length)) from by
      have : (ml (rm (wrT counts bins l n l.length))).length = 8 := by rw [ml_length, rm_length]
      rw [← this]; simp [sub]]
    exact this
end Go.Proofs.Ytmdimnmdoifkfaa
namespace Go.Proofs.Ytmdimnmdoifkfaa
open Go Go.Proofs.Ytmdimnmdoifkfaa.Clean
set_option linter.unusedVariables false
set_option linter.unusedSimpArgs false
set_option maxRecDepth 10000
theorem cntA_w0 : ∀ (row pre : List Int) (left j : Nat), cntA row pre left 0 j = 0
  | [], pre, left, j => rfl
  | z :: [], pre, left, j => by simp [cntA]
  | r :: s :: rs, pre, left, j => by
    rw [cntA_step, sumN_congr (g := fun _ => 0) (fun k _ => by rw [Int.zero_mul, Int.zero_mul]; exact cntA_w0 (s :: rs) _ _ _), sumN_zero]
theorem pow0 {n : Nat} (h : 1 ≤ n) : (0 : Int) ^ n = 0 := by
  obtain ⟨m, rfl⟩ : ∃ m, n = m + 1 := ⟨n - 1, by omega⟩
  rw [Int.pow_succ, Int.mul_zero]
theorem sumN_first {n : Nat} {f : Nat → Int} (h : ∀ k, 1 ≤ k → k < n + 1 → f k = 0) : sumN (n + 1) f = f 0 := by
  induction n with
  | zero => show 0 + f 0 = f 0; omega
  | succ n ih =>
    have := ih (fun k h1 h2 => h k h1 (by omega))
    show sumN (n + 1) f + f (n + 1) = f 0
    rw [this, h (n + 1) (by omega) (by omega)]; omega
theorem cntA_step0 (s : Int) (rs pre : List Int) (left : Nat) (w : Int) (j : Nat) : cntA (0 :: s :: rs) pre left w j = cntA (s :: rs) (pre ++ [0]) left w j := by
  rw [cntA_step, sumN_first (fun k h1 h2 => by rw [pow0 h1, Int.mul_zero]; exact cntA_w0 _ _ _ _), ch_zero]
  simp
theorem cntA_zeros : ∀ (q : Nat) (pre : List Int) (left : Nat) (w : Int) (j : Nat), 1 ≤ left → cntA (List.replicate q 0) pre left w j = 0
  | 0, pre, left, w, j, h => rfl
  | 1, pre, left, w, j, h => by
    show cntA [0] pre left w j = 0
    simp only [cntA]
    split
    · rw [pow0 h, Int.mul_zero]
    · rfl
  | q + 2, pre, left, w, j, h => by
    show cntA (0 :: 0 :: List.replicate q 0) pre left w j = 0
    rw [cntA_step0]
    exact cntA_zeros (q + 1) _ _ _ _ h
theorem cntA_sure : ∀ (p' p q n : Nat) (w : Int) (j : Nat), 1 ≤ n → j ≠ p + p' → cntA (List.replicate p' 0 ++ 1000 :: List.replicate q 0) (List.replicate p 0) n w j = 0
  | 0, p, 0, n, w, j, hn, hj => by
    show cntA [1000] _ n w j = 0
    simp only [cntA, plc_zeros]
    rw [if_neg (by omega)]
  | 0, p, q + 1, n, w, j, hn, hj => by
    show cntA (1000 :: 0 :: List.replicate q 0) _ n w j = 0
    rw [cntA_step]
    refine (sumN_congr (g := fun _ => 0) (fun k hk => ?_)).trans (sumN_zero _)
    by_cases hkn : k = n
    · subst hkn
      rw [show k - k = 0 from by omega, cntA_none (0 :: List.replicate q 0) _ _ _ q (by simp), List.append_assoc, show [((k : Nat) : Int)] ++ List.replicate q (0 : Int) = (k : Int) :: List.replicate q 0 from rfl, plc_one (by omega), if_neg (by omega)]
    · exact cntA_zeros (q + 1) _ _ _ _ (by omega)
  | p' + 1, p, q, n, w, j, hn, hj => by
    have e : ∃ s rs, List.replicate p' (0 : Int) ++ 1000 :: List.replicate q 0 = s :: rs := by
      rcases p' with _ | p'
      · exact ⟨_, _, rfl⟩
      · exact ⟨_, _, rfl⟩
    obtain ⟨s, rs, e⟩ := e
    have e2 : List.replicate (p' + 1) (0 : Int) ++ 1000 :: List.replicate q 0 = 0 :: s :: rs := by rw [List.replicate_succ, List.cons_append, e]
    rw [e2, cntA_step0, ← e, show List.replicate p (0 : Int) ++ [0] = List.replicate (p + 1) 0 from List.replicate_succ'.symm]
    exact cntA_sure p' (p + 1) q n w j hn (by omega)
theorem tot_append (a b : List Int) : tot (a ++ b) = tot a + tot b := by
  induction a with
  | nil => simp [tot]
  | cons x a ih => show x + tot (a ++ b) = x + tot a + tot b; rw [ih]; omega
theorem tot_nn {a : List Int} (h : ∀ x ∈ a, 0 ≤ x) : 0 ≤ tot a := by have := tot_mono h 0; have := this.2; simpa [tot] using this
theorem tot_zero : ∀ {a : List Int}, (∀ x ∈ a, 0 ≤ x) → tot a = 0 → a = List.replicate a.length 0
  | [], _, _ => rfl
  | x :: a, h, ht => by
    have h1 := tot_nn (a := a) (fun y hy => h y (by simp [hy]))
    have h2 := h x (by simp)
    have h3 : x + tot a = 0 := ht
    have h4 := tot_zero (a := a) (fun y hy => h y (by simp [hy])) (by omega)
    rw [List.length_cons, List.replicate_succ, ← h4, show x = 0 from by omega]
theorem chV_sure {row : List Int} {k n i : Nat} (hr : ∀ x ∈ row, 0 ≤ x) (ht : tot row = 1000) (hk : row[k]? = some 1000) (hn : 1 ≤ n) (hi : i ≠ k) : (chV row n).getD i 0 = 0 := by
  have hkl := (List.getElem?_eq_some_iff.1 hk).1
  have e : row = row.take k ++ 1000 :: row.drop (k + 1) := by
    have := List.drop_eq_getElem_cons hkl
    rw [(List.getElem?_eq_some_iff.1 hk).2] at this
    rw [← this, List.take_append_drop]
  have h1 := tot_nn (a := row.take k) (fun x hx => hr x (mem_take hx))
  have h2 := tot_nn (a := row.drop (k + 1)) (fun x hx => hr x (List.mem_of_mem_drop hx))
  have h3 : tot (row.take k) + (1000 + tot (row.drop (k + 1))) = 1000 := by
    have q := tot_append (row.take k) (1000 :: row.drop (k + 1))
    rw [← e, ht] at q
    exact q.symm
  have z1 := tot_zero (a := row.take k) (fun x hx => hr x (mem_take hx)) (by omega)
  have z2 := tot_zero (a := row.drop (k + 1)) (fun x hx => hr x (List.mem_of_mem_drop hx)) (by omega)
  have z3 : (row.take k).length = k := by simp; omega
  rw [z3] at z1
  rw [z1, z2] at e
  have c := cntA_sure k 0 (row.drop (k + 1)).length n 1 i hn (by omega)
  rw [← e] at c
  unfold chV rg
  by_cases hil : i < row.length
  · simp [List.getD, hil]
    exact c
  · simp [List.getD, hil]
theorem wrR_sure {counts bins ways : List Int} {kind : Nat} (hs : ∀ i, i ≠ kind → ways.getD i 0 = 0) {f : Nat → Int × Int} (h : ∀ j, (f j).1 = 0) : ∀ i j, (wrR counts bins kind ways i f j).1 = 0
  | 0, j => h j
  | i + 1, j => by
    have ih := wrR_sure (counts := counts) (bins := bins) hs h i j
    show (wst counts bins kind ways i (wrR counts bins kind ways i f) j).1 = 0
    unfold wst
    split
    · exact ih
    · unfold bump
      split
      · simp only
        rw [ih]
        split
        · rename_i hne
          rw [hs i (fun q => hne (by rw [q])), Int.mul_zero]; rfl
        · rfl
      · exact ih
theorem wrT_sure {counts bins : List Int} {l : List (List Int)} {n : Nat} (hn : 1 ≤ n) (hT : TabP l) (hs : ∀ (i : Nat) (row : List Int), l[i]? = some row → row[i]? = some 1000) : ∀ k, k ≤ l.length → ∀ j, (wrT counts bins l n k j).1 = 0
  | 0, _, j => rfl
  | k + 1, hk, j => by
    obtain ⟨row, hrow⟩ := getI (l := l) (k := k) (by omega)
    have hr := hT.2.2 row (mem_at hrow)
    show (wrR counts bins k (chV (l.getD k []) n) bins.length (wrT counts bins l n k) j).1 = 0
    rw [show l.getD k [] = row from by simp [List.getD, hrow]]
    exact wrR_sure (fun i hi => chV_sure (fun x hx => (hr.1.2 x hx).1) hr.2 (hs k row hrow) hn hi) (wrT_sure hn hT hs k (by omega)) _ j
theorem wrT_bd {counts bins : List Int} {l : List (List Int)} {n : Nat} (hn : n ≤ 5) (hT : TabP l) (hC : Nums counts l.length 0 1000) (hB : Nums bins l.length (-1) 7) : ∀ k, k ≤ l.length → Bd (wrT counts bins l n k) (k * 1000000000000000000)
  | 0, _ => fun j => by simp [wrT]
  | k + 1, hk => by
    obtain ⟨row, hrow⟩ := getI (l := l) (k := k) (by omega)
    have hr := hT.2.2 row (mem_at hrow)
    have hlen := hr.1.1
    have lb := hB.1
    have lc := hC.1
    obtain ⟨c, hck⟩ := getI (l := counts) (k := k) (by omega)
    have hc01 := hC.2 c (mem_at hck)
    show Bd (wrR counts bins k (chV (l.getD k []) n) bins.length (wrT counts bins l n k)) _
    rw [show l.getD k [] = row from by simp [List.getD, hrow]]
    have hw2 := chV_nn (row := row) (n := n) (fun x hx => (hr.1.2 x hx).1)
    have hw3 := chV_tot (n := n) (show row ≠ [] by intro hq; rw [hq] at hlen; simp at hlen; omega) hn hr.2
    have pm := p5 (a := 1000) (n := n) (by decide) (by decide) hn
    have b := wrR_bd (bins := bins) hck hc01.1 hc01.2 hw2 (wrT_bd hn hT hC hB k (by omega)) bins.length (by rw [chV_length]; omega)
    have tb := tot_mono hw2 bins.length
    rw [hw3] at tb
    intro j
    have := b j
    omega
theorem law13 {l : List (List Int)} {n : Int} {counts bins : List Int} {R : V → Prop} (hl : l.length ≤ 9223372036854775807) (h : R (bv true)) : K0G Try.prog glX 13 [.lst 1 (tl l), iv n, .lst 1 (nl counts), .lst 1 (nl bins)] R := by
  refine K0_of_WY0 hmX hcH 3000 Try.func13 (see (p := K0G Try.prog glX 44 [] fun v => onBool v fun b => K0G Try.prog glX 31 [V.lst 1 (tl l)] fun v => onBool v fun b_1 => ifB b_1 (R (bv b)) (ifB (decide ((↑(tl l).length : Int) > (4 : Int))) (ifB (decide (n > (3 : Int))) (R (bv b)) (ifB (decide ((↑(nl counts).length : Int) > (20 : Int))) (R (bv b)) (ifB (decide ((↑(nl bins).length : Int) > (20 : Int))) (R (bv b)) (ifB (!b) (R (bv b)) (K0G Try.prog glX 35 [V.lst 1 (tl l), iv n, V.lst 1 (nl counts), V.lst 1 (nl bins)] fun v => onTup v fun vs => onCons vs fun u r => onLst u fun s es => onCons r fun u r => onIntK IntKind.i64 u fun n => onNil r (ifB (n != (0 : Int)) (ifB b (R (bv ((↑es.length : Int) == (0 : Int)))) (R (bv false))) (La 0 [(9 : Tmp), (10 : Tmp), (12 : Tmp), (56 : Tmp), (57 : Tmp), (58 : Tmp)] (WY Try.prog cfH 2990 (Env.mk (Bs.mk 0 []) 0 none 109 13 0) (cdAt [1, 1, 1, 1, 1, 1, 0, 1, 0, 0] (bodyOf Try.f13))) (Qblk 0 (Qthen (WY Try.prog cfH 2993 (Env.mk (Bs.mk 0 []) 0 none 109 13 0) (cdAt [1, 1, 1, 1, 1, 1, 1] (bodyOf Try.f13)) (QendX Try.prog Try.f13 fun v h => R (frzW h v))) (QendX Try.prog Try.f13 fun v h => R (frzW h v)))) (St.mk (mkT [(9, bv b), (10, V.lst s es), (12, bv true), (56, V.lst 1 (tl l)), (57, iv (↑(tl l).length : Int)), (58, iv (0 : Int))]) (Hp.mk [] 0 []))))))))) (ifB (decide ((↑(nl counts).length : Int) > (20 : Int))) (R (bv b)) (ifB (decide ((↑(nl bins).length : Int) > (20 : Int))) (R (bv b)) (ifB (!b) (R (bv b)) (K0G Try.prog glX 35 [V.lst 1 (tl l), iv n, V.lst 1 (nl counts), V.lst 1 (nl bins)] fun v => onTup v fun vs => onCons vs fun u r => onLst u fun s es => onCons r fun u r => onIntK IntKind.i64 u fun n => onNil r (ifB (n != (0 : Int)) (ifB b (R (bv ((↑es.length : Int) == (0 : Int)))) (R (bv false))) (La 0 [(9 : Tmp), (10 : Tmp), (12 : Tmp), (56 : Tmp), (57 : Tmp), (58 : Tmp)] (WY Try.prog cfH 2990 (Env.mk (Bs.mk 0 []) 0 none 109 13 0) (cdAt [1, 1, 1, 1, 1, 1, 0, 1, 0, 0] (bodyOf Try.f13))) (Qblk 0 (Qthen (WY Try.prog cfH 2993 (Env.mk (Bs.mk 0 []) 0 none 109 13 0) (cdAt [1, 1, 1, 1, 1, 1, 1] (bodyOf Try.f13)) (QendX Try.prog Try.f13 fun v h => R (frzW h v))) (QendX Try.prog Try.f13 fun v h => R (frzW h v)))) (St.mk (mkT [(9, bv b), (10, V.lst s es), (12, bv true), (56, V.lst 1 (tl l)), (57, iv (↑(tl l).length : Int)), (58, iv (0 : Int))]) (Hp.mk [] 0 [])))))))))) (by kernel_rfl) ?_)
  refine alive44 (onBool_bv (wide31 hl (fun b hb => onBool_bv (ifB_mk (fun _ => h) (fun c => ?_)))))
  obtain ⟨l10, l12⟩ := hb c
  have tlen := tl_length l
  refine ifB_mk (fun _ => ifB_mk (fun _ => h) (fun _ => ifB_mk (fun _ => h) (fun c1 => ifB_mk (fun _ => h) (fun c2 => ifB_f rfl ?_)))) (fun _ => ifB_mk (fun _ => h) (fun c1 => ifB_mk (fun _ => h) (fun c2 => ifB_f rfl ?_)))
  all_goals
    have c1 : counts.length ≤ 20 := by rw [nl_length] at c1; have := of_decide_eq_false c1; omega
    have c2 : bins.length ≤ 20 := by rw [nl_length] at c2; have := of_decide_eq_false c2; omega
    refine wrong35 l10 l12 c1 c2 (fun e he => onTup_tup (onCons_cons (onLst_nilS (onCons_cons (onIntK_iv (onNil_nil (ifB_t (by simpa using he) (ifB_t rfl h)))))))) (fun n1 hT hm m1 m5 hC hB => ?_)
    refine onTup_tup (onCons_cons (onLst_lst (onCons_cons (onIntK_iv (onNil_nil (ifB_f rfl ?_))))))
    have bd := wrT_bd m5 hT hC hB l.length (Nat.le_refl _)
    have sure := fun hs => wrT_sure (counts := counts) (bins := bins) m1 hT hs l.length (Nat.le_refl _)
    generalize wrT counts bins l n1 l.length = f at bd sure
    obtain ⟨m, hmm⟩ : ∃ m, m = rm f := ⟨_, rfl⟩
    rw [← hmm]
    have mlen : (ml m).length = 8 := by rw [hmm, ml_length, rm_length]
    refine La.of (σ := Bool × Nat) (fun x => sh13a l m x.1 x.2) (fun x => x.2 ≤ l.length ∧ (x.1 = true → ∀ (i : Nat) (row : List Int), i < x.2 → l[i]? = some row → row[i]? = some 1000)) (fun x => l.length - x.2) (true, 0) (by kernel_rfl) ⟨by simp, fun _ i row hi => by simp at hi⟩ ?_
    rintro ⟨s, k⟩ ⟨g1, g2⟩ J hJ
    simp only at g1 g2
    refine see (p := ifB (decide ((↑k : Int) < (↑(tl l).length : Int))) (onSome (tl l)[k]? fun row => onSome row[0]? fun v => onLst v fun s_1 es => ifB s (ifB (decide ((↑k : Int) < (↑es.length : Int))) (need (s_1 = 1) (onSome es[k]? fun row => onSome row[0]? fun v => onIntK IntKind.i64 v fun n => J (St.mk (mkT [(9, bv true), (10, V.lst 2 (ml m)), (12, bv (n == (1000 : Int))), (56, V.lst 1 (tl l)), (57, iv (↑(tl l).length : Int)), (58, iv (IntKind.i64.wrap ((↑k : Int) + (1 : Int))))]) (Hp.mk [] 0 [])))) (J (St.mk (mkT [(9, bv true), (10, V.lst 2 (ml m)), (12, bv false), (56, V.lst 1 (tl l)), (57, iv (↑(tl l).length : Int)), (58, iv (IntKind.i64.wrap ((↑k : Int) + (1 : Int))))]) (Hp.mk [] 0 [])))) (J (St.mk (mkT [(9, bv true), (10, V.lst 2 (ml m)), (12, bv false), (56, V.lst 1 (tl l)), (57, iv (↑(tl l).length : Int)), (58, iv (IntKind.i64.wrap ((↑k : Int) + (1 : Int))))]) (Hp.mk [] 0 [])))) (La 0 [(9 : Tmp), (10 : Tmp), (12 : Tmp), (78 : Tmp), (79 : Tmp), (80 : Tmp)] (WY Try.prog cfH 2989 (Env.mk (Bs.mk 0 []) 0 none 109 13 2) (cdAt [1, 1, 1, 1, 1, 1, 1, 0, 1, 0, 0] (bodyOf Try.f13))) (Qblk 2 (Qthen (WY Try.prog cfH 2992 (Env.mk (Bs.mk 0 []) 0 none 109 13 0) (cdAt [1, 1, 1, 1, 1, 1, 1, 1] (bodyOf Try.f13)) (QendX Try.prog Try.f13 fun v h => R (frzW h v))) (QendX Try.prog Try.f13 fun v h => R (frzW h v)))) (St.mk (mkT [(9, bv true), (10, V.lst 2 (ml m)), (12, bv s), (78, V.lst 2 (ml m)), (79, iv (↑(ml m).length : Int)), (80, iv (0 : Int))]) (Hp.mk [] 0 [])))) (by kernel_rfl) ?_
    refine ifB_mk (fun b1 => ?_) (fun b1 => ?_)
    · have hlt : k < l.length := by rw [tlen] at b1; have := of_decide_eq_true b1; omega
      obtain ⟨x, hx⟩ := getI hlt
      have hr := hT.2.2 x (mem_at hx)
      have hlen := hr.1.1
      refine tl_get hx ?_
      rw [wr1i hlt (by omega)]
      refine ifB_mk (fun b2 => ifB_mk (fun b3 => need_mk ⟨rfl, ?_⟩) (fun b3 => ?_)) (fun b2 => hJ (false, k + 1) ⟨hlt, fun h => by cases h⟩ (by simp only; omega))
      · obtain ⟨y, hy⟩ := getI (l := x) (k := k) (by omega)
        refine iel hy ?_
        refine hJ ((y == 1000), k + 1) ⟨hlt, fun hq i row hi hrow => ?_⟩ (by simp only; omega)
        rcases Nat.lt_succ_iff_lt_or_eq.1 hi with q | q
        · exact g2 b2 i row q hrow
        · subst q
          rw [hx] at hrow
          cases hrow
          rw [hy, show y = 1000 from by simpa using hq]
      · exact hJ (false, k + 1) ⟨hlt, fun h => by cases h⟩ (by simp only; omega)
    have hk : k = l.length := by rw [tlen] at b1; have := of_decide_eq_false b1; omega
    have sur : s = true → ∀ j, (f j).1 = 0 := fun hs => sure (fun i row hrow => g2 hs i row (by rw [hk]; exact (List.getElem?_eq_some_iff.1 hrow).1) hrow)
    refine La.of (σ := Nat) (fun k => sh13b m s k) (fun k => k ≤ 8) (fun k => 8 - k) 0 (by kernel_rfl) (by simp) ?_
    clear g1 g2 b1 hk hJ J k
    intro k g1 J hJ
    refine see (p := ifB (decide ((↑k : Int) < (↑(ml m).length : Int))) (onSome (ml m)[k]? fun row => onCons (List.drop 0 row) fun u r => onIntK IntKind.i64 u fun n => onCons r fun u r => onIntK IntKind.i64 u fun n_1 => ifB (decide (n < (0 : Int))) (R (bv false)) (ifB (decide (n > n_1)) (R (bv false)) (ifB s (ifB (n != (0 : Int)) (R (bv false)) (J (St.mk (mkT [(9, bv true), (10, V.lst 2 (ml m)), (12, bv s), (78, V.lst 2 (ml m)), (79, iv (↑(ml m).length : Int)), (80, iv (IntKind.i64.wrap ((↑k : Int) + (1 : Int))))]) (Hp.mk [] 0 [])))) (J (St.mk (mkT [(9, bv true), (10, V.lst 2 (ml m)), (12, bv s), (78, V.lst 2 (ml m)), (79, iv (↑(ml m).length : Int)), (80, iv (IntKind.i64.wrap ((↑k : Int) + (1 : Int))))]) (Hp.mk [] 0 [])))))) (R (bv ((↑(ml m).length : Int) == (8 : Int))))) (by kernel_rfl) ?_
    rw [mlen]
    refine ifB_mk (fun b1 => ?_) (fun b1 => ?_)
    · have hlt : k < 8 := by have := of_decide_eq_true b1; omega
      have hg := rm_get (f := f) hlt
      rw [Nat.zero_add, ← hmm] at hg
      have hb := bd k
      have fin : J ⟨mkT [(9, bv true), (10, V.lst 2 (ml m)), (12, bv s), (78, V.lst 2 (ml m)), (79, iv ((8 : Nat) : Int)), (80, iv ((k + 1 : Nat) : Int))], ⟨[], 0, []⟩⟩ := hJ' (by simp [sh13b, mlen]) (hJ (k + 1) hlt (by omega))
      rw [wr1i hlt (by omega)]
      refine onSome_mk hg (onCons_cons (onIntK_iv (onCons_cons (onIntK_iv (ifB_f (by simp; omega) (ifB_f (by simp; omega) (ifB_mk (fun b2 => ifB_f (by simp [sur b2 k]) fin) (fun _ => fin))))))))
    · rw [show (((8 : Nat) : Int) == 8) = true from rfl]
      exact h
end Go.Proofs.Ytmdimnmdoifkfaa
namespace Go.Proofs.Ytmdimnmdoifkfaa.Clean
open Go.Deep
set_option linter.unusedSimpArgs false
set_option linter.unusedVariables false
section
variable {H : Type} (enc : TypeId × Value → H) (P : Program) (w : World)
def FW (r : Nat) : Prop := r < w.heap.size
def Opens (t : TypeId) {α : Type} (f : α → List V) (ok : α → Prop) : Prop :=
  ∀ fuel cs x, DataW.trod enc P w 0 (fun _ => true) true fuel t cs = some x → ∃ a, riL (FW w) w (f a) cs ∧ ok a ∧ ∀ u ∈ cs, u.oneCell' = true
end
section
variable {H : Type} {enc : TypeId × Value → H} {P : Program} {w : World}
theorem riL_one {v : V} {x : Value} (h : ri (FW w) w v x) : riL (FW w) w [v] [x] := by simp only [riL]; exact ⟨x, [], rfl, h, rfl⟩
theorem riL_get : ∀ {vs : List V} {xs : List Value}, riL (FW w) w vs xs → ∀ (i : Nat) v, vs[i]? = some v → ∃ x, xs[i]? = some x ∧ ri (FW w) w v x
  | [], xs, h, i, v, hi => by simp at hi
  | u :: vs, xs, h, i, v, hi => by
    simp only [riL] at h
    obtain ⟨x, ys, rfl, h2, h3⟩ := h
    cases i with
    | zero => simp at hi; subst hi; exact ⟨x, rfl, h2⟩
    | succ i => simp at hi; simpa using riL_get h3 i v hi
theorem riL_length : ∀ {vs : List V} {xs : List Value}, riL (FW w) w vs xs → xs.length = vs.length
  | [], xs, h => by simp only [riL] at h; simp [h]
  | v :: vs, xs, h => by simp only [riL] at h; obtain ⟨x, ys, rfl, _, h3⟩ := h; simp [riL_length h3]
theorem opens_int {t : TypeId} {k : IntKind} (ht : P.underlying t = some (.int k)) : Opens enc P w t (fun n : Int => [.raw (.int k n)]) (fun n => (Lit.int k n).wf = true) := by
  intro fuel cs x h
  obtain ⟨n, rfl, _, hw⟩ := DataW.trod_int ht h
  exact ⟨n, riL_one (by simp [ri]), hw, by simp [Value.oneCell']⟩
theorem opens_slice {t e : TypeId} {s : Nat} {α : Type} {f : α → List V} {ok : α → Prop} (ht : P.underlying t = some (.slice e)) (hs : P.cellsOf e = s) (hpos : s ≠ 0) (ho : Opens enc P w e f ok) :
    Opens enc P w t (fun l : List α => [.lst s (l.map f)]) (fun l => l.length ≤ maxLen ∧ ∀ a ∈ l, ok a) := by
  intro fuel cs x h
  rcases open_slice ht h with ⟨rfl, _⟩ | ⟨a, len, cap, m, n, D, Pl, rfl, _, hl, hm, hmm, _, hx⟩
  · exact ⟨[], riL_one (by simp [ri]), by simp, by simp [Value.oneCell']⟩
  · simp only [if_true] at hmm
    subst hmm
    rw [hs] at hx
    have each : ∀ i, i < len → ∃ q : α, (∃ cs', w.cells? 0 (a.add (i * s)) s = some cs' ∧ riL (FW w) w (f q) cs' ∧ ∀ u ∈ cs', u.oneCell' = true) ∧ ok q := by
      intro i hi
      obtain ⟨cs', h1, h2⟩ := hx i (by omega)
      obtain ⟨q, h3, h4, h5⟩ := ho _ _ _ h2
      exact ⟨q, ⟨cs', h1, h3, h5⟩, h4⟩
    obtain ⟨q, hq⟩ : ∃ q : Nat → Option α, ∀ i, i < len → ∃ y, q i = some y ∧ (∃ cs', w.cells? 0 (a.add (i * s)) s = some cs' ∧ riL (FW w) w (f y) cs' ∧ ∀ u ∈ cs', u.oneCell' = true) ∧ ok y := by
      refine Classical.axiomOfChoice (r := fun i (o : Option α) => i < len → ∃ y, o = some y ∧ (∃ cs', w.cells? 0 (a.add (i * s)) s = some cs' ∧ riL (FW w) w (f y) cs' ∧ ∀ u ∈ cs', u.oneCell' = true) ∧ ok y) ?_
      intro i
      by_cases hi : i < len
      · obtain ⟨y, hy⟩ := each i hi
        exact ⟨some y, fun _ => ⟨y, rfl, hy⟩⟩
      · exact ⟨none, fun h => (hi h).elim⟩
    let l : List α := (List.range len).filterMap q
    have hl' : l.length = len ∧ ∀ i, i < len → l[i]? = q i := by
      have key : ∀ k, k ≤ len → ((List.range k).filterMap q).length = k ∧ ∀ i, i < k → ((List.range k).filterMap q)[i]? = q i := by
        intro k
        induction k with
        | zero => intro _; simp
        | succ k ih =>
          intro hk
          obtain ⟨h1, h2⟩ := ih (by omega)
          obtain ⟨y, hy, _⟩ := hq k (by omega)
          have : (List.range (k + 1)).filterMap q = (List.range k).filterMap q ++ [y] := by rw [List.range_succ, List.filterMap_append]; simp [hy]
          rw [this]
          refine ⟨by simp [h1], fun i hi => ?_⟩
          by_cases hik : i < k
          · rw [List.getElem?_append_left (by omega)]; exact h2 i hik
          · have : i = k := by omega
            subst this
            rw [List.getElem?_append_right (by omega), h1, hy]; simp
      exact key len (Nat.le_refl _)
    refine ⟨l, riL_one ?_, ⟨by omega, fun b hb => ?_⟩, by simp [Value.oneCell']⟩
    · simp only [ri]
      refine .inr ⟨a, m, by simp [hl'.1]; exact hl, by simp [hl'.1], ?_⟩
      by_cases h0 : len = 0
      · left
        have : l = [] := List.eq_nil_of_length_eq_zero (by omega)
        simp [this]
      · right
        have cell : ∀ (i : Nat) (cs' : List Value), i < len → w.cells? 0 (a.add (i * s)) s = some cs' → ∀ j, j < s → w.cell? (a.add (i * s + j)) = cs'[j]? ∧ cs'.length = s := by
          intro i cs' hi hc j hj
          obtain ⟨_, hlen, hcc⟩ := World.cells?_some hc
          have := hcc j hj
          rw [add_add] at this
          exact ⟨this, hlen⟩
        obtain ⟨y0, hy0, ⟨cs0, c1, _, _⟩, _⟩ := hq 0 (by omega)
        have hc0 := (cell 0 cs0 (by omega) c1 0 (by omega))
        have hsome : ∃ u, w.cell? a = some u := by
          have h1 := hc0.1
          rw [Nat.zero_mul, Nat.zero_add] at h1
          have : a.add 0 = a := by simp [Addr.add]
          rw [this] at h1
          rw [h1]
          exact ⟨cs0[0]'(by omega), List.getElem?_eq_getElem (by omega)⟩
        obtain ⟨u0, hu0⟩ := hsome
        have hspot : a.spot = none := by
          unfold World.cell? at hu0
          split at hu0
          · split at hu0
            · cases hu0
            · rename_i h; simpa using h
          · cases hu0
        obtain ⟨ab, ao, asp⟩ := a
        simp only at hspot
        subst hspot
        refine ⟨rfl, World.block_lt_of_cell? w _ hu0, ?_⟩
        rw [riRows_iff]
        intro i row hrow
        rw [List.getElem?_map, Option.map_eq_some_iff] at hrow
        obtain ⟨b, hb, rfl⟩ := hrow
        have hi : i < len := by have := (List.getElem?_eq_some_iff.1 hb).1; omega
        obtain ⟨y, hy, ⟨cs', g1, g2, g3⟩, _⟩ := hq i hi
        rw [hl'.2 i hi, hy] at hb
        simp at hb
        subst hb
        have hlen' := riL_length g2
        obtain ⟨_, hclen, _⟩ := World.cells?_some g1
        refine ⟨by omega, fun j v hj => ?_⟩
        obtain ⟨z, z1, z2⟩ := riL_get g2 j v hj
        have hjs : j < s := by have := (List.getElem?_eq_some_iff.1 z1).1; omega
        refine ⟨z, ?_, g3 z (List.mem_of_getElem? z1), z2⟩
        have := (cell i cs' hi g1 j hjs).1
        rw [add_lit, ← Nat.add_assoc] at this
        rw [this]; exact z1
    · obtain ⟨i, hi⟩ := List.mem_iff_getElem?.1 hb
      have hil : i < len := by have := (List.getElem?_eq_some_iff.1 hi).1; omega
      obtain ⟨y, hy, _, hok⟩ := hq i hil
      rw [hl'.2 i hil, hy] at hi
      simp at hi
      exact hi ▸ hok
theorem arg_int {t : TypeId} {k : IntKind} {v : Value} {d : DataW H} {p : List MemPlace} {r : Reach} {b0 : Nat} (ht : P.underlying t = some (.int k)) (hval : Value.okWide P w r b0 t v) (h : DataW.Trod enc P w 0 (fun _ => true) true t v d p) :
    ∃ n, ri (FW w) w (.raw (.int k n)) v ∧ (Lit.int k n).wf = true := by
  obtain ⟨n, rfl, _, _, hw⟩ := ChangeShapes.open_int ht hval h
  exact ⟨n, by simp [ri], hw⟩
theorem arg_slice {t e : TypeId} {v : Value} {d : DataW H} {p : List MemPlace} {r : Reach} {b0 : Nat} {α : Type} {f : α → V} {ok : α → Prop} (ht : P.underlying t = some (.slice e)) (hval : Value.okWide P w r b0 t v) (h : DataW.Trod enc P w 0 (fun _ => true) true t v d p)
    (ho : Opens enc P w t (fun a => [f a]) ok) : ∃ a, ri (FW w) w (f a) v ∧ ok a := by
  obtain ⟨a, len, cap, rfl⟩ := WideShapes.okWide_slice ht hval
  obtain ⟨fuel, hf⟩ := h
  obtain ⟨y, h1, h2, _⟩ := ho _ _ _ hf
  simp only [Value.cells, riL] at h1
  obtain ⟨x, xs, hx, h3, _⟩ := h1
  simp at hx
  exact ⟨y, by rw [hx.1]; exact h3, h2⟩
end
end Go.Proofs.Ytmdimnmdoifkfaa.Clean
