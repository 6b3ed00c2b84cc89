/- A part of the proof. -/
import Derived.Test.YtmdimnmdoifkfaaProg
import Derived.Test.YtmdimnmdoifkfaaXU6G10
import Derived.Test.YtmdimnmdoifkfaaXU6G11
import Derived.Test.YtmdimnmdoifkfaaXU6G12
namespace Go.Proofs.Ytmdimnmdoifkfaa
open Go Go.Proofs.Ytmdimnmdoifkfaa.Clean
set_option linter.unusedVariables false
set_option maxRecDepth 100000
theorem tok0 : Facts Try.prog glX tb0 := trivial
theorem t0 : KFX fa0 := k0 tok0
theorem tok1 : Facts Try.prog glX tb1 := ⟨t0, tok0⟩
theorem t1 : KFX fa1 := k1 tok1
theorem tok2 : Facts Try.prog glX tb2 := ⟨t1, tok1⟩
theorem t2 : KFX fa2 := k2 tok2
theorem tok3 : Facts Try.prog glX tb3 := ⟨t2, tok2⟩
theorem t3 : KFX fa3 := k3 tok3
theorem tok4 : Facts Try.prog glX tb4 := ⟨t3, tok3⟩
theorem t4 : KFX fa4 := k4 tok4
end Go.Proofs.Ytmdimnmdoifkfaa
namespace Go.Proofs.Ytmdimnmdoifkfaa
open Go Go.Proofs.Ytmdimnmdoifkfaa.Clean
set_option linter.unusedVariables false
set_option maxRecDepth 100000
def kpU : FuncId → Nat → Option (List Tmp) := slotsOf [(9, 0, [1, 2, 5, 41, 42, 43]), (11, 0, [1, 2, 5, 6]), (11, 2, [2, 5, 71, 72, 73]), (4, 0, [1, 5, 6, 7, 8, 9, 10, 11, 12, 13, 46, 47]), (10, 0, [1, 2, 3, 4, 9, 10, 50, 51, 52]), (10, 2, [1, 3, 4, 9, 10, 68, 69, 70]), (26, 0, [0, 1, 5]), (27, 0, [0, 1, 5]), (28, 0, [0, 1, 5])]
noncomputable def cfU : Cfg := cfgM Try.prog glX moT tyT (inN [54, 75]) kpU
end Go.Proofs.Ytmdimnmdoifkfaa
namespace Go.Proofs.Ytmdimnmdoifkfaa
open Go Go.Proofs.Ytmdimnmdoifkfaa.Clean
set_option linter.unusedVariables false
set_option linter.unusedSimpArgs false
set_option maxRecDepth 10000
theorem hcU : cfU.ok Try.prog := cfgM_ok
end Go.Proofs.Ytmdimnmdoifkfaa
namespace Go.Proofs.Ytmdimnmdoifkfaa
open Go Go.Proofs.Ytmdimnmdoifkfaa.Clean
set_option linter.unusedVariables false
set_option linter.unusedSimpArgs false
set_option maxRecDepth 10000
theorem hcF : cfF.ok Try.prog := by
  have h : (cfgG Try.prog glX moB poB rtB (inN [54, 101, 32, 56]) kpF).ok Try.prog := cfgG_ok rtB_ok
  exact ⟨h.1, h.2⟩
theorem tl_length (l : List (List Int)) : (tl l).length = l.length := by simp [tl]
theorem tl_get {l : List (List Int)} {i : Nat} {x : List Int} {k : Nat → List (List V) → Prop} (h : l[i]? = some x) (hk : k 1 (nl x)) : onSome (tl l)[i]? fun row => onSome row[0]? fun v => onLst v fun s es => k s es := onSome_mk (by simp [tl, h] : (tl l)[i]? = some [.lst 1 (nl x)]) hk
theorem wr1b {i n : Nat} (h : i < n) (hn : n ≤ 9223372036854775807) : IntKind.i64.wrap ((i : Int) + 1) = ((i + 1 : Nat) : Int) := by rw [wr (by omega) (by omega)]; simp
theorem tot_app (a : List Int) (x : Int) : tot (a ++ [x]) = tot a + x := by
  induction a with
  | nil => simp [tot]
  | cons y a ih => show y + tot (a ++ [x]) = y + tot a + x; rw [ih]; omega
theorem tot_bnd {a : List Int} (h : ∀ x ∈ a, 0 ≤ x ∧ x ≤ 1000) : 0 ≤ tot a ∧ tot a ≤ 1000 * a.length := by
  induction a with
  | nil => simp [tot]
  | cons y a ih =>
    have := ih (fun x hx => h x (by simp [hx]))
    have := h y (by simp)
    show 0 ≤ y + tot a ∧ y + tot a ≤ 1000 * ((a.length + 1 : Nat) : Int)
    omega
theorem tot_rg (g : Nat → Int) : ∀ m, tot (rg m g) = sumN m g
  | 0 => rfl
  | m + 1 => by
    have : rg (m + 1) g = rg m g ++ [g m] := by simp [rg, List.range_succ]
    rw [this, tot_app, tot_rg g m]
    rfl
theorem sum78 {l : List Int} {R : V → Prop} (hl : l.length ≤ 1000) (hb : ∀ x ∈ l, 0 ≤ x ∧ x ≤ 1000) (h : R (iv (tot l))) : K0G Try.prog glX 78 [.lst 1 (nl l)] R := by
  refine K0_of_WY0 hmX hcF 3000 Try.func78 (see (p := La 0 [(3 : Tmp), (6 : Tmp), (7 : Tmp), (8 : Tmp)] (WY Try.prog cfF 2994 (Env.mk (Bs.mk 0 []) 0 none 17 78 0) (cdAt [1, 1, 0, 1, 0, 0] (bodyOf Try.f78))) (Qblk 0 (Qthen (WY Try.prog cfF 2997 (Env.mk (Bs.mk 0 []) 0 none 17 78 0) (cdAt [1, 1, 1] (bodyOf Try.f78)) (QendX Try.prog Try.f78 fun v h => R (frzW h v))) (QendX Try.prog Try.f78 fun v h => R (frzW h v)))) (St.mk (mkT [(3, iv (0 : Int)), (6, V.lst 1 (nl l)), (7, iv (↑(nl l).length : Int)), (8, iv (0 : Int))]) (Hp.mk [] 0 []))) (by kernel_rfl) ?_)
  refine La.of (σ := Int × Nat) (fun s => sh78 l s.1 s.2) (fun s => s.2 ≤ l.length ∧ s.1 = tot (l.take s.2)) (fun s => l.length - s.2) (0, 0) (by kernel_rfl) ⟨by simp, by simp [tot]⟩ ?_
  rintro ⟨t, k⟩ ⟨g1, g2⟩ J hJ
  simp only at g1 g2
  refine see (p := ifB (decide ((↑k : Int) < (↑(nl l).length : Int))) (onSome (nl l)[k]? fun row => onSome row[0]? fun v => onIntK IntKind.i64 v fun n => J (St.mk (mkT [(3, iv (IntKind.i64.wrap (t + n))), (6, V.lst 1 (nl l)), (7, iv (↑(nl l).length : Int)), (8, iv (IntKind.i64.wrap ((↑k : Int) + (1 : Int))))]) (Hp.mk [] 0 []))) (R (iv t))) (by kernel_rfl) ?_
  refine ifB_mk (fun hc => ?_) (fun hc => ?_)
  · have hlt : k < l.length := by rw [nl_length] at hc; have := of_decide_eq_true hc; omega
    obtain ⟨x, hx⟩ := getI hlt
    have e : tot (l.take (k + 1)) = t + x := by rw [take_succ' hx, tot_app, g2]
    have b1 := tot_bnd (a := l.take (k + 1)) (fun y hy => hb y (mem_take hy))
    have : (l.take (k + 1)).length ≤ 1000 := by simp; omega
    refine iel hx ?_
    rw [wr1i hlt hl, wr (by omega) (by omega)]
    exact hJ (t + x, k + 1) ⟨hlt, e.symm⟩ (by simp only; omega)
  · have hk : l.length ≤ k := by rw [nl_length] at hc; have := of_decide_eq_false hc; omega
    rw [List.take_of_length_le hk] at g2
    rw [g2]
    exact h
theorem wide31 {l : List (List Int)} {R : V → Prop} (hl : l.length ≤ 9223372036854775807) (h : ∀ b, (b = false → l.length ≤ 10 ∧ ∀ x ∈ l, x.length ≤ 12) → R (bv b)) : K0G Try.prog glX 31 [.lst 1 (tl l)] R := by
  refine K0_of_WY0 hmX hcF 3000 Try.func31 (see (p := La 0 [(0 : Tmp), (5 : Tmp), (6 : Tmp), (7 : Tmp)] (WY Try.prog cfF 2995 (Env.mk (Bs.mk 0 []) 0 none 18 31 0) (cdAt [1, 0, 1, 0, 0] (bodyOf Try.f31))) (Qblk 0 (Qthen (WY Try.prog cfF 2998 (Env.mk (Bs.mk 0 []) 0 none 18 31 0) (cdAt [1, 1] (bodyOf Try.f31)) (QendX Try.prog Try.f31 fun v h => R (frzW h v))) (QendX Try.prog Try.f31 fun v h => R (frzW h v)))) (St.mk (mkT [(0, V.lst 1 (tl l)), (5, V.lst 1 (tl l)), (6, iv (↑(tl l).length : Int)), (7, iv (0 : Int))]) (Hp.mk [] 0 []))) (by kernel_rfl) ?_)
  refine La.of (σ := Nat) (fun k => sh31 l k) (fun k => k ≤ l.length ∧ ∀ x ∈ l.take k, x.length ≤ 12) (fun k => l.length - k) 0 (by kernel_rfl) ⟨by simp, by simp⟩ ?_
  rintro k ⟨g1, g2⟩ J hJ
  refine see (p := ifB (decide ((↑k : Int) < (↑(tl l).length : Int))) (onSome (tl l)[k]? fun row => onSome row[0]? fun v => onLst v fun s es => ifB (decide ((↑es.length : Int) > (12 : Int))) (R (bv true)) (J (St.mk (mkT [(0, V.lst 1 (tl l)), (5, V.lst 1 (tl l)), (6, iv (↑(tl l).length : Int)), (7, iv (IntKind.i64.wrap ((↑k : Int) + (1 : Int))))]) (Hp.mk [] 0 [])))) (R (bv (decide ((↑(tl l).length : Int) > (10 : Int)))))) (by kernel_rfl) ?_
  refine ifB_mk (fun hc => ?_) (fun hc => ?_)
  · have hlt : k < l.length := by rw [tl_length] at hc; have := of_decide_eq_true hc; omega
    obtain ⟨x, hx⟩ := getI hlt
    refine tl_get hx (ifB_mk (fun _ => h _ (fun h => by cases h)) (fun c => ?_))
    rw [wr1b hlt hl]
    exact hJ (k + 1) ⟨hlt, all_take hx g2 (by rw [nl_length] at c; have := of_decide_eq_false c; omega)⟩ (by omega)
  · have hk : l.length ≤ k := by rw [tl_length] at hc; have := of_decide_eq_false hc; omega
    refine h _ (fun hb => ⟨?_, all_all hk g2⟩)
    rw [tl_length] at hb
    have := of_decide_eq_false hb
    omega
def TabP (l : List (List Int)) : Prop := 1 ≤ l.length ∧ l.length ≤ 8 ∧ ∀ x ∈ l, Nums x ((l.length : Int) + 1) 0 1000 ∧ tot x = 1000
theorem table37 {l : List (List Int)} {R : V → Prop} (hl : l.length ≤ 10) (hw : ∀ x ∈ l, x.length ≤ 12) (h0 : TabP l → R (iv 0)) (h8 : ¬ TabP l → R (iv 8)) : K0G Try.prog glX 37 [.lst 1 (tl l)] R := by
  refine K0_of_WY0 hmX hcF 3000 Try.func37 (see (p := ifB (decide ((1 : Int) ≤ (↑(tl l).length : Int))) (ifB (!decide ((↑(tl l).length : Int) ≤ (8 : Int))) (R (iv (8 : Int))) (La 0 [(0 : Tmp), (9 : Tmp), (10 : Tmp), (11 : Tmp)] (WY Try.prog cfF 2994 (Env.mk (Bs.mk 0 []) 0 none 27 37 0) (cdAt [1, 1, 0, 1, 0, 0] (bodyOf Try.f37))) (Qblk 0 (Qthen (WY Try.prog cfF 2997 (Env.mk (Bs.mk 0 []) 0 none 27 37 0) (cdAt [1, 1, 1] (bodyOf Try.f37)) (QendX Try.prog Try.f37 fun v h => R (frzW h v))) (QendX Try.prog Try.f37 fun v h => R (frzW h v)))) (St.mk (mkT [(0, V.lst 1 (tl l)), (9, V.lst 1 (tl l)), (10, iv (↑(tl l).length : Int)), (11, iv (0 : Int))]) (Hp.mk [] 0 [])))) (R (iv (8 : Int)))) (by kernel_rfl) ?_)
  rw [tl_length]
  refine ifB_mk (fun c1 => ifB_mk (fun c2 => h8 (fun hp => by have := hp.2.1; simp at c2; omega)) (fun c2 => ?_)) (fun c1 => h8 (fun hp => by have := hp.1; have := of_decide_eq_false c1; omega))
  have l1 : 1 ≤ l.length := by have := of_decide_eq_true c1; omega
  have l8 : l.length ≤ 8 := by simp at c2; omega
  refine La.of (σ := Nat) (fun k => sh37 l k) (fun k => k ≤ l.length ∧ ∀ x ∈ l.take k, Nums x ((l.length : Int) + 1) 0 1000 ∧ tot x = 1000) (fun k => l.length - k) 0 (by rw [← tl_length]; kernel_rfl) ⟨by simp, by simp⟩ ?_
  rintro k ⟨g1, g2⟩ J hJ
  refine see (p := ifB (decide ((↑k : Int) < (↑(tl l).length : Int))) (onSome (tl l)[k]? fun row => onSome row[0]? fun v => onLst v fun s es => K0G Try.prog glX 77 [V.lst s es, iv (IntKind.i64.wrap ((↑(tl l).length : Int) + (1 : Int))), iv (0 : Int), iv (1000 : Int)] fun v => onBool v fun b => ifB (!b) (R (iv (8 : Int))) (K0G Try.prog glX 78 [V.lst s es] fun v => onIntK IntKind.i64 v fun n => ifB (n != (1000 : Int)) (R (iv (8 : Int))) (J (St.mk (mkT [(0, V.lst 1 (tl l)), (9, V.lst 1 (tl l)), (10, iv (↑(tl l).length : Int)), (11, iv (IntKind.i64.wrap ((↑k : Int) + (1 : Int))))]) (Hp.mk [] 0 []))))) (R (iv (0 : Int)))) (by kernel_rfl) ?_
  have tlen := tl_length l
  refine ifB_mk (fun hc => ?_) (fun hc => ?_)
  · have hlt : k < l.length := by rw [tl_length] at hc; have := of_decide_eq_true hc; omega
    obtain ⟨x, hx⟩ := getI hlt
    refine tl_get hx ?_
    have hx12 := hw x (mem_at hx)
    rw [show IntKind.i64.wrap (((tl l).length : Int) + 1) = (l.length : Int) + 1 from by rw [tlen]; exact wr (by omega) (by omega)]
    refine nums77 (by omega) (onBool_bv (ifB_mk (fun c => h8 (fun hp => ?_)) (fun c => ?_)))
    · rw [dc_t (hp.2.2 x (mem_at hx)).1] at c; cases c
    have hn : Nums x ((l.length : Int) + 1) 0 1000 := dc_true (by cases hq : dc (Nums x ((l.length : Int) + 1) 0 1000) with | true => rfl | false => rw [hq] at c; cases c)
    refine sum78 (by omega) hn.2 (onIntK_iv (ifB_mk (fun c => h8 (fun hp => by have := (hp.2.2 x (mem_at hx)).2; simp at c; omega)) (fun c => ?_)))
    rw [wr1i hlt (by omega)]
    exact hJ (k + 1) ⟨hlt, all_take hx g2 ⟨hn, by simpa using c⟩⟩ (by omega)
  · have hk : l.length ≤ k := by rw [tl_length] at hc; have := of_decide_eq_false hc; omega
    exact h0 ⟨l1, l8, all_all hk g2⟩
def chV (row : List Int) (n : Nat) : List Int := rg row.length (cntA row [] n 1)
theorem chV_length (row : List Int) (n : Nat) : (chV row n).length = row.length := by simp [chV, rg]
theorem chances73 {row : List Int} {n N : Nat} {R : V → Prop} (hrow : row.length = N + 1) (hN : N ≤ 100) (hr : ∀ x ∈ row, 0 ≤ x ∧ x ≤ 1000) (ht : tot row = 1000) (hn : n ≤ 5) (h : R (.lst 1 (nl (chV row n)))) : K0G Try.prog glX 73 [.lst 1 (nl row), iv (n : Int)] R := by
  refine K0_of_WY0 hmX hcF 3000 Try.func73 (see (p := onNat (IntKind.i64.wrap ((↑(nl row).length : Int) - (1 : Int))) fun n_1 => onNat (IntKind.i64.wrap ((↑(nl row).length : Int) - (1 : Int))) fun m => need (n_1 ≤ m) (need (8 * m ≤ 140737488355328) (need (m ≤ 9223372036854775807) (need ((nl row).length ≤ (nl row).length) (need (8 * (nl row).length ≤ 140737488355328) (need ((nl row).length ≤ 9223372036854775807) (KM Try.prog glX 100 [iv (0 : Int), iv (↑n : Int), iv (1 : Int), V.ptr (Id.p 0) 0 0, V.ptr (Id.p 1) 0 0, V.ptr (Id.p 3) 0 0, V.ptr (Id.p 5) 0 0, V.ptr (Id.p 6) 0 0] (Hp.mk [(0, O.rows 1 false [[iv (IntKind.i64.wrap ((↑(nl row).length : Int) - (1 : Int)))]]), (1, O.rows 1 false [[V.sl (Id.p 2) 0 (nl row).length]]), (2, O.rows 1 true (List.replicate (nl row).length [iv (0 : Int)])), (3, O.rows 1 false [[V.sl (Id.p 4) 0 n_1]]), (4, O.rows 1 true (List.replicate n_1 [iv (0 : Int)])), (5, O.rows 1 false [[V.lst 1 (nl row)]]), (6, O.rows 1 false [[V.fn (Fn.func 100) [] [V.ptr (Id.p 0) 0 0, V.ptr (Id.p 1) 0 0, V.ptr (Id.p 3) 0 0, V.ptr (Id.p 5) 0 0, V.ptr (Id.p 6) 0 0]]])] 7 []) (poB 100 [iv (0 : Int), iv (↑n : Int), iv (1 : Int), V.ptr (Id.p 1) 0 0, V.ptr (Id.p 5) 0 0, V.ptr (Id.p 3) 0 0, V.ptr (Id.p 0) 0 0, V.ptr (Id.p 6) 0 0]) fun v us => onTup v fun vs => onNil vs (R (V.lst 1 (sub (List.getD us 1 []) 0 (nl row).length)))))))))) (by kernel_rfl) ?_)
  have hlen : (nl row).length = N + 1 := by rw [nl_length, hrow]
  have hw : IntKind.i64.wrap (((N + 1 : Nat) : Int) - 1) = (N : Int) := by rw [wr (by omega) (by omega)]; omega
  rw [hlen, hw]
  refine onNat_mk (m := N) rfl (onNat_mk (m := N) rfl (need_mk ⟨Nat.le_refl _, need_mk ⟨by omega, need_mk ⟨by omega, need_mk ⟨Nat.le_refl _, need_mk ⟨by omega, need_mk ⟨by omega, ?_⟩⟩⟩⟩⟩⟩))
  have e1 : List.replicate (N + 1) [iv (0 : Int)] = nl (rg (N + 1) (fun _ => 0)) := by
    refine List.ext_getElem? (fun i => ?_)
    by_cases hi : i < N + 1
    · simp [nl, rg, hi]
    · simp [nl, rg, hi]
  have e2 : List.replicate N [iv (0 : Int)] = nl (List.replicate N 0) := by simp [nl]
  rw [e1, e2]
  have b1 : (1 : Int) * fac n ≤ 120 * 1000 ^ (5 - n) := by
    rcases n with _ | _ | _ | _ | _ | _ | n <;> first | decide | omega
  have b2 : sumN (N + 1) (fun _ => 0) + 1 * tot (row.drop 0) ^ n ≤ 1000000000000000 := by
    rw [sumN_zero, List.drop_zero, ht]
    have := p5 (a := 1000) (n := n) (by decide) (by decide) hn
    omega
  refine say100 hrow hN hr N 0 n 1 (fun _ => 0) (List.replicate N 0) (by omega) (by simp) hn (by decide) b1 (fun _ => Int.le_refl _) b2 (fun s' h1 h2 => ?_)
  refine onTup_tup (onNil_nil ?_)
  have e3 : rg (N + 1) (fun j => (0 : Int) + cntA (row.drop 0) ((List.replicate N (0 : Int)).take 0) n 1 j) = chV row n := by
    unfold chV
    rw [hrow]
    exact rg_congr fun j => by rw [Int.zero_add]; rfl
  show R (.lst 1 (sub (nl (rg (N + 1) (fun j => (0 : Int) + cntA (row.drop 0) ((List.replicate N (0 : Int)).take 0) n 1 j))) 0 (N + 1)))
  rw [e3, sub_all' _ (by rw [chV_length, hrow])]
  exact h
def errT (l : List (List Int)) (e : Int) : Prop := (TabP l → e = 2) ∧ (¬ TabP l → e = 8)
theorem chances33 {l : List (List Int)} {kind n : Int} {R : V → Prop} (hl : l.length ≤ 10) (hw : ∀ x ∈ l, x.length ≤ 12) (h1 : ∀ e, ¬ (TabP l ∧ 0 ≤ kind ∧ kind < (l.length : Int) ∧ 1 ≤ n ∧ n ≤ 5) → e ≠ 0 → errT l e → R (.tup [nilS, iv e]))
    (h0 : ∀ (row : List Int) (k m : Nat), TabP l → kind = (k : Int) → l[k]? = some row → n = (m : Int) → 1 ≤ m → m ≤ 5 → R (.tup [.lst 1 (nl (chV row m)), iv 0])) : K0G Try.prog glX 33 [.lst 1 (tl l), iv kind, iv n] R := by
  refine K0_of_WY0 hmX hcF 3000 Try.func33 (see (p := K0G Try.prog glX 37 [V.lst 1 (tl l)] fun v => onIntK IntKind.i64 v fun n_1 => ifB (n_1 != (0 : Int)) (R (V.tup [nilS, iv n_1])) (ifB (decide ((0 : Int) ≤ kind)) (ifB (!decide (kind ≤ IntKind.i64.wrap ((↑(tl l).length : Int) - (1 : Int)))) (R (V.tup [nilS, iv (2 : Int)])) (ifB (decide ((1 : Int) ≤ n)) (ifB (!decide (n ≤ (5 : Int))) (R (V.tup [nilS, iv (2 : Int)])) (onNat kind fun m => onSome (tl l)[m]? fun row => onSome row[0]? fun v => onLst v fun s es => K0G Try.prog glX 73 [V.lst s es, iv n] fun v => onLst v fun s es => R (V.tup [V.lst s es, iv (0 : Int)]))) (R (V.tup [nilS, iv (2 : Int)])))) (R (V.tup [nilS, iv (2 : Int)])))) (by kernel_rfl) ?_)
  refine table37 hl hw (fun hT => onIntK_iv (ifB_f rfl ?_)) (fun hT => onIntK_iv (ifB_t rfl (h1 _ (fun q => hT q.1) (by decide) ⟨fun q => (hT q).elim, fun _ => rfl⟩)))
  have l1 := hT.1
  rw [tl_length, wr (n := (l.length : Int) - 1) (by omega) (by omega)]
  refine ifB_mk (fun c1 => ifB_mk (fun c2 => h1 _ (fun q => by simp at c2; omega) (by decide) ⟨fun _ => rfl, fun q => (q hT).elim⟩) (fun c2 => ifB_mk (fun c3 => ifB_mk (fun c4 => h1 _ (fun q => by simp at c4; omega) (by decide) ⟨fun _ => rfl, fun q => (q hT).elim⟩) (fun c4 => ?_)) (fun c3 => h1 _ (fun q => by have := of_decide_eq_false c3; omega) (by decide) ⟨fun _ => rfl, fun q => (q hT).elim⟩))) (fun c1 => h1 _ (fun q => by have := of_decide_eq_false c1; omega) (by decide) ⟨fun _ => rfl, fun q => (q hT).elim⟩)
  have c1 := of_decide_eq_true c1
  have c2 : kind ≤ (l.length : Int) - 1 := by simpa using c2
  have c3 := of_decide_eq_true c3
  have c4 : n ≤ 5 := by simpa using c4
  obtain ⟨k, rfl⟩ : ∃ k : Nat, kind = (k : Int) := ⟨kind.toNat, by omega⟩
  obtain ⟨m, rfl⟩ : ∃ m : Nat, n = (m : Int) := ⟨n.toNat, by omega⟩
  obtain ⟨row, hrow⟩ := getI (l := l) (k := k) (by omega)
  have hn := hT.2.2 row (mem_at hrow)
  have hlen := hn.1.1
  refine onNat_mk (m := k) rfl ?_
  refine tl_get hrow (chances73 (N := l.length) (by omega) (by omega) hn.1.2 hn.2 (by omega) (onLst_lst (h0 row k m hT rfl hrow rfl (by omega) (by omega))))
theorem mgo_zeros : ∀ (p k : Nat) (c : List Int) (s : Int × Int), (s.2 = 0 ∧ s.1 = -1 ∨ 0 < s.2) → mgo (List.replicate p 0 ++ c) k s = mgo c (k + p) s
  | 0, k, c, s, h => by simp
  | p + 1, k, c, s, h => by
    rw [List.replicate_succ, List.cons_append]
    have e : mstep s k 0 = s := by
      unfold mstep
      rcases h with ⟨h1, h2⟩ | h
      · rw [if_neg (by omega), if_pos (by omega), ← h2]
      · rw [if_neg (by omega), if_neg (by omega)]
    show mgo (List.replicate p 0 ++ c) (k + 1) (mstep s k 0) = _
    rw [e, mgo_zeros p (k + 1) c s h, show k + 1 + p = k + (p + 1) from by omega]
theorem ch_zero (l : Nat) : ch l 0 = 1 := by cases l <;> rfl
end Go.Proofs.Ytmdimnmdoifkfaa
namespace Go.Proofs.Ytmdimnmdoifkfaa
open Go Go.Proofs.Ytmdimnmdoifkfaa.Clean
set_option linter.unusedVariables false
set_option maxRecDepth 100000
abbrev Sw := Int × Int × Bool
end Go.Proofs.Ytmdimnmdoifkfaa
namespace Go.Proofs.Ytmdimnmdoifkfaa
open Go Go.Proofs.Ytmdimnmdoifkfaa.Clean
set_option linter.unusedVariables false
set_option linter.unusedSimpArgs false
set_option maxRecDepth 10000
def gtS (x y : Sw) : Prop := y.1 < x.1 ∨ (x.1 = y.1 ∧ y.2.1 < x.2.1)
instance (x y : Sw) : Decidable (gtS x y) := by unfold gtS; infer_instance
end Go.Proofs.Ytmdimnmdoifkfaa
namespace Go.Proofs.Ytmdimnmdoifkfaa
open Go Go.Proofs.Ytmdimnmdoifkfaa.Clean
set_option linter.unusedVariables false
set_option linter.unusedSimpArgs false
set_option maxRecDepth 10000
end Go.Proofs.Ytmdimnmdoifkfaa
namespace Go.Proofs.Ytmdimnmdoifkfaa
open Go Go.Proofs.Ytmdimnmdoifkfaa.Clean
set_option linter.unusedVariables false
set_option maxRecDepth 100000
noncomputable def hB (b : Bt) : Hp := ⟨[(0, O.rows 5 false [bel b])], 1, []⟩
noncomputable def sh26 (l m : List Int) (k : Nat) : St := ⟨mkT [(0, V.lst 1 (nl l)), (1, V.lst 1 (nl m)), (5, iv (k : Int))], ⟨[], 0, []⟩⟩
end Go.Proofs.Ytmdimnmdoifkfaa
namespace Go.Proofs.Ytmdimnmdoifkfaa
open Go Go.Proofs.Ytmdimnmdoifkfaa.Clean
set_option linter.unusedVariables false
set_option linter.unusedSimpArgs false
set_option maxRecDepth 10000
instance (S : Int) (l : List Fd) (j : Nat) : Decidable (nearP S l j) := by unfold nearP; infer_instance
end Go.Proofs.Ytmdimnmdoifkfaa
namespace Go.Proofs.Ytmdimnmdoifkfaa
open Go Go.Proofs.Ytmdimnmdoifkfaa.Clean
set_option linter.unusedVariables false
set_option linter.unusedSimpArgs false
set_option maxRecDepth 10000
def ltK (a x : Sw) : Prop := a.1 < x.1 ∨ (a.1 = x.1 ∧ a.2.1 < x.2.1)
instance (a x : Sw) : Decidable (ltK a x) := by unfold ltK; infer_instance
end Go.Proofs.Ytmdimnmdoifkfaa
namespace Go.Proofs.Ytmdimnmdoifkfaa
open Go Go.Proofs.Ytmdimnmdoifkfaa.Clean
set_option linter.unusedVariables false
set_option linter.unusedSimpArgs false
set_option maxRecDepth 10000
theorem same26 {l : List Int} {R : V → Prop} (hl : l.length ≤ 900) (h : R (bv true)) : K0G Try.prog glX 26 [.lst 1 (nl l), .lst 1 (nl l)] R := by
  obtain ⟨m, hm⟩ : ∃ m, m = l := ⟨l, rfl⟩
  rw [show [V.lst 1 (nl l), V.lst 1 (nl l)] = [V.lst 1 (nl l), V.lst 1 (nl m)] from by rw [hm]]
  refine K0_of_WY0 hmX hcU 3000 Try.func26 (see (p := ifB ((↑(nl l).length : Int) != (↑(nl m).length : Int)) (R (bv false)) (La 0 [(0 : Tmp), (1 : Tmp), (5 : Tmp)] (WY Try.prog cfU 2994 (Env.mk (Bs.mk 0 []) 0 none 26 26 0) (cdAt [1, 1, 0, 1, 0, 0] (bodyOf Try.f26))) (Qblk 0 (Qthen (WY Try.prog cfU 2997 (Env.mk (Bs.mk 0 []) 0 none 26 26 0) (cdAt [1, 1, 1] (bodyOf Try.f26)) (QendX Try.prog Try.f26 fun v h => R (frzW h v))) (QendX Try.prog Try.f26 fun v h => R (frzW h v)))) (St.mk (mkT [(0, V.lst 1 (nl l)), (1, V.lst 1 (nl m)), (5, iv (0 : Int))]) (Hp.mk [] 0 [])))) (by kernel_rfl) ?_)
  refine ifB_f (by rw [hm]; simp) ?_
  refine La.of (σ := Nat) (fun k => sh26 l m k) (fun k => k ≤ l.length) (fun k => l.length - k) 0 (by kernel_rfl) (by omega) ?_
  rintro k g1 J hJ
  refine see (p := ifB (decide ((↑k : Int) < (↑(nl l).length : Int))) (onSome (nl l)[k]? fun row => onSome row[0]? fun v => onIntK IntKind.i64 v fun n => onSome (nl m)[k]? fun row => onSome row[0]? fun v => onIntK IntKind.i64 v fun n_1 => ifB (n != n_1) (R (bv false)) (J (St.mk (mkT [(0, V.lst 1 (nl l)), (1, V.lst 1 (nl m)), (5, iv (IntKind.i64.wrap ((↑k : Int) + (1 : Int))))]) (Hp.mk [] 0 [])))) (R (bv true))) (by kernel_rfl) ?_
  refine ifB_mk (fun c => ?_) (fun _ => h)
  have hlt : k < l.length := by rw [nl_length] at c; have := of_decide_eq_true c; omega
  obtain ⟨x, hx⟩ := getI hlt
  rw [wr (n := (k : Int) + 1) (by omega) (by omega)]
  refine iel hx (iel (l := m) (by rw [hm]; exact hx) (ifB_f (by simp) ?_))
  exact hJ (k + 1) hlt (by omega)
end Go.Proofs.Ytmdimnmdoifkfaa
namespace Go.Proofs.Ytmdimnmdoifkfaa
open Go Go.Proofs.Ytmdimnmdoifkfaa.Clean
set_option linter.unusedVariables false
set_option linter.unusedSimpArgs false
set_option maxRecDepth 10000
theorem chV_tot {row : List Int} {n : Nat} (hr : row ≠ []) (hn : n ≤ 5) (ht : tot row = 1000) : tot (chV row n) = 1000 ^ n := by
  unfold chV
  rw [tot_rg, cntA_sum row [] n 1 row.length hr (by simp) hn, ht]
  simp
theorem chV_nn {row : List Int} {n : Nat} (hr : ∀ x ∈ row, 0 ≤ x) : ∀ x ∈ chV row n, 0 ≤ x := fun x hx => by
  unfold chV rg at hx
  rw [List.mem_map] at hx
  obtain ⟨j, _, rfl⟩ := hx
  exact cntA_nn _ _ _ _ _ hr (by decide)
theorem tot_mono {l : List Int} (h : ∀ x ∈ l, 0 ≤ x) : ∀ k, 0 ≤ tot (l.take k) ∧ tot (l.take k) ≤ tot l := by
  induction l with
  | nil => intro k; simp [tot]
  | cons y l ih =>
    intro k
    have hy := h y (by simp)
    rcases k with _ | k
    · have := ih (fun x hx => h x (by simp [hx])) l.length
      rw [List.take_of_length_le (Nat.le_refl _)] at this
      show 0 ≤ 0 ∧ 0 ≤ y + tot l
      omega
    · have := ih (fun x hx => h x (by simp [hx])) k
      show 0 ≤ y + tot (l.take k) ∧ y + tot (l.take k) ≤ y + tot l
      omega
end Go.Proofs.Ytmdimnmdoifkfaa
namespace Go.Proofs.Ytmdimnmdoifkfaa
open Go Go.Proofs.Ytmdimnmdoifkfaa.Clean
set_option linter.unusedVariables false
set_option maxRecDepth 100000
def mxr (x : Int × Int) : List V := [iv x.1, iv x.2]
def ml (l : List (Int × Int)) : List (List V) := l.map mxr
def kpH : FuncId → Nat → Option (List Tmp) := slotsOf [(35, 0, [1, 2, 3, 12, 42, 43, 44]), (35, 2, [1, 2, 3, 12, 13, 15, 42, 43, 44, 52, 53, 54]), (13, 0, [9, 10, 12, 56, 57, 58]), (13, 2, [9, 10, 12, 78, 79, 80])]
noncomputable def cfH : Cfg := { cfgG Try.prog glX moB poB rtB (inN [54, 101, 32, 56]) kpH with clean := fun g => !inN [100] g }
noncomputable def sh35a (l : List (List Int)) (n : Nat) (counts bins : List Int) (m : List (Int × Int)) (k : Nat) : St := ⟨mkT [(1, iv (n : Int)), (2, V.lst 1 (nl counts)), (3, V.lst 1 (nl bins)), (12, V.sl (Id.p 0) 0 8), (42, V.lst 1 (tl l)), (43, iv ((tl l).length : Int)), (44, iv (k : Int))], ⟨[(0, O.rows 2 true (ml m))], 1, []⟩⟩
noncomputable def sh35b (l : List (List Int)) (n : Nat) (counts bins ways : List Int) (m : List (Int × Int)) (k i : Nat) : St := ⟨mkT [(1, iv (n : Int)), (2, V.lst 1 (nl counts)), (3, V.lst 1 (nl bins)), (12, V.sl (Id.p 0) 0 8), (13, iv (k : Int)), (15, V.lst 1 (nl ways)), (42, V.lst 1 (tl l)), (43, iv ((tl l).length : Int)), (44, iv (k : Int)), (52, V.lst 1 (nl bins)), (53, iv ((nl bins).length : Int)), (54, iv (i : Int))], ⟨[(0, O.rows 2 true (ml m))], 1, []⟩⟩
end Go.Proofs.Ytmdimnmdoifkfaa
namespace Go.Proofs.Ytmdimnmdoifkfaa
open Go Go.Proofs.Ytmdimnmdoifkfaa.Clean
set_option linter.unusedVariables false
set_option linter.unusedSimpArgs false
set_option maxRecDepth 10000
theorem hcH : cfH.ok Try.prog := by
  have h : (cfgG Try.prog glX moB poB rtB (inN [54, 101, 32, 56]) kpH).ok Try.prog := cfgG_ok rtB_ok
  exact ⟨h.1, h.2⟩
def rm (f : Nat → Int × Int) : List (Int × Int) := (List.range 8).map f
theorem rm_length (f : Nat → Int × Int) : (rm f).length = 8 := by simp [rm]
theorem ml_length (m : List (Int × Int)) : (ml m).length = m.length := by simp [ml]
theorem rm_get {p : Nat} {f : Nat → Int × Int} (h : p < 8) : (ml (rm f))[0 + p]? = some [iv (f p).1, iv (f p).2] := by rw [Nat.zero_add]; simp [rm, ml, mxr, h]
theorem rm_set {p : Nat} {f : Nat → Int × Int} {u v : Int} (h : p < 8) : (ml (rm f)).set (0 + p) [iv u, iv v] = ml (rm (fun j => if p = j then (u, v) else f j)) := by
  rw [Nat.zero_add]
  refine List.ext_getElem? (fun i => ?_)
  rw [List.getElem?_set]
  by_cases hi : i < 8
  · by_cases hp : p = i
    · subst hp; simp [ml, rm, mxr, h]
    · rw [if_neg hp]; simp [ml, rm, hi, hp]
  · rw [if_neg (by omega)]; simp [ml, rm, hi]
def bump (f : Nat → Int × Int) (p : Nat) (q r : Int) : Nat → Int × Int := fun j => if p = j then ((f j).1 + q, (f j).2 + r) else f j
def wst (counts bins : List Int) (kind : Nat) (ways : List Int) (i : Nat) (f : Nat → Int × Int) : Nat → Int × Int :=
  if bins.getD i 0 = -1 then f else bump f (bins.getD i 0).toNat (if bins.getD kind 0 ≠ bins.getD i 0 then counts.getD kind 0 * ways.getD i 0 else 0) (counts.getD kind 0 * ways.getD i 0)
def wrR (counts bins : List Int) (kind : Nat) (ways : List Int) : Nat → (Nat → Int × Int) → Nat → Int × Int
  | 0, f => f
  | i + 1, f => wst counts bins kind ways i (wrR counts bins kind ways i f)
def wrT (counts bins : List Int) (l : List (List Int)) (n : Nat) : Nat → Nat → Int × Int
  | 0 => fun _ => (0, 0)
  | k + 1 => wrR counts bins k (chV (l.getD k []) n) bins.length (wrT counts bins l n k)
def Bd (f : Nat → Int × Int) (B : Int) : Prop := ∀ j, 0 ≤ (f j).1 ∧ (f j).1 ≤ (f j).2 ∧ (f j).2 ≤ B
theorem bump_bd {f : Nat → Int × Int} {B p q P : Int} {b : Nat} (h : Bd f B) (h1 : 0 ≤ p) (h2 : p ≤ q) (h3 : q ≤ P) (h4 : 0 ≤ P) : Bd (bump f b p q) (B + P) := fun j => by
  have := h j
  unfold bump
  split
  · simp only; omega
  · omega
theorem wst_bd {counts bins ways : List Int} {kind i : Nat} {f : Nat → Int × Int} {B P : Int} (h : Bd f B) (h0 : 0 ≤ counts.getD kind 0 * ways.getD i 0) (h1 : counts.getD kind 0 * ways.getD i 0 ≤ P) : Bd (wst counts bins kind ways i f) (B + P) := by
  unfold wst
  split
  · exact fun j => by have := h j; omega
  · refine bump_bd h ?_ ?_ h1 (by omega)
    · split <;> omega
    · split <;> omega
theorem getD_get {l : List Int} {i : Nat} {x : Int} (h : l[i]? = some x) : l.getD i 0 = x := by simp [List.getD, h]
theorem wrR_bd {counts bins ways : List Int} {kind : Nat} {c : Int} (hc : counts[kind]? = some c) (c0 : 0 ≤ c) (c1 : c ≤ 1000) (hw : ∀ x ∈ ways, 0 ≤ x) {f : Nat → Int × Int} {B : Int} (h : Bd f B) : ∀ i, i ≤ ways.length → Bd (wrR counts bins kind ways i f) (B + 1000 * tot (ways.take i))
  | 0, _ => fun j => by have := h j; simp [wrR, tot]; omega
  | i + 1, hi => by
    obtain ⟨x, hx⟩ := getI (l := ways) (k := i) (by omega)
    have x0 := hw x (mem_at hx)
    have e : B + 1000 * tot (ways.take (i + 1)) = (B + 1000 * tot (ways.take i)) + 1000 * x := by rw [take_succ' hx, tot_app]; omega
    rw [e]
    have := wrR_bd (bins := bins) hc c0 c1 hw h i (by omega)
    refine wst_bd this ?_ ?_
    · rw [getD_get hc, getD_get hx]; exact Int.mul_nonneg c0 x0
    · rw [getD_get hc, getD_get hx]; exact Int.mul_le_mul_of_nonneg_right c1 x0
def WrP (l : List (List Int)) (n : Int) (counts bins : List Int) : Prop := TabP l ∧ 1 ≤ n ∧ n ≤ 5 ∧ Nums counts l.length 0 1000 ∧ Nums bins l.length (-1) 7
set_option maxHeartbeats 1000000 in
theorem wrong35 {l : List (List Int)} {n0 : Int} {counts bins : List Int} {R : V → Prop} (hl : l.length ≤ 10) (hw : ∀ x ∈ l, x.length ≤ 12) (hc : counts.length ≤ 20) (hb : bins.length ≤ 20) (h1 : ∀ e, ¬ WrP l n0 counts bins → e ≠ 0 → errT l e → R (.tup [nilS, iv e]))
    (h0 : ∀ n : Nat, TabP l → n0 = (n : Int) → 1 ≤ n → n ≤ 5 → Nums counts l.length 0 1000 → Nums bins l.length (-1) 7 → R (.tup [.lst 2 (ml (rm (wrT counts bins l n l.length))), iv 0])) : K0G Try.prog glX 35 [.lst 1 (tl l), iv n0, .lst 1 (nl counts), .lst 1 (nl bins)] R := by
  refine K0_of_WY0 hmX hcH 3000 Try.func35 (see (p := K0G Try.prog glX 37 [V.lst 1 (tl l)] fun v => onIntK IntKind.i64 v fun n => ifB (n != (0 : Int)) (R (V.tup [nilS, iv n])) (ifB (decide ((1 : Int) ≤ n0)) (ifB (!decide (n0 ≤ (5 : Int))) (R (V.tup [nilS, iv (2 : Int)])) (K0G Try.prog glX 77 [V.lst 1 (nl counts), iv (↑(tl l).length : Int), iv (0 : Int), iv (1000 : Int)] fun v => onBool v fun b => ifB (!b) (R (V.tup [nilS, iv (2 : Int)])) (K0G Try.prog glX 77 [V.lst 1 (nl bins), iv (↑(tl l).length : Int), iv (-1 : Int), iv (7 : Int)] fun v => onBool v fun b => ifB (!b) (R (V.tup [nilS, iv (2 : Int)])) (La 0 [(1 : Tmp), (2 : Tmp), (3 : Tmp), (12 : Tmp), (42 : Tmp), (43 : Tmp), (44 : Tmp)] (WY Try.prog cfH 2991 (Env.mk (Bs.mk 0 []) 0 none 97 35 0) (cdAt [1, 1, 1, 1, 1, 0, 1, 0, 0] (bodyOf Try.f35))) (Qblk 0 (Qthen (WY Try.prog cfH 2994 (Env.mk (Bs.mk 0 []) 0 none 97 35 0) (cdAt [1, 1, 1, 1, 1, 1] (bodyOf Try.f35)) (QendX Try.prog Try.f35 fun v h => R (frzW h v))) (QendX Try.prog Try.f35 fun v h => R (frzW h v)))) (St.mk (mkT [(1, iv n0), (2, V.lst 1 (nl counts)), (3, V.lst 1 (nl bins)), (12, V.sl (Id.p 0) 0 8), (42, V.lst 1 (tl l)), (43, iv (↑(tl l).length : Int)), (44, iv (0 : Int))]) (Hp.mk [(0, O.rows 2 true [[iv (0 : Int), iv (0 : Int)], [iv (0 : Int), iv (0 : Int)], [iv (0 : Int), iv (0 : Int)], [iv (0 : Int), iv (0 : Int)], [iv (0 : Int), iv (0 : Int)], [iv (0 : Int), iv (0 : Int)], [iv (0 : Int), iv (0 : Int)], [iv (0 : Int), iv (0 : Int)]])] 1 [])))))) (R (V.tup [nilS, iv (2 : Int)])))) (by kernel_rfl) ?_)
  refine table37 hl hw (fun hT => onIntK_iv (ifB_f rfl ?_)) (fun hT => onIntK_iv (ifB_t rfl (h1 _ (fun q => hT q.1) (by decide) ⟨fun q => (hT q).elim, fun _ => rfl⟩)))
  have tlen := tl_length l
  rw [tlen]
  refine ifB_mk (fun c3 => ifB_mk (fun c4 => h1 _ (fun q => by have := q.2.2.1; simp at c4; omega) (by decide) ⟨fun _ => rfl, fun q => (q hT).elim⟩) (fun c4 => ?_)) (fun c3 => h1 _ (fun q => by have := q.2.1; have := of_decide_eq_false c3; omega) (by decide) ⟨fun _ => rfl, fun q => (q hT).elim⟩)
  have c3 := of_decide_eq_true c3
  have c4 : n0 ≤ 5 := by simpa using c4
  obtain ⟨n, rfl⟩ : ∃ n : Nat, n0 = (n : Int) := ⟨n0.toNat, by omega⟩
  refine nums77 (by omega) (onBool_bv (ifB_mk (fun c => h1 _ (fun q => by rw [dc_t q.2.2.2.1] at c; cases c) (by decide) ⟨fun _ => rfl, fun q => (q hT).elim⟩) (fun c => ?_)))
  have hC : Nums counts l.length 0 1000 := dc_true (by cases hq : dc (Nums counts l.length 0 1000) with | true => rfl | false => rw [hq] at c; cases c)
  refine nums77 (by omega) (onBool_bv (ifB_mk (fun c => h1 _ (fun q => by rw [dc_t q.2.2.2.2] at c; cases c) (by decide) ⟨fun _ => rfl, fun q => (q hT).elim⟩) (fun c => ?_)))
  have hB : Nums bins l.length (-1) 7 := dc_true (by cases hq : dc (Nums bins l.length (-1) 7) with | true => rfl | false => rw [hq] at c; cases c)
  have lc := hC.1
  have lb := hB.1
  have l8 := hT.2.1
  refine La.of (σ := List (Int × Int) × Nat) (fun s => sh35a l n counts bins s.1 s.2) (fun s => s.2 ≤ l.length ∧ s.1 = rm (wrT counts bins l n s.2) ∧ Bd (wrT counts bins l n s.2) (s.2 * 1000000000000000000)) (fun s => l.length - s.2) (rm (fun _ => (0, 0)), 0) (by rw [← tlen]; kernel_rfl) ⟨by simp, rfl, fun j => by simp [wrT]⟩ ?_
  rintro ⟨m, k⟩ ⟨g1, g2, g3⟩ J hJ
  simp only at g1 g2 g3
  refine see (p := ifB (decide ((↑k : Int) < (↑(tl l).length : Int))) (onSome (tl l)[k]? fun row => onSome row[0]? fun v => onLst v fun s es => K0G Try.prog glX 73 [V.lst s es, iv (↑n : Int)] fun v => onLst v fun s es => La 0 [(1 : Tmp), (2 : Tmp), (3 : Tmp), (12 : Tmp), (13 : Tmp), (15 : Tmp), (42 : Tmp), (43 : Tmp), (44 : Tmp), (52 : Tmp), (53 : Tmp), (54 : Tmp)] (WY Try.prog cfH 2982 (Env.mk (Bs.mk 0 []) 0 none 97 35 2) (cdAt [1, 1, 1, 1, 1, 0, 1, 0, 0, 1, 1, 0, 0, 1, 1, 1, 0, 0] (bodyOf Try.f35))) (Qblk 2 (Qblk 1 (Qthen (WY Try.prog cfH 2988 (Env.mk (Bs.mk 0 []) 0 none 97 35 0) (cdAt [1, 1, 1, 1, 1, 0, 1, 0, 0, 1, 1, 1] (bodyOf Try.f35)) (Qla 0 [(1 : Tmp), (2 : Tmp), (3 : Tmp), (12 : Tmp), (42 : Tmp), (43 : Tmp), (44 : Tmp)] J (Qblk 0 (Qthen (WY Try.prog cfH 2994 (Env.mk (Bs.mk 0 []) 0 none 97 35 0) (cdAt [1, 1, 1, 1, 1, 1] (bodyOf Try.f35)) (QendX Try.prog Try.f35 fun v h => R (frzW h v))) (QendX Try.prog Try.f35 fun v h => R (frzW h v)))))) (Qla 0 [(1 : Tmp), (2 : Tmp), (3 : Tmp), (12 : Tmp), (42 : Tmp), (43 : Tmp), (44 : Tmp)] J (Qblk 0 (Qthen (WY Try.prog cfH 2994 (Env.mk (Bs.mk 0 []) 0 none 97 35 0) (cdAt [1, 1, 1, 1, 1, 1] (bodyOf Try.f35)) (QendX Try.prog Try.f35 fun v h => R (frzW h v))) (QendX Try.prog Try.f35 fun v h => R (frzW h v)))))))) (St.mk (mkT [(1, iv (↑n : Int)), (2, V.lst 1 (nl counts)), (3, V.lst 1 (nl bins)), (12, V.sl (Id.p 0) 0 8), (13, iv (↑k : Int)), (15, V.lst s es), (42, V.lst 1 (tl l)), (43, iv (↑(tl l).length : Int)), (44, iv (↑k : Int)), (52, V.lst 1 (nl bins)), (53, iv (↑(nl bins).length : Int)), (54, iv (0 : Int))]) (Hp.mk [(0, O.rows 2 true (ml m))] 1 []))) (R (V.tup [V.lst 2 (sub (ml m) 0 8), iv (0 : Int)]))) (by kernel_rfl) ?_
  refine ifB_mk (fun b1 => ?_) (fun b1 => ?_)
  · have hlt : k < l.length := by rw [tlen] at b1; have := of_decide_eq_true b1; omega
    obtain ⟨row, hrow⟩ := getI hlt
    have hn := hT.2.2 row (mem_at hrow)
    have hlen := hn.1.1
    obtain ⟨c, hck⟩ := getI (l := counts) (k := k) (by omega)
    have hc01 := hC.2 c (mem_at hck)
    obtain ⟨b, hbk⟩ := getI (l := bins) (k := k) (by omega)
    refine tl_get hrow (chances73 (N := l.length) (by omega) (by omega) hn.1.2 hn.2 (by omega) (onLst_lst ?_))
    have hw1 := chV_length row n
    have hw2 := chV_nn (row := row) (n := n) (fun x hx => (hn.1.2 x hx).1)
    have hw3 := chV_tot (n := n) (show row ≠ [] by intro hq; rw [hq] at hlen; simp at hlen; omega) (by omega) hn.2
    have hrd : chV (l.getD k []) n = chV row n := by simp [List.getD, hrow]
    have hT1 : wrT counts bins l n (k + 1) = wrR counts bins k (chV row n) bins.length (wrT counts bins l n k) := by rw [← hrd]; rfl
    generalize chV row n = ways at hw1 hw2 hw3 hT1 ⊢
    have pm := p5 (a := 1000) (n := n) (by decide) (by decide) (by omega)
    generalize wrT counts bins l n k = f0 at g2 g3 hT1
    have bd := fun i (hi : i ≤ ways.length) => wrR_bd (bins := bins) hck hc01.1 hc01.2 hw2 g3 i hi
    have tb := fun i => tot_mono hw2 i
    rw [hw3] at tb
    refine La.of (σ := List (Int × Int) × Nat) (fun s => sh35b l n counts bins ways s.1 k s.2) (fun s => s.2 ≤ bins.length ∧ s.1 = rm (wrR counts bins k ways s.2 f0)) (fun s => bins.length - s.2) (m, 0) (by kernel_rfl) ⟨by simp, g2⟩ ?_
    rintro ⟨m, i⟩ ⟨f1, f2⟩ I hI
    simp only at f1 f2
    refine see (p := ifB (decide ((↑i : Int) < (↑(nl bins).length : Int))) (onSome (nl bins)[i]? fun row => onSome row[0]? fun v => onIntK IntKind.i64 v fun n_1 => ifB (n_1 == (-1 : Int)) (I (St.mk (mkT [(1, iv (↑n : Int)), (2, V.lst 1 (nl counts)), (3, V.lst 1 (nl bins)), (12, V.sl (Id.p 0) 0 8), (13, iv (↑k : Int)), (15, V.lst 1 (nl ways)), (42, V.lst 1 (tl l)), (43, iv (↑(tl l).length : Int)), (44, iv (↑k : Int)), (52, V.lst 1 (nl bins)), (53, iv (↑(nl bins).length : Int)), (54, iv (IntKind.i64.wrap ((↑i : Int) + (1 : Int))))]) (Hp.mk [(0, O.rows 2 true (ml m))] 1 []))) (onSome (nl counts)[k]? fun row => onSome row[0]? fun v => onIntK IntKind.i64 v fun n_2 => onSome (nl ways)[i]? fun row => onSome row[0]? fun v => onIntK IntKind.i64 v fun n_3 => onNat n_1 fun m_1 => need (m_1 < 8) (onSome (ml m)[0 + m_1]? fun row => onSome row[1]? fun v => onIntK IntKind.i64 v fun n_4 => onNat n_1 fun m_2 => need (m_2 < 8) (onSome (ml m)[0 + m_2]? fun row => guardB ((1 + 1).ble row.length) (onSome (nl bins)[k]? fun row_1 => onSome row_1[0]? fun v => onIntK IntKind.i64 v fun n_5 => ifB (n_5 != n_1) (onNat n_1 fun m_3 => need (m_3 < 8) (onSome ((ml m).set (0 + m_2) (List.take 1 row ++ [iv (IntKind.i64.wrap (n_4 + IntKind.i64.wrap (n_2 * n_3)))] ++ List.drop 2 row))[0 + m_3]? fun row_2 => onSome row_2[0]? fun v => onIntK IntKind.i64 v fun n_6 => onNat n_1 fun m_4 => need (m_4 < 8) (onSome ((ml m).set (0 + m_2) (List.take 1 row ++ [iv (IntKind.i64.wrap (n_4 + IntKind.i64.wrap (n_2 * n_3)))] ++ List.drop 2 row))[0 + m_4]? fun row_3 => guardB ((0 + 1).ble row_3.length) (I (St.mk (mkT [(1, iv (↑n : Int)), (2, V.lst 1 (nl counts)), (3, V.lst 1 (nl bins)), (12, V.sl (Id.p 0) 0 8), (13, iv (↑k : Int)), (15, V.lst 1 (nl ways)), (42, V.lst 1 (tl l)), (43, iv (↑(tl l).length : Int)), (44, iv (↑k : Int)), (52, V.lst 1 (nl bins)), (53, iv (↑(nl bins).length : Int)), (54, iv (IntKind.i64.wrap ((↑i : Int) + (1 : Int))))]) (Hp.mk [(0, O.rows 2 true (((ml m).set (0 + m_2) (List.take 1 row ++ [iv (IntKind.i64.wrap (n_4 + IntKind.i64.wrap (n_2 * n_3)))] ++ List.drop 2 row)).set (0 + m_4) (iv (IntKind.i64.wrap (n_6 + IntKind.i64.wrap (n_2 * n_3))) :: (List.append []) (List.drop 1 row_3))))] 1 [])))))) (I (St.mk (mkT [(1, iv (↑n : Int)), (2, V.lst 1 (nl counts)), (3, V.lst 1 (nl bins)), (12, V.sl (Id.p 0) 0 8), (13, iv (↑k : Int)), (15, V.lst 1 (nl ways)), (42, V.lst 1 (tl l)), (43, iv (↑(tl l).length : Int)), (44, iv (↑k : Int)), (52, V.lst 1 (nl bins)), (53, iv (↑(nl bins).length : Int)), (54, iv (IntKind.i64.wrap ((↑i : Int) + (1 : Int))))]) (Hp.mk [(0, O.rows 2 true ((ml m).set (0 + m_2) (List.take 1 row ++ [iv (IntKind.i64.wrap (n_4 + IntKind.i64.wrap (n_2 * n_3)))] ++ List.drop 2 row)))] 1 [])))))))) (J (St.mk (mkT [(1, iv (↑n : Int)), (2, V.lst 1 (nl counts)), (3, V.lst 1 (nl bins)), (12, V.sl (Id.p 0) 0 8), (42, V.lst 1 (tl l)), (43, iv (↑(tl l).length : Int)), (44, iv (IntKind.i64.wrap ((↑k : Int) + (1 : Int))))]) (Hp.mk [(0, O.rows 2 true (ml m))] 1 [])))) (by kernel_rfl) ?_
    have blen := nl_length bins
    refine ifB_mk (fun b2 => ?_) (fun b2 => ?_)
    · have hlti : i < bins.length := by rw [blen] at b2; have := of_decide_eq_true b2; omega
      obtain ⟨bb, hbi⟩ := getI hlti
      have hbb := hB.2 bb (mem_at hbi)
      obtain ⟨x, hx⟩ := getI (l := ways) (k := i) (by omega)
      have x0 := hw2 x (mem_at hx)
      have nx : wrR counts bins k ways (i + 1) f0 = wst counts bins k ways i (wrR counts bins k ways i f0) := rfl
      have bd0 := bd i (by omega)
      have bd1 := bd (i + 1) (by omega)
      have tbi := tb (i + 1)
      have fin : ∀ m', m' = ml (rm (wrR counts bins k ways (i + 1) f0)) → I ⟨mkT [(1, iv (n : Int)), (2, V.lst 1 (nl counts)), (3, V.lst 1 (nl bins)), (12, V.sl (Id.p 0) 0 8), (13, iv (k : Int)), (15, V.lst 1 (nl ways)), (42, V.lst 1 (tl l)), (43, iv ((tl l).length : Int)), (44, iv (k : Int)), (52, V.lst 1 (nl bins)), (53, iv ((nl bins).length : Int)), (54, iv ((i + 1 : Nat) : Int))], ⟨[(0, O.rows 2 true m')], 1, []⟩⟩ := fun m' hm' => by
        rw [hm']
        exact hI (rm (wrR counts bins k ways (i + 1) f0), i + 1) ⟨hlti, rfl⟩ (by simp only; omega)
      rw [f2]
      generalize hF : wrR counts bins k ways i f0 = f at nx bd0 fin
      refine iel hbi ?_
      rw [wr1i hlti (by omega)]
      have gb : bins.getD i 0 = bb := getD_get hbi
      have gk : bins.getD k 0 = b := getD_get hbk
      have gc : counts.getD k 0 = c := getD_get hck
      have gw : ways.getD i 0 = x := getD_get hx
      refine ifB_mk (fun b3 => fin _ (by rw [nx]; unfold wst; rw [gb, if_pos (by simpa using b3)])) (fun b3 => ?_)
      have hbn : bb ≠ -1 := by simpa using b3
      have h07 : 0 ≤ bb ∧ bb ≤ 7 := by have := hbb.1; have := hbb.2; omega
      obtain ⟨p, rfl⟩ : ∃ p : Nat, bb = (p : Int) := ⟨bb.toNat, by omega⟩
      have cx0 := Int.mul_nonneg hc01.1 x0
      have nx2 : wrR counts bins k ways (i + 1) f0 = bump f p (if b ≠ (p : Int) then c * x else 0) (c * x) := by
        rw [nx]; unfold wst; rw [gb, if_neg hbn, gk, gc, gw]; rfl
      have bp := bd0 p
      have bq := bd1 p
      rw [nx2] at bq
      have e2 : (bump f p (if b ≠ (p : Int) then c * x else 0) (c * x) p).2 = (f p).2 + c * x := by simp [bump]
      rw [e2] at bq
      refine iel hck (iel hx ?_)
      refine onNat_mk (m := p) rfl (need_mk ⟨by omega, onSome_mk (rm_get (by omega)) ?_⟩)
      refine onSome_mk (rfl : [iv (f p).1, iv (f p).2][1]? = some (iv (f p).2)) (onIntK_iv ?_)
      refine onNat_mk (m := p) rfl (need_mk ⟨by omega, onSome_mk (rm_get (by omega)) (guardB_mk rfl (iel hbk ?_))⟩)
      have hcx : c * x ≤ 9000000000000000000 := by omega
      have hs2 : (f p).2 + c * x ≤ 9000000000000000000 := by omega
      rw [wr (n := c * x) (by omega) (by omega), wr (n := (f p).2 + c * x) (by omega) (by omega)]
      have s1 : (ml (rm f)).set (0 + p) (List.take 1 [iv (f p).1, iv (f p).2] ++ [iv ((f p).2 + c * x)] ++ List.drop 2 [iv (f p).1, iv (f p).2]) = ml (rm (fun j => if p = j then ((f p).1, (f p).2 + c * x) else f j)) := rm_set (by omega)
      rw [s1]
      refine ifB_mk (fun b4 => ?_) (fun b4 => ?_)
      · refine onNat_mk (m := p) rfl (need_mk ⟨by omega, onSome_mk (rm_get (by omega)) ?_⟩)
        rw [if_pos rfl]
        refine onSome_mk (rfl : [iv (f p).1, iv ((f p).2 + c * x)][0]? = some (iv (f p).1)) (onIntK_iv ?_)
        refine onNat_mk (m := p) rfl (need_mk ⟨by omega, onSome_mk (rm_get (by omega)) (guardB_mk rfl ?_)⟩)
        rw [if_pos rfl, wr (n := (f p).1 + c * x) (by omega) (by omega)]
        have s2 : (ml (rm (fun j => if p = j then ((f p).1, (f p).2 + c * x) else f j))).set (0 + p) (iv ((f p).1 + c * x) :: List.append [] (List.drop 1 [iv (f p).1, iv ((f p).2 + c * x)])) = ml (rm (fun j => if p = j then ((f p).1 + c * x, (f p).2 + c * x) else (fun j => if p = j then ((f p).1, (f p).2 + c * x) else f j) j)) := rm_set (by omega)
        rw [s2]
        refine fin _ ?_
        rw [nx2]
        congr 2
        funext j
        unfold bump
        by_cases hj : p = j
        · subst hj; rw [if_pos rfl, if_pos rfl, if_pos (by simpa using b4)]
        · rw [if_neg hj, if_neg hj]; simp only; rw [if_neg hj]
      · refine fin _ ?_
        rw [nx2]
        congr 2
        funext j
        unfold bump
        by_cases hj : p = j
        · subst hj; rw [if_pos rfl, if_pos rfl, if_neg (by simpa using b4), Int.add_zero]
        · rw [if_neg hj, if_neg hj]
    · have hi : i = bins.length := by rw [blen] at b2; have := of_decide_eq_false b2; omega
      subst hi
      rw [wr1i hlt (by omega), f2]
      refine hJ (rm (wrR counts bins k ways bins.length f0), k + 1) ⟨hlt, by rw [hT1], ?_⟩ (by simp only; omega)
      have := bd bins.length (by omega)
      rw [hT1]
      intro j
      have h1 := this j
      have h2 := tb bins.length
      simp only
      omega
  · have hk : k = l.length := by rw [tlen] at b1; have := of_decide_eq_false b1; omega
    rw [g2, hk]
    have := h0 n hT rfl (by omega) (by omega) hC hB
    rw [show sub (ml (rm (wrT counts bins l n l.length))) 0 8 = ml (rm (wrT counts bins l n l.length)) from by
      have : (ml (rm (wrT counts bins l n l.length))).length = 8 := by rw [ml_length, rm_length]
      rw [← this]; simp [sub]]
    exact this
end Go.Proofs.Ytmdimnmdoifkfaa
namespace Go.Proofs.Ytmdimnmdoifkfaa
open Go Go.Proofs.Ytmdimnmdoifkfaa.Clean
set_option linter.unusedVariables false
set_option linter.unusedSimpArgs false
set_option maxRecDepth 10000
theorem wrT_bd {counts bins : List Int} {l : List (List Int)} {n : Nat} (hn : n ≤ 5) (hT : TabP l) (hC : Nums counts l.length 0 1000) (hB : Nums bins l.length (-1) 7) : ∀ k, k ≤ l.length → Bd (wrT counts bins l n k) (k * 1000000000000000000)
  | 0, _ => fun j => by simp [wrT]
  | k + 1, hk => by
    obtain ⟨row, hrow⟩ := getI (l := l) (k := k) (by omega)
    have hr := hT.2.2 row (mem_at hrow)
    have hlen := hr.1.1
    have lb := hB.1
    have lc := hC.1
    obtain ⟨c, hck⟩ := getI (l := counts) (k := k) (by omega)
    have hc01 := hC.2 c (mem_at hck)
    show Bd (wrR counts bins k (chV (l.getD k []) n) bins.length (wrT counts bins l n k)) _
    rw [show l.getD k [] = row from by simp [List.getD, hrow]]
    have hw2 := chV_nn (row := row) (n := n) (fun x hx => (hr.1.2 x hx).1)
    have hw3 := chV_tot (n := n) (show row ≠ [] by intro hq; rw [hq] at hlen; simp at hlen; omega) hn hr.2
    have pm := p5 (a := 1000) (n := n) (by decide) (by decide) hn
    have b := wrR_bd (bins := bins) hck hc01.1 hc01.2 hw2 (wrT_bd hn hT hC hB k (by omega)) bins.length (by rw [chV_length]; omega)
    have tb := tot_mono hw2 bins.length
    rw [hw3] at tb
    intro j
    have := b j
    omega
end Go.Proofs.Ytmdimnmdoifkfaa
namespace Go.Proofs.Ytmdimnmdoifkfaa
open Go Go.Proofs.Ytmdimnmdoifkfaa.Clean
set_option linter.unusedVariables false
set_option linter.unusedSimpArgs false
set_option maxRecDepth 10000
def ad (c : Nat → Int) (i : Nat) (k : Int) : Nat → Int := fun x => c x + if x = i then k else 0
def sqA (N : Nat) (row : Nat → Int) (m : Nat) : Nat → (Nat → Int) → Int → Nat → Int
  | 0, c, w, j => if plc (rg N c) = j then w else 0
  | l + 1, c, w, j => sumN N (fun i => if m ≤ i then sqA N row m l (ad c i 1) (w * row i) j else 0) + sqA N row m l c (w * row N) j
theorem sqA_w0 (N : Nat) (row : Nat → Int) (m : Nat) : ∀ (l : Nat) (c : Nat → Int) (j : Nat), sqA N row m l c 0 j = 0
  | 0, c, j => by simp [sqA]
  | l + 1, c, j => by
    show sumN N (fun i => if m ≤ i then sqA N row m l (ad c i 1) (0 * row i) j else 0) + sqA N row m l c (0 * row N) j = 0
    rw [sumN_congr (g := fun _ => 0) (fun i _ => by rw [Int.zero_mul, sqA_w0 N row m l]; split <;> rfl), sumN_zero, Int.zero_mul, sqA_w0 N row m l]; rfl
theorem sqA_add (N : Nat) (row : Nat → Int) (m : Nat) : ∀ (l : Nat) (c : Nat → Int) (v w : Int) (j : Nat), sqA N row m l c (v + w) j = sqA N row m l c v j + sqA N row m l c w j
  | 0, c, v, w, j => by simp only [sqA]; split <;> omega
  | l + 1, c, v, w, j => by
    simp only [sqA]
    rw [sumN_congr (g := fun i => (if m ≤ i then sqA N row m l (ad c i 1) (v * row i) j else 0) + (if m ≤ i then sqA N row m l (ad c i 1) (w * row i) j else 0)) (fun i _ => by
      rw [Int.add_mul, sqA_add N row m l]; split <;> omega), sumN_add, Int.add_mul, sqA_add N row m l]
    omega
theorem sqA_nn {N : Nat} {row : Nat → Int} {m : Nat} (hr : ∀ i, 0 ≤ row i) : ∀ (l : Nat) (c : Nat → Int) (w : Int) (j : Nat), 0 ≤ w → 0 ≤ sqA N row m l c w j
  | 0, c, w, j, h => by simp only [sqA]; split <;> omega
  | l + 1, c, w, j, h => by
    simp only [sqA]
    have h1 := sqA_nn (N := N) (m := m) hr l c (w * row N) j (Int.mul_nonneg h (hr N))
    have h2 := sumN_nn (n := N) (f := fun i => if m ≤ i then sqA N row m l (ad c i 1) (w * row i) j else 0) (fun i _ => by
      split
      · exact sqA_nn hr l _ _ j (Int.mul_nonneg h (hr i))
      · exact Int.le_refl _)
    omega
theorem sqA_sum (N : Nat) (row : Nat → Int) : ∀ (l : Nat) (c : Nat → Int) (w : Int), sumN (N + 1) (sqA N row 0 l c w) = w * (sumN (N + 1) row) ^ l
  | 0, c, w => by
    rw [show sqA N row 0 0 c w = fun j => if plc (rg N c) = j then w else 0 from rfl, sumN_one _ _ _ (by have := plc_le (rg N c); rw [rg_length] at this; omega)]
    simp
  | l + 1, c, w => by
    have e : sumN (N + 1) (sqA N row 0 (l + 1) c w) = sumN (N + 1) (fun j => sumN N (fun i => sqA N row 0 l (ad c i 1) (w * row i) j) + sqA N row 0 l c (w * row N) j) := sumN_congr (fun j _ => by
      show sumN N (fun i => if 0 ≤ i then sqA N row 0 l (ad c i 1) (w * row i) j else 0) + _ = _
      rw [sumN_congr (g := fun i => sqA N row 0 l (ad c i 1) (w * row i) j) (fun i _ => if_pos (Nat.zero_le _))])
    rw [e, sumN_add, sumN_swap]
    rw [sumN_congr (g := fun i => (w * sumN (N + 1) row ^ l) * row i) (fun i _ => by
      show sumN (N + 1) (fun j => sqA N row 0 l (ad c i 1) (w * row i) j) = _
      rw [sqA_sum N row l]
      rw [Int.mul_assoc, Int.mul_assoc, Int.mul_comm (row i)]), sumN_mul]
    rw [show sumN (N + 1) (fun j => sqA N row 0 l c (w * row N) j) = w * row N * sumN (N + 1) row ^ l from sqA_sum N row l c (w * row N), Int.pow_succ]
    have : sumN (N + 1) row = sumN N row + row N := rfl
    rw [this]
    generalize sumN N row = a
    generalize (a + row N) ^ l = b
    grind
theorem sumN_split {N m : Nat} (h : m < N) (f : Nat → Int) : sumN N (fun i => if m ≤ i then f i else 0) = f m + sumN N (fun i => if m + 1 ≤ i then f i else 0) := by
  induction N with
  | zero => omega
  | succ N ih =>
    show sumN N (fun i => if m ≤ i then f i else 0) + (if m ≤ N then f N else 0) = f m + (sumN N (fun i => if m + 1 ≤ i then f i else 0) + if m + 1 ≤ N then f N else 0)
    by_cases hm : m = N
    · subst hm
      rw [sumN_congr (g := fun _ => 0) (fun i hi => if_neg (by omega)), sumN_zero, if_pos (Nat.le_refl _), sumN_congr (f := fun i => if m + 1 ≤ i then f i else 0) (g := fun _ => 0) (fun i hi => if_neg (by omega)), sumN_zero, if_neg (by omega)]
      omega
    · rw [ih (by omega), if_pos (by omega), if_pos (by omega)]; omega
theorem sumN_shift (n : Nat) (f : Nat → Int) : sumN (n + 1) f = f 0 + sumN n (fun k => f (k + 1)) := by
  induction n with
  | zero => show 0 + f 0 = f 0 + 0; omega
  | succ n ih =>
    show sumN (n + 1) f + f (n + 1) = f 0 + (sumN n (fun k => f (k + 1)) + f (n + 1))
    rw [ih]; omega
theorem ad_ad (c : Nat → Int) (i m : Nat) (a b : Int) : ad (ad c i a) m b = ad (ad c m b) i a := by funext x; unfold ad; omega
theorem ad_same (c : Nat → Int) (m : Nat) (a b : Int) : ad (ad c m a) m b = ad c m (a + b) := by funext x; unfold ad; split <;> omega
theorem ad_zero (c : Nat → Int) (m : Nat) : ad c m 0 = c := by funext x; unfold ad; split <;> omega
theorem ch_over : ∀ l, ch l (l + 1) = 0 := by
  have : ∀ l k, l < k → ch l k = 0 := by
    intro l
    induction l with
    | zero => intro k h; obtain ⟨k', rfl⟩ : ∃ k', k = k' + 1 := ⟨k - 1, by omega⟩; rfl
    | succ l ih =>
      intro k h
      obtain ⟨k', rfl⟩ : ∃ k', k = k' + 1 := ⟨k - 1, by omega⟩
      show ch l k' + ch l (k' + 1) = 0
      rw [ih k' (by omega), ih (k' + 1) (by omega)]
  exact fun l => this l (l + 1) (by omega)
theorem sqA_first {N : Nat} (row : Nat → Int) {m : Nat} (hm : m < N) (j : Nat) : ∀ (l : Nat) (c : Nat → Int) (w : Int), sqA N row m l c w j = sumN (l + 1) (fun k => sqA N row (m + 1) (l - k) (ad c m (k : Int)) (w * ch l k * row m ^ k) j)
  | 0, c, w => by
    show (if plc (rg N c) = j then w else 0) = 0 + sqA N row (m + 1) 0 (ad c m ((0 : Nat) : Int)) (w * ch 0 0 * row m ^ 0) j
    rw [show ad c m ((0 : Nat) : Int) = c from ad_zero c m]
    simp [sqA, ch]
  | l + 1, c, w => by
    have ih := sqA_first row hm j l
    have e1 : sqA N row m (l + 1) c w j = sqA N row m l (ad c m 1) (w * row m) j + sumN N (fun i => if m + 1 ≤ i then sqA N row m l (ad c i 1) (w * row i) j else 0) + sqA N row m l c (w * row N) j := by
      show sumN N (fun i => if m ≤ i then sqA N row m l (ad c i 1) (w * row i) j else 0) + _ = _
      rw [sumN_split hm (fun i => sqA N row m l (ad c i 1) (w * row i) j)]
    let B : Nat → Int := fun k => sqA N row (m + 1) (l + 1 - k) (ad c m (k : Int)) (w * ch l k * row m ^ k) j
    let A : Nat → Int := fun k => sqA N row (m + 1) (l - k) (ad c m ((k + 1 : Nat) : Int)) (w * ch l k * row m ^ (k + 1)) j
    have eA : sqA N row m l (ad c m 1) (w * row m) j = sumN (l + 1) A := by
      rw [ih]
      refine sumN_congr (fun k _ => ?_)
      show sqA N row (m + 1) (l - k) (ad (ad c m 1) m (k : Int)) (w * row m * ch l k * row m ^ k) j = sqA N row (m + 1) (l - k) (ad c m ((k + 1 : Nat) : Int)) (w * ch l k * row m ^ (k + 1)) j
      rw [ad_same, show (1 : Int) + (k : Int) = ((k + 1 : Nat) : Int) from by omega, Int.pow_succ]
      congr 1
      generalize row m ^ k = p
      grind
    have eB : ∀ k, k ≤ l → B k = sumN N (fun i => if m + 1 ≤ i then sqA N row (m + 1) (l - k) (ad (ad c i 1) m (k : Int)) (w * row i * ch l k * row m ^ k) j else 0) + sqA N row (m + 1) (l - k) (ad c m (k : Int)) (w * row N * ch l k * row m ^ k) j := fun k hk => by
      show sqA N row (m + 1) (l + 1 - k) (ad c m (k : Int)) (w * ch l k * row m ^ k) j = _
      rw [show l + 1 - k = (l - k) + 1 from by omega]
      simp only [sqA]
      congr 1
      · refine sumN_congr (fun i _ => ?_)
        rw [ad_ad]
        split
        · congr 1
          generalize row m ^ k = p
          grind
        · rfl
      · congr 1
        generalize row m ^ k = p
        grind
    have e2 : sumN N (fun i => if m + 1 ≤ i then sqA N row m l (ad c i 1) (w * row i) j else 0) + sqA N row m l c (w * row N) j = sumN (l + 1) B := by
      rw [ih c (w * row N)]
      rw [sumN_congr (g := fun i => sumN (l + 1) (fun k => if m + 1 ≤ i then sqA N row (m + 1) (l - k) (ad (ad c i 1) m (k : Int)) (w * row i * ch l k * row m ^ k) j else 0)) (fun i _ => by
        by_cases hi : m + 1 ≤ i
        · rw [if_pos hi, ih]
          exact sumN_congr (fun k _ => (if_pos hi).symm)
        · rw [if_neg hi]
          exact ((sumN_congr (g := fun _ => 0) (fun k _ => if_neg hi)).trans (sumN_zero _)).symm)]
      rw [sumN_swap N (l + 1) (fun k i => if m + 1 ≤ i then sqA N row (m + 1) (l - k) (ad (ad c i 1) m (k : Int)) (w * row i * ch l k * row m ^ k) j else 0), ← sumN_add]
      exact sumN_congr (fun k hk => (eB k (by omega)).symm)
    rw [e1, eA, Int.add_assoc, e2, sumN_shift (l + 1)]
    have e3 : sumN (l + 1) (fun k => sqA N row (m + 1) (l + 1 - (k + 1)) (ad c m ((k + 1 : Nat) : Int)) (w * ch (l + 1) (k + 1) * row m ^ (k + 1)) j) = sumN (l + 1) A + sumN (l + 1) (fun k => B (k + 1)) := by
      rw [← sumN_add]
      refine sumN_congr (fun k _ => ?_)
      show _ = sqA N row (m + 1) (l - k) (ad c m ((k + 1 : Nat) : Int)) (w * ch l k * row m ^ (k + 1)) j + sqA N row (m + 1) (l + 1 - (k + 1)) (ad c m ((k + 1 : Nat) : Int)) (w * ch l (k + 1) * row m ^ (k + 1)) j
      rw [show l + 1 - (k + 1) = l - k from by omega, ← sqA_add]
      congr 1
      rw [show ch (l + 1) (k + 1) = ch l k + ch l (k + 1) from rfl, Int.natCast_add, Int.mul_add, Int.add_mul]
    have e4 : sumN (l + 1) B = sqA N row (m + 1) (l + 1 - 0) (ad c m ((0 : Nat) : Int)) (w * ch (l + 1) 0 * row m ^ 0) j + sumN (l + 1) (fun k => B (k + 1)) := by
      have h1 : sumN (l + 2) B = B 0 + sumN (l + 1) (fun k => B (k + 1)) := sumN_shift (l + 1) B
      have h2 : sumN (l + 2) B = sumN (l + 1) B + B (l + 1) := rfl
      have h3 : B (l + 1) = 0 := by
        show sqA N row (m + 1) _ _ (w * ch l (l + 1) * row m ^ (l + 1)) j = 0
        rw [ch_over l]
        simp only [Int.natCast_zero, Int.mul_zero, Int.zero_mul]
        exact sqA_w0 _ _ _ _ _ _
      have h4 : B 0 = sqA N row (m + 1) (l + 1 - 0) (ad c m ((0 : Nat) : Int)) (w * ch (l + 1) 0 * row m ^ 0) j := by
        show sqA N row (m + 1) (l + 1 - 0) (ad c m ((0 : Nat) : Int)) (w * ch l 0 * row m ^ 0) j = _
        rw [ch_zero, ch_zero]
      omega
    rw [e3, e4]
    omega
theorem sqA_last {N : Nat} (row : Nat → Int) (j : Nat) (c : Nat → Int) : ∀ (l : Nat) (w : Int), sqA N row N l c w j = if plc (rg N c) = j then w * row N ^ l else 0
  | 0, w => by simp [sqA]
  | l + 1, w => by
    simp only [sqA]
    rw [sumN_congr (g := fun _ => 0) (fun i hi => if_neg (by omega)), sumN_zero, sqA_last row j c l, Int.zero_add, Int.pow_succ]
    split
    · rw [Int.mul_assoc, Int.mul_comm (row N)]
    · rfl
theorem sqA_cntA {row : List Int} {N : Nat} (hrow : row.length = N + 1) (j : Nat) : ∀ (d m l : Nat) (c : Nat → Int) (w : Int), m + d = N → (∀ i, m ≤ i → c i = 0) → sqA N (fun i => row.getD i 0) m l c w j = cntA (row.drop m) (rg m c) l w j := by
  intro d
  induction d with
  | zero =>
    intro m l c w hm hc
    have hm : m = N := by omega
    subst hm
    have hd : row.drop m = [row.getD m 0] := by
      rw [List.drop_eq_getElem_cons (by omega), List.drop_of_length_le (by omega)]
      simp [List.getD, show m < row.length by omega]
    rw [hd, sqA_last]
    simp only [cntA]
  | succ d ih =>
    intro m l c w hm hc
    obtain ⟨r, hrk⟩ := getI (l := row) (k := m) (by omega)
    obtain ⟨r2, hr2⟩ := getI (l := row) (k := m + 1) (by omega)
    have hd2 : row.drop (m + 1) = r2 :: row.drop (m + 2) := by rw [List.drop_eq_getElem_cons (by omega), (List.getElem?_eq_some_iff.1 hr2).2]
    have hd : row.drop m = r :: r2 :: row.drop (m + 2) := by rw [List.drop_eq_getElem_cons (by omega), (List.getElem?_eq_some_iff.1 hrk).2, hd2]
    rw [hd, cntA_step, ← hd2, sqA_first _ (by omega)]
    refine sumN_congr (fun k _ => ?_)
    rw [ih (m + 1) (l - k) (ad c m (k : Int)) _ (by omega) (fun i hi => by unfold ad; rw [hc i (by omega), if_neg (by omega)]; rfl)]
    have e : rg (m + 1) (ad c m (k : Int)) = rg m c ++ [(k : Int)] := by
      unfold rg
      rw [List.range_succ, List.map_append]
      congr 1
      · refine List.map_congr_left (fun x hx => ?_)
        unfold ad
        rw [if_neg (by have := List.mem_range.1 hx; omega)]; omega
      · simp [ad, hc m (Nat.le_refl _)]
    rw [e, show row.getD m 0 = r from getD_get hrk]
end Go.Proofs.Ytmdimnmdoifkfaa
namespace Go.Proofs.Ytmdimnmdoifkfaa
open Go Go.Proofs.Ytmdimnmdoifkfaa.Clean
set_option linter.unusedVariables false
set_option maxRecDepth 100000
def moK (f : FuncId) : Nat := bif inN [103] f then 3 else 0
def poK (f : FuncId) (args : List V) (h : Hp) (us : Us) : Hp := h.put (.p 0) (.rows 1 true (us.getD 0 []))
def kpK : FuncId → Nat → Option (List Tmp) := slotsOf [(74, 0, [0, 3]), (74, 2, [0, 3, 4, 5]), (103, 0, [0, 1, 2, 3, 4, 11]), (36, 0, [0, 1, 2, 3, 10]), (36, 2, [0, 1, 2, 3, 11, 12]), (36, 4, [0, 1, 2, 3, 11, 12, 13, 14]), (6, 0, [0, 11, 12, 13, 14, 15, 16, 17, 18, 72, 73, 74])]
noncomputable def cfK : Cfg := { cfgG Try.prog glX moK poK rtB (inN [75, 54, 32, 56]) kpK with clean := fun g => !inN [100, 103] g, fz := fun f t => inN [103] f && inN [54] t }
noncomputable def sh74a (l : List (List Int)) (k : Nat) : St := ⟨mkT [(0, V.lst 1 (tl l)), (3, iv (k : Int))], ⟨[], 0, []⟩⟩
noncomputable def sh74b (l : List (List Int)) (k : Nat) (t : Int) (i : Nat) : St := ⟨mkT [(0, V.lst 1 (tl l)), (3, iv (k : Int)), (4, iv t), (5, iv (i : Int))], ⟨[], 0, []⟩⟩
noncomputable def sh103 (row b : List Int) (s n : Nat) (w : Int) (M : Nat) (cs : List Int) (k : Nat) : St := ⟨mkT [(0, V.lst 1 (nl row)), (1, V.lst s (nl b)), (2, iv (n : Int)), (3, iv w), (4, V.sl (Id.p 0) 0 M), (11, iv (k : Int))], ⟨[(0, O.rows 1 true (nl cs))], 1, []⟩⟩
noncomputable def sh36a (l : List (List Int)) (n : Int) (counts bins : List Int) (k : Nat) : St := ⟨mkT [(0, V.lst 1 (tl l)), (1, iv n), (2, V.lst 1 (nl counts)), (3, V.lst 1 (nl bins)), (10, iv (k : Int))], ⟨[], 0, []⟩⟩
noncomputable def sh36b (l : List (List Int)) (n : Int) (counts bins : List Int) (m : List (Int × Int)) (k : Nat) : St := ⟨mkT [(0, V.lst 1 (tl l)), (1, iv n), (2, V.lst 1 (nl counts)), (3, V.lst 1 (nl bins)), (11, V.sl (Id.p 0) 0 8), (12, iv (k : Int))], ⟨[(0, O.rows 2 true (ml m))], 1, []⟩⟩
noncomputable def sh36c (l : List (List Int)) (n : Int) (counts bins ways : List Int) (m : List (Int × Int)) (k i : Nat) : St := ⟨mkT [(0, V.lst 1 (tl l)), (1, iv n), (2, V.lst 1 (nl counts)), (3, V.lst 1 (nl bins)), (11, V.sl (Id.p 0) 0 8), (12, iv (k : Int)), (13, V.lst 1 (nl ways)), (14, iv (i : Int))], ⟨[(0, O.rows 2 true (ml m))], 1, []⟩⟩
noncomputable def sh6 (l : List (List Int)) (s1 s2 : Nat) (x : List Int) (m : List (Int × Int)) (e g : Int) (k : Nat) : St := ⟨mkT [(0, V.lst 1 (tl l)), (11, V.lst s1 (nl x)), (12, iv e), (13, V.lst s1 (nl x)), (14, iv e), (15, V.lst s2 (ml m)), (16, iv g), (17, V.lst s2 (ml m)), (18, iv g), (72, V.lst s2 (ml m)), (73, iv ((ml m).length : Int)), (74, iv (k : Int))], ⟨[], 0, []⟩⟩
end Go.Proofs.Ytmdimnmdoifkfaa
