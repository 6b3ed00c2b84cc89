/- A part of the proof. -/
import Derived.Test.YtmdimnmdoifkfaaProg
import Derived.ProofKit
import Derived.Deep.Slices
import Derived.Carry
import Derived.Test.YtmdimnmdoifkfaaXW12G7
import Derived.Test.YtmdimnmdoifkfaaXW12G10
import Derived.Test.YtmdimnmdoifkfaaXW12G11
import Derived.Test.YtmdimnmdoifkfaaXW12G12
namespace Go.Proofs.Ytmdimnmdoifkfaa
open Go Go.Proofs.Ytmdimnmdoifkfaa.Clean
set_option linter.unusedVariables false
set_option maxRecDepth 100000
theorem tok0 : Facts Try.prog glX tb0 := trivial
theorem t0 : KFX fa0 := k0 tok0
theorem tok1 : Facts Try.prog glX tb1 := ⟨t0, tok0⟩
theorem t1 : KFX fa1 := k1 tok1
theorem tok2 : Facts Try.prog glX tb2 := ⟨t1, tok1⟩
theorem t2 : KFX fa2 := k2 tok2
theorem tok3 : Facts Try.prog glX tb3 := ⟨t2, tok2⟩
theorem t3 : KFX fa3 := k3 tok3
theorem tok4 : Facts Try.prog glX tb4 := ⟨t3, tok3⟩
theorem t4 : KFX fa4 := k4 tok4
theorem tok5 : Facts Try.prog glX tb5 := ⟨t4, tok4⟩
theorem t5 : KFX fa5 := k5 tok5
end Go.Proofs.Ytmdimnmdoifkfaa
namespace Go.Proofs.Ytmdimnmdoifkfaa
open Go Go.Proofs.Ytmdimnmdoifkfaa.Clean
set_option linter.unusedVariables false
set_option maxRecDepth 100000
def kpU : FuncId → Nat → Option (List Tmp) := slotsOf [(9, 0, [1, 2, 5, 41, 42, 43]), (11, 0, [1, 2, 5, 6]), (11, 2, [2, 5, 71, 72, 73]), (4, 0, [1, 5, 6, 7, 8, 9, 10, 11, 12, 13, 46, 47]), (10, 0, [1, 2, 3, 4, 9, 10, 50, 51, 52]), (10, 2, [1, 3, 4, 9, 10, 68, 69, 70]), (26, 0, [0, 1, 5]), (27, 0, [0, 1, 5]), (28, 0, [0, 1, 5])]
noncomputable def cfU : Cfg := cfgM Try.prog glX moT tyT (inN [54, 75]) kpU
end Go.Proofs.Ytmdimnmdoifkfaa
namespace Go.Proofs.Ytmdimnmdoifkfaa
open Go Go.Proofs.Ytmdimnmdoifkfaa.Clean
set_option linter.unusedVariables false
set_option linter.unusedSimpArgs false
set_option maxRecDepth 10000
theorem hcU : cfU.ok Try.prog := cfgM_ok
theorem alive44 {R : V → Prop} (h : R (bv true)) : K0G Try.prog glX 44 [] R := K0G.mono' (show K0G Try.prog glX 44 [] fun v => v = bv true from t5) fun v hv => by rw [hv]; exact h
end Go.Proofs.Ytmdimnmdoifkfaa
namespace Go.Proofs.Ytmdimnmdoifkfaa
open Go Go.Proofs.Ytmdimnmdoifkfaa.Clean
set_option linter.unusedVariables false
set_option linter.unusedSimpArgs false
set_option maxRecDepth 10000
theorem hcF : cfF.ok Try.prog := by
  have h : (cfgG Try.prog glX moB poB rtB (inN [54, 101, 32, 56]) kpF).ok Try.prog := cfgG_ok rtB_ok
  exact ⟨h.1, h.2⟩
theorem tl_length (l : List (List Int)) : (tl l).length = l.length := by simp [tl]
theorem tl_get {l : List (List Int)} {i : Nat} {x : List Int} {k : Nat → List (List V) → Prop} (h : l[i]? = some x) (hk : k 1 (nl x)) : onSome (tl l)[i]? fun row => onSome row[0]? fun v => onLst v fun s es => k s es := onSome_mk (by simp [tl, h] : (tl l)[i]? = some [.lst 1 (nl x)]) hk
theorem wr1b {i n : Nat} (h : i < n) (hn : n ≤ 9223372036854775807) : IntKind.i64.wrap ((i : Int) + 1) = ((i + 1 : Nat) : Int) := by rw [wr (by omega) (by omega)]; simp
theorem tot_app (a : List Int) (x : Int) : tot (a ++ [x]) = tot a + x := by
  induction a with
  | nil => simp [tot]
  | cons y a ih => show y + tot (a ++ [x]) = y + tot a + x; rw [ih]; omega
theorem tot_bnd {a : List Int} (h : ∀ x ∈ a, 0 ≤ x ∧ x ≤ 1000) : 0 ≤ tot a ∧ tot a ≤ 1000 * a.length := by
  induction a with
  | nil => simp [tot]
  | cons y a ih =>
    have := ih (fun x hx => h x (by simp [hx]))
    have := h y (by simp)
    show 0 ≤ y + tot a ∧ y + tot a ≤ 1000 * ((a.length + 1 : Nat) : Int)
    omega
theorem tot_rg (g : Nat → Int) : ∀ m, tot (rg m g) = sumN m g
  | 0 => rfl
  | m + 1 => by
    have : rg (m + 1) g = rg m g ++ [g m] := by simp [rg, List.range_succ]
    rw [this, tot_app, tot_rg g m]
    rfl
theorem sum78 {l : List Int} {R : V → Prop} (hl : l.length ≤ 1000) (hb : ∀ x ∈ l, 0 ≤ x ∧ x ≤ 1000) (h : R (iv (tot l))) : K0G Try.prog glX 78 [.lst 1 (nl l)] R := by
  refine K0_of_WY0 hmX hcF 3000 Try.func78 (see (p := La 0 [(3 : Tmp), (6 : Tmp), (7 : Tmp), (8 : Tmp)] (WY Try.prog cfF 2994 (Env.mk (Bs.mk 0 []) 0 none 17 78 0) (cdAt [1, 1, 0, 1, 0, 0] (bodyOf Try.f78))) (Qblk 0 (Qthen (WY Try.prog cfF 2997 (Env.mk (Bs.mk 0 []) 0 none 17 78 0) (cdAt [1, 1, 1] (bodyOf Try.f78)) (QendX Try.prog Try.f78 fun v h => R (frzW h v))) (QendX Try.prog Try.f78 fun v h => R (frzW h v)))) (St.mk (mkT [(3, iv (0 : Int)), (6, V.lst 1 (nl l)), (7, iv (↑(nl l).length : Int)), (8, iv (0 : Int))]) (Hp.mk [] 0 []))) (by kernel_rfl) ?_)
  refine La.of (σ := Int × Nat) (fun s => sh78 l s.1 s.2) (fun s => s.2 ≤ l.length ∧ s.1 = tot (l.take s.2)) (fun s => l.length - s.2) (0, 0) (by kernel_rfl) ⟨by simp, by simp [tot]⟩ ?_
  rintro ⟨t, k⟩ ⟨g1, g2⟩ J hJ
  simp only at g1 g2
  refine see (p := ifB (decide ((↑k : Int) < (↑(nl l).length : Int))) (onSome (nl l)[k]? fun row => onSome row[0]? fun v => onIntK IntKind.i64 v fun n => J (St.mk (mkT [(3, iv (IntKind.i64.wrap (t + n))), (6, V.lst 1 (nl l)), (7, iv (↑(nl l).length : Int)), (8, iv (IntKind.i64.wrap ((↑k : Int) + (1 : Int))))]) (Hp.mk [] 0 []))) (R (iv t))) (by kernel_rfl) ?_
  refine ifB_mk (fun hc => ?_) (fun hc => ?_)
  · have hlt : k < l.length := by rw [nl_length] at hc; have := of_decide_eq_true hc; omega
    obtain ⟨x, hx⟩ := getI hlt
    have e : tot (l.take (k + 1)) = t + x := by rw [take_succ' hx, tot_app, g2]
    have b1 := tot_bnd (a := l.take (k + 1)) (fun y hy => hb y (mem_take hy))
    have : (l.take (k + 1)).length ≤ 1000 := by simp; omega
    refine iel hx ?_
    rw [wr1i hlt hl, wr (by omega) (by omega)]
    exact hJ (t + x, k + 1) ⟨hlt, e.symm⟩ (by simp only; omega)
  · have hk : l.length ≤ k := by rw [nl_length] at hc; have := of_decide_eq_false hc; omega
    rw [List.take_of_length_le hk] at g2
    rw [g2]
    exact h
theorem wide31 {l : List (List Int)} {R : V → Prop} (hl : l.length ≤ 9223372036854775807) (h : ∀ b, (b = false → l.length ≤ 10 ∧ ∀ x ∈ l, x.length ≤ 12) → R (bv b)) : K0G Try.prog glX 31 [.lst 1 (tl l)] R := by
  refine K0_of_WY0 hmX hcF 3000 Try.func31 (see (p := La 0 [(0 : Tmp), (5 : Tmp), (6 : Tmp), (7 : Tmp)] (WY Try.prog cfF 2995 (Env.mk (Bs.mk 0 []) 0 none 18 31 0) (cdAt [1, 0, 1, 0, 0] (bodyOf Try.f31))) (Qblk 0 (Qthen (WY Try.prog cfF 2998 (Env.mk (Bs.mk 0 []) 0 none 18 31 0) (cdAt [1, 1] (bodyOf Try.f31)) (QendX Try.prog Try.f31 fun v h => R (frzW h v))) (QendX Try.prog Try.f31 fun v h => R (frzW h v)))) (St.mk (mkT [(0, V.lst 1 (tl l)), (5, V.lst 1 (tl l)), (6, iv (↑(tl l).length : Int)), (7, iv (0 : Int))]) (Hp.mk [] 0 []))) (by kernel_rfl) ?_)
  refine La.of (σ := Nat) (fun k => sh31 l k) (fun k => k ≤ l.length ∧ ∀ x ∈ l.take k, x.length ≤ 12) (fun k => l.length - k) 0 (by kernel_rfl) ⟨by simp, by simp⟩ ?_
  rintro k ⟨g1, g2⟩ J hJ
  refine see (p := ifB (decide ((↑k : Int) < (↑(tl l).length : Int))) (onSome (tl l)[k]? fun row => onSome row[0]? fun v => onLst v fun s es => ifB (decide ((↑es.length : Int) > (12 : Int))) (R (bv true)) (J (St.mk (mkT [(0, V.lst 1 (tl l)), (5, V.lst 1 (tl l)), (6, iv (↑(tl l).length : Int)), (7, iv (IntKind.i64.wrap ((↑k : Int) + (1 : Int))))]) (Hp.mk [] 0 [])))) (R (bv (decide ((↑(tl l).length : Int) > (10 : Int)))))) (by kernel_rfl) ?_
  refine ifB_mk (fun hc => ?_) (fun hc => ?_)
  · have hlt : k < l.length := by rw [tl_length] at hc; have := of_decide_eq_true hc; omega
    obtain ⟨x, hx⟩ := getI hlt
    refine tl_get hx (ifB_mk (fun _ => h _ (fun h => by cases h)) (fun c => ?_))
    rw [wr1b hlt hl]
    exact hJ (k + 1) ⟨hlt, all_take hx g2 (by rw [nl_length] at c; have := of_decide_eq_false c; omega)⟩ (by omega)
  · have hk : l.length ≤ k := by rw [tl_length] at hc; have := of_decide_eq_false hc; omega
    refine h _ (fun hb => ⟨?_, all_all hk g2⟩)
    rw [tl_length] at hb
    have := of_decide_eq_false hb
    omega
def TabP (l : List (List Int)) : Prop := 1 ≤ l.length ∧ l.length ≤ 8 ∧ ∀ x ∈ l, Nums x ((l.length : Int) + 1) 0 1000 ∧ tot x = 1000
theorem table37 {l : List (List Int)} {R : V → Prop} (hl : l.length ≤ 10) (hw : ∀ x ∈ l, x.length ≤ 12) (h0 : TabP l → R (iv 0)) (h8 : ¬ TabP l → R (iv 8)) : K0G Try.prog glX 37 [.lst 1 (tl l)] R := by
  refine K0_of_WY0 hmX hcF 3000 Try.func37 (see (p := ifB (decide ((1 : Int) ≤ (↑(tl l).length : Int))) (ifB (!decide ((↑(tl l).length : Int) ≤ (8 : Int))) (R (iv (8 : Int))) (La 0 [(0 : Tmp), (9 : Tmp), (10 : Tmp), (11 : Tmp)] (WY Try.prog cfF 2994 (Env.mk (Bs.mk 0 []) 0 none 27 37 0) (cdAt [1, 1, 0, 1, 0, 0] (bodyOf Try.f37))) (Qblk 0 (Qthen (WY Try.prog cfF 2997 (Env.mk (Bs.mk 0 []) 0 none 27 37 0) (cdAt [1, 1, 1] (bodyOf Try.f37)) (QendX Try.prog Try.f37 fun v h => R (frzW h v))) (QendX Try.prog Try.f37 fun v h => R (frzW h v)))) (St.mk (mkT [(0, V.lst 1 (tl l)), (9, V.lst 1 (tl l)), (10, iv (↑(tl l).length : Int)), (11, iv (0 : Int))]) (Hp.mk [] 0 [])))) (R (iv (8 : Int)))) (by kernel_rfl) ?_)
  rw [tl_length]
  refine ifB_mk (fun c1 => ifB_mk (fun c2 => h8 (fun hp => by have := hp.2.1; simp at c2; omega)) (fun c2 => ?_)) (fun c1 => h8 (fun hp => by have := hp.1; have := of_decide_eq_false c1; omega))
  have l1 : 1 ≤ l.length := by have := of_decide_eq_true c1; omega
  have l8 : l.length ≤ 8 := by simp at c2; omega
  refine La.of (σ := Nat) (fun k => sh37 l k) (fun k => k ≤ l.length ∧ ∀ x ∈ l.take k, Nums x ((l.length : Int) + 1) 0 1000 ∧ tot x = 1000) (fun k => l.length - k) 0 (by rw [← tl_length]; kernel_rfl) ⟨by simp, by simp⟩ ?_
  rintro k ⟨g1, g2⟩ J hJ
  refine see (p := ifB (decide ((↑k : Int) < (↑(tl l).length : Int))) (onSome (tl l)[k]? fun row => onSome row[0]? fun v => onLst v fun s es => K0G Try.prog glX 77 [V.lst s es, iv (IntKind.i64.wrap ((↑(tl l).length : Int) + (1 : Int))), iv (0 : Int), iv (1000 : Int)] fun v => onBool v fun b => ifB (!b) (R (iv (8 : Int))) (K0G Try.prog glX 78 [V.lst s es] fun v => onIntK IntKind.i64 v fun n => ifB (n != (1000 : Int)) (R (iv (8 : Int))) (J (St.mk (mkT [(0, V.lst 1 (tl l)), (9, V.lst 1 (tl l)), (10, iv (↑(tl l).length : Int)), (11, iv (IntKind.i64.wrap ((↑k : Int) + (1 : Int))))]) (Hp.mk [] 0 []))))) (R (iv (0 : Int)))) (by kernel_rfl) ?_
  have tlen := tl_length l
  refine ifB_mk (fun hc => ?_) (fun hc => ?_)
  · have hlt : k < l.length := by rw [tl_length] at hc; have := of_decide_eq_true hc; omega
    obtain ⟨x, hx⟩ := getI hlt
    refine tl_get hx ?_
    have hx12 := hw x (mem_at hx)
    rw [show IntKind.i64.wrap (((tl l).length : Int) + 1) = (l.length : Int) + 1 from by rw [tlen]; exact wr (by omega) (by omega)]
    refine nums77 (by omega) (onBool_bv (ifB_mk (fun c => h8 (fun hp => ?_)) (fun c => ?_)))
    · rw [dc_t (hp.2.2 x (mem_at hx)).1] at c; cases c
    have hn : Nums x ((l.length : Int) + 1) 0 1000 := dc_true (by cases hq : dc (Nums x ((l.length : Int) + 1) 0 1000) with | true => rfl | false => rw [hq] at c; cases c)
    refine sum78 (by omega) hn.2 (onIntK_iv (ifB_mk (fun c => h8 (fun hp => by have := (hp.2.2 x (mem_at hx)).2; simp at c; omega)) (fun c => ?_)))
    rw [wr1i hlt (by omega)]
    exact hJ (k + 1) ⟨hlt, all_take hx g2 ⟨hn, by simpa using c⟩⟩ (by omega)
  · have hk : l.length ≤ k := by rw [tl_length] at hc; have := of_decide_eq_false hc; omega
    exact h0 ⟨l1, l8, all_all hk g2⟩
def chV (row : List Int) (n : Nat) : List Int := rg row.length (cntA row [] n 1)
theorem chV_length (row : List Int) (n : Nat) : (chV row n).length = row.length := by simp [chV, rg]
theorem chances73 {row : List Int} {n N : Nat} {R : V → Prop} (hrow : row.length = N + 1) (hN : N ≤ 100) (hr : ∀ x ∈ row, 0 ≤ x ∧ x ≤ 1000) (ht : tot row = 1000) (hn : n ≤ 5) (h : R (.lst 1 (nl (chV row n)))) : K0G Try.prog glX 73 [.lst 1 (nl row), iv (n : Int)] R := by
  refine K0_of_WY0 hmX hcF 3000 Try.func73 (see (p := onNat (IntKind.i64.wrap ((↑(nl row).length : Int) - (1 : Int))) fun n_1 => onNat (IntKind.i64.wrap ((↑(nl row).length : Int) - (1 : Int))) fun m => need (n_1 ≤ m) (need (8 * m ≤ 140737488355328) (need (m ≤ 9223372036854775807) (need ((nl row).length ≤ (nl row).length) (need (8 * (nl row).length ≤ 140737488355328) (need ((nl row).length ≤ 9223372036854775807) (KM Try.prog glX 100 [iv (0 : Int), iv (↑n : Int), iv (1 : Int), V.ptr (Id.p 0) 0 0, V.ptr (Id.p 1) 0 0, V.ptr (Id.p 3) 0 0, V.ptr (Id.p 5) 0 0, V.ptr (Id.p 6) 0 0] (Hp.mk [(0, O.rows 1 false [[iv (IntKind.i64.wrap ((↑(nl row).length : Int) - (1 : Int)))]]), (1, O.rows 1 false [[V.sl (Id.p 2) 0 (nl row).length]]), (2, O.rows 1 true (List.replicate (nl row).length [iv (0 : Int)])), (3, O.rows 1 false [[V.sl (Id.p 4) 0 n_1]]), (4, O.rows 1 true (List.replicate n_1 [iv (0 : Int)])), (5, O.rows 1 false [[V.lst 1 (nl row)]]), (6, O.rows 1 false [[V.fn (Fn.func 100) [] [V.ptr (Id.p 0) 0 0, V.ptr (Id.p 1) 0 0, V.ptr (Id.p 3) 0 0, V.ptr (Id.p 5) 0 0, V.ptr (Id.p 6) 0 0]]])] 7 []) (poB 100 [iv (0 : Int), iv (↑n : Int), iv (1 : Int), V.ptr (Id.p 1) 0 0, V.ptr (Id.p 5) 0 0, V.ptr (Id.p 3) 0 0, V.ptr (Id.p 0) 0 0, V.ptr (Id.p 6) 0 0]) fun v us => onTup v fun vs => onNil vs (R (V.lst 1 (sub (List.getD us 1 []) 0 (nl row).length)))))))))) (by kernel_rfl) ?_)
  have hlen : (nl row).length = N + 1 := by rw [nl_length, hrow]
  have hw : IntKind.i64.wrap (((N + 1 : Nat) : Int) - 1) = (N : Int) := by rw [wr (by omega) (by omega)]; omega
  rw [hlen, hw]
  refine onNat_mk (m := N) rfl (onNat_mk (m := N) rfl (need_mk ⟨Nat.le_refl _, need_mk ⟨by omega, need_mk ⟨by omega, need_mk ⟨Nat.le_refl _, need_mk ⟨by omega, need_mk ⟨by omega, ?_⟩⟩⟩⟩⟩⟩))
  have e1 : List.replicate (N + 1) [iv (0 : Int)] = nl (rg (N + 1) (fun _ => 0)) := by
    refine List.ext_getElem? (fun i => ?_)
    by_cases hi : i < N + 1
    · simp [nl, rg, hi]
    · simp [nl, rg, hi]
  have e2 : List.replicate N [iv (0 : Int)] = nl (List.replicate N 0) := by simp [nl]
  rw [e1, e2]
  have b1 : (1 : Int) * fac n ≤ 120 * 1000 ^ (5 - n) := by
    rcases n with _ | _ | _ | _ | _ | _ | n <;> first | decide | omega
  have b2 : sumN (N + 1) (fun _ => 0) + 1 * tot (row.drop 0) ^ n ≤ 1000000000000000 := by
    rw [sumN_zero, List.drop_zero, ht]
    have := p5 (a := 1000) (n := n) (by decide) (by decide) hn
    omega
  refine say100 hrow hN hr N 0 n 1 (fun _ => 0) (List.replicate N 0) (by omega) (by simp) hn (by decide) b1 (fun _ => Int.le_refl _) b2 (fun s' h1 h2 => ?_)
  refine onTup_tup (onNil_nil ?_)
  have e3 : rg (N + 1) (fun j => (0 : Int) + cntA (row.drop 0) ((List.replicate N (0 : Int)).take 0) n 1 j) = chV row n := by
    unfold chV
    rw [hrow]
    exact rg_congr fun j => by rw [Int.zero_add]; rfl
  show R (.lst 1 (sub (nl (rg (N + 1) (fun j => (0 : Int) + cntA (row.drop 0) ((List.replicate N (0 : Int)).take 0) n 1 j))) 0 (N + 1)))
  rw [e3, sub_all' _ (by rw [chV_length, hrow])]
  exact h
theorem chances33 {l : List (List Int)} {kind n : Int} {R : V → Prop} (hl : l.length ≤ 10) (hw : ∀ x ∈ l, x.length ≤ 12) (h1 : ∀ e, ¬ (TabP l ∧ 0 ≤ kind ∧ kind < (l.length : Int) ∧ 1 ≤ n ∧ n ≤ 5) → e ≠ 0 → R (.tup [nilS, iv e]))
    (h0 : ∀ (row : List Int) (k m : Nat), TabP l → kind = (k : Int) → l[k]? = some row → n = (m : Int) → 1 ≤ m → m ≤ 5 → R (.tup [.lst 1 (nl (chV row m)), iv 0])) : K0G Try.prog glX 33 [.lst 1 (tl l), iv kind, iv n] R := by
  refine K0_of_WY0 hmX hcF 3000 Try.func33 (see (p := K0G Try.prog glX 37 [V.lst 1 (tl l)] fun v => onIntK IntKind.i64 v fun n_1 => ifB (n_1 != (0 : Int)) (R (V.tup [nilS, iv n_1])) (ifB (decide ((0 : Int) ≤ kind)) (ifB (!decide (kind ≤ IntKind.i64.wrap ((↑(tl l).length : Int) - (1 : Int)))) (R (V.tup [nilS, iv (2 : Int)])) (ifB (decide ((1 : Int) ≤ n)) (ifB (!decide (n ≤ (5 : Int))) (R (V.tup [nilS, iv (2 : Int)])) (onNat kind fun m => onSome (tl l)[m]? fun row => onSome row[0]? fun v => onLst v fun s es => K0G Try.prog glX 73 [V.lst s es, iv n] fun v => onLst v fun s es => R (V.tup [V.lst s es, iv (0 : Int)]))) (R (V.tup [nilS, iv (2 : Int)])))) (R (V.tup [nilS, iv (2 : Int)])))) (by kernel_rfl) ?_)
  refine table37 hl hw (fun hT => onIntK_iv (ifB_f rfl ?_)) (fun hT => onIntK_iv (ifB_t rfl (h1 _ (fun q => hT q.1) (by decide))))
  have l1 := hT.1
  rw [tl_length, wr (n := (l.length : Int) - 1) (by omega) (by omega)]
  refine ifB_mk (fun c1 => ifB_mk (fun c2 => h1 _ (fun q => by simp at c2; omega) (by decide)) (fun c2 => ifB_mk (fun c3 => ifB_mk (fun c4 => h1 _ (fun q => by simp at c4; omega) (by decide)) (fun c4 => ?_)) (fun c3 => h1 _ (fun q => by have := of_decide_eq_false c3; omega) (by decide)))) (fun c1 => h1 _ (fun q => by have := of_decide_eq_false c1; omega) (by decide))
  have c1 := of_decide_eq_true c1
  have c2 : kind ≤ (l.length : Int) - 1 := by simpa using c2
  have c3 := of_decide_eq_true c3
  have c4 : n ≤ 5 := by simpa using c4
  obtain ⟨k, rfl⟩ : ∃ k : Nat, kind = (k : Int) := ⟨kind.toNat, by omega⟩
  obtain ⟨m, rfl⟩ : ∃ m : Nat, n = (m : Int) := ⟨n.toNat, by omega⟩
  obtain ⟨row, hrow⟩ := getI (l := l) (k := k) (by omega)
  have hn := hT.2.2 row (mem_at hrow)
  have hlen := hn.1.1
  refine onNat_mk (m := k) rfl ?_
  refine tl_get hrow (chances73 (N := l.length) (by omega) (by omega) hn.1.2 hn.2 (by omega) (onLst_lst (h0 row k m hT rfl hrow rfl (by omega) (by omega))))
theorem mgo_zeros : ∀ (p k : Nat) (c : List Int) (s : Int × Int), (s.2 = 0 ∧ s.1 = -1 ∨ 0 < s.2) → mgo (List.replicate p 0 ++ c) k s = mgo c (k + p) s
  | 0, k, c, s, h => by simp
  | p + 1, k, c, s, h => by
    rw [List.replicate_succ, List.cons_append]
    have e : mstep s k 0 = s := by
      unfold mstep
      rcases h with ⟨h1, h2⟩ | h
      · rw [if_neg (by omega), if_pos (by omega), ← h2]
      · rw [if_neg (by omega), if_neg (by omega)]
    show mgo (List.replicate p 0 ++ c) (k + 1) (mstep s k 0) = _
    rw [e, mgo_zeros p (k + 1) c s h, show k + 1 + p = k + (p + 1) from by omega]
theorem plc_zeros (p : Nat) : plc (List.replicate p 0) = p := by
  have : mostF (List.replicate p 0) = -1 := by
    have := mgo_zeros p 0 [] (-1, 0) (.inl ⟨rfl, rfl⟩)
    rw [List.append_nil] at this
    unfold mostF
    rw [this]
    rfl
  unfold plc
  rw [if_pos this]
  simp
theorem plc_one {p q : Nat} {n : Int} (hn : 0 < n) : plc (List.replicate p 0 ++ n :: List.replicate q 0) = p := by
  have : mostF (List.replicate p 0 ++ n :: List.replicate q 0) = (p : Int) := by
    unfold mostF
    rw [mgo_zeros p 0 _ (-1, 0) (.inl ⟨rfl, rfl⟩)]
    show (mgo (List.replicate q 0) (0 + p + 1) (mstep (-1, 0) (0 + p) n)).1 = _
    have e : mstep (-1, 0) (0 + p) n = (((0 + p : Nat) : Int), n) := if_pos hn
    have := mgo_zeros q (0 + p + 1) [] (((0 + p : Nat) : Int), n) (.inr hn)
    rw [List.append_nil] at this
    rw [e, this]
    show ((0 + p : Nat) : Int) = p
    omega
  unfold plc
  rw [this, if_neg (by omega)]
  rfl
theorem ch_zero (l : Nat) : ch l 0 = 1 := by cases l <;> rfl
theorem rep_app (q : Nat) (pre : List Int) : pre ++ [0] ++ List.replicate q 0 = pre ++ List.replicate (q + 1) 0 := by rw [List.append_assoc, List.replicate_succ]; rfl
theorem cntA_none : ∀ (row pre : List Int) (w : Int) (j q : Nat), row.length = q + 1 → cntA row pre 0 w j = if plc (pre ++ List.replicate q 0) = j then w else 0
  | [], pre, w, j, q, h => by cases h
  | z :: [], pre, w, j, q, h => by
    have : q = 0 := by simpa using h.symm
    subst this
    simp [cntA]
  | r :: s :: rs, pre, w, j, q, h => by
    rw [cntA_step]
    show 0 + cntA (s :: rs) (pre ++ [((0 : Nat) : Int)]) (0 - 0) (w * ch 0 0 * r ^ 0) j = _
    rw [ch_zero, Int.zero_add]
    obtain ⟨q', rfl⟩ : ∃ q', q = q' + 1 := ⟨q - 1, by simp at h; omega⟩
    rw [cntA_none (s :: rs) _ _ j q' (by simp at h ⊢; omega)]
    rw [show pre ++ [((0 : Nat) : Int)] ++ List.replicate q' 0 = pre ++ List.replicate (q' + 1) 0 from rep_app q' pre]
    simp
theorem cntA_one : ∀ (row : List Int) (p j : Nat) (w : Int), cntA row (List.replicate p 0) 1 w j = if p ≤ j then w * row.getD (j - p) 0 else 0
  | [], p, j, w => by simp [cntA]
  | z :: [], p, j, w => by
    simp only [cntA, plc_zeros]
    by_cases hj : p = j
    · subst hj; simp [Int.pow_succ]
    · rw [if_neg hj]
      by_cases h : p ≤ j
      · rw [if_pos h, show j - p = (j - p - 1) + 1 from by omega]; simp
      · rw [if_neg h]
  | r :: s :: rs, p, j, w => by
    rw [cntA_step]
    show 0 + cntA (s :: rs) (List.replicate p 0 ++ [((0 : Nat) : Int)]) (1 - 0) (w * ch 1 0 * r ^ 0) j + cntA (s :: rs) (List.replicate p 0 ++ [((1 : Nat) : Int)]) (1 - 1) (w * ch 1 1 * r ^ 1) j = _
    have e0 : List.replicate p (0 : Int) ++ [((0 : Nat) : Int)] = List.replicate (p + 1) 0 := by rw [List.replicate_succ']; rfl
    rw [e0, show (1 : Nat) - 1 = 0 from rfl, cntA_none (s :: rs) _ _ _ rs.length (by simp), List.append_assoc]
    rw [show [((1 : Nat) : Int)] ++ List.replicate rs.length (0 : Int) = 1 :: List.replicate rs.length 0 from rfl, plc_one (by decide)]
    rw [show w * ch 1 0 * r ^ 0 = w from by simp [ch], show w * ch 1 1 * r ^ 1 = w * r from by simp [ch, Int.pow_succ]]
    rw [show (1 : Nat) - 0 = 1 from rfl, cntA_one (s :: rs) (p + 1) j w]
    by_cases hj : p = j
    · subst hj
      rw [if_neg (by omega), if_pos rfl, if_pos (by omega)]; simp
    · rw [if_neg hj]
      by_cases h : p + 1 ≤ j
      · rw [if_pos h, if_pos (by omega), show j - p = (j - (p + 1)) + 1 from by omega]; simp
      · rw [if_neg h, if_neg (by omega)]; simp
theorem chV_one (row : List Int) : chV row 1 = row := by
  refine List.ext_getElem? (fun i => ?_)
  by_cases hi : i < row.length
  · have := cntA_one row 0 i 1
    rw [if_pos (by omega)] at this
    simp [chV, rg, hi]
    rw [show cntA row [] 1 1 i = 1 * row.getD (i - 0) 0 from this]
    simp [hi]
  · simp [chV, rg, hi]
end Go.Proofs.Ytmdimnmdoifkfaa
namespace Go.Proofs.Ytmdimnmdoifkfaa
open Go Go.Proofs.Ytmdimnmdoifkfaa.Clean
set_option linter.unusedVariables false
set_option maxRecDepth 100000
abbrev Sw := Int × Int × Bool
end Go.Proofs.Ytmdimnmdoifkfaa
namespace Go.Proofs.Ytmdimnmdoifkfaa
open Go Go.Proofs.Ytmdimnmdoifkfaa.Clean
set_option linter.unusedVariables false
set_option linter.unusedSimpArgs false
set_option maxRecDepth 10000
def gtS (x y : Sw) : Prop := y.1 < x.1 ∨ (x.1 = y.1 ∧ y.2.1 < x.2.1)
instance (x y : Sw) : Decidable (gtS x y) := by unfold gtS; infer_instance
end Go.Proofs.Ytmdimnmdoifkfaa
namespace Go.Proofs.Ytmdimnmdoifkfaa
open Go Go.Proofs.Ytmdimnmdoifkfaa.Clean
set_option linter.unusedVariables false
set_option linter.unusedSimpArgs false
set_option maxRecDepth 10000
end Go.Proofs.Ytmdimnmdoifkfaa
namespace Go.Proofs.Ytmdimnmdoifkfaa
open Go Go.Proofs.Ytmdimnmdoifkfaa.Clean
set_option linter.unusedVariables false
set_option maxRecDepth 100000
noncomputable def hB (b : Bt) : Hp := ⟨[(0, O.rows 5 false [bel b])], 1, []⟩
noncomputable def sh26 (l m : List Int) (k : Nat) : St := ⟨mkT [(0, V.lst 1 (nl l)), (1, V.lst 1 (nl m)), (5, iv (k : Int))], ⟨[], 0, []⟩⟩
end Go.Proofs.Ytmdimnmdoifkfaa
namespace Go.Proofs.Ytmdimnmdoifkfaa
open Go Go.Proofs.Ytmdimnmdoifkfaa.Clean
set_option linter.unusedVariables false
set_option linter.unusedSimpArgs false
set_option maxRecDepth 10000
instance (S : Int) (l : List Fd) (j : Nat) : Decidable (nearP S l j) := by unfold nearP; infer_instance
end Go.Proofs.Ytmdimnmdoifkfaa
namespace Go.Proofs.Ytmdimnmdoifkfaa
open Go Go.Proofs.Ytmdimnmdoifkfaa.Clean
set_option linter.unusedVariables false
set_option linter.unusedSimpArgs false
set_option maxRecDepth 10000
def ltK (a x : Sw) : Prop := a.1 < x.1 ∨ (a.1 = x.1 ∧ a.2.1 < x.2.1)
instance (a x : Sw) : Decidable (ltK a x) := by unfold ltK; infer_instance
end Go.Proofs.Ytmdimnmdoifkfaa
namespace Go.Proofs.Ytmdimnmdoifkfaa
open Go Go.Proofs.Ytmdimnmdoifkfaa.Clean
set_option linter.unusedVariables false
set_option linter.unusedSimpArgs false
set_option maxRecDepth 10000
theorem same26 {l : List Int} {R : V → Prop} (hl : l.length ≤ 900) (h : R (bv true)) : K0G Try.prog glX 26 [.lst 1 (nl l), .lst 1 (nl l)] R := by
  obtain ⟨m, hm⟩ : ∃ m, m = l := ⟨l, rfl⟩
  rw [show [V.lst 1 (nl l), V.lst 1 (nl l)] = [V.lst 1 (nl l), V.lst 1 (nl m)] from by rw [hm]]
  refine K0_of_WY0 hmX hcU 3000 Try.func26 (see (p := ifB ((↑(nl l).length : Int) != (↑(nl m).length : Int)) (R (bv false)) (La 0 [(0 : Tmp), (1 : Tmp), (5 : Tmp)] (WY Try.prog cfU 2994 (Env.mk (Bs.mk 0 []) 0 none 26 26 0) (cdAt [1, 1, 0, 1, 0, 0] (bodyOf Try.f26))) (Qblk 0 (Qthen (WY Try.prog cfU 2997 (Env.mk (Bs.mk 0 []) 0 none 26 26 0) (cdAt [1, 1, 1] (bodyOf Try.f26)) (QendX Try.prog Try.f26 fun v h => R (frzW h v))) (QendX Try.prog Try.f26 fun v h => R (frzW h v)))) (St.mk (mkT [(0, V.lst 1 (nl l)), (1, V.lst 1 (nl m)), (5, iv (0 : Int))]) (Hp.mk [] 0 [])))) (by kernel_rfl) ?_)
  refine ifB_f (by rw [hm]; simp) ?_
  refine La.of (σ := Nat) (fun k => sh26 l m k) (fun k => k ≤ l.length) (fun k => l.length - k) 0 (by kernel_rfl) (by omega) ?_
  rintro k g1 J hJ
  refine see (p := ifB (decide ((↑k : Int) < (↑(nl l).length : Int))) (onSome (nl l)[k]? fun row => onSome row[0]? fun v => onIntK IntKind.i64 v fun n => onSome (nl m)[k]? fun row => onSome row[0]? fun v => onIntK IntKind.i64 v fun n_1 => ifB (n != n_1) (R (bv false)) (J (St.mk (mkT [(0, V.lst 1 (nl l)), (1, V.lst 1 (nl m)), (5, iv (IntKind.i64.wrap ((↑k : Int) + (1 : Int))))]) (Hp.mk [] 0 [])))) (R (bv true))) (by kernel_rfl) ?_
  refine ifB_mk (fun c => ?_) (fun _ => h)
  have hlt : k < l.length := by rw [nl_length] at c; have := of_decide_eq_true c; omega
  obtain ⟨x, hx⟩ := getI hlt
  rw [wr (n := (k : Int) + 1) (by omega) (by omega)]
  refine iel hx (iel (l := m) (by rw [hm]; exact hx) (ifB_f (by simp) ?_))
  exact hJ (k + 1) hlt (by omega)
end Go.Proofs.Ytmdimnmdoifkfaa
namespace Go.Proofs.Ytmdimnmdoifkfaa
open Go Go.Proofs.Ytmdimnmdoifkfaa.Clean
set_option linter.unusedVariables false
set_option linter.unusedSimpArgs false
set_option maxRecDepth 10000
theorem onLst_nilS {k : Nat → List (List V) → Prop} (h : k 0 []) : onLst nilS k := h
theorem chV_tot {row : List Int} {n : Nat} (hr : row ≠ []) (hn : n ≤ 5) (ht : tot row = 1000) : tot (chV row n) = 1000 ^ n := by
  unfold chV
  rw [tot_rg, cntA_sum row [] n 1 row.length hr (by simp) hn, ht]
  simp
theorem chV_nn {row : List Int} {n : Nat} (hr : ∀ x ∈ row, 0 ≤ x) : ∀ x ∈ chV row n, 0 ≤ x := fun x hx => by
  unfold chV rg at hx
  rw [List.mem_map] at hx
  obtain ⟨j, _, rfl⟩ := hx
  exact cntA_nn _ _ _ _ _ hr (by decide)
theorem tot_mono {l : List Int} (h : ∀ x ∈ l, 0 ≤ x) : ∀ k, 0 ≤ tot (l.take k) ∧ tot (l.take k) ≤ tot l := by
  induction l with
  | nil => intro k; simp [tot]
  | cons y l ih =>
    intro k
    have hy := h y (by simp)
    rcases k with _ | k
    · have := ih (fun x hx => h x (by simp [hx])) l.length
      rw [List.take_of_length_le (Nat.le_refl _)] at this
      show 0 ≤ 0 ∧ 0 ≤ y + tot l
      omega
    · have := ih (fun x hx => h x (by simp [hx])) k
      show 0 ≤ y + tot (l.take k) ∧ y + tot (l.take k) ≤ y + tot l
      omega
theorem law12 {l : List (List Int)} {kind n : Int} {R : V → Prop} (hl : l.length ≤ 9223372036854775807) (h : R (bv true)) : K0G Try.prog glX 12 [.lst 1 (tl l), iv kind, iv n] R := by
  refine K0_of_WY0 hmX hcF 3000 Try.func12 (see (p := K0G Try.prog glX 44 [] fun v => onBool v fun b => K0G Try.prog glX 31 [V.lst 1 (tl l)] fun v => onBool v fun b_1 => ifB b_1 (R (bv b)) (ifB (decide ((↑(tl l).length : Int) > (4 : Int))) (ifB (decide (n > (3 : Int))) (R (bv b)) (ifB (!b) (R (bv b)) (K0G Try.prog glX 33 [V.lst 1 (tl l), iv kind, iv n] fun v => onTup v fun vs => onCons vs fun u r => onLst u fun s es => onCons r fun u r => onIntK IntKind.i64 u fun n_1 => onNil r (ifB (n_1 != (0 : Int)) (ifB b (R (bv ((↑es.length : Int) == (0 : Int)))) (R (bv false))) (La 0 [(0 : Tmp), (1 : Tmp), (7 : Tmp), (8 : Tmp), (10 : Tmp), (11 : Tmp), (44 : Tmp), (45 : Tmp)] (WY Try.prog cfF 2990 (Env.mk (Bs.mk 0 []) 0 none 104 12 0) (cdAt [1, 1, 1, 1, 1, 1, 0, 1, 0, 0] (bodyOf Try.f12))) (Qblk 0 (Qthen (WY Try.prog cfF 2993 (Env.mk (Bs.mk 0 []) 0 none 104 12 0) (cdAt [1, 1, 1, 1, 1, 1, 1] (bodyOf Try.f12)) (QendX Try.prog Try.f12 fun v h => R (frzW h v))) (QendX Try.prog Try.f12 fun v h => R (frzW h v)))) (St.mk (mkT [(0, V.lst 1 (tl l)), (1, iv kind), (7, bv b), (8, V.lst s es), (10, iv (0 : Int)), (11, iv (1 : Int)), (44, iv n), (45, iv (0 : Int))]) (Hp.mk [] 0 []))))))) (ifB (!b) (R (bv b)) (K0G Try.prog glX 33 [V.lst 1 (tl l), iv kind, iv n] fun v => onTup v fun vs => onCons vs fun u r => onLst u fun s es => onCons r fun u r => onIntK IntKind.i64 u fun n_1 => onNil r (ifB (n_1 != (0 : Int)) (ifB b (R (bv ((↑es.length : Int) == (0 : Int)))) (R (bv false))) (La 0 [(0 : Tmp), (1 : Tmp), (7 : Tmp), (8 : Tmp), (10 : Tmp), (11 : Tmp), (44 : Tmp), (45 : Tmp)] (WY Try.prog cfF 2990 (Env.mk (Bs.mk 0 []) 0 none 104 12 0) (cdAt [1, 1, 1, 1, 1, 1, 0, 1, 0, 0] (bodyOf Try.f12))) (Qblk 0 (Qthen (WY Try.prog cfF 2993 (Env.mk (Bs.mk 0 []) 0 none 104 12 0) (cdAt [1, 1, 1, 1, 1, 1, 1] (bodyOf Try.f12)) (QendX Try.prog Try.f12 fun v h => R (frzW h v))) (QendX Try.prog Try.f12 fun v h => R (frzW h v)))) (St.mk (mkT [(0, V.lst 1 (tl l)), (1, iv kind), (7, bv b), (8, V.lst s es), (10, iv (0 : Int)), (11, iv (1 : Int)), (44, iv n), (45, iv (0 : Int))]) (Hp.mk [] 0 [])))))))) (by kernel_rfl) ?_)
  refine alive44 (onBool_bv (wide31 hl (fun b hb => onBool_bv (ifB_mk (fun _ => h) (fun c => ?_)))))
  obtain ⟨l10, l12⟩ := hb c
  have tlen := tl_length l
  refine ifB_mk (fun _ => ifB_mk (fun _ => h) (fun _ => ifB_f rfl ?_)) (fun _ => ifB_f rfl ?_)
  all_goals
    refine chances33 l10 l12 (fun e _ he => onTup_tup (onCons_cons (onLst_nilS (onCons_cons (onIntK_iv (onNil_nil (ifB_t (by simpa using he) (ifB_t rfl h)))))))) (fun row k0 m hT hk hrow hm m1 m5 => ?_)
    have hn := hT.2.2 row (mem_at hrow)
    have hlen := hn.1.1
    have hc1 := chV_length row m
    have hc2 := chV_nn (row := row) (n := m) (fun x hx => (hn.1.2 x hx).1)
    have hc3 := chV_tot (n := m) (show row ≠ [] by intro hq; rw [hq] at hlen; simp at hlen; omega) m5 hn.2
    have l8 := hT.2.1
    generalize chV row m = c at hc1 hc2 hc3
    have clen := nl_length c
    have pm := p5 (a := 1000) (n := m) (by decide) (by decide) m5
    refine onTup_tup (onCons_cons (onLst_lst (onCons_cons (onIntK_iv (onNil_nil (ifB_f rfl ?_))))))
    refine La.of (σ := Int × Nat) (fun s => sh12a l kind n c s.1 s.2) (fun s => s.2 ≤ m ∧ s.1 = 1000 ^ s.2) (fun s => m - s.2) (1, 0) (by kernel_rfl) ⟨by simp, by simp⟩ ?_
    rintro ⟨all, k⟩ ⟨g1, g2⟩ J hJ
    simp only at g1 g2
    refine see (p := ifB (decide ((↑k : Int) < n)) (J (St.mk (mkT [(0, V.lst 1 (tl l)), (1, iv kind), (7, bv true), (8, V.lst 1 (nl c)), (10, iv (0 : Int)), (11, iv (IntKind.i64.wrap (all * (1000 : Int)))), (44, iv n), (45, iv (IntKind.i64.wrap ((↑k : Int) + (1 : Int))))]) (Hp.mk [] 0 []))) (La 0 [(0 : Tmp), (1 : Tmp), (7 : Tmp), (8 : Tmp), (10 : Tmp), (11 : Tmp), (50 : Tmp), (51 : Tmp), (52 : Tmp)] (WY Try.prog cfF 2989 (Env.mk (Bs.mk 0 []) 0 none 104 12 2) (cdAt [1, 1, 1, 1, 1, 1, 1, 0, 1, 0, 0] (bodyOf Try.f12))) (Qblk 2 (Qthen (WY Try.prog cfF 2992 (Env.mk (Bs.mk 0 []) 0 none 104 12 0) (cdAt [1, 1, 1, 1, 1, 1, 1, 1] (bodyOf Try.f12)) (QendX Try.prog Try.f12 fun v h => R (frzW h v))) (QendX Try.prog Try.f12 fun v h => R (frzW h v)))) (St.mk (mkT [(0, V.lst 1 (tl l)), (1, iv kind), (7, bv true), (8, V.lst 1 (nl c)), (10, iv (0 : Int)), (11, iv all), (50, V.lst 1 (nl c)), (51, iv (↑(nl c).length : Int)), (52, iv (0 : Int))]) (Hp.mk [] 0 [])))) (by kernel_rfl) ?_
    refine ifB_mk (fun b1 => ?_) (fun b1 => ?_)
    · have hlt : k < m := by have := of_decide_eq_true b1; omega
      have e : all * 1000 = 1000 ^ (k + 1) := by rw [g2]; exact (Int.pow_succ 1000 k).symm
      have b2 := p5 (a := 1000) (n := k + 1) (by decide) (by decide) (by omega)
      have b3 := pow_nn (r := 1000) (by decide) (k + 1)
      rw [e, wr1i hlt (by omega), wr (by omega) (by omega)]
      exact hJ (1000 ^ (k + 1), k + 1) ⟨hlt, rfl⟩ (by simp only; omega)
    have hkm : k = m := by have := of_decide_eq_false b1; omega
    rw [hkm] at g2
    refine La.of (σ := Int × Nat) (fun s => sh12b l kind c s.1 all s.2) (fun s => s.2 ≤ c.length ∧ s.1 = tot (c.take s.2)) (fun s => c.length - s.2) (0, 0) (by kernel_rfl) ⟨by simp, by simp [tot]⟩ ?_
    rintro ⟨sum, k⟩ ⟨f1, f2⟩ J hJ
    simp only at f1 f2
    refine see (p := ifB (decide ((↑k : Int) < (↑(nl c).length : Int))) (onSome (nl c)[k]? fun row => onSome row[0]? fun v => onIntK IntKind.i64 v fun n => ifB (decide (n < (0 : Int))) (R (bv false)) (J (St.mk (mkT [(0, V.lst 1 (tl l)), (1, iv kind), (7, bv true), (8, V.lst 1 (nl c)), (10, iv (IntKind.i64.wrap (sum + n))), (11, iv all), (50, V.lst 1 (nl c)), (51, iv (↑(nl c).length : Int)), (52, iv (IntKind.i64.wrap ((↑k : Int) + (1 : Int))))]) (Hp.mk [] 0 [])))) (K0G Try.prog glX 33 [V.lst 1 (tl l), iv kind, iv (1 : Int)] fun v => onTup v fun vs => onCons vs fun u r => onLst u fun s es => onCons r fun u r => onIntK IntKind.i64 u fun n => onNil r (ifB (sum == all) (ifB ((↑(nl c).length : Int) == IntKind.i64.wrap ((↑(tl l).length : Int) + (1 : Int))) (ifB (n == (0 : Int)) (ifB (decide (kind ≥ (0 : Int))) (ifB (decide (kind < (↑(tl l).length : Int))) (onNat kind fun m => onSome (tl l)[m]? fun row => onSome row[0]? fun v => onLst v fun s_1 es_1 => K0G Try.prog glX 26 [V.lst s es, V.lst s_1 es_1] fun v => onBool v fun b => R (bv b)) (R (bv false))) (R (bv false))) (R (bv false))) (R (bv false))) (R (bv false))))) (by kernel_rfl) ?_
    refine ifB_mk (fun b1 => ?_) (fun b1 => ?_)
    · have hlt : k < c.length := by rw [clen] at b1; have := of_decide_eq_true b1; omega
      obtain ⟨x, hx⟩ := getI hlt
      have x0 := hc2 x (mem_at hx)
      have e : sum + x = tot (c.take (k + 1)) := by rw [take_succ' hx, tot_app, f2]
      have b2 := tot_mono hc2 (k + 1)
      rw [← e, hc3] at b2
      refine iel hx (ifB_f (by simp; omega) ?_)
      rw [wr1i hlt (by omega), wr (by omega) (by omega)]
      exact hJ (sum + x, k + 1) ⟨hlt, e⟩ (by simp only; omega)
    have hk2 : c.length ≤ k := by rw [clen] at b1; have := of_decide_eq_false b1; omega
    rw [List.take_of_length_le hk2, hc3, ← g2] at f2
    refine chances33 l10 l12 (fun e hq he => (hq ⟨hT, by omega, by have := (List.getElem?_eq_some_iff.1 hrow).1; omega, by decide, by decide⟩).elim) (fun row2 k2 m2 hT2 hk2 hrow2 hm2 m21 m25 => ?_)
    have hm : m2 = 1 := by omega
    subst hm
    have hkk : k2 = k0 := by omega
    subst hkk
    rw [hrow] at hrow2
    cases hrow2
    rw [chV_one]
    refine onTup_tup (onCons_cons (onLst_lst (onCons_cons (onIntK_iv (onNil_nil ?_)))))
    rw [tlen, clen, wr (n := (l.length : Int) + 1) (by omega) (by omega)]
    have hkl := (List.getElem?_eq_some_iff.1 hrow).1
    refine ifB_t (by simp [f2]) (ifB_t (by simp; omega) (ifB_t rfl (ifB_t (by simp; omega) (ifB_t (by simp; omega) ?_))))
    refine onNat_mk (m := k2) hk ?_
    refine tl_get hrow (same26 (by omega) (onBool_bv h))
end Go.Proofs.Ytmdimnmdoifkfaa
namespace Go.Proofs.Ytmdimnmdoifkfaa.Clean
open Go.Deep
set_option linter.unusedSimpArgs false
set_option linter.unusedVariables false
section
variable {H : Type} (enc : TypeId × Value → H) (P : Program) (w : World)
def FW (r : Nat) : Prop := r < w.heap.size
def Opens (t : TypeId) {α : Type} (f : α → List V) (ok : α → Prop) : Prop :=
  ∀ fuel cs x, DataW.trod enc P w 0 (fun _ => true) true fuel t cs = some x → ∃ a, riL (FW w) w (f a) cs ∧ ok a ∧ ∀ u ∈ cs, u.oneCell' = true
end
section
variable {H : Type} {enc : TypeId × Value → H} {P : Program} {w : World}
theorem riL_one {v : V} {x : Value} (h : ri (FW w) w v x) : riL (FW w) w [v] [x] := by simp only [riL]; exact ⟨x, [], rfl, h, rfl⟩
theorem riL_get : ∀ {vs : List V} {xs : List Value}, riL (FW w) w vs xs → ∀ (i : Nat) v, vs[i]? = some v → ∃ x, xs[i]? = some x ∧ ri (FW w) w v x
  | [], xs, h, i, v, hi => by simp at hi
  | u :: vs, xs, h, i, v, hi => by
    simp only [riL] at h
    obtain ⟨x, ys, rfl, h2, h3⟩ := h
    cases i with
    | zero => simp at hi; subst hi; exact ⟨x, rfl, h2⟩
    | succ i => simp at hi; simpa using riL_get h3 i v hi
theorem riL_length : ∀ {vs : List V} {xs : List Value}, riL (FW w) w vs xs → xs.length = vs.length
  | [], xs, h => by simp only [riL] at h; simp [h]
  | v :: vs, xs, h => by simp only [riL] at h; obtain ⟨x, ys, rfl, _, h3⟩ := h; simp [riL_length h3]
theorem opens_int {t : TypeId} {k : IntKind} (ht : P.underlying t = some (.int k)) : Opens enc P w t (fun n : Int => [.raw (.int k n)]) (fun n => (Lit.int k n).wf = true) := by
  intro fuel cs x h
  obtain ⟨n, rfl, _, hw⟩ := DataW.trod_int ht h
  exact ⟨n, riL_one (by simp [ri]), hw, by simp [Value.oneCell']⟩
theorem opens_slice {t e : TypeId} {s : Nat} {α : Type} {f : α → List V} {ok : α → Prop} (ht : P.underlying t = some (.slice e)) (hs : P.cellsOf e = s) (hpos : s ≠ 0) (ho : Opens enc P w e f ok) :
    Opens enc P w t (fun l : List α => [.lst s (l.map f)]) (fun l => l.length ≤ maxLen ∧ ∀ a ∈ l, ok a) := by
  intro fuel cs x h
  rcases open_slice ht h with ⟨rfl, _⟩ | ⟨a, len, cap, m, n, D, Pl, rfl, _, hl, hm, hmm, _, hx⟩
  · exact ⟨[], riL_one (by simp [ri]), by simp, by simp [Value.oneCell']⟩
  · simp only [if_true] at hmm
    subst hmm
    rw [hs] at hx
    have each : ∀ i, i < len → ∃ q : α, (∃ cs', w.cells? 0 (a.add (i * s)) s = some cs' ∧ riL (FW w) w (f q) cs' ∧ ∀ u ∈ cs', u.oneCell' = true) ∧ ok q := by
      intro i hi
      obtain ⟨cs', h1, h2⟩ := hx i (by omega)
      obtain ⟨q, h3, h4, h5⟩ := ho _ _ _ h2
      exact ⟨q, ⟨cs', h1, h3, h5⟩, h4⟩
    obtain ⟨q, hq⟩ : ∃ q : Nat → Option α, ∀ i, i < len → ∃ y, q i = some y ∧ (∃ cs', w.cells? 0 (a.add (i * s)) s = some cs' ∧ riL (FW w) w (f y) cs' ∧ ∀ u ∈ cs', u.oneCell' = true) ∧ ok y := by
      refine Classical.axiomOfChoice (r := fun i (o : Option α) => i < len → ∃ y, o = some y ∧ (∃ cs', w.cells? 0 (a.add (i * s)) s = some cs' ∧ riL (FW w) w (f y) cs' ∧ ∀ u ∈ cs', u.oneCell' = true) ∧ ok y) ?_
      intro i
      by_cases hi : i < len
      · obtain ⟨y, hy⟩ := each i hi
        exact ⟨some y, fun _ => ⟨y, rfl, hy⟩⟩
      · exact ⟨none, fun h => (hi h).elim⟩
    let l : List α := (List.range len).filterMap q
    have hl' : l.length = len ∧ ∀ i, i < len → l[i]? = q i := by
      have key : ∀ k, k ≤ len → ((List.range k).filterMap q).length = k ∧ ∀ i, i < k → ((List.range k).filterMap q)[i]? = q i := by
        intro k
        induction k with
        | zero => intro _; simp
        | succ k ih =>
          intro hk
          obtain ⟨h1, h2⟩ := ih (by omega)
          obtain ⟨y, hy, _⟩ := hq k (by omega)
          have : (List.range (k + 1)).filterMap q = (List.range k).filterMap q ++ [y] := by rw [List.range_succ, List.filterMap_append]; simp [hy]
          rw [this]
          refine ⟨by simp [h1], fun i hi => ?_⟩
          by_cases hik : i < k
          · rw [List.getElem?_append_left (by omega)]; exact h2 i hik
          · have : i = k := by omega
            subst this
            rw [List.getElem?_append_right (by omega), h1, hy]; simp
      exact key len (Nat.le_refl _)
    refine ⟨l, riL_one ?_, ⟨by omega, fun b hb => ?_⟩, by simp [Value.oneCell']⟩
    · simp only [ri]
      refine .inr ⟨a, m, by simp [hl'.1]; exact hl, by simp [hl'.1], ?_⟩
      by_cases h0 : len = 0
      · left
        have : l = [] := List.eq_nil_of_length_eq_zero (by omega)
        simp [this]
      · right
        have cell : ∀ (i : Nat) (cs' : List Value), i < len → w.cells? 0 (a.add (i * s)) s = some cs' → ∀ j, j < s → w.cell? (a.add (i * s + j)) = cs'[j]? ∧ cs'.length = s := by
          intro i cs' hi hc j hj
          obtain ⟨_, hlen, hcc⟩ := World.cells?_some hc
          have := hcc j hj
          rw [add_add] at this
          exact ⟨this, hlen⟩
        obtain ⟨y0, hy0, ⟨cs0, c1, _, _⟩, _⟩ := hq 0 (by omega)
        have hc0 := (cell 0 cs0 (by omega) c1 0 (by omega))
        have hsome : ∃ u, w.cell? a = some u := by
          have h1 := hc0.1
          rw [Nat.zero_mul, Nat.zero_add] at h1
          have : a.add 0 = a := by simp [Addr.add]
          rw [this] at h1
          rw [h1]
          exact ⟨cs0[0]'(by omega), List.getElem?_eq_getElem (by omega)⟩
        obtain ⟨u0, hu0⟩ := hsome
        have hspot : a.spot = none := by
          unfold World.cell? at hu0
          split at hu0
          · split at hu0
            · cases hu0
            · rename_i h; simpa using h
          · cases hu0
        obtain ⟨ab, ao, asp⟩ := a
        simp only at hspot
        subst hspot
        refine ⟨rfl, World.block_lt_of_cell? w _ hu0, ?_⟩
        rw [riRows_iff]
        intro i row hrow
        rw [List.getElem?_map, Option.map_eq_some_iff] at hrow
        obtain ⟨b, hb, rfl⟩ := hrow
        have hi : i < len := by have := (List.getElem?_eq_some_iff.1 hb).1; omega
        obtain ⟨y, hy, ⟨cs', g1, g2, g3⟩, _⟩ := hq i hi
        rw [hl'.2 i hi, hy] at hb
        simp at hb
        subst hb
        have hlen' := riL_length g2
        obtain ⟨_, hclen, _⟩ := World.cells?_some g1
        refine ⟨by omega, fun j v hj => ?_⟩
        obtain ⟨z, z1, z2⟩ := riL_get g2 j v hj
        have hjs : j < s := by have := (List.getElem?_eq_some_iff.1 z1).1; omega
        refine ⟨z, ?_, g3 z (List.mem_of_getElem? z1), z2⟩
        have := (cell i cs' hi g1 j hjs).1
        rw [add_lit, ← Nat.add_assoc] at this
        rw [this]; exact z1
    · obtain ⟨i, hi⟩ := List.mem_iff_getElem?.1 hb
      have hil : i < len := by have := (List.getElem?_eq_some_iff.1 hi).1; omega
      obtain ⟨y, hy, _, hok⟩ := hq i hil
      rw [hl'.2 i hil, hy] at hi
      simp at hi
      exact hi ▸ hok
theorem arg_int {t : TypeId} {k : IntKind} {v : Value} {d : DataW H} {p : List MemPlace} {r : Reach} {b0 : Nat} (ht : P.underlying t = some (.int k)) (hval : Value.okWide P w r b0 t v) (h : DataW.Trod enc P w 0 (fun _ => true) true t v d p) :
    ∃ n, ri (FW w) w (.raw (.int k n)) v ∧ (Lit.int k n).wf = true := by
  obtain ⟨n, rfl, _, _, hw⟩ := ChangeShapes.open_int ht hval h
  exact ⟨n, by simp [ri], hw⟩
theorem arg_slice {t e : TypeId} {v : Value} {d : DataW H} {p : List MemPlace} {r : Reach} {b0 : Nat} {α : Type} {f : α → V} {ok : α → Prop} (ht : P.underlying t = some (.slice e)) (hval : Value.okWide P w r b0 t v) (h : DataW.Trod enc P w 0 (fun _ => true) true t v d p)
    (ho : Opens enc P w t (fun a => [f a]) ok) : ∃ a, ri (FW w) w (f a) v ∧ ok a := by
  obtain ⟨a, len, cap, rfl⟩ := WideShapes.okWide_slice ht hval
  obtain ⟨fuel, hf⟩ := h
  obtain ⟨y, h1, h2, _⟩ := ho _ _ _ hf
  simp only [Value.cells, riL] at h1
  obtain ⟨x, xs, hx, h3, _⟩ := h1
  simp at hx
  exact ⟨y, by rw [hx.1]; exact h3, h2⟩
end
end Go.Proofs.Ytmdimnmdoifkfaa.Clean
