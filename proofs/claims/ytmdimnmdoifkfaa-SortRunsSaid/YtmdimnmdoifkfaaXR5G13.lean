/- A part of the proof. -/
import Derived.Test.YtmdimnmdoifkfaaProg
import Derived.Test.YtmdimnmdoifkfaaXR5G10
import Derived.Test.YtmdimnmdoifkfaaXR5G11
import Derived.Test.YtmdimnmdoifkfaaXR5G12
namespace Go.Proofs.Ytmdimnmdoifkfaa
open Go Go.Proofs.Ytmdimnmdoifkfaa.Clean
set_option linter.unusedVariables false
set_option maxRecDepth 100000
theorem tok0 : Facts Try.prog glX tb0 := trivial
theorem t0 : KFX fa0 := k0 tok0
theorem tok1 : Facts Try.prog glX tb1 := ⟨t0, tok0⟩
theorem t1 : KFX fa1 := k1 tok1
theorem tok2 : Facts Try.prog glX tb2 := ⟨t1, tok1⟩
theorem t2 : KFX fa2 := k2 tok2
theorem tok3 : Facts Try.prog glX tb3 := ⟨t2, tok2⟩
theorem t3 : KFX fa3 := k3 tok3
theorem tok4 : Facts Try.prog glX tb4 := ⟨t3, tok3⟩
theorem t4 : KFX fa4 := k4 tok4
end Go.Proofs.Ytmdimnmdoifkfaa
namespace Go.Proofs.Ytmdimnmdoifkfaa
open Go Go.Proofs.Ytmdimnmdoifkfaa.Clean
set_option linter.unusedVariables false
set_option maxRecDepth 100000
end Go.Proofs.Ytmdimnmdoifkfaa
namespace Go.Proofs.Ytmdimnmdoifkfaa
open Go Go.Proofs.Ytmdimnmdoifkfaa.Clean
set_option linter.unusedVariables false
set_option linter.unusedSimpArgs false
set_option maxRecDepth 10000
theorem ftel {F : List Ft} {i : Nat} {x : Ft} {k : Int → Int → Int → Prop} (h : F[i]? = some x) (hk : k x.1 x.2.1 x.2.2) : onSome (ftl F)[i]? fun row => onCons (List.drop 0 row) fun u r => onIntK IntKind.i64 u fun n => onCons r fun u r => onIntK IntKind.i64 u fun m => onCons r fun u r => onIntK IntKind.i64 u fun q => k n m q := onSome_mk (by simp [ftl, h] : (ftl F)[i]? = some (ftr x)) hk
theorem lsF_cases (F : List Ft) : ∃ s, (F = [] ∨ s = 3) ∧ ∀ k : Nat → List (List V) → Prop, k s (ftl F) → onLst (lsF F) k := by
  cases F with
  | nil => exact ⟨0, .inl rfl, fun k h => h⟩
  | cons x t => exact ⟨3, .inr rfl, fun k h => h⟩
theorem sm_bins {b : Bt} {l : List Fd} (h : Sm b l) : b.bins.length ≤ 1000 := by have := h.2.1; omega
end Go.Proofs.Ytmdimnmdoifkfaa
namespace Go.Proofs.Ytmdimnmdoifkfaa
open Go Go.Proofs.Ytmdimnmdoifkfaa.Clean
set_option linter.unusedVariables false
set_option maxRecDepth 100000
noncomputable def cfR : Cfg := cfgM Try.prog glX moT tyT (inN [75, 61, 95]) kpT
noncomputable def hB (b : Bt) : Hp := ⟨[(0, O.rows 5 false [bel b])], 1, []⟩
noncomputable def sh27 (s s' : Nat) (l m : List Ft) (k : Nat) : St := ⟨mkT [(0, V.lst s (ftl l)), (1, V.lst s' (ftl m)), (5, iv (k : Int))], ⟨[], 0, []⟩⟩
end Go.Proofs.Ytmdimnmdoifkfaa
namespace Go.Proofs.Ytmdimnmdoifkfaa
open Go Go.Proofs.Ytmdimnmdoifkfaa.Clean
set_option linter.unusedVariables false
set_option linter.unusedSimpArgs false
set_option maxRecDepth 10000
theorem hcR : cfR.ok Try.prog := cfgM_ok
instance (S : Int) (l : List Fd) (j : Nat) : Decidable (nearP S l j) := by unfold nearP; infer_instance
def firstF (S : Int) (l : List Fd) : Nat → Nat
  | 0 => 0
  | i + 1 => if nearP S l (i + 1) then firstF S l i else i + 1
def lastF (S : Int) (l : List Fd) : Nat → Nat → Nat
  | 0, i => i
  | n + 1, i => if i + 1 < l.length ∧ nearP S l (i + 1) then lastF S l n (i + 1) else i
def lastI (S : Int) (l : List Fd) (i : Nat) : Nat := lastF S l (l.length - i) i
def SiP (b : Bt) (l : List Fd) (p q i : Nat) : Prop := (∀ k, p ≤ k → k ≤ q → gk b (fd l k) = gk b (fd l i)) ∧ gk b (fd l i) ≠ -1 ∧ (fd l q).1 - (fd l p).1 + 3 * b.S + 1 ≤ (gt b (gk b (fd l i))).1 - b.C
noncomputable def sortI (b : Bt) (l : List Fd) (i : Nat) : Int := if dc (SiP b l (firstF b.S l i) (lastI b.S l i) i) = true then gk b (fd l i) else -1
end Go.Proofs.Ytmdimnmdoifkfaa
namespace Go.Proofs.Ytmdimnmdoifkfaa
open Go Go.Proofs.Ytmdimnmdoifkfaa.Clean
set_option linter.unusedVariables false
set_option linter.unusedSimpArgs false
set_option maxRecDepth 10000
def ltK (a x : Sw) : Prop := a.1 < x.1 ∨ (a.1 = x.1 ∧ a.2.1 < x.2.1)
instance (a x : Sw) : Decidable (ltK a x) := by unfold ltK; infer_instance
theorem swel {l : List Sw} {i : Nat} {a : Sw} {k : Int → Int → Bool → Prop} (h : l[i]? = some a) (hk : k a.1 a.2.1 a.2.2) : onSome (swl l)[i]? fun row => onCons (List.drop 0 row) fun u r => onIntK IntKind.i64 u fun n => onCons r fun u r => onIntK IntKind.i64 u fun m => onCons r fun u r => onBool u fun q => k n m q := onSome_mk (by simp [swl, h] : (swl l)[i]? = some (swr a)) hk
end Go.Proofs.Ytmdimnmdoifkfaa
namespace Go.Proofs.Ytmdimnmdoifkfaa
open Go Go.Proofs.Ytmdimnmdoifkfaa.Clean
set_option linter.unusedVariables false
set_option linter.unusedSimpArgs false
set_option maxRecDepth 10000
def outI (b : Bt) (l : List Fd) (k : Nat) (g : Int) : Sw := ((fd l k).1 + (gt b g).1 - b.S, g, true)
def backI (b : Bt) (l : List Fd) (k : Nat) (g : Int) : Sw := ((fd l (lastI b.S l k)).1 + (gt b g).1 + 1, g, false)
theorem same27 {s s' : Nat} {l : List Ft} {R : V → Prop} (hl : l.length ≤ 900) (hs : l = [] ∨ s = 3) (hs' : l = [] ∨ s' = 3) (h : R (bv true)) : K0G Try.prog glX 27 [.lst s (ftl l), .lst s' (ftl l)] R := by
  obtain ⟨m, hm⟩ : ∃ m, m = l := ⟨l, rfl⟩
  rw [show [V.lst s (ftl l), V.lst s' (ftl l)] = [V.lst s (ftl l), V.lst s' (ftl m)] from by rw [hm]]
  refine K0_of_WY0 hmX hcR 3000 Try.func27 (see (p := ifB ((↑(ftl l).length : Int) != (↑(ftl m).length : Int)) (R (bv false)) (La 0 [(0 : Tmp), (1 : Tmp), (5 : Tmp)] (WY Try.prog cfR 2994 (Env.mk (Bs.mk 0 []) 0 none 26 27 0) (cdAt [1, 1, 0, 1, 0, 0] (bodyOf Try.f27))) (Qblk 0 (Qthen (WY Try.prog cfR 2997 (Env.mk (Bs.mk 0 []) 0 none 26 27 0) (cdAt [1, 1, 1] (bodyOf Try.f27)) (QendX Try.prog Try.f27 fun v h => R (frzW h v))) (QendX Try.prog Try.f27 fun v h => R (frzW h v)))) (St.mk (mkT [(0, V.lst s (ftl l)), (1, V.lst s' (ftl m)), (5, iv (0 : Int))]) (Hp.mk [] 0 [])))) (by kernel_rfl) ?_)
  refine ifB_f (by rw [hm]; simp) ?_
  refine La.of (σ := Nat) (fun k => sh27 s s' l m k) (fun k => k ≤ l.length) (fun k => l.length - k) 0 (by kernel_rfl) (by omega) ?_
  rintro k g1 J hJ
  refine see (p := ifB (decide ((↑k : Int) < (↑(ftl l).length : Int))) (need (s = 3) (onSome (ftl l)[k]? fun row => onCons (List.drop 0 row) fun u r => onIntK IntKind.i64 u fun n => onCons r fun u r => onIntK IntKind.i64 u fun n_1 => onCons r fun u r => onIntK IntKind.i64 u fun n_2 => need (s' = 3) (onSome (ftl m)[k]? fun row => onCons (List.drop 0 row) fun u r => onIntK IntKind.i64 u fun n_3 => onCons r fun u r => onIntK IntKind.i64 u fun n_4 => onCons r fun u r => onIntK IntKind.i64 u fun n_5 => ifB (!(fun b => n == n_3 && b) ((fun b => n_1 == n_4 && b) ((fun b => n_2 == n_5 && b) true))) (R (bv false)) (J (St.mk (mkT [(0, V.lst s (ftl l)), (1, V.lst s' (ftl m)), (5, iv (IntKind.i64.wrap ((↑k : Int) + (1 : Int))))]) (Hp.mk [] 0 [])))))) (R (bv true))) (by kernel_rfl) ?_
  refine ifB_mk (fun c => ?_) (fun _ => h)
  have hlt : k < l.length := by rw [ftl_length] at c; have := of_decide_eq_true c; omega
  have hne : l ≠ [] := fun e => by rw [e] at hlt; simp at hlt
  obtain ⟨x, hx⟩ := getI hlt
  rw [wr (n := (k : Int) + 1) (by omega) (by omega)]
  refine need_mk ⟨hs.resolve_left hne, ftel hx (need_mk ⟨hs'.resolve_left hne, ftel (F := m) (by rw [hm]; exact hx) (ifB_f (by simp) ?_)⟩)⟩
  exact hJ (k + 1) hlt (by omega)
end Go.Proofs.Ytmdimnmdoifkfaa
namespace Go.Proofs.Ytmdimnmdoifkfaa
open Go Go.Proofs.Ytmdimnmdoifkfaa.Clean
set_option linter.unusedVariables false
set_option linter.unusedSimpArgs false
set_option maxRecDepth 10000
def Blk (S : Int) (l : List Fd) (p m : Nat) : Prop := 1 ≤ m ∧ p + m ≤ l.length ∧ (p = 0 ∨ ¬ nearP S l p) ∧ (∀ j, p < j → j < p + m → nearP S l j) ∧ (p + m = l.length ∨ ¬ nearP S l (p + m))
theorem ltK_trans {x y z : Sw} (h : ltK x y) (h' : ltK y z) : ltK x z := by
  unfold ltK at *
  omega
def Sorted (l : List Sw) : Prop := l.Pairwise ltK
end Go.Proofs.Ytmdimnmdoifkfaa
namespace Go.Proofs.Ytmdimnmdoifkfaa
open Go Go.Proofs.Ytmdimnmdoifkfaa.Clean
set_option linter.unusedVariables false
set_option linter.unusedSimpArgs false
set_option maxRecDepth 10000
end Go.Proofs.Ytmdimnmdoifkfaa
namespace Go.Proofs.Ytmdimnmdoifkfaa
open Go Go.Proofs.Ytmdimnmdoifkfaa.Clean
set_option linter.unusedVariables false
set_option linter.unusedSimpArgs false
set_option maxRecDepth 10000
def At (b : Bt) (l : List Fd) (i : Nat) (s : Sw) : Prop := sortI b l i ≠ -1 ∧ firstF b.S l i = i ∧ (s = outI b l i (sortI b l i) ∨ s = backI b l i (sortI b l i))
def lo (T : Int) (l : List Fd) : List Fd := l.filter fun x => decide (x.1 ≤ T)
def hi (T : Int) (l : List Fd) : List Fd := l.filter fun x => decide (x.1 > T)
end Go.Proofs.Ytmdimnmdoifkfaa
namespace Go.Proofs.Ytmdimnmdoifkfaa
open Go Go.Proofs.Ytmdimnmdoifkfaa.Clean
set_option linter.unusedVariables false
set_option maxRecDepth 100000
end Go.Proofs.Ytmdimnmdoifkfaa
namespace Go.Proofs.Ytmdimnmdoifkfaa
open Go Go.Proofs.Ytmdimnmdoifkfaa.Clean
set_option linter.unusedVariables false
set_option linter.unusedSimpArgs false
set_option maxRecDepth 10000
theorem sub_all {α : Type} {l : List α} {n : Nat} (h : n = l.length) : sub l 0 n = l := by rw [sub, List.drop_zero, List.take_of_length_le (by omega)]
theorem app_ne {α : Type} (l : List α) (x : α) : l ++ [x] ≠ [] := by simp
end Go.Proofs.Ytmdimnmdoifkfaa
namespace Go.Proofs.Ytmdimnmdoifkfaa
open Go Go.Proofs.Ytmdimnmdoifkfaa.Clean
set_option linter.unusedVariables false
set_option linter.unusedSimpArgs false
set_option maxRecDepth 10000
end Go.Proofs.Ytmdimnmdoifkfaa
namespace Go.Proofs.Ytmdimnmdoifkfaa
open Go Go.Proofs.Ytmdimnmdoifkfaa.Clean
set_option linter.unusedVariables false
set_option maxRecDepth 100000
def lsI (m : List Int) : V := match m with | [] => nilS | x :: t => .lst 1 (nl (x :: t))
def tbl (T : List (List Int)) : List (List V) := T.map fun m => [lsI m]
def kpY : FuncId → Nat → Option (List Tmp) := slotsOf [(71, 0, [1, 2, 5]), (71, 2, [1, 2, 5, 6]), (72, 0, [1, 2, 3, 4, 10, 11]), (110, 0, [0, 1, 6, 7, 8]), (70, 0, [2, 3, 4, 11, 12, 13]), (30, 0, [1, 2, 3, 9, 10]), (30, 2, [1, 2, 3, 9, 10, 11, 12]), (29, 0, [3, 9, 11, 33, 34, 35])]
noncomputable def cfY : Cfg := cfgM Try.prog glX moT tyT (inN [54, 57, 61, 75, 95, 96, 99, 109, 113, 114]) kpY
noncomputable def sh71a (b : Bt) (l : List Sw) (k : Nat) : St := ⟨mkT [(1, V.lst 3 (swl l)), (2, V.ptr (Id.p 0) 0 0), (5, iv (k : Int))], hB b⟩
noncomputable def sh71b (b : Bt) (l : List Sw) (k : Nat) (j : Int) : St := ⟨mkT [(1, V.lst 3 (swl l)), (2, V.ptr (Id.p 0) 0 0), (5, iv (k : Int)), (6, iv j)], hB b⟩
noncomputable def sh72 (b : Bt) (l : List Sw) (g t : Int) (e : Bool) (k : Nat) : St := ⟨mkT [(1, V.lst 3 (swl l)), (2, iv g), (3, iv t), (4, V.ptr (Id.p 0) 0 0), (10, bv e), (11, iv (k : Int))], hB b⟩
noncomputable def sh110 (s : Nat) (m : List Int) (t i j : Int) : St := ⟨mkT [(0, V.lst s (nl m)), (1, iv t), (6, iv ((nl m).length : Int)), (7, iv i), (8, iv j)], ⟨[], 0, []⟩⟩
noncomputable def sh70 (b : Bt) (x : Fd) (T : List (List Int)) (k : Nat) : St := ⟨mkT [(2, V.lst 1 (tbl T)), (3, V.ptr (Id.p 0) 0 0), (4, V.ptr (Id.p 1) 0 0), (11, V.lst 2 (gl b.gs)), (12, iv ((gl b.gs).length : Int)), (13, iv (k : Int))], ⟨[(0, O.rows 5 false [bel b]), (1, O.rows 3 false [fdr x])], 2, []⟩⟩
end Go.Proofs.Ytmdimnmdoifkfaa
namespace Go.Proofs.Ytmdimnmdoifkfaa
open Go Go.Proofs.Ytmdimnmdoifkfaa.Clean
set_option linter.unusedVariables false
set_option linter.unusedSimpArgs false
set_option maxRecDepth 10000
theorem hcY : cfY.ok Try.prog := cfgM_ok
def In64 (n : Int) : Prop := -9223372036854775808 ≤ n ∧ n ≤ 9223372036854775807
theorem wrapU (n : Int) : IntKind.u64.wrap n = n % 18446744073709551616 := by simp [IntKind.wrap, IntKind.bits, IntKind.signed]
theorem usub {a c : Int} (ha : In64 a) (hc : In64 c) (h : c ≤ a) : IntKind.u64.wrap (IntKind.u64.wrap a - IntKind.u64.wrap c) = a - c := by
  obtain ⟨a1, a2⟩ := ha
  obtain ⟨c1, c2⟩ := hc
  rw [wrapU, wrapU, wrapU]
  omega
theorem usm {a : Int} (h : 0 ≤ a) (h' : a ≤ 1000) : IntKind.u64.wrap a = a := by rw [wrapU]; omega
theorem mid {i j : Nat} (h : i ≤ 2000) (h' : j ≤ 2000) : IntKind.i64.wrap ((IntKind.u64.wrap (IntKind.i64.wrap ((i : Int) + j))).fdiv ((2 : Int) ^ min (Int.toNat (1 : Int)) (64 : Nat))) = (((i + j) / 2 : Nat) : Int) := by
  rw [wr (n := (i : Int) + j) (by omega) (by omega), wrapU, show ((2 : Int) ^ min (Int.toNat (1 : Int)) (64 : Nat)) = 2 from rfl, Int.fdiv_eq_ediv_of_nonneg _ (by decide), wr (by omega) (by omega)]
  omega
theorem pw_le {m : List Int} (hp : m.Pairwise (· < ·)) {k : Nat} {x : Int} (hx : m[k]? = some x) : (∀ y ∈ m.take k, y < x) ∧ ∀ y ∈ m.drop (k + 1), x < y := by
  have hl := (List.getElem?_eq_some_iff.1 hx).1
  have hm : m = m.take k ++ x :: m.drop (k + 1) := by
    rw [← (List.getElem?_eq_some_iff.1 hx).2, ← List.drop_eq_getElem_cons hl, List.take_append_drop]
  rw [hm] at hp
  obtain ⟨h1, h2, h3⟩ := List.pairwise_append.1 hp
  exact ⟨fun y hy => h3 y hy x (List.mem_cons_self ..), (List.pairwise_cons.1 h2).1⟩
theorem search110 {s : Nat} {m : List Int} {t : Int} {R : V → Prop} (hs : m = [] ∨ s = 1) (hl : m.length ≤ 1000) (hp : m.Pairwise (· < ·)) (h : ∀ (i : Nat) (e : Bool), i ≤ m.length → (∀ x ∈ m.take i, x < t) → (∀ x ∈ m.drop i, t ≤ x) → R (.tup [iv (i : Int), bv e])) : K0G Try.prog glX 110 [.lst s (nl m), iv t] R := by
  refine K0_of_WY0 hmX hcY 3000 Try.func110 (see (p := La 0 [(0 : Tmp), (1 : Tmp), (6 : Tmp), (7 : Tmp), (8 : Tmp)] (WY Try.prog cfY 2994 (Env.mk (Bs.mk 0 []) 0 none 54 110 0) (cdAt [1, 1, 1, 0, 0, 0] (bodyOf Try.f110))) (Qblk 0 (Qthen (WY Try.prog cfY 2996 (Env.mk (Bs.mk 0 []) 0 none 54 110 0) (cdAt [1, 1, 1, 1] (bodyOf Try.f110)) (QendX Try.prog Try.f110 fun v h => R (frzW h v))) (QendX Try.prog Try.f110 fun v h => R (frzW h v)))) (St.mk (mkT [(0, V.lst s (nl m)), (1, iv t), (6, iv (↑(nl m).length : Int)), (7, iv (0 : Int)), (8, iv (↑(nl m).length : Int))]) (Hp.mk [] 0 []))) (by kernel_rfl) ?_)
  refine La.of (σ := Nat × Nat) (fun s' => sh110 s m t (s'.1 : Int) (s'.2 : Int)) (fun s' => s'.1 ≤ s'.2 ∧ s'.2 ≤ m.length ∧ (∀ x ∈ m.take s'.1, x < t) ∧ ∀ x ∈ m.drop s'.2, t ≤ x) (fun s' => s'.2 - s'.1) (0, m.length) (by rw [← nl_length]; kernel_rfl) ⟨Nat.zero_le _, Nat.le_refl _, by simp, by simp⟩ ?_
  rintro ⟨i, j⟩ ⟨g1, g2, g3, g4⟩ J hJ
  simp only at g1 g2 g3 g4
  have hn : ∀ (i' j' : Nat), (i' ≤ j' ∧ j' ≤ m.length ∧ (∀ x ∈ m.take i', x < t) ∧ ∀ x ∈ m.drop j', t ≤ x) → j' - i' < j - i → J (sh110 s m t (i' : Int) (j' : Int)) := fun i' j' hi hd => hJ (i', j') hi hd
  clear hJ
  refine see (p := ifB (decide ((↑i : Int) < (↑j : Int))) (onNat (IntKind.i64.wrap ((IntKind.u64.wrap (IntKind.i64.wrap ((↑i : Int) + (↑j : Int)))).fdiv ((2 : Int) ^ min (Int.toNat (1 : Int)) 64))) fun m_1 => need (s = 1) (onSome (nl m)[m_1]? fun row => onSome row[0]? fun v => onIntK IntKind.i64 v fun n => ifB (n != n) (ifB (!t != t) (J (St.mk (mkT [(0, V.lst s (nl m)), (1, iv t), (6, iv (↑(nl m).length : Int)), (7, iv (IntKind.i64.wrap (IntKind.i64.wrap ((IntKind.u64.wrap (IntKind.i64.wrap ((↑i : Int) + (↑j : Int)))).fdiv ((2 : Int) ^ min (Int.toNat (1 : Int)) 64)) + (1 : Int)))), (8, iv (↑j : Int))]) (Hp.mk [] 0 []))) (ifB (decide (n < t)) (J (St.mk (mkT [(0, V.lst s (nl m)), (1, iv t), (6, iv (↑(nl m).length : Int)), (7, iv (IntKind.i64.wrap (IntKind.i64.wrap ((IntKind.u64.wrap (IntKind.i64.wrap ((↑i : Int) + (↑j : Int)))).fdiv ((2 : Int) ^ min (Int.toNat (1 : Int)) 64)) + (1 : Int)))), (8, iv (↑j : Int))]) (Hp.mk [] 0 []))) (J (St.mk (mkT [(0, V.lst s (nl m)), (1, iv t), (6, iv (↑(nl m).length : Int)), (7, iv (↑i : Int)), (8, iv (IntKind.i64.wrap ((IntKind.u64.wrap (IntKind.i64.wrap ((↑i : Int) + (↑j : Int)))).fdiv ((2 : Int) ^ min (Int.toNat (1 : Int)) 64))))]) (Hp.mk [] 0 []))))) (ifB (decide (n < t)) (J (St.mk (mkT [(0, V.lst s (nl m)), (1, iv t), (6, iv (↑(nl m).length : Int)), (7, iv (IntKind.i64.wrap (IntKind.i64.wrap ((IntKind.u64.wrap (IntKind.i64.wrap ((↑i : Int) + (↑j : Int)))).fdiv ((2 : Int) ^ min (Int.toNat (1 : Int)) 64)) + (1 : Int)))), (8, iv (↑j : Int))]) (Hp.mk [] 0 []))) (J (St.mk (mkT [(0, V.lst s (nl m)), (1, iv t), (6, iv (↑(nl m).length : Int)), (7, iv (↑i : Int)), (8, iv (IntKind.i64.wrap ((IntKind.u64.wrap (IntKind.i64.wrap ((↑i : Int) + (↑j : Int)))).fdiv ((2 : Int) ^ min (Int.toNat (1 : Int)) 64))))]) (Hp.mk [] 0 [])))))) (ifB (decide ((↑i : Int) < (↑(nl m).length : Int))) (need (s = 1) (onSome (nl m)[i]? fun row => onSome row[0]? fun v => onIntK IntKind.i64 v fun n => ifB (n == t) (R (V.tup [iv (↑i : Int), bv true])) (need (s = 1) (onSome (nl m)[i]? fun row => onSome row[0]? fun v => onIntK IntKind.i64 v fun n => ifB (n != n) (R (V.tup [iv (↑i : Int), bv (t != t)])) (R (V.tup [iv (↑i : Int), bv false])))))) (R (V.tup [iv (↑i : Int), bv false])))) (by kernel_rfl) ?_
  rw [nl_length]
  refine ifB_mk (fun c => ?_) (fun c => ?_)
  · have hlt : i < j := by have := of_decide_eq_true c; omega
    have s1 : s = 1 := hs.resolve_left (fun e => by rw [e] at g2; simp at g2; omega)
    rw [mid (i := i) (j := j) (by omega) (by omega)]
    obtain ⟨h, hh⟩ : ∃ h, h = (i + j) / 2 := ⟨_, rfl⟩
    rw [← hh]
    have hhl : h < m.length := by omega
    obtain ⟨x, hx⟩ := getI hhl
    obtain ⟨q1, q2⟩ := pw_le hp hx
    rw [wr1i hhl (by omega)]
    refine onNat_mk rfl (need_mk ⟨s1, iel hx (ifB_f (by simp) (ifB_mk (fun d => ?_) (fun d => ?_)))⟩)
    · have d := of_decide_eq_true d
      have := hn (h + 1) j ⟨by omega, g2, all_take hx (fun y hy => by have := q1 y hy; omega) d, g4⟩ (by omega)
      rw [sh110, nl_length] at this
      exact this
    · have d := of_decide_eq_false d
      have := hn i h ⟨by omega, by omega, g3, fun y hy => by
        rw [List.drop_eq_getElem_cons hhl, (List.getElem?_eq_some_iff.1 hx).2] at hy
        rcases List.mem_cons.1 hy with rfl | hy
        · omega
        · have := q2 y hy; omega⟩ (by omega)
      rw [sh110, nl_length] at this
      exact this
  · have hij : i = j := by have := of_decide_eq_false c; omega
    have fin : ∀ e, R (.tup [iv (i : Int), bv e]) := fun e => h i e (by omega) g3 (by rw [hij]; exact g4)
    refine ifB_mk (fun c => ?_) (fun c => fin _)
    have hlt : i < m.length := by have := of_decide_eq_true c; omega
    have s1 : s = 1 := hs.resolve_left (fun e => by rw [e] at hlt; simp at hlt)
    obtain ⟨x, hx⟩ := getI hlt
    exact need_mk ⟨s1, iel hx (ifB_mk (fun _ => fin _) (fun _ => need_mk ⟨s1, iel hx (ifB_mk (fun _ => fin _) (fun _ => fin _))⟩))⟩
def cntL (m : List Int) (t : Int) : Nat := (m.takeWhile fun x => decide (x ≤ t)).length
theorem cntL_eq (t : Int) : ∀ (m : List Int) (i : Nat), i ≤ m.length → (∀ x ∈ m.take i, x < t + 1) → (∀ x ∈ m.drop i, t + 1 ≤ x) → i = cntL m t
  | [], i, h, _, _ => by have : i = 0 := by simpa using h
                         subst this; rfl
  | a :: m, 0, h, _, h2 => by
    have := h2 a (List.mem_cons_self ..)
    rw [cntL, List.takeWhile_cons_of_neg (by simp; omega)]; rfl
  | a :: m, i + 1, h, h1, h2 => by
    have := h1 a (by simp)
    rw [cntL, List.takeWhile_cons_of_pos (by simp; omega), List.length_cons]
    exact congrArg (· + 1) (cntL_eq t m i (by simpa using h) (fun x hx => h1 x (by simp [hx])) (fun x hx => h2 x (by simpa using hx)))
theorem cntL_le (m : List Int) (t : Int) : cntL m t ≤ m.length := (List.takeWhile_sublist _).length_le
def stOf (m : List Int) (t c : Int) : Int := if cntL m t = 0 then 0 else if m.getD (cntL m t - 1) 0 > t - c then 2 else if cntL m t % 2 = 0 then 0 else 1
theorem at98 {s : Nat} {m : List Int} {t c : Int} {R : V → Prop} (hs : m = [] ∨ s = 1) (hl : m.length ≤ 1000) (hp : m.Pairwise (· < ·)) (ht : -9000 ≤ t ∧ t ≤ 9000) (hc : -9000 ≤ c ∧ c ≤ 9000) (h : R (.raw (.int .u8 (stOf m t c)))) : K0G Try.prog glX 98 [.lst s (nl m), iv t, iv c] R := by
  refine K0_of_WY0 hmX hcY 3000 Try.func98 (see (p := K0G Try.prog glX 110 [V.lst s (nl m), iv (IntKind.i64.wrap (t + (1 : Int)))] fun v => onTup v fun vs => onCons vs fun u r => onIntK IntKind.i64 u fun n => onCons r fun u r => onBool u fun b => onNil r (ifB (n == (0 : Int)) (R (V.raw (Value.int IntKind.u8 (0 : Int)))) (onNat (IntKind.i64.wrap (n - (1 : Int))) fun m_1 => need (s = 1) (onSome (nl m)[m_1]? fun row => onSome row[0]? fun v => onIntK IntKind.i64 v fun n_1 => ifB (decide (n_1 > IntKind.i64.wrap (t - c))) (R (V.raw (Value.int IntKind.u8 (2 : Int)))) (onNat n fun b => need (b ≤ (nl m).length) (guardB (s.beq 1 || (nl m).isEmpty) (ifB ((↑(sub (nl m) 0 (b - 0)).length : Int).tmod (2 : Int) == (0 : Int)) (R (V.raw (Value.int IntKind.u8 (0 : Int)))) (R (V.raw (Value.int IntKind.u8 (1 : Int))))))))))) (by kernel_rfl) ?_)
  rw [wr (n := t + 1) (by omega) (by omega), wr (n := t - c) (by omega) (by omega)]
  refine search110 hs hl hp (fun i e h1 h2 h3 => ?_)
  unfold stOf at h
  rw [← cntL_eq t m i h1 h2 h3] at h
  refine onTup_tup (onCons_cons (onIntK_iv (onCons_cons (onBool_bv (onNil_nil (ifB_mk (fun d => ?_) (fun d => ?_)))))))
  · rw [if_pos (by simpa using d)] at h; exact h
  · have hi : i ≠ 0 := by simpa using d
    rw [if_neg hi] at h
    have s1 : s = 1 := hs.resolve_left (fun e => by rw [e] at h1; simp at h1; exact hi h1)
    refine onNat_mk (m := i - 1) (by rw [wr (by omega) (by omega)]; omega) (need_mk ⟨s1, iel (getK (d := 0) (by omega)) (ifB_mk (fun d1 => ?_) (fun d1 => ?_))⟩)
    · rw [if_pos (of_decide_eq_true d1)] at h; exact h
    · rw [if_neg (of_decide_eq_false d1)] at h
      refine onNat_mk rfl (need_mk ⟨by rw [nl_length]; exact h1, guardB_iff.2 ⟨by simp [s1], ?_⟩⟩)
      have hq : ((sub (nl m) 0 (i - 0)).length : Int) = (i : Int) := by rw [sub, List.drop_zero, List.length_take, nl_length]; omega
      rw [hq, show ((i : Int).tmod 2) = ((i % 2 : Nat) : Int) from rfl]
      refine ifB_mk (fun d2 => ?_) (fun d2 => ?_)
      · rw [if_pos (by simp at d2; omega)] at h; exact h
      · rw [if_neg (by simp at d2; omega)] at h; exact h
end Go.Proofs.Ytmdimnmdoifkfaa
namespace Go.Proofs.Ytmdimnmdoifkfaa
open Go Go.Proofs.Ytmdimnmdoifkfaa.Clean
set_option linter.unusedVariables false
set_option linter.unusedSimpArgs false
set_option maxRecDepth 10000
theorem lsI_cases (m : List Int) : ∃ s, (m = [] ∨ s = 1) ∧ ∀ k : Nat → List (List V) → Prop, k s (nl m) → onLst (lsI m) k := by
  cases m with
  | nil => exact ⟨0, .inl rfl, fun k h => h⟩
  | cons x t => exact ⟨1, .inr rfl, fun k h => h⟩
theorem onIntK_iv8 {n : Int} {k : Int → Prop} (h : k n) : onIntK IntKind.u8 (.raw (.int .u8 n)) k := h
def lvN (b : Bt) (x : Fd) (T : List (List Int)) : Nat → Nat → Int × Bool
  | 0, _ => (-1, true)
  | n + 1, k => if stOf (T.getD k []) (x.1 + (gt b k).1) b.S = 2 then (-1, false) else if stOf (T.getD k []) (x.1 + (gt b k).1) b.S = 1 then ((k : Int), true) else lvN b x T n (k + 1)
def lvF (b : Bt) (x : Fd) (T : List (List Int)) : Int × Bool := lvN b x T b.gs.length 0
theorem leave70 {b : Bt} {x : Fd} {T : List (List Int)} {R : V → Prop} (hb : BtP b) (hx : F1 x) (hT : T.length = b.gs.length) (hm : ∀ m ∈ T, m.length ≤ 1000 ∧ m.Pairwise (· < ·)) (h : R (.tup [iv (lvF b x T).1, bv (lvF b x T).2])) : K0G Try.prog glX 70 [.agg (bel b), .agg (fdr x), .lst 1 (tbl T)] R := by
  refine K0_of_WY0 hmX hcY 3000 Try.func70 (see (p := La 0 [(2 : Tmp), (3 : Tmp), (4 : Tmp), (11 : Tmp), (12 : Tmp), (13 : Tmp)] (WY Try.prog cfY 2995 (Env.mk (Bs.mk 0 []) 0 none 36 70 0) (cdAt [1, 0, 1, 0, 0] (bodyOf Try.f70))) (Qblk 0 (Qthen (WY Try.prog cfY 2998 (Env.mk (Bs.mk 0 []) 0 none 36 70 0) (cdAt [1, 1] (bodyOf Try.f70)) (QendX Try.prog Try.f70 fun v h => R (frzW h v))) (QendX Try.prog Try.f70 fun v h => R (frzW h v)))) (St.mk (mkT [(2, V.lst 1 (tbl T)), (3, V.ptr (Id.p 0) 0 0), (4, V.ptr (Id.p 1) 0 0), (11, V.lst 2 (gl b.4)), (12, iv (↑(gl b.4).length : Int)), (13, iv (0 : Int))]) (Hp.mk [(0, O.rows 5 false [[iv b.1, iv b.2, iv b.3, V.lst 2 (gl b.4), V.lst 1 (nl b.5)]]), (1, O.rows 3 false [[iv x.1, iv x.2.1, V.lst 1 (nl x.2.2)]])] 2 []))) (by kernel_rfl) ?_)
  have hg8 := hb.2.2.2.1
  obtain ⟨hC1, hC2, hC3, hC4⟩ := hb.1
  have hS := hb.2.1
  have hS' := hb.2.2.1
  have a1 := hx.1; have a2 := hx.2.1
  refine La.of (σ := Nat) (fun k => sh70 b x T k) (fun k => k ≤ b.gs.length ∧ lvN b x T (b.gs.length - k) k = lvF b x T) (fun k => b.gs.length - k) 0 (by kernel_rfl) ⟨Nat.zero_le _, rfl⟩ ?_
  rintro k ⟨g1, g2⟩ J hJ
  refine see (p := ifB (decide ((↑k : Int) < (↑(gl b.4).length : Int))) (onSome (gl b.4)[k]? fun row => onCons (List.drop 0 row) fun u r => onIntK IntKind.i64 u fun n => onCons r fun u r => onIntK IntKind.i64 u fun n_1 => onSome (tbl T)[k]? fun row => onSome row[0]? fun v => onLst v fun s es => K0G Try.prog glX 98 [V.lst s es, iv (IntKind.i64.wrap (x.1 + n)), iv b.3] fun v => onIntK IntKind.u8 v fun n => ifB (n == (2 : Int)) (R (V.tup [iv (-1 : Int), bv false])) (ifB (n == (1 : Int)) (R (V.tup [iv (↑k : Int), bv true])) (J (St.mk (mkT [(2, V.lst 1 (tbl T)), (3, V.ptr (Id.p 0) 0 0), (4, V.ptr (Id.p 1) 0 0), (11, V.lst 2 (gl b.4)), (12, iv (↑(gl b.4).length : Int)), (13, iv (IntKind.i64.wrap ((↑k : Int) + (1 : Int))))]) (Hp.mk [(0, O.rows 5 false [[iv b.1, iv b.2, iv b.3, V.lst 2 (gl b.4), V.lst 1 (nl b.5)]]), (1, O.rows 3 false [[iv x.1, iv x.2.1, V.lst 1 (nl x.2.2)]])] 2 []))))) (R (V.tup [iv (-1 : Int), bv true]))) (by kernel_rfl) ?_
  rw [← g2] at h
  rw [gl_length]
  refine ifB_mk (fun c => ?_) (fun c => ?_)
  · have hlt : k < b.gs.length := by have := of_decide_eq_true c; omega
    have hgm := hb.2.2.2.2.1.1 _ (mem_at (gt_get hlt))
    have q1 := hgm.1; have q2 := hgm.2.1; have q3 := hgm.2.2.1
    have hTk : T[k]? = some (T.getD k []) := getK (by omega)
    obtain ⟨hml, hmp⟩ := hm _ (mem_at hTk)
    obtain ⟨s, hs, hls⟩ := lsI_cases (T.getD k [])
    rw [show b.gs.length - k = (b.gs.length - (k + 1)) + 1 from by omega, lvN] at h g2
    refine gel (gt_get hlt) (onSome_mk (x := [lsI (T.getD k [])]) (by rw [tbl, List.getElem?_map, hTk]; rfl) (onSome_mk (x := lsI (T.getD k [])) rfl (hls _ ?_)))
    rw [wr (n := x.1 + (gt b k).1) (by omega) (by omega), wr1i hlt (by omega)]
    refine at98 hs hml hmp (by omega) (by omega) ?_
    generalize stOf (T.getD k []) (x.1 + (gt b k).1) b.S = st at h g2
    refine onIntK_iv8 (ifB_mk (fun d => ?_) (fun d => ?_))
    · rw [if_pos (by simpa using d)] at h; exact h
    · rw [if_neg (by simpa using d)] at h g2
      refine ifB_mk (fun d1 => ?_) (fun d1 => ?_)
      · rw [if_pos (by simpa using d1)] at h; exact h
      · rw [if_neg (by simpa using d1)] at h g2
        have := hJ (k + 1) ⟨hlt, g2⟩ (by omega)
        rw [sh70, gl_length] at this
        exact this
  · have hk : b.gs.length - k = 0 := by have := of_decide_eq_false c; omega
    rw [hk, lvN] at h
    exact h
def pasN (c g t : Int) : List Sw → Bool → Bool × Bool
  | [], e => (false, e)
  | x :: l, e => if x.2.1 ≠ g ∨ x.1 > t then pasN c g t l e else if t - x.1 < c then (true, e) else pasN c g t l x.2.2
theorem passes72 {b : Bt} {l : List Sw} {g t : Int} {R : V → Prop} (hl : l.length ≤ 900) (hI : ∀ x ∈ l, In64 x.1) (ht : In64 t) (hc : 0 ≤ b.S ∧ b.S ≤ 1000) (h : R (.tup [bv (pasN b.S g t l false).1, bv (pasN b.S g t l false).2])) : K0G Try.prog glX 72 [.agg (bel b), .lst 3 (swl l), iv g, iv t] R := by
  refine K0_of_WY0 hmX hcY 3000 Try.func72 (see (p := La 0 [(1 : Tmp), (2 : Tmp), (3 : Tmp), (4 : Tmp), (10 : Tmp), (11 : Tmp)] (WY Try.prog cfY 2994 (Env.mk (Bs.mk 0 []) 0 none 50 72 0) (cdAt [1, 1, 0, 1, 0, 0] (bodyOf Try.f72))) (Qblk 0 (Qthen (WY Try.prog cfY 2997 (Env.mk (Bs.mk 0 []) 0 none 50 72 0) (cdAt [1, 1, 1] (bodyOf Try.f72)) (QendX Try.prog Try.f72 fun v h => R (frzW h v))) (QendX Try.prog Try.f72 fun v h => R (frzW h v)))) (St.mk (mkT [(1, V.lst 3 (swl l)), (2, iv g), (3, iv t), (4, V.ptr (Id.p 0) 0 0), (10, bv false), (11, iv (0 : Int))]) (Hp.mk [(0, O.rows 5 false [[iv b.1, iv b.2, iv b.3, V.lst 2 (gl b.4), V.lst 1 (nl b.5)]])] 1 []))) (by kernel_rfl) ?_)
  refine La.of (σ := Bool × Nat) (fun s => sh72 b l g t s.1 s.2) (fun s => s.2 ≤ l.length ∧ pasN b.S g t (l.drop s.2) s.1 = pasN b.S g t l false) (fun s => l.length - s.2) (false, 0) (by kernel_rfl) ⟨Nat.zero_le _, rfl⟩ ?_
  rintro ⟨e, k⟩ ⟨g1, g2⟩ J hJ
  simp only at g1 g2
  refine see (p := ifB (decide ((↑k : Int) < (↑(swl l).length : Int))) (onSome (swl l)[k]? fun row => onSome row[1]? fun v => onIntK IntKind.i64 v fun n => ifB (n != g) (J (St.mk (mkT [(1, V.lst 3 (swl l)), (2, iv g), (3, iv t), (4, V.ptr (Id.p 0) 0 0), (10, bv e), (11, iv (IntKind.i64.wrap ((↑k : Int) + (1 : Int))))]) (Hp.mk [(0, O.rows 5 false [[iv b.1, iv b.2, iv b.3, V.lst 2 (gl b.4), V.lst 1 (nl b.5)]])] 1 []))) (onSome (swl l)[k]? fun row => onSome row[0]? fun v => onIntK IntKind.i64 v fun n => ifB (decide (n > t)) (J (St.mk (mkT [(1, V.lst 3 (swl l)), (2, iv g), (3, iv t), (4, V.ptr (Id.p 0) 0 0), (10, bv e), (11, iv (IntKind.i64.wrap ((↑k : Int) + (1 : Int))))]) (Hp.mk [(0, O.rows 5 false [[iv b.1, iv b.2, iv b.3, V.lst 2 (gl b.4), V.lst 1 (nl b.5)]])] 1 []))) (onSome (swl l)[k]? fun row => onSome row[0]? fun v => onIntK IntKind.i64 v fun n => ifB (decide (IntKind.u64.wrap (IntKind.u64.wrap t - IntKind.u64.wrap n) < IntKind.u64.wrap b.3)) (R (V.tup [bv true, bv e])) (onSome (swl l)[k]? fun row => onSome row[2]? fun v => onBool v fun b_1 => J (St.mk (mkT [(1, V.lst 3 (swl l)), (2, iv g), (3, iv t), (4, V.ptr (Id.p 0) 0 0), (10, bv b_1), (11, iv (IntKind.i64.wrap ((↑k : Int) + (1 : Int))))]) (Hp.mk [(0, O.rows 5 false [[iv b.1, iv b.2, iv b.3, V.lst 2 (gl b.4), V.lst 1 (nl b.5)]])] 1 [])))))) (R (V.tup [bv false, bv e]))) (by kernel_rfl) ?_
  rw [← g2] at h
  rw [swl_length]
  refine ifB_mk (fun c => ?_) (fun c => ?_)
  · have hlt : k < l.length := by have := of_decide_eq_true c; omega
    obtain ⟨x, hx⟩ := getI hlt
    have hd : l.drop k = x :: l.drop (k + 1) := by rw [List.drop_eq_getElem_cons hlt, (List.getElem?_eq_some_iff.1 hx).2]
    have hxs : (swl l)[k]? = some (swr x) := by simp [swl, hx]
    rw [hd, pasN] at h g2
    rw [wr1i hlt (by omega)]
    refine onSome_mk hxs (onSome_mk (x := iv x.2.1) rfl (onIntK_iv (ifB_mk (fun d => ?_) (fun d => ?_))))
    · rw [if_pos (.inl (by simpa using d))] at h g2
      exact hJ (e, k + 1) ⟨hlt, g2⟩ (by simp only; omega)
    · refine onSome_mk hxs (onSome_mk (x := iv x.1) rfl (onIntK_iv (ifB_mk (fun d1 => ?_) (fun d1 => ?_))))
      · rw [if_pos (.inr (of_decide_eq_true d1))] at h g2
        exact hJ (e, k + 1) ⟨hlt, g2⟩ (by simp only; omega)
      · have d1 := of_decide_eq_false d1
        rw [if_neg (by rintro (q | q); · simp at d; exact q d
                       · exact d1 q)] at h g2
        refine onSome_mk hxs (onSome_mk (x := iv x.1) rfl (onIntK_iv ?_))
        rw [usub ht (hI x (mem_at hx)) (by omega), usm hc.1 hc.2]
        refine ifB_mk (fun d2 => ?_) (fun d2 => ?_)
        · rw [if_pos (of_decide_eq_true d2)] at h; exact h
        · rw [if_neg (of_decide_eq_false d2)] at h g2
          exact onSome_mk hxs (onSome_mk (x := bv x.2.2) rfl (onBool_bv (hJ (x.2.2, k + 1) ⟨hlt, g2⟩ (by simp only; omega))))
  · rw [List.drop_of_length_le (by have := of_decide_eq_false c; omega), pasN] at h
    exact h
end Go.Proofs.Ytmdimnmdoifkfaa
namespace Go.Proofs.Ytmdimnmdoifkfaa
open Go Go.Proofs.Ytmdimnmdoifkfaa.Clean
set_option linter.unusedVariables false
set_option linter.unusedSimpArgs false
set_option maxRecDepth 10000
def prevS (g : Int) (a : List Sw) : Option Sw := (a.filter fun x => decide (x.2.1 = g)).getLast?
theorem prevS_app (g : Int) (a : List Sw) (x : Sw) : prevS g (a ++ [x]) = if x.2.1 = g then some x else prevS g a := by
  unfold prevS
  rw [List.filter_append]
  split
  · rename_i h; rw [List.filter_cons_of_pos (by simpa using h)]; simp
  · rename_i h; rw [List.filter_cons_of_neg (by simpa using h)]; simp
def okI (b : Bt) (a : List Sw) (x : Sw) : Prop := (0 ≤ x.2.1 ∧ x.2.1 ≤ (b.gs.length : Int) - 1) ∧ (∀ y, a.getLast? = some y → ltK y x) ∧ (∀ y, prevS x.2.1 a = some y → y.2.2 ≠ x.2.2 ∧ y.1 + (if (1 : Int) > b.S then 1 else b.S) ≤ x.1) ∧ (prevS x.2.1 a = none → x.2.2 = true)
def SwP (b : Bt) (u : List Sw) : Prop := ∀ k x, u[k]? = some x → okI b (u.take k) x
theorem sorted_app {a : List Sw} {x : Sw} (ha : Sorted a) (hx : ∀ y, a.getLast? = some y → ltK y x) : Sorted (a ++ [x]) := by
  refine List.pairwise_append.2 ⟨ha, by simp, fun y hy z hz => ?_⟩
  have hz : z = x := by simpa using hz
  subst hz
  rcases List.eq_nil_or_concat a with rfl | ⟨c, w, rfl⟩
  · simp at hy
  · rw [List.concat_eq_append] at *
    have hw := hx w (by simp)
    rcases List.mem_append.1 hy with hy | hy
    · exact ltK_trans ((List.pairwise_append.1 ha).2.2 y hy w (by simp)) hw
    · have : y = w := by simpa using hy
      rw [this]; exact hw
theorem prevS_mem {g : Int} {a : List Sw} {y : Sw} (h : prevS g a = some y) : y ∈ a := (List.mem_filter.1 (List.mem_of_getLast? h)).1
theorem swung71 {b : Bt} {u : List Sw} {R : V → Prop} (hb : BtP b) (hl : u.length ≤ 900) (hI : ∀ x ∈ u, In64 x.1) (h : R (bv (dc (SwP b u)))) : K0G Try.prog glX 71 [.agg (bel b), .lst 3 (swl u)] R := by
  refine K0_of_WY0 hmX hcY 3000 Try.func71 (see (p := La 0 [(1 : Tmp), (2 : Tmp), (5 : Tmp)] (WY Try.prog cfY 2995 (Env.mk (Bs.mk 0 []) 0 none 103 71 0) (cdAt [1, 0, 1, 0, 0] (bodyOf Try.f71))) (Qblk 0 (Qthen (WY Try.prog cfY 2998 (Env.mk (Bs.mk 0 []) 0 none 103 71 0) (cdAt [1, 1] (bodyOf Try.f71)) (QendX Try.prog Try.f71 fun v h => R (frzW h v))) (QendX Try.prog Try.f71 fun v h => R (frzW h v)))) (St.mk (mkT [(1, V.lst 3 (swl u)), (2, V.ptr (Id.p 0) 0 0), (5, iv (0 : Int))]) (Hp.mk [(0, O.rows 5 false [[iv b.1, iv b.2, iv b.3, V.lst 2 (gl b.4), V.lst 1 (nl b.5)]])] 1 []))) (by kernel_rfl) ?_)
  have hg8 := hb.2.2.2.1
  have hS := hb.2.1
  have hS' := hb.2.2.1
  refine La.of (σ := Nat) (fun k => sh71a b u k) (fun k => k ≤ u.length ∧ (∀ i x, i < k → u[i]? = some x → okI b (u.take i) x) ∧ Sorted (u.take k)) (fun k => u.length - k) 0 (by kernel_rfl) ⟨Nat.zero_le _, fun i x hi => by omega, List.Pairwise.nil⟩ ?_
  rintro k ⟨g1, g2, g3⟩ J hJ
  refine see (p := ifB (decide ((↑k : Int) < (↑(swl u).length : Int))) (onSome (swl u)[k]? fun row => onSome row[1]? fun v => onIntK IntKind.i64 v fun n => ifB (decide (n ≥ (0 : Int))) (ifB (!decide (n ≤ IntKind.i64.wrap ((↑(gl b.4).length : Int) - (1 : Int)))) (R (bv false)) (ifB (decide ((↑k : Int) > (0 : Int))) (onNat (IntKind.i64.wrap ((↑k : Int) - (1 : Int))) fun m => onSome (swl u)[m]? fun row => onCons (List.drop 0 row) fun u_1 r => onIntK IntKind.i64 u_1 fun n => onCons r fun u_2 r => onIntK IntKind.i64 u_2 fun n_1 => onCons r fun u_3 r => onBool u_3 fun b_1 => onSome (swl u)[k]? fun row => onCons (List.drop 0 row) fun u_4 r => onIntK IntKind.i64 u_4 fun n_2 => onCons r fun u_5 r => onIntK IntKind.i64 u_5 fun n_3 => onCons r fun u_6 r => onBool u_6 fun b_2 => ifB (decide (n < n_2)) (La 0 [(1 : Tmp), (2 : Tmp), (5 : Tmp), (6 : Tmp)] (WY Try.prog cfY 2987 (Env.mk (Bs.mk 0 []) 0 none 103 71 2) (cdAt [1, 0, 1, 0, 0, 1, 0, 0, 1, 1, 0, 0, 0] (bodyOf Try.f71))) (Qblk 2 (Qthen (WY Try.prog cfY 2989 (Env.mk (Bs.mk 0 []) 0 none 103 71 1) (cdAt [1, 0, 1, 0, 0, 1, 0, 0, 1, 1, 1] (bodyOf Try.f71)) (Qblk 1 (Qthen (WY Try.prog cfY 2993 (Env.mk (Bs.mk 0 []) 0 none 103 71 0) (cdAt [1, 0, 1, 0, 0, 1, 1] (bodyOf Try.f71)) (Qla 0 [(1 : Tmp), (2 : Tmp), (5 : Tmp)] J (Qblk 0 (Qthen (WY Try.prog cfY 2998 (Env.mk (Bs.mk 0 []) 0 none 103 71 0) (cdAt [1, 1] (bodyOf Try.f71)) (QendX Try.prog Try.f71 fun v h => R (frzW h v))) (QendX Try.prog Try.f71 fun v h => R (frzW h v)))))) (Qla 0 [(1 : Tmp), (2 : Tmp), (5 : Tmp)] J (Qblk 0 (Qthen (WY Try.prog cfY 2998 (Env.mk (Bs.mk 0 []) 0 none 103 71 0) (cdAt [1, 1] (bodyOf Try.f71)) (QendX Try.prog Try.f71 fun v h => R (frzW h v))) (QendX Try.prog Try.f71 fun v h => R (frzW h v)))))))) (Qblk 1 (Qthen (WY Try.prog cfY 2993 (Env.mk (Bs.mk 0 []) 0 none 103 71 0) (cdAt [1, 0, 1, 0, 0, 1, 1] (bodyOf Try.f71)) (Qla 0 [(1 : Tmp), (2 : Tmp), (5 : Tmp)] J (Qblk 0 (Qthen (WY Try.prog cfY 2998 (Env.mk (Bs.mk 0 []) 0 none 103 71 0) (cdAt [1, 1] (bodyOf Try.f71)) (QendX Try.prog Try.f71 fun v h => R (frzW h v))) (QendX Try.prog Try.f71 fun v h => R (frzW h v)))))) (Qla 0 [(1 : Tmp), (2 : Tmp), (5 : Tmp)] J (Qblk 0 (Qthen (WY Try.prog cfY 2998 (Env.mk (Bs.mk 0 []) 0 none 103 71 0) (cdAt [1, 1] (bodyOf Try.f71)) (QendX Try.prog Try.f71 fun v h => R (frzW h v))) (QendX Try.prog Try.f71 fun v h => R (frzW h v))))))))) (St.mk (mkT [(1, V.lst 3 (swl u)), (2, V.ptr (Id.p 0) 0 0), (5, iv (↑k : Int)), (6, iv (IntKind.i64.wrap ((↑k : Int) - (1 : Int))))]) (Hp.mk [(0, O.rows 5 false [[iv b.1, iv b.2, iv b.3, V.lst 2 (gl b.4), V.lst 1 (nl b.5)]])] 1 []))) (ifB (n == n_2) (ifB (!decide (n_1 < n_3)) (R (bv false)) (La 0 [(1 : Tmp), (2 : Tmp), (5 : Tmp), (6 : Tmp)] (WY Try.prog cfY 2987 (Env.mk (Bs.mk 0 []) 0 none 103 71 2) (cdAt [1, 0, 1, 0, 0, 1, 0, 0, 1, 1, 0, 0, 0] (bodyOf Try.f71))) (Qblk 2 (Qthen (WY Try.prog cfY 2989 (Env.mk (Bs.mk 0 []) 0 none 103 71 1) (cdAt [1, 0, 1, 0, 0, 1, 0, 0, 1, 1, 1] (bodyOf Try.f71)) (Qblk 1 (Qthen (WY Try.prog cfY 2993 (Env.mk (Bs.mk 0 []) 0 none 103 71 0) (cdAt [1, 0, 1, 0, 0, 1, 1] (bodyOf Try.f71)) (Qla 0 [(1 : Tmp), (2 : Tmp), (5 : Tmp)] J (Qblk 0 (Qthen (WY Try.prog cfY 2998 (Env.mk (Bs.mk 0 []) 0 none 103 71 0) (cdAt [1, 1] (bodyOf Try.f71)) (QendX Try.prog Try.f71 fun v h => R (frzW h v))) (QendX Try.prog Try.f71 fun v h => R (frzW h v)))))) (Qla 0 [(1 : Tmp), (2 : Tmp), (5 : Tmp)] J (Qblk 0 (Qthen (WY Try.prog cfY 2998 (Env.mk (Bs.mk 0 []) 0 none 103 71 0) (cdAt [1, 1] (bodyOf Try.f71)) (QendX Try.prog Try.f71 fun v h => R (frzW h v))) (QendX Try.prog Try.f71 fun v h => R (frzW h v)))))))) (Qblk 1 (Qthen (WY Try.prog cfY 2993 (Env.mk (Bs.mk 0 []) 0 none 103 71 0) (cdAt [1, 0, 1, 0, 0, 1, 1] (bodyOf Try.f71)) (Qla 0 [(1 : Tmp), (2 : Tmp), (5 : Tmp)] J (Qblk 0 (Qthen (WY Try.prog cfY 2998 (Env.mk (Bs.mk 0 []) 0 none 103 71 0) (cdAt [1, 1] (bodyOf Try.f71)) (QendX Try.prog Try.f71 fun v h => R (frzW h v))) (QendX Try.prog Try.f71 fun v h => R (frzW h v)))))) (Qla 0 [(1 : Tmp), (2 : Tmp), (5 : Tmp)] J (Qblk 0 (Qthen (WY Try.prog cfY 2998 (Env.mk (Bs.mk 0 []) 0 none 103 71 0) (cdAt [1, 1] (bodyOf Try.f71)) (QendX Try.prog Try.f71 fun v h => R (frzW h v))) (QendX Try.prog Try.f71 fun v h => R (frzW h v))))))))) (St.mk (mkT [(1, V.lst 3 (swl u)), (2, V.ptr (Id.p 0) 0 0), (5, iv (↑k : Int)), (6, iv (IntKind.i64.wrap ((↑k : Int) - (1 : Int))))]) (Hp.mk [(0, O.rows 5 false [[iv b.1, iv b.2, iv b.3, V.lst 2 (gl b.4), V.lst 1 (nl b.5)]])] 1 [])))) (R (bv false)))) (La 0 [(1 : Tmp), (2 : Tmp), (5 : Tmp), (6 : Tmp)] (WY Try.prog cfY 2987 (Env.mk (Bs.mk 0 []) 0 none 103 71 2) (cdAt [1, 0, 1, 0, 0, 1, 0, 0, 1, 1, 0, 0, 0] (bodyOf Try.f71))) (Qblk 2 (Qthen (WY Try.prog cfY 2989 (Env.mk (Bs.mk 0 []) 0 none 103 71 1) (cdAt [1, 0, 1, 0, 0, 1, 0, 0, 1, 1, 1] (bodyOf Try.f71)) (Qblk 1 (Qthen (WY Try.prog cfY 2993 (Env.mk (Bs.mk 0 []) 0 none 103 71 0) (cdAt [1, 0, 1, 0, 0, 1, 1] (bodyOf Try.f71)) (Qla 0 [(1 : Tmp), (2 : Tmp), (5 : Tmp)] J (Qblk 0 (Qthen (WY Try.prog cfY 2998 (Env.mk (Bs.mk 0 []) 0 none 103 71 0) (cdAt [1, 1] (bodyOf Try.f71)) (QendX Try.prog Try.f71 fun v h => R (frzW h v))) (QendX Try.prog Try.f71 fun v h => R (frzW h v)))))) (Qla 0 [(1 : Tmp), (2 : Tmp), (5 : Tmp)] J (Qblk 0 (Qthen (WY Try.prog cfY 2998 (Env.mk (Bs.mk 0 []) 0 none 103 71 0) (cdAt [1, 1] (bodyOf Try.f71)) (QendX Try.prog Try.f71 fun v h => R (frzW h v))) (QendX Try.prog Try.f71 fun v h => R (frzW h v)))))))) (Qblk 1 (Qthen (WY Try.prog cfY 2993 (Env.mk (Bs.mk 0 []) 0 none 103 71 0) (cdAt [1, 0, 1, 0, 0, 1, 1] (bodyOf Try.f71)) (Qla 0 [(1 : Tmp), (2 : Tmp), (5 : Tmp)] J (Qblk 0 (Qthen (WY Try.prog cfY 2998 (Env.mk (Bs.mk 0 []) 0 none 103 71 0) (cdAt [1, 1] (bodyOf Try.f71)) (QendX Try.prog Try.f71 fun v h => R (frzW h v))) (QendX Try.prog Try.f71 fun v h => R (frzW h v)))))) (Qla 0 [(1 : Tmp), (2 : Tmp), (5 : Tmp)] J (Qblk 0 (Qthen (WY Try.prog cfY 2998 (Env.mk (Bs.mk 0 []) 0 none 103 71 0) (cdAt [1, 1] (bodyOf Try.f71)) (QendX Try.prog Try.f71 fun v h => R (frzW h v))) (QendX Try.prog Try.f71 fun v h => R (frzW h v))))))))) (St.mk (mkT [(1, V.lst 3 (swl u)), (2, V.ptr (Id.p 0) 0 0), (5, iv (↑k : Int)), (6, iv (IntKind.i64.wrap ((↑k : Int) - (1 : Int))))]) (Hp.mk [(0, O.rows 5 false [[iv b.1, iv b.2, iv b.3, V.lst 2 (gl b.4), V.lst 1 (nl b.5)]])] 1 []))))) (R (bv false))) (R (bv true))) (by kernel_rfl) ?_
  rw [swl_length]
  refine ifB_mk (fun c => ?_) (fun c => ?_)
  rotate_left
  · refine rt h (fun i x hx => g2 i x ?_ hx)
    have := (List.getElem?_eq_some_iff.1 hx).1
    have := of_decide_eq_false c
    omega
  have hlt : k < u.length := by have := of_decide_eq_true c; omega
  obtain ⟨x, hx⟩ := getI hlt
  have hxs : (swl u)[k]? = some (swr x) := by simp [swl, hx]
  have bad : ¬ okI b (u.take k) x → R (bv false) := fun hn => rf h (fun hp => hn (hp k x hx))
  have hgl : IntKind.i64.wrap (((gl b.gs).length : Int) - 1) = (b.gs.length : Int) - 1 := by rw [gl_length, wr (by omega) (by omega)]
  have hk1 : IntKind.i64.wrap ((k : Int) - 1) = (k : Int) - 1 := wr (by omega) (by omega)
  have nxt : okI b (u.take k) x → J (sh71a b u (k + 1)) := fun hok => hJ (k + 1) ⟨hlt, fun i y hi hy => by
    by_cases he : i = k
    · subst he; rw [hx] at hy; cases hy; exact hok
    · exact g2 i y (by omega) hy, by rw [take_succ' hx]; exact sorted_app g3 hok.2.1⟩ (by omega)
  clear hJ h g2
  rw [hgl]
  refine onSome_mk hxs (onSome_mk (x := iv x.2.1) rfl (onIntK_iv (ifB_mk (fun d0 => ?_) (fun d0 => bad (fun hp => absurd hp.1.1 (by have := of_decide_eq_false d0; omega))))))
  have d0 := of_decide_eq_true d0
  refine ifB_mk (fun d1 => bad (fun hp => by have := hp.1.2; simp at d1; omega)) (fun d1 => ?_)
  have d1 : x.2.1 ≤ (b.gs.length : Int) - 1 := by simpa using d1
  have la : (∀ y, (u.take k).getLast? = some y → ltK y x) → (La 0 [(1 : Tmp), (2 : Tmp), (5 : Tmp), (6 : Tmp)] (WY Try.prog cfY 2987 (Env.mk (Bs.mk 0 []) 0 none 103 71 2) (cdAt [1, 0, 1, 0, 0, 1, 0, 0, 1, 1, 0, 0, 0] (bodyOf Try.f71))) (Qblk 2 (Qthen (WY Try.prog cfY 2989 (Env.mk (Bs.mk 0 []) 0 none 103 71 1) (cdAt [1, 0, 1, 0, 0, 1, 0, 0, 1, 1, 1] (bodyOf Try.f71)) (Qblk 1 (Qthen (WY Try.prog cfY 2993 (Env.mk (Bs.mk 0 []) 0 none 103 71 0) (cdAt [1, 0, 1, 0, 0, 1, 1] (bodyOf Try.f71)) (Qla 0 [(1 : Tmp), (2 : Tmp), (5 : Tmp)] J (Qblk 0 (Qthen (WY Try.prog cfY 2998 (Env.mk (Bs.mk 0 []) 0 none 103 71 0) (cdAt [1, 1] (bodyOf Try.f71)) (QendX Try.prog Try.f71 fun v h => R (frzW h v))) (QendX Try.prog Try.f71 fun v h => R (frzW h v)))))) (Qla 0 [(1 : Tmp), (2 : Tmp), (5 : Tmp)] J (Qblk 0 (Qthen (WY Try.prog cfY 2998 (Env.mk (Bs.mk 0 []) 0 none 103 71 0) (cdAt [1, 1] (bodyOf Try.f71)) (QendX Try.prog Try.f71 fun v h => R (frzW h v))) (QendX Try.prog Try.f71 fun v h => R (frzW h v)))))))) (Qblk 1 (Qthen (WY Try.prog cfY 2993 (Env.mk (Bs.mk 0 []) 0 none 103 71 0) (cdAt [1, 0, 1, 0, 0, 1, 1] (bodyOf Try.f71)) (Qla 0 [(1 : Tmp), (2 : Tmp), (5 : Tmp)] J (Qblk 0 (Qthen (WY Try.prog cfY 2998 (Env.mk (Bs.mk 0 []) 0 none 103 71 0) (cdAt [1, 1] (bodyOf Try.f71)) (QendX Try.prog Try.f71 fun v h => R (frzW h v))) (QendX Try.prog Try.f71 fun v h => R (frzW h v)))))) (Qla 0 [(1 : Tmp), (2 : Tmp), (5 : Tmp)] J (Qblk 0 (Qthen (WY Try.prog cfY 2998 (Env.mk (Bs.mk 0 []) 0 none 103 71 0) (cdAt [1, 1] (bodyOf Try.f71)) (QendX Try.prog Try.f71 fun v h => R (frzW h v))) (QendX Try.prog Try.f71 fun v h => R (frzW h v))))))))) (St.mk (mkT [(1, V.lst 3 (swl u)), (2, V.ptr (Id.p 0) 0 0), (5, iv (↑k : Int)), (6, iv (IntKind.i64.wrap ((↑k : Int) - (1 : Int))))]) (Hp.mk [(0, O.rows 5 false [[iv b.1, iv b.2, iv b.3, V.lst 2 (gl b.4), V.lst 1 (nl b.5)]])] 1 [])) : Prop) := by
    intro ho
    rw [hk1]
    have hle : ∀ y ∈ u.take k, y.1 ≤ x.1 := fun y hy => by
      rcases (List.pairwise_append.1 (sorted_app g3 ho)).2.2 y hy x (by simp) with q | q
      · omega
      · omega
    refine La.of (σ := Nat) (fun p => sh71b b u k ((p : Int) - 1)) (fun p => p ≤ k ∧ prevS x.2.1 (u.take p) = prevS x.2.1 (u.take k)) (fun p => p) k (by kernel_rfl) ⟨Nat.le_refl _, rfl⟩ ?_
    rintro p ⟨p1, p2⟩ K hK
    obtain ⟨j, hj⟩ : ∃ j : Int, j = (p : Int) - 1 := ⟨_, rfl⟩
    rw [show sh71b b u k ((p : Int) - 1) = sh71b b u k j from by rw [hj]]
    refine see (p := ifB (decide (j ≥ (0 : Int))) (onNat j fun m => onSome (swl u)[m]? fun row => onSome row[1]? fun v => onIntK IntKind.i64 v fun n => onSome (swl u)[k]? fun row => onSome row[1]? fun v => onIntK IntKind.i64 v fun n_1 => ifB (n != n_1) (K (St.mk (mkT [(1, V.lst 3 (swl u)), (2, V.ptr (Id.p 0) 0 0), (5, iv (↑k : Int)), (6, iv (IntKind.i64.wrap (j - (1 : Int))))]) (Hp.mk [(0, O.rows 5 false [[iv b.1, iv b.2, iv b.3, V.lst 2 (gl b.4), V.lst 1 (nl b.5)]])] 1 []))) (ifB (decide (j < (0 : Int))) (onSome (swl u)[k]? fun row => onSome row[2]? fun v => onBool v fun b_1 => ifB (!b_1) (R (bv false)) (ifB (decide (j ≥ (0 : Int))) (onNat j fun m => onSome (swl u)[m]? fun row => onSome row[2]? fun v => onBool v fun b_2 => onSome (swl u)[k]? fun row => onSome row[2]? fun v => onBool v fun b_3 => ifB (b_2 == b_3) (R (bv false)) (onSome (swl u)[k]? fun row => onSome row[0]? fun v => onIntK IntKind.i64 v fun n => onNat j fun m => onSome (swl u)[m]? fun row => onSome row[0]? fun v => onIntK IntKind.i64 v fun n_2 => ifB (decide (IntKind.u64.wrap (IntKind.u64.wrap n - IntKind.u64.wrap n_2) < IntKind.u64.wrap (if (1 : Int) > b.3 then (1 : Int) else b.3))) (R (bv false)) (J (St.mk (mkT [(1, V.lst 3 (swl u)), (2, V.ptr (Id.p 0) 0 0), (5, iv (IntKind.i64.wrap ((↑k : Int) + (1 : Int))))]) (Hp.mk [(0, O.rows 5 false [[iv b.1, iv b.2, iv b.3, V.lst 2 (gl b.4), V.lst 1 (nl b.5)]])] 1 []))))) (J (St.mk (mkT [(1, V.lst 3 (swl u)), (2, V.ptr (Id.p 0) 0 0), (5, iv (IntKind.i64.wrap ((↑k : Int) + (1 : Int))))]) (Hp.mk [(0, O.rows 5 false [[iv b.1, iv b.2, iv b.3, V.lst 2 (gl b.4), V.lst 1 (nl b.5)]])] 1 []))))) (ifB (decide (j ≥ (0 : Int))) (onNat j fun m => onSome (swl u)[m]? fun row => onSome row[2]? fun v => onBool v fun b_1 => onSome (swl u)[k]? fun row => onSome row[2]? fun v => onBool v fun b_2 => ifB (b_1 == b_2) (R (bv false)) (onSome (swl u)[k]? fun row => onSome row[0]? fun v => onIntK IntKind.i64 v fun n => onNat j fun m => onSome (swl u)[m]? fun row => onSome row[0]? fun v => onIntK IntKind.i64 v fun n_2 => ifB (decide (IntKind.u64.wrap (IntKind.u64.wrap n - IntKind.u64.wrap n_2) < IntKind.u64.wrap (if (1 : Int) > b.3 then (1 : Int) else b.3))) (R (bv false)) (J (St.mk (mkT [(1, V.lst 3 (swl u)), (2, V.ptr (Id.p 0) 0 0), (5, iv (IntKind.i64.wrap ((↑k : Int) + (1 : Int))))]) (Hp.mk [(0, O.rows 5 false [[iv b.1, iv b.2, iv b.3, V.lst 2 (gl b.4), V.lst 1 (nl b.5)]])] 1 []))))) (J (St.mk (mkT [(1, V.lst 3 (swl u)), (2, V.ptr (Id.p 0) 0 0), (5, iv (IntKind.i64.wrap ((↑k : Int) + (1 : Int))))]) (Hp.mk [(0, O.rows 5 false [[iv b.1, iv b.2, iv b.3, V.lst 2 (gl b.4), V.lst 1 (nl b.5)]])] 1 [])))))) (ifB (decide (j < (0 : Int))) (onSome (swl u)[k]? fun row => onSome row[2]? fun v => onBool v fun b_1 => ifB (!b_1) (R (bv false)) (ifB (decide (j ≥ (0 : Int))) (onNat j fun m => onSome (swl u)[m]? fun row => onSome row[2]? fun v => onBool v fun b_2 => onSome (swl u)[k]? fun row => onSome row[2]? fun v => onBool v fun b_3 => ifB (b_2 == b_3) (R (bv false)) (onSome (swl u)[k]? fun row => onSome row[0]? fun v => onIntK IntKind.i64 v fun n => onNat j fun m => onSome (swl u)[m]? fun row => onSome row[0]? fun v => onIntK IntKind.i64 v fun n_1 => ifB (decide (IntKind.u64.wrap (IntKind.u64.wrap n - IntKind.u64.wrap n_1) < IntKind.u64.wrap (if (1 : Int) > b.3 then (1 : Int) else b.3))) (R (bv false)) (J (St.mk (mkT [(1, V.lst 3 (swl u)), (2, V.ptr (Id.p 0) 0 0), (5, iv (IntKind.i64.wrap ((↑k : Int) + (1 : Int))))]) (Hp.mk [(0, O.rows 5 false [[iv b.1, iv b.2, iv b.3, V.lst 2 (gl b.4), V.lst 1 (nl b.5)]])] 1 []))))) (J (St.mk (mkT [(1, V.lst 3 (swl u)), (2, V.ptr (Id.p 0) 0 0), (5, iv (IntKind.i64.wrap ((↑k : Int) + (1 : Int))))]) (Hp.mk [(0, O.rows 5 false [[iv b.1, iv b.2, iv b.3, V.lst 2 (gl b.4), V.lst 1 (nl b.5)]])] 1 []))))) (ifB (decide (j ≥ (0 : Int))) (onNat j fun m => onSome (swl u)[m]? fun row => onSome row[2]? fun v => onBool v fun b_1 => onSome (swl u)[k]? fun row => onSome row[2]? fun v => onBool v fun b_2 => ifB (b_1 == b_2) (R (bv false)) (onSome (swl u)[k]? fun row => onSome row[0]? fun v => onIntK IntKind.i64 v fun n => onNat j fun m => onSome (swl u)[m]? fun row => onSome row[0]? fun v => onIntK IntKind.i64 v fun n_1 => ifB (decide (IntKind.u64.wrap (IntKind.u64.wrap n - IntKind.u64.wrap n_1) < IntKind.u64.wrap (if (1 : Int) > b.3 then (1 : Int) else b.3))) (R (bv false)) (J (St.mk (mkT [(1, V.lst 3 (swl u)), (2, V.ptr (Id.p 0) 0 0), (5, iv (IntKind.i64.wrap ((↑k : Int) + (1 : Int))))]) (Hp.mk [(0, O.rows 5 false [[iv b.1, iv b.2, iv b.3, V.lst 2 (gl b.4), V.lst 1 (nl b.5)]])] 1 []))))) (J (St.mk (mkT [(1, V.lst 3 (swl u)), (2, V.ptr (Id.p 0) 0 0), (5, iv (IntKind.i64.wrap ((↑k : Int) + (1 : Int))))]) (Hp.mk [(0, O.rows 5 false [[iv b.1, iv b.2, iv b.3, V.lst 2 (gl b.4), V.lst 1 (nl b.5)]])] 1 [])))))) (by kernel_rfl) ?_
    rw [wr1i hlt (by omega)]
    refine ifB_mk (fun e => ?_) (fun e => ?_)
    · have e' := of_decide_eq_true e
      obtain ⟨q, rfl⟩ : ∃ q, p = q + 1 := ⟨p - 1, by omega⟩
      have hjq : j = (q : Int) := by omega
      obtain ⟨y, hy⟩ := getI (l := u) (k := q) (by omega)
      have hys : (swl u)[q]? = some (swr y) := by simp [swl, hy]
      rw [take_succ' hy, prevS_app] at p2
      refine onNat_mk hjq (onSome_mk hys (onSome_mk (x := iv y.2.1) rfl (onIntK_iv (onSome_mk hxs (onSome_mk (x := iv x.2.1) rfl (onIntK_iv (ifB_mk (fun e1 => ?_) (fun e1 => ?_))))))))
      · rw [if_neg (by simpa using e1)] at p2
        rw [wr (n := j - 1) (by omega) (by omega)]
        have := hK q ⟨by omega, p2⟩ (by omega)
        rw [← hjq] at this
        exact this
      · rw [if_pos (by simpa using e1)] at p2
        have hym := hle y (prevS_mem p2.symm)
        have i1 := hI x (mem_at hx)
        have i2 := hI y (mem_at hy)
        have hmx : 0 ≤ (if (1 : Int) > b.S then 1 else b.S) ∧ (if (1 : Int) > b.S then 1 else b.S) ≤ 1000 := by split <;> omega
        refine ifB_f (decide_eq_false (by omega)) (ifB_t e (onNat_mk hjq (onSome_mk hys (onSome_mk (x := bv y.2.2) rfl (onBool_bv (onSome_mk hxs (onSome_mk (x := bv x.2.2) rfl (onBool_bv (ifB_mk (fun e2 => bad (fun hp => (hp.2.2.1 y p2.symm).1 (by simpa using e2))) (fun e2 => ?_))))))))))
        refine onSome_mk hxs (onSome_mk (x := iv x.1) rfl (onIntK_iv (onNat_mk hjq (onSome_mk hys (onSome_mk (x := iv y.1) rfl (onIntK_iv ?_))))))
        rw [usub i1 i2 hym, usm hmx.1 hmx.2]
        refine ifB_mk (fun e3 => bad (fun hp => ?_)) (fun e3 => nxt ⟨⟨d0, d1⟩, ho, fun z hz => ?_, fun hn => by rw [← p2] at hn; cases hn⟩)
        · have := (hp.2.2.1 y p2.symm).2
          have := of_decide_eq_true e3
          omega
        · rw [← p2] at hz
          cases hz
          have := of_decide_eq_false e3
          exact ⟨by simpa using e2, by omega⟩
    · have e' := of_decide_eq_false e
      have hp0 : p = 0 := by omega
      subst hp0
      have hnone : prevS x.2.1 (u.take k) = none := by rw [← p2]; rfl
      refine ifB_t (decide_eq_true (by omega)) (onSome_mk hxs (onSome_mk (x := bv x.2.2) rfl (onBool_bv (ifB_mk (fun e1 => bad (fun hp => ?_)) (fun e1 => ifB_f (decide_eq_false e') (nxt ⟨⟨d0, d1⟩, ho, fun z hz => ?_, fun _ => by simpa using e1⟩))))))
      · have := hp.2.2.2 hnone
        rw [this] at e1; simp at e1
      · rw [hnone] at hz; cases hz
  rw [hk1] at la
  rw [hk1]
  refine ifB_mk (fun d2 => ?_) (fun d2 => la (fun y hy => by
    have : k = 0 := by have := of_decide_eq_false d2; omega
    rw [this] at hy; simp at hy))
  have d2 := of_decide_eq_true d2
  obtain ⟨y, hy⟩ := getI (l := u) (k := k - 1) (by omega)
  have hlast : (u.take k).getLast? = some y := by rw [show k = (k - 1) + 1 from by omega, take_succ' hy]; simp
  have la' : ltK y x → _ := fun hq => la (fun z hz => by rw [hlast] at hz; cases hz; exact hq)
  have bad' : ¬ ltK y x → R (bv false) := fun hq => bad (fun hp => hq (hp.2.1 y hlast))
  refine onNat_mk (m := k - 1) (by omega) (swel hy (swel hx (ifB_mk (fun d3 => la' (.inl (of_decide_eq_true d3))) (fun d3 => ifB_mk (fun d4 => ifB_mk (fun d5 => bad' ?_) (fun d5 => la' (.inr ⟨by simpa using d4, by simpa using d5⟩))) (fun d4 => bad' ?_)))))
  · rintro (q | q)
    · exact absurd q (of_decide_eq_false d3)
    · simp at d5; have := q.2; omega
  · rintro (q | q)
    · exact absurd q (of_decide_eq_false d3)
    · simp at d4; exact d4 q.1
end Go.Proofs.Ytmdimnmdoifkfaa
namespace Go.Proofs.Ytmdimnmdoifkfaa
open Go Go.Proofs.Ytmdimnmdoifkfaa.Clean
set_option linter.unusedVariables false
set_option maxRecDepth 100000
noncomputable def sh30a (b : Bt) (l : List Fd) (u : List Sw) (k : Nat) : St := ⟨mkT [(1, V.lst 3 (fdl l)), (2, V.lst 3 (swl u)), (3, V.ptr (Id.p 0) 0 0), (9, nilS), (10, iv (k : Int))], hB b⟩
noncomputable def sh30b (b : Bt) (l : List Fd) (u : List Sw) (F : List Ft) (k : Nat) : St := ⟨mkT [(1, V.lst 3 (fdl l)), (2, V.lst 3 (swl u)), (3, V.ptr (Id.p 0) 0 0), (9, V.sl (Id.p 1) 0 F.length), (10, iv (k : Int))], ⟨[(0, O.rows 5 false [bel b]), (1, O.rows 3 true (ftl F))], 2, []⟩⟩
noncomputable def sh30c (b : Bt) (l : List Fd) (u : List Sw) (k : Nat) (x : Ft) (g : Nat) : St := ⟨mkT [(1, V.lst 3 (fdl l)), (2, V.lst 3 (swl u)), (3, V.ptr (Id.p 0) 0 0), (9, nilS), (10, iv (k : Int)), (11, V.ptr (Id.p 1) 0 0), (12, iv (g : Int))], ⟨[(0, O.rows 5 false [bel b]), (1, O.rows 3 false [ftr x])], 2, []⟩⟩
noncomputable def sh30d (b : Bt) (l : List Fd) (u : List Sw) (F : List Ft) (k : Nat) (x : Ft) (g : Nat) : St := ⟨mkT [(1, V.lst 3 (fdl l)), (2, V.lst 3 (swl u)), (3, V.ptr (Id.p 0) 0 0), (9, V.sl (Id.p 1) 0 F.length), (10, iv (k : Int)), (11, V.ptr (Id.p 2) 0 0), (12, iv (g : Int))], ⟨[(0, O.rows 5 false [bel b]), (1, O.rows 3 true (ftl F)), (2, O.rows 3 false [ftr x])], 3, []⟩⟩
noncomputable def sh29a (b : Bt) (l : List Fd) (T : List (List Int)) (k : Nat) : St := ⟨mkT [(3, V.ptr (Id.p 0) 0 0), (9, V.lst 1 (tbl T)), (11, nilS), (33, V.lst 3 (fdl l)), (34, iv ((fdl l).length : Int)), (35, iv (k : Int))], hB b⟩
noncomputable def sh29b (b : Bt) (l : List Fd) (T : List (List Int)) (F : List Ft) (k : Nat) : St := ⟨mkT [(3, V.ptr (Id.p 0) 0 0), (9, V.lst 1 (tbl T)), (11, V.sl (Id.p 1) 0 F.length), (33, V.lst 3 (fdl l)), (34, iv ((fdl l).length : Int)), (35, iv (k : Int))], ⟨[(0, O.rows 5 false [bel b]), (1, O.rows 3 true (ftl F))], 2, []⟩⟩
end Go.Proofs.Ytmdimnmdoifkfaa
namespace Go.Proofs.Ytmdimnmdoifkfaa
open Go Go.Proofs.Ytmdimnmdoifkfaa.Clean
set_option linter.unusedVariables false
set_option linter.unusedSimpArgs false
set_option maxRecDepth 10000
def rfN (b : Bt) (p : Int) (u : List Sw) : Nat → Nat → Ft → Option Ft
  | 0, _, x => some x
  | n + 1, k, x => if x.2.1 < 0 then (if (pasN b.S k (p + (gt b k).1) u false).1 = true then none else if (pasN b.S k (p + (gt b k).1) u false).2 = true then rfN b p u n (k + 1) (x.1, (gt b k).2, p + (gt b k).1) else rfN b p u n (k + 1) x) else some x
def rfX (b : Bt) (u : List Sw) (x : Fd) : Option Ft := rfN b x.1 u b.gs.length 0 (kindOf x.2.2, -1, x.1 + b.L)
def runR (b : Bt) (u : List Sw) : List Fd → Option (List Ft)
  | [] => some []
  | x :: l => match rfX b u x with
    | none => none
    | some f => (runR b u l).map (f :: ·)
def resV : Option (List Ft) → V
  | some F => .tup [lsF F, iv 0]
  | none => .tup [nilS, iv 92]
noncomputable def runV (b : Bt) (l : List Fd) (u : List Sw) (r : Option (List Ft)) : V := if dc (BtP b ∧ FdP l) = true then (if dc (SwP b u) = true then resV r else .tup [nilS, iv 8]) else .tup [nilS, iv (askE b l)]
noncomputable def sh30 (b : Bt) (l : List Fd) (u : List Sw) (F : List Ft) (k : Nat) : St := match F with
  | [] => sh30a b l u k
  | x :: f => sh30b b l u (x :: f) k
theorem sh30_b {b : Bt} {l : List Fd} {u : List Sw} {F : List Ft} {k : Nat} (h : F ≠ []) : sh30 b l u F k = sh30b b l u F k := by cases F with | nil => exact (h rfl).elim | cons x f => rfl
theorem run30 {b : Bt} {l : List Fd} {u : List Sw} {R : V → Prop} (hrl : Rl l) (hu : u.length ≤ 900) (hI : ∀ x ∈ u, In64 x.1) (h : R (runV b l u (runR b u l))) : K0G Try.prog glX 30 [.agg (bel b), .lst 3 (fdl l), .lst 3 (swl u)] R := by
  refine K0_of_WY0 hmX hcY 3000 Try.func30 (see (p := K0G Try.prog glX 45 [V.agg [iv b.1, iv b.2, iv b.3, V.lst 2 (gl b.4), V.lst 1 (nl b.5)]] fun v => onBool v fun b_1 => ifB (!b_1) (R (V.tup [nilS, iv (90 : Int)])) (K0G Try.prog glX 21 [V.lst 3 (fdl l)] fun v => onIntK IntKind.i64 v fun n => ifB (n != (0 : Int)) (R (V.tup [nilS, iv n])) (K0G Try.prog glX 71 [V.agg [iv b.1, iv b.2, iv b.3, V.lst 2 (gl b.4), V.lst 1 (nl b.5)], V.lst 3 (swl u)] fun v => onBool v fun b_2 => ifB (!b_2) (R (V.tup [nilS, iv (8 : Int)])) (La 0 [(1 : Tmp), (2 : Tmp), (3 : Tmp), (9 : Tmp), (10 : Tmp)] (WY Try.prog cfY 2992 (Env.mk (Bs.mk 0 []) 0 none 95 30 0) (cdAt [1, 1, 1, 1, 0, 1, 0, 0] (bodyOf Try.f30))) (Qblk 0 (Qthen (WY Try.prog cfY 2995 (Env.mk (Bs.mk 0 []) 0 none 95 30 0) (cdAt [1, 1, 1, 1, 1] (bodyOf Try.f30)) (QendX Try.prog Try.f30 fun v h => R (frzW h v))) (QendX Try.prog Try.f30 fun v h => R (frzW h v)))) (St.mk (mkT [(1, V.lst 3 (fdl l)), (2, V.lst 3 (swl u)), (3, V.ptr (Id.p 0) 0 0), (9, nilS), (10, iv (0 : Int))]) (Hp.mk [(0, O.rows 5 false [[iv b.1, iv b.2, iv b.3, V.lst 2 (gl b.4), V.lst 1 (nl b.5)]])] 1 [])))))) (by kernel_rfl) ?_)
  refine belt45 (onBool_bv (ifB_mk (fun c => ?_) (fun c => ?_)))
  · have hb : ¬ BtP b := fun hb => by rw [dc_t hb] at c; cases c
    rw [runV, if_neg (by rw [dc_f (fun hp => hb hp.1)]; simp), askE, if_neg (by rw [dc_f hb]; simp)] at h
    exact h
  have hb : BtP b := Classical.byContradiction fun hb => by rw [dc_f hb] at c; cases c
  refine fed21 hrl (onIntK_iv (ifB_mk (fun c1 => ?_) (fun c1 => ?_)))
  · have hf : ¬ FdP l := fun hf => by rw [fedE, if_pos (dc_t hf)] at c1; simp at c1
    rw [runV, if_neg (by rw [dc_f (fun hp => hf hp.2)]; simp), askE, if_pos (dc_t hb)] at h
    exact h
  have hf : FdP l := Classical.byContradiction fun hf => by rw [fedE, if_neg (by rw [dc_f hf]; simp)] at c1; simp at c1
  rw [runV, if_pos (dc_t ⟨hb, hf⟩)] at h
  refine swung71 hb hu hI (onBool_bv (ifB_mk (fun c2 => ?_) (fun c2 => ?_)))
  · rw [if_neg (by intro hq; rw [hq] at c2; cases c2)] at h
    exact h
  rw [if_pos (by cases hq : dc (SwP b u) with | true => rfl | false => rw [hq] at c2; cases c2)] at h
  have hl40 : l.length ≤ 40 := hf.1
  have hg8 := hb.2.2.2.1
  obtain ⟨hC1, hC2, hC3, hC4⟩ := hb.1
  have hS := hb.2.1
  have hS' := hb.2.2.1
  refine La.of (σ := List Ft × Nat) (fun s => sh30 b l u s.1 s.2) (fun s => s.2 ≤ l.length ∧ s.1.length = s.2 ∧ runR b u l = (runR b u (l.drop s.2)).map (s.1 ++ ·)) (fun s => l.length - s.2) ([], 0) (by kernel_rfl) ⟨Nat.zero_le _, rfl, by simp⟩ ?_
  rintro ⟨F, k⟩ ⟨g1, g2, g3⟩ J hJ
  simp only at g1 g2 g3
  have fin : ¬ k < l.length → R (.tup [lsF F, iv 0]) := fun hk => by
    rw [List.drop_of_length_le (by omega)] at g3
    rw [g3] at h
    simpa [runR, resV] using h
  have step : ∀ p, l[k]? = some p → k < l.length → (rfX b u p = none → R (.tup [nilS, iv 92])) ∧ ∀ f, rfX b u p = some f → J (sh30 b l u (F ++ [f]) (k + 1)) := fun p hp hk => by
    rw [List.drop_eq_getElem_cons hk, (List.getElem?_eq_some_iff.1 hp).2, runR] at g3
    refine ⟨fun hn => ?_, fun f hs => ?_⟩
    · rw [hn] at g3
      rw [g3] at h
      exact h
    · rw [hs] at g3
      refine hJ (F ++ [f], k + 1) ⟨hk, by simp [g2], ?_⟩ (by simp only; omega)
      rw [g3]
      simp only [Option.map_map]
      congr 1
      funext z
      simp
  clear hJ h g3 c c1 c2
  by_cases hF : F = []
  · subst hF
    refine see (p := ifB (decide ((↑k : Int) < (↑(fdl l).length : Int))) (onSome (fdl l)[k]? fun row => onSome row[2]? fun v => onLst v fun s es => onSome (fdl l)[k]? fun row => onSome row[0]? fun v => onIntK IntKind.i64 v fun n => K0G Try.prog glX 53 [V.lst s es] fun v => onIntK IntKind.i64 v fun n_1 => La 0 [(1 : Tmp), (2 : Tmp), (3 : Tmp), (9 : Tmp), (10 : Tmp), (11 : Tmp), (12 : Tmp)] (WY Try.prog cfY 2984 (Env.mk (Bs.mk 0 []) 0 none 95 30 2) (cdAt [1, 1, 1, 1, 0, 1, 0, 0, 1, 0, 0, 1, 0, 1, 0, 0] (bodyOf Try.f30))) (Qblk 2 (Qthen (WY Try.prog cfY 2987 (Env.mk (Bs.mk 0 []) 0 none 95 30 1) (cdAt [1, 1, 1, 1, 0, 1, 0, 0, 1, 0, 0, 1, 1] (bodyOf Try.f30)) (Qblk 1 (Qthen (WY Try.prog cfY 2990 (Env.mk (Bs.mk 0 []) 0 none 95 30 0) (cdAt [1, 1, 1, 1, 0, 1, 0, 0, 1, 1] (bodyOf Try.f30)) (Qla 0 [(1 : Tmp), (2 : Tmp), (3 : Tmp), (9 : Tmp), (10 : Tmp)] J (Qblk 0 (Qthen (WY Try.prog cfY 2995 (Env.mk (Bs.mk 0 []) 0 none 95 30 0) (cdAt [1, 1, 1, 1, 1] (bodyOf Try.f30)) (QendX Try.prog Try.f30 fun v h => R (frzW h v))) (QendX Try.prog Try.f30 fun v h => R (frzW h v)))))) (Qla 0 [(1 : Tmp), (2 : Tmp), (3 : Tmp), (9 : Tmp), (10 : Tmp)] J (Qblk 0 (Qthen (WY Try.prog cfY 2995 (Env.mk (Bs.mk 0 []) 0 none 95 30 0) (cdAt [1, 1, 1, 1, 1] (bodyOf Try.f30)) (QendX Try.prog Try.f30 fun v h => R (frzW h v))) (QendX Try.prog Try.f30 fun v h => R (frzW h v)))))))) (Qblk 1 (Qthen (WY Try.prog cfY 2990 (Env.mk (Bs.mk 0 []) 0 none 95 30 0) (cdAt [1, 1, 1, 1, 0, 1, 0, 0, 1, 1] (bodyOf Try.f30)) (Qla 0 [(1 : Tmp), (2 : Tmp), (3 : Tmp), (9 : Tmp), (10 : Tmp)] J (Qblk 0 (Qthen (WY Try.prog cfY 2995 (Env.mk (Bs.mk 0 []) 0 none 95 30 0) (cdAt [1, 1, 1, 1, 1] (bodyOf Try.f30)) (QendX Try.prog Try.f30 fun v h => R (frzW h v))) (QendX Try.prog Try.f30 fun v h => R (frzW h v)))))) (Qla 0 [(1 : Tmp), (2 : Tmp), (3 : Tmp), (9 : Tmp), (10 : Tmp)] J (Qblk 0 (Qthen (WY Try.prog cfY 2995 (Env.mk (Bs.mk 0 []) 0 none 95 30 0) (cdAt [1, 1, 1, 1, 1] (bodyOf Try.f30)) (QendX Try.prog Try.f30 fun v h => R (frzW h v))) (QendX Try.prog Try.f30 fun v h => R (frzW h v))))))))) (St.mk (mkT [(1, V.lst 3 (fdl l)), (2, V.lst 3 (swl u)), (3, V.ptr (Id.p 0) 0 0), (9, nilS), (10, iv (↑k : Int)), (11, V.ptr (Id.p 1) 0 0), (12, iv (0 : Int))]) (Hp.mk [(0, O.rows 5 false [[iv b.1, iv b.2, iv b.3, V.lst 2 (gl b.4), V.lst 1 (nl b.5)]]), (1, O.rows 3 false [[iv n_1, iv (-1 : Int), iv (IntKind.i64.wrap (n + b.1))]])] 2 []))) (R (V.tup [nilS, iv (0 : Int)]))) (by kernel_rfl) ?_
    rw [fdl_length]
    refine ifB_mk (fun c => ?_) (fun c => ?_)
    rotate_left
    · have hk : ¬ k < l.length := by have := of_decide_eq_false c; omega
      exact fin hk
    have hlt : k < l.length := by have := of_decide_eq_true c; omega
    obtain ⟨p, hp⟩ := getI hlt
    obtain ⟨st1, st2⟩ := step p hp hlt
    have fx := hf.2.1 p (mem_at hp)
    have a1 := fx.1; have a2 := fx.2.1
    refine fel2 hp (fel0 hp (seen53 (hrl p (mem_at hp)) (onIntK_iv ?_)))
    rw [wr (n := p.1 + b.L) (by omega) (by omega)]
    refine La.of (σ := Ft × Nat) (fun s => sh30c b l u k s.1 s.2) (fun s => s.2 ≤ b.gs.length ∧ rfN b p.1 u (b.gs.length - s.2) s.2 s.1 = rfX b u p) (fun s => b.gs.length - s.2) ((kindOf p.2.2, -1, p.1 + b.L), 0) (by kernel_rfl) ⟨Nat.zero_le _, rfl⟩ ?_
    rintro ⟨x, g⟩ ⟨i1, i2⟩ K hK
    simp only at i1 i2
    refine see (p := ifB (decide ((↑g : Int) < (↑(gl b.4).length : Int))) (ifB (decide (x.2.1 < (0 : Int))) (onSome (fdl l)[k]? fun row => onSome row[0]? fun v => onIntK IntKind.i64 v fun n => onSome (gl b.4)[g]? fun row => onSome row[0]? fun v => onIntK IntKind.i64 v fun n_1 => K0G Try.prog glX 72 [V.agg [iv b.1, iv b.2, iv b.3, V.lst 2 (gl b.4), V.lst 1 (nl b.5)], V.lst 3 (swl u), iv (↑g : Int), iv (IntKind.i64.wrap (n + n_1))] fun v => onTup v fun vs => onCons vs fun u_1 r => onBool u_1 fun b_1 => onCons r fun u_2 r => onBool u_2 fun b_2 => onNil r (ifB b_1 (R (V.tup [nilS, iv (92 : Int)])) (ifB b_2 (onSome (gl b.4)[g]? fun row => onSome row[1]? fun v => onIntK IntKind.i64 v fun n_2 => K (St.mk (mkT [(1, V.lst 3 (fdl l)), (2, V.lst 3 (swl u)), (3, V.ptr (Id.p 0) 0 0), (9, nilS), (10, iv (↑k : Int)), (11, V.ptr (Id.p 1) 0 0), (12, iv (IntKind.i64.wrap ((↑g : Int) + (1 : Int))))]) (Hp.mk [(0, O.rows 5 false [[iv b.1, iv b.2, iv b.3, V.lst 2 (gl b.4), V.lst 1 (nl b.5)]]), (1, O.rows 3 false [[iv x.1, iv n_2, iv (IntKind.i64.wrap (n + n_1))]])] 2 []))) (K (St.mk (mkT [(1, V.lst 3 (fdl l)), (2, V.lst 3 (swl u)), (3, V.ptr (Id.p 0) 0 0), (9, nilS), (10, iv (↑k : Int)), (11, V.ptr (Id.p 1) 0 0), (12, iv (IntKind.i64.wrap ((↑g : Int) + (1 : Int))))]) (Hp.mk [(0, O.rows 5 false [[iv b.1, iv b.2, iv b.3, V.lst 2 (gl b.4), V.lst 1 (nl b.5)]]), (1, O.rows 3 false [[iv x.1, iv x.2.1, iv x.2.2]])] 2 [])))))) (J (St.mk (mkT [(1, V.lst 3 (fdl l)), (2, V.lst 3 (swl u)), (3, V.ptr (Id.p 0) 0 0), (9, V.sl (Id.p 1) 0 1), (10, iv (IntKind.i64.wrap ((↑k : Int) + (1 : Int))))]) (Hp.mk [(0, O.rows 5 false [[iv b.1, iv b.2, iv b.3, V.lst 2 (gl b.4), V.lst 1 (nl b.5)]]), (1, O.rows 3 true [[iv x.1, iv x.2.1, iv x.2.2]])] 2 [])))) (J (St.mk (mkT [(1, V.lst 3 (fdl l)), (2, V.lst 3 (swl u)), (3, V.ptr (Id.p 0) 0 0), (9, V.sl (Id.p 1) 0 1), (10, iv (IntKind.i64.wrap ((↑k : Int) + (1 : Int))))]) (Hp.mk [(0, O.rows 5 false [[iv b.1, iv b.2, iv b.3, V.lst 2 (gl b.4), V.lst 1 (nl b.5)]]), (1, O.rows 3 true [[iv x.1, iv x.2.1, iv x.2.2]])] 2 [])))) (by kernel_rfl) ?_
    rw [gl_length, wr1i hlt (by omega)]
    have done : rfX b u p = some x → _ := fun hx => hJ' rfl (st2 x hx)
    refine ifB_mk (fun d => ?_) (fun d => done (by rw [← i2, show b.gs.length - g = 0 from by have := of_decide_eq_false d; omega]; rfl))
    have hg : g < b.gs.length := by have := of_decide_eq_true d; omega
    rw [show b.gs.length - g = (b.gs.length - (g + 1)) + 1 from by omega, rfN] at i2
    refine ifB_mk (fun d1 => ?_) (fun d1 => done (by rw [← i2, if_neg (of_decide_eq_false d1)]))
    rw [if_pos (of_decide_eq_true d1)] at i2
    have hgm := hb.2.2.2.2.1.1 _ (mem_at (gt_get hg))
    have q1 := hgm.1; have q2 := hgm.2.1
    refine fel0 hp (gel0 (gt_get hg) ?_)
    rw [wr (n := p.1 + (gt b g).1) (by omega) (by omega), wr1i hg (by omega)]
    refine passes72 hu hI ⟨by omega, by omega⟩ ⟨by omega, by omega⟩ (onTup_tup (onCons_cons (onBool_bv (onCons_cons (onBool_bv (onNil_nil (ifB_mk (fun e => ?_) (fun e => ?_))))))))
    · rw [if_pos e] at i2
      exact st1 i2.symm
    · rw [if_neg (by rw [e]; simp)] at i2
      refine ifB_mk (fun e1 => gel1 (gt_get hg) ?_) (fun e1 => ?_)
      · rw [if_pos e1] at i2
        exact hK ((x.1, (gt b g).2, p.1 + (gt b g).1), g + 1) ⟨hg, i2⟩ (by simp only; omega)
      · rw [if_neg (by rw [e1]; simp)] at i2
        exact hK (x, g + 1) ⟨hg, i2⟩ (by simp only; omega)
  · rw [show sh30 b l u (F, k).1 (F, k).2 = sh30b b l u F k from sh30_b hF]
    refine see (p := ifB (decide ((↑k : Int) < (↑(fdl l).length : Int))) (onSome (fdl l)[k]? fun row => onSome row[2]? fun v => onLst v fun s es => onSome (fdl l)[k]? fun row => onSome row[0]? fun v => onIntK IntKind.i64 v fun n => K0G Try.prog glX 53 [V.lst s es] fun v => onIntK IntKind.i64 v fun n_1 => La 0 [(1 : Tmp), (2 : Tmp), (3 : Tmp), (9 : Tmp), (10 : Tmp), (11 : Tmp), (12 : Tmp)] (WY Try.prog cfY 2984 (Env.mk (Bs.mk 0 []) 0 none 95 30 2) (cdAt [1, 1, 1, 1, 0, 1, 0, 0, 1, 0, 0, 1, 0, 1, 0, 0] (bodyOf Try.f30))) (Qblk 2 (Qthen (WY Try.prog cfY 2987 (Env.mk (Bs.mk 0 []) 0 none 95 30 1) (cdAt [1, 1, 1, 1, 0, 1, 0, 0, 1, 0, 0, 1, 1] (bodyOf Try.f30)) (Qblk 1 (Qthen (WY Try.prog cfY 2990 (Env.mk (Bs.mk 0 []) 0 none 95 30 0) (cdAt [1, 1, 1, 1, 0, 1, 0, 0, 1, 1] (bodyOf Try.f30)) (Qla 0 [(1 : Tmp), (2 : Tmp), (3 : Tmp), (9 : Tmp), (10 : Tmp)] J (Qblk 0 (Qthen (WY Try.prog cfY 2995 (Env.mk (Bs.mk 0 []) 0 none 95 30 0) (cdAt [1, 1, 1, 1, 1] (bodyOf Try.f30)) (QendX Try.prog Try.f30 fun v h => R (frzW h v))) (QendX Try.prog Try.f30 fun v h => R (frzW h v)))))) (Qla 0 [(1 : Tmp), (2 : Tmp), (3 : Tmp), (9 : Tmp), (10 : Tmp)] J (Qblk 0 (Qthen (WY Try.prog cfY 2995 (Env.mk (Bs.mk 0 []) 0 none 95 30 0) (cdAt [1, 1, 1, 1, 1] (bodyOf Try.f30)) (QendX Try.prog Try.f30 fun v h => R (frzW h v))) (QendX Try.prog Try.f30 fun v h => R (frzW h v)))))))) (Qblk 1 (Qthen (WY Try.prog cfY 2990 (Env.mk (Bs.mk 0 []) 0 none 95 30 0) (cdAt [1, 1, 1, 1, 0, 1, 0, 0, 1, 1] (bodyOf Try.f30)) (Qla 0 [(1 : Tmp), (2 : Tmp), (3 : Tmp), (9 : Tmp), (10 : Tmp)] J (Qblk 0 (Qthen (WY Try.prog cfY 2995 (Env.mk (Bs.mk 0 []) 0 none 95 30 0) (cdAt [1, 1, 1, 1, 1] (bodyOf Try.f30)) (QendX Try.prog Try.f30 fun v h => R (frzW h v))) (QendX Try.prog Try.f30 fun v h => R (frzW h v)))))) (Qla 0 [(1 : Tmp), (2 : Tmp), (3 : Tmp), (9 : Tmp), (10 : Tmp)] J (Qblk 0 (Qthen (WY Try.prog cfY 2995 (Env.mk (Bs.mk 0 []) 0 none 95 30 0) (cdAt [1, 1, 1, 1, 1] (bodyOf Try.f30)) (QendX Try.prog Try.f30 fun v h => R (frzW h v))) (QendX Try.prog Try.f30 fun v h => R (frzW h v))))))))) (St.mk (mkT [(1, V.lst 3 (fdl l)), (2, V.lst 3 (swl u)), (3, V.ptr (Id.p 0) 0 0), (9, V.sl (Id.p 1) 0 F.length), (10, iv (↑k : Int)), (11, V.ptr (Id.p 2) 0 0), (12, iv (0 : Int))]) (Hp.mk [(0, O.rows 5 false [[iv b.1, iv b.2, iv b.3, V.lst 2 (gl b.4), V.lst 1 (nl b.5)]]), (1, O.rows 3 true (ftl F)), (2, O.rows 3 false [[iv n_1, iv (-1 : Int), iv (IntKind.i64.wrap (n + b.1))]])] 3 []))) (R (V.tup [V.lst 3 (sub (ftl F) 0 F.length), iv (0 : Int)]))) (by kernel_rfl) ?_
    rw [fdl_length]
    refine ifB_mk (fun c => ?_) (fun c => ?_)
    rotate_left
    · have hk : ¬ k < l.length := by have := of_decide_eq_false c; omega
      rw [sub_all (ftl_length F).symm]
      have := fin hk
      cases F with
      | nil => exact (hF rfl).elim
      | cons y f => exact this
    have hlt : k < l.length := by have := of_decide_eq_true c; omega
    obtain ⟨p, hp⟩ := getI hlt
    obtain ⟨st1, st2⟩ := step p hp hlt
    have fx := hf.2.1 p (mem_at hp)
    have a1 := fx.1; have a2 := fx.2.1
    refine fel2 hp (fel0 hp (seen53 (hrl p (mem_at hp)) (onIntK_iv ?_)))
    rw [wr (n := p.1 + b.L) (by omega) (by omega)]
    refine La.of (σ := Ft × Nat) (fun s => sh30d b l u F k s.1 s.2) (fun s => s.2 ≤ b.gs.length ∧ rfN b p.1 u (b.gs.length - s.2) s.2 s.1 = rfX b u p) (fun s => b.gs.length - s.2) ((kindOf p.2.2, -1, p.1 + b.L), 0) (by kernel_rfl) ⟨Nat.zero_le _, rfl⟩ ?_
    rintro ⟨x, g⟩ ⟨i1, i2⟩ K hK
    simp only at i1 i2
    refine see (p := ifB (decide ((↑g : Int) < (↑(gl b.4).length : Int))) (ifB (decide (x.2.1 < (0 : Int))) (onSome (fdl l)[k]? fun row => onSome row[0]? fun v => onIntK IntKind.i64 v fun n => onSome (gl b.4)[g]? fun row => onSome row[0]? fun v => onIntK IntKind.i64 v fun n_1 => K0G Try.prog glX 72 [V.agg [iv b.1, iv b.2, iv b.3, V.lst 2 (gl b.4), V.lst 1 (nl b.5)], V.lst 3 (swl u), iv (↑g : Int), iv (IntKind.i64.wrap (n + n_1))] fun v => onTup v fun vs => onCons vs fun u_1 r => onBool u_1 fun b_1 => onCons r fun u_2 r => onBool u_2 fun b_2 => onNil r (ifB b_1 (R (V.tup [nilS, iv (92 : Int)])) (ifB b_2 (onSome (gl b.4)[g]? fun row => onSome row[1]? fun v => onIntK IntKind.i64 v fun n_2 => K (St.mk (mkT [(1, V.lst 3 (fdl l)), (2, V.lst 3 (swl u)), (3, V.ptr (Id.p 0) 0 0), (9, V.sl (Id.p 1) 0 F.length), (10, iv (↑k : Int)), (11, V.ptr (Id.p 2) 0 0), (12, iv (IntKind.i64.wrap ((↑g : Int) + (1 : Int))))]) (Hp.mk [(0, O.rows 5 false [[iv b.1, iv b.2, iv b.3, V.lst 2 (gl b.4), V.lst 1 (nl b.5)]]), (1, O.rows 3 true (ftl F)), (2, O.rows 3 false [[iv x.1, iv n_2, iv (IntKind.i64.wrap (n + n_1))]])] 3 []))) (K (St.mk (mkT [(1, V.lst 3 (fdl l)), (2, V.lst 3 (swl u)), (3, V.ptr (Id.p 0) 0 0), (9, V.sl (Id.p 1) 0 F.length), (10, iv (↑k : Int)), (11, V.ptr (Id.p 2) 0 0), (12, iv (IntKind.i64.wrap ((↑g : Int) + (1 : Int))))]) (Hp.mk [(0, O.rows 5 false [[iv b.1, iv b.2, iv b.3, V.lst 2 (gl b.4), V.lst 1 (nl b.5)]]), (1, O.rows 3 true (ftl F)), (2, O.rows 3 false [[iv x.1, iv x.2.1, iv x.2.2]])] 3 [])))))) (need ((F.length + 1) * 24 ≤ 140737488355328) (J (St.mk (mkT [(1, V.lst 3 (fdl l)), (2, V.lst 3 (swl u)), (3, V.ptr (Id.p 0) 0 0), (9, V.sl (Id.p 1) 0 (F.length + 1)), (10, iv (IntKind.i64.wrap ((↑k : Int) + (1 : Int))))]) (Hp.mk [(0, O.rows 5 false [[iv b.1, iv b.2, iv b.3, V.lst 2 (gl b.4), V.lst 1 (nl b.5)]]), (1, O.rows 3 true (List.take F.length (ftl F) ++ [[iv x.1, iv x.2.1, iv x.2.2]]))] 2 []))))) (need ((F.length + 1) * 24 ≤ 140737488355328) (J (St.mk (mkT [(1, V.lst 3 (fdl l)), (2, V.lst 3 (swl u)), (3, V.ptr (Id.p 0) 0 0), (9, V.sl (Id.p 1) 0 (F.length + 1)), (10, iv (IntKind.i64.wrap ((↑k : Int) + (1 : Int))))]) (Hp.mk [(0, O.rows 5 false [[iv b.1, iv b.2, iv b.3, V.lst 2 (gl b.4), V.lst 1 (nl b.5)]]), (1, O.rows 3 true (List.take F.length (ftl F) ++ [[iv x.1, iv x.2.1, iv x.2.2]]))] 2 []))))) (by kernel_rfl) ?_
    rw [gl_length, wr1i hlt (by omega)]
    have done : rfX b u p = some x → (need ((F.length + 1) * 24 ≤ 140737488355328) (J (St.mk (mkT [(1, V.lst 3 (fdl l)), (2, V.lst 3 (swl u)), (3, V.ptr (Id.p 0) 0 0), (9, V.sl (Id.p 1) 0 (F.length + 1)), (10, iv (IntKind.i64.wrap ((↑k : Int) + (1 : Int))))]) (Hp.mk [(0, O.rows 5 false [[iv b.1, iv b.2, iv b.3, V.lst 2 (gl b.4), V.lst 1 (nl b.5)]]), (1, O.rows 3 true (List.take F.length (ftl F) ++ [[iv x.1, iv x.2.1, iv x.2.2]]))] 2 []))) : Prop) := fun hx => need_mk ⟨by omega, hJ' (by rw [ftl_take, sh30_b (app_ne _ _), wr1i hlt (by omega)]; simp [sh30b, ftl, ftr, bel]) (st2 x hx)⟩
    rw [wr1i hlt (by omega)] at done
    refine ifB_mk (fun d => ?_) (fun d => done (by rw [← i2, show b.gs.length - g = 0 from by have := of_decide_eq_false d; omega]; rfl))
    have hg : g < b.gs.length := by have := of_decide_eq_true d; omega
    rw [show b.gs.length - g = (b.gs.length - (g + 1)) + 1 from by omega, rfN] at i2
    refine ifB_mk (fun d1 => ?_) (fun d1 => done (by rw [← i2, if_neg (of_decide_eq_false d1)]))
    rw [if_pos (of_decide_eq_true d1)] at i2
    have hgm := hb.2.2.2.2.1.1 _ (mem_at (gt_get hg))
    have q1 := hgm.1; have q2 := hgm.2.1
    refine fel0 hp (gel0 (gt_get hg) ?_)
    rw [wr (n := p.1 + (gt b g).1) (by omega) (by omega), wr1i hg (by omega)]
    refine passes72 hu hI ⟨by omega, by omega⟩ ⟨by omega, by omega⟩ (onTup_tup (onCons_cons (onBool_bv (onCons_cons (onBool_bv (onNil_nil (ifB_mk (fun e => ?_) (fun e => ?_))))))))
    · rw [if_pos e] at i2
      exact st1 i2.symm
    · rw [if_neg (by rw [e]; simp)] at i2
      refine ifB_mk (fun e1 => gel1 (gt_get hg) ?_) (fun e1 => ?_)
      · rw [if_pos e1] at i2
        exact hK ((x.1, (gt b g).2, p.1 + (gt b g).1), g + 1) ⟨hg, i2⟩ (by simp only; omega)
      · rw [if_neg (by rw [e1]; simp)] at i2
        exact hK (x, g + 1) ⟨hg, i2⟩ (by simp only; omega)
end Go.Proofs.Ytmdimnmdoifkfaa
namespace Go.Proofs.Ytmdimnmdoifkfaa
open Go Go.Proofs.Ytmdimnmdoifkfaa.Clean
set_option linter.unusedVariables false
set_option linter.unusedSimpArgs false
set_option maxRecDepth 10000
def mv (a : List Sw) (g : Int) : List Int := (a.filter fun x => decide (x.2.1 = g)).map (·.1)
theorem mv_app (a : List Sw) (x : Sw) (g : Int) : mv (a ++ [x]) g = if x.2.1 = g then mv a g ++ [x.1] else mv a g := by
  unfold mv
  rw [List.filter_append]
  split
  · rename_i h; rw [List.filter_cons_of_pos (by simpa using h)]; simp
  · rename_i h; rw [List.filter_cons_of_neg (by simpa using h)]; simp
theorem mv_last (a : List Sw) (g : Int) : (mv a g).getLast? = (prevS g a).map (·.1) := by
  unfold mv prevS
  rw [List.getLast?_map]
theorem pasN_app (c g t : Int) (x : Sw) : ∀ (a : List Sw) (e : Bool), pasN c g t (a ++ [x]) e = if (pasN c g t a e).1 = true then pasN c g t a e else pasN c g t [x] (pasN c g t a e).2
  | [], e => by simp [pasN]
  | y :: a, e => by
    rw [List.cons_append, pasN, pasN]
    by_cases h : y.2.1 ≠ g ∨ y.1 > t
    · rw [if_pos h, if_pos h]; exact pasN_app c g t x a e
    · rw [if_neg h, if_neg h]
      by_cases h2 : t - y.1 < c
      · rw [if_pos h2, if_pos h2]; simp
      · rw [if_neg h2, if_neg h2]; exact pasN_app c g t x a y.2.2
def code3 (p : Bool × Bool) : Int := if p.1 = true then 2 else if p.2 = true then 1 else 0
theorem cntL_app_gt {m : List Int} {y t : Int} (h : t < y) : cntL (m ++ [y]) t = cntL m t := by
  induction m with
  | nil => simp [cntL, h]
  | cons a m ih =>
    unfold cntL at ih ⊢
    rw [List.cons_append]
    by_cases ha : a ≤ t
    · rw [List.takeWhile_cons_of_pos (by simpa using ha), List.takeWhile_cons_of_pos (by simpa using ha), List.length_cons, List.length_cons, ih]
    · rw [List.takeWhile_cons_of_neg (by simpa using ha), List.takeWhile_cons_of_neg (by simpa using ha)]
theorem cntL_all {m : List Int} {t : Int} (h : ∀ x ∈ m, x ≤ t) : cntL m t = m.length := by
  unfold cntL
  induction m with
  | nil => rfl
  | cons a m ih => rw [List.takeWhile_cons_of_pos (by simpa using h a (List.mem_cons_self ..)), List.length_cons, List.length_cons, ih (fun x hx => h x (List.mem_cons_of_mem _ hx))]
structure Gd (a : List Sw) (g : Int) : Prop where
  up : (mv a g).Pairwise (· < ·)
  par : ∀ y, prevS g a = some y → (y.2.2 = true ↔ (mv a g).length % 2 = 1)
theorem mv_nil {a : List Sw} {g : Int} (h : prevS g a = none) : mv a g = [] := by
  have := mv_last a g
  rw [h] at this
  exact List.getLast?_eq_none_iff.1 this
theorem le_last {m : List Int} (hp : m.Pairwise (· < ·)) {y : Int} (h : m.getLast? = some y) : ∀ x ∈ m, x ≤ y := by
  rcases List.eq_nil_or_concat m with rfl | ⟨c, w, rfl⟩
  · simp at h
  · rw [List.concat_eq_append] at *
    simp at h
    subst h
    intro x hx
    rcases List.mem_append.1 hx with hx | hx
    · have := (List.pairwise_append.1 hp).2.2 x hx w (by simp); omega
    · have : x = w := by simpa using hx
      omega
theorem gd_app {b : Bt} {a : List Sw} {x : Sw} (hS : 0 ≤ b.S) (ho : okI b a x) {g : Int} (h : Gd a g) : Gd (a ++ [x]) g := by
  obtain ⟨h1, h2⟩ := h
  obtain ⟨o1, o2, o3, o4⟩ := ho
  have hmx : 1 ≤ (if (1 : Int) > b.S then 1 else b.S) := by split <;> omega
  by_cases hg : x.2.1 = g
  · subst hg
    refine ⟨?_, fun y hy => ?_⟩
    · rw [mv_app, if_pos rfl]
      refine List.pairwise_append.2 ⟨h1, by simp, fun p hp q hq => ?_⟩
      have hq : q = x.1 := by simpa using hq
      subst hq
      cases hv : prevS x.2.1 a with
      | none => rw [mv_nil hv] at hp; simp at hp
      | some z =>
        have hl := mv_last a x.2.1
        rw [hv] at hl
        have := le_last h1 (y := z.1) hl p hp
        have := (o3 z hv).2
        omega
    · rw [prevS_app, if_pos rfl] at hy
      cases hy
      rw [mv_app, if_pos rfl, List.length_append, List.length_singleton]
      cases hv : prevS x.2.1 a with
      | none => rw [mv_nil hv, o4 hv]; simp
      | some z =>
        have q := (o3 z hv).1
        have q2 := h2 z hv
        cases hz : z.2.2 with
        | true =>
          rw [hz] at q q2
          cases hx : x.2.2 with
          | true => rw [hx] at q; exact (q rfl).elim
          | false =>
            have := q2.1 rfl
            constructor
            · intro h; cases h
            · intro h; omega
        | false =>
          rw [hz] at q q2
          cases hx : x.2.2 with
          | false => rw [hx] at q; exact (q rfl).elim
          | true =>
            have : ¬ (mv a x.2.1).length % 2 = 1 := fun h => by have := q2.2 h; cases this
            constructor
            · intro _; omega
            · intro _; rfl
  · refine ⟨by rw [mv_app, if_neg hg]; exact h1, fun y hy => ?_⟩
    rw [prevS_app, if_neg hg] at hy
    rw [mv_app, if_neg hg]
    exact h2 y hy
theorem gd_take {b : Bt} {u : List Sw} (hS : 0 ≤ b.S) (hu : SwP b u) (g : Int) : ∀ k, k ≤ u.length → Gd (u.take k) g
  | 0, _ => ⟨List.Pairwise.nil, fun y hy => by simp [prevS] at hy⟩
  | k + 1, h => by
    obtain ⟨x, hx⟩ := getI (l := u) (k := k) (by omega)
    rw [take_succ' hx]
    exact gd_app hS (hu k x hx) (gd_take hS hu g k (by omega))
theorem st_app {b : Bt} {a : List Sw} {x : Sw} {g t : Int} (hS : 0 ≤ b.S) (ho : okI b a x) (h : Gd a g) (hs : stOf (mv a g) t b.S = code3 (pasN b.S g t a false)) : stOf (mv (a ++ [x]) g) t b.S = code3 (pasN b.S g t (a ++ [x]) false) := by
  rw [pasN_app, mv_app]
  obtain ⟨h1, h2⟩ := h
  have hgd := gd_app hS ho ⟨h1, h2⟩
  obtain ⟨o1, o2, o3, o4⟩ := ho
  have hmx : 1 ≤ (if (1 : Int) > b.S then 1 else b.S) ∧ b.S ≤ (if (1 : Int) > b.S then 1 else b.S) := by split <;> omega
  have skip : ∀ e, (x.2.1 ≠ g ∨ x.1 > t) → pasN b.S g t [x] e = (false, e) := fun e he => by rw [pasN, if_pos he, pasN]
  generalize hpa : pasN b.S g t a false = p at hs
  have same : (x.2.1 ≠ g ∨ x.1 > t) → code3 (if p.1 = true then p else pasN b.S g t [x] p.2) = code3 p := fun he => by
    rw [skip _ he]
    obtain ⟨p1, p2⟩ := p
    cases p1 <;> rfl
  by_cases hg : x.2.1 = g
  rotate_left
  · rw [if_neg hg, same (.inl hg)]; exact hs
  rw [if_pos hg]
  by_cases ht : x.1 > t
  · rw [same (.inr ht), ← hs]
    unfold stOf
    rw [cntL_app_gt ht]
    by_cases h0 : cntL (mv a g) t = 0
    · rw [if_pos h0, if_pos h0]
    · rw [if_neg h0, if_neg h0]
      have := cntL_le (mv a g) t
      rw [show (mv a g ++ [x.1]).getD (cntL (mv a g) t - 1) 0 = (mv a g).getD (cntL (mv a g) t - 1) 0 from by
        rw [List.getD_eq_getElem?_getD, List.getD_eq_getElem?_getD, List.getElem?_append_left (by omega)]]
  · subst hg
    have hup := hgd
    have hpar := hup.par x (by rw [prevS_app, if_pos rfl])
    rw [mv_app, if_pos rfl] at hpar
    have hall : ∀ y ∈ mv a x.2.1, y < x.1 := fun y hy => by
      have := hup.up
      rw [mv_app, if_pos rfl] at this
      exact (List.pairwise_append.1 this).2.2 y hy x.1 (by simp)
    have hcn : cntL (mv a x.2.1 ++ [x.1]) t = (mv a x.2.1).length + 1 := by
      rw [cntL_all (fun y hy => by
        rcases List.mem_append.1 hy with hy | hy
        · have := hall y hy; omega
        · have : y = x.1 := by simpa using hy
          omega), List.length_append, List.length_singleton]
    have hp1 : p.1 = false := by
      cases hv : p.1 with
      | false => rfl
      | true =>
        have h3 : stOf (mv a x.2.1) t b.S = 2 := by rw [hs, code3, if_pos hv]
        unfold stOf at h3
        rw [cntL_all (fun y hy => by have := hall y hy; omega)] at h3
        split at h3
        · cases h3
        · rename_i hne
          split at h3
          · rename_i hgt
            cases hw : prevS x.2.1 a with
            | none => rw [mv_nil hw] at hne; exact (hne rfl).elim
            | some z =>
              have hl := mv_last a x.2.1
              rw [hw, List.getLast?_eq_getElem?] at hl
              rw [List.getD_eq_getElem?_getD, hl] at hgt
              have := (o3 z hw).2
              simp at hgt
              omega
          · split at h3 <;> cases h3
    rw [if_neg (by rw [hp1]; simp), pasN, if_neg (by rintro (q | q); exact q rfl; exact ht q), pasN]
    unfold stOf
    rw [hcn, if_neg (by omega), show (mv a x.2.1 ++ [x.1]).getD ((mv a x.2.1).length + 1 - 1) 0 = x.1 from by
      rw [List.getD_eq_getElem?_getD, Nat.add_sub_cancel, List.getElem?_append_right (Nat.le_refl _), Nat.sub_self]; rfl]
    by_cases hc : x.1 > t - b.S
    · rw [if_pos hc, if_pos (show t - x.1 < b.S from by omega)]; rfl
    · rw [if_neg hc, if_neg (show ¬ t - x.1 < b.S from by omega)]
      rw [List.length_append, List.length_singleton] at hpar
      cases hx : x.2.2 with
      | true =>
        rw [hx] at hpar
        rw [if_neg (show ¬ ((mv a x.2.1).length + 1) % 2 = 0 from by have := hpar.1 rfl; omega)]; rfl
      | false =>
        have : ¬ ((mv a x.2.1).length + 1) % 2 = 1 := fun h => by have := hpar.2 h; rw [hx] at this; cases this
        rw [if_pos (show ((mv a x.2.1).length + 1) % 2 = 0 from by omega)]; rfl
theorem st_take {b : Bt} {u : List Sw} (hS : 0 ≤ b.S) (hu : SwP b u) (g t : Int) : ∀ k, k ≤ u.length → stOf (mv (u.take k) g) t b.S = code3 (pasN b.S g t (u.take k) false)
  | 0, _ => rfl
  | k + 1, h => by
    obtain ⟨x, hx⟩ := getI (l := u) (k := k) (by omega)
    rw [take_succ' hx]
    exact st_app hS (hu k x hx) (gd_take hS hu g k (by omega)) (st_take hS hu g t k (by omega))
theorem st_eq {b : Bt} {u : List Sw} (hS : 0 ≤ b.S) (hu : SwP b u) (g t : Int) : stOf (mv u g) t b.S = code3 (pasN b.S g t u false) := by
  have := st_take hS hu g t u.length (Nat.le_refl _)
  rw [List.take_length] at this
  exact this
theorem mv_up {b : Bt} {u : List Sw} (hS : 0 ≤ b.S) (hu : SwP b u) (g : Int) : (mv u g).Pairwise (· < ·) := by
  have := (gd_take hS hu g u.length (Nat.le_refl _)).up
  rw [List.take_length] at this
  exact this
end Go.Proofs.Ytmdimnmdoifkfaa
