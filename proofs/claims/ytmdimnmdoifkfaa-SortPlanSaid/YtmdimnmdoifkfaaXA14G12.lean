/- A part of the proof. -/
import Derived.Test.YtmdimnmdoifkfaaProg
import Derived.Test.YtmdimnmdoifkfaaXA14G10
import Derived.Test.YtmdimnmdoifkfaaXA14G11
namespace Go.Proofs.Ytmdimnmdoifkfaa
open Go Go.Proofs.Ytmdimnmdoifkfaa.Clean
set_option linter.unusedVariables false
set_option maxRecDepth 100000
theorem tok0 : Facts Try.prog glX tb0 := trivial
theorem t0 : KFX fa0 := k0 tok0
theorem tok1 : Facts Try.prog glX tb1 := ⟨t0, tok0⟩
theorem t1 : KFX fa1 := k1 tok1
theorem tok2 : Facts Try.prog glX tb2 := ⟨t1, tok1⟩
theorem t2 : KFX fa2 := k2 tok2
theorem tok3 : Facts Try.prog glX tb3 := ⟨t2, tok2⟩
theorem t3 : KFX fa3 := k3 tok3
theorem tok4 : Facts Try.prog glX tb4 := ⟨t3, tok3⟩
theorem t4 : KFX fa4 := k4 tok4
theorem tok5 : Facts Try.prog glX tb5 := ⟨t4, tok4⟩
theorem t5 : KFX fa5 := k5 tok5
end Go.Proofs.Ytmdimnmdoifkfaa
namespace Go.Proofs.Ytmdimnmdoifkfaa
open Go Go.Proofs.Ytmdimnmdoifkfaa.Clean
set_option linter.unusedVariables false
set_option maxRecDepth 100000
end Go.Proofs.Ytmdimnmdoifkfaa
namespace Go.Proofs.Ytmdimnmdoifkfaa
open Go Go.Proofs.Ytmdimnmdoifkfaa.Clean
set_option linter.unusedVariables false
set_option linter.unusedSimpArgs false
set_option maxRecDepth 10000
theorem alive44 {R : V → Prop} (h : R (bv true)) : K0G Try.prog glX 44 [] R := K0G.mono' (show K0G Try.prog glX 44 [] fun v => v = bv true from t5) fun v hv => by rw [hv]; exact h
end Go.Proofs.Ytmdimnmdoifkfaa
namespace Go.Proofs.Ytmdimnmdoifkfaa
open Go Go.Proofs.Ytmdimnmdoifkfaa.Clean
set_option linter.unusedVariables false
set_option linter.unusedSimpArgs false
set_option maxRecDepth 10000
theorem tot_app (a : List Int) (x : Int) : tot (a ++ [x]) = tot a + x := by
  induction a with
  | nil => simp [tot]
  | cons y a ih => show y + tot (a ++ [x]) = y + tot a + x; rw [ih]; omega
theorem tot_bnd {a : List Int} (h : ∀ x ∈ a, 0 ≤ x ∧ x ≤ 1000) : 0 ≤ tot a ∧ tot a ≤ 1000 * a.length := by
  induction a with
  | nil => simp [tot]
  | cons y a ih =>
    have := ih (fun x hx => h x (by simp [hx]))
    have := h y (by simp)
    show 0 ≤ y + tot a ∧ y + tot a ≤ 1000 * ((a.length + 1 : Nat) : Int)
    omega
end Go.Proofs.Ytmdimnmdoifkfaa
namespace Go.Proofs.Ytmdimnmdoifkfaa
open Go Go.Proofs.Ytmdimnmdoifkfaa.Clean
set_option linter.unusedVariables false
set_option maxRecDepth 100000
abbrev Sw := Int × Int × Bool
end Go.Proofs.Ytmdimnmdoifkfaa
namespace Go.Proofs.Ytmdimnmdoifkfaa
open Go Go.Proofs.Ytmdimnmdoifkfaa.Clean
set_option linter.unusedVariables false
set_option linter.unusedSimpArgs false
set_option maxRecDepth 10000
def gtS (x y : Sw) : Prop := y.1 < x.1 ∨ (x.1 = y.1 ∧ y.2.1 < x.2.1)
instance (x y : Sw) : Decidable (gtS x y) := by unfold gtS; infer_instance
theorem ins_rows {α : Type} (M : List α) (k n : Nat) (x y : α) (hn : M.length = n) (hk : k ≤ n) (hy : y = x) :
    (List.take (0 + (k + 1)) (List.take n M ++ [x]) ++ List.take (min (sub (List.take n M ++ [x]) (0 + k) (n + 1 - k)).length (n + 1 - (k + 1))) (sub (List.take n M ++ [x]) (0 + k) (n + 1 - k)) ++ List.drop (0 + (k + 1) + min (sub (List.take n M ++ [x]) (0 + k) (n + 1 - k)).length (n + 1 - (k + 1))) (List.take n M ++ [x])).set (0 + k) y = M.take k ++ [x] ++ M.drop k := by
  subst hy
  rw [List.take_of_length_le (by omega : M.length ≤ n), Nat.zero_add, Nat.zero_add]
  have hs : sub (M ++ [y]) k (n + 1 - k) = M.drop k ++ [y] := by
    unfold Clean.sub
    rw [List.drop_append_of_le_length (by omega), List.take_of_length_le (by simp; omega)]
  rw [hs]
  have hmin : min (M.drop k ++ [y]).length (n + 1 - (k + 1)) = n - k := by simp; omega
  have hd : List.drop (n + 1) (M ++ [y]) = [] := List.drop_of_length_le (by simp; omega)
  have ht : List.take (n - k) (M.drop k ++ [y]) = M.drop k := by rw [List.take_append_of_le_length (by simp; omega), List.take_of_length_le (by simp; omega)]
  rw [hmin, show k + 1 + (n - k) = n + 1 from by omega, hd, List.append_nil, ht]
  refine List.ext_getElem? (fun i => ?_)
  have h1 : ((M ++ [y]).take (k + 1)).length = k + 1 := by simp; omega
  have h2 : (M.take k ++ [y]).length = k + 1 := by simp; omega
  rw [List.getElem?_set]
  by_cases hi : k = i
  · subst hi
    rw [if_pos rfl, if_pos (by simp only [List.length_append, h1]; omega), List.getElem?_append_left (by omega), List.getElem?_append_right (by simp; omega)]
    simp [Nat.min_eq_left (show k ≤ M.length by omega)]
  · rw [if_neg hi]
    by_cases hlt : i < k
    · rw [List.getElem?_append_left (by omega), List.getElem?_append_left (by omega), List.getElem?_append_left (by simp; omega), List.getElem?_take_of_lt (by omega), List.getElem?_take_of_lt hlt, List.getElem?_append_left (by omega)]
    · rw [List.getElem?_append_right (by omega), List.getElem?_append_right (by omega), h1, h2]
theorem ins_row {α : Type} (M : List α) (k n : Nat) (x : α) (hn : M.length = n) (hk : k ≤ n) :
    ∃ z, (z ∈ M ∨ z = x) ∧ (List.take (0 + (k + 1)) (List.take n M ++ [x]) ++ List.take (min (sub (List.take n M ++ [x]) (0 + k) (n + 1 - k)).length (n + 1 - (k + 1))) (sub (List.take n M ++ [x]) (0 + k) (n + 1 - k)) ++ List.drop (0 + (k + 1) + min (sub (List.take n M ++ [x]) (0 + k) (n + 1 - k)).length (n + 1 - (k + 1))) (List.take n M ++ [x]))[0 + k]? = some z := by
  rw [List.take_of_length_le (by omega : M.length ≤ n), Nat.zero_add, Nat.zero_add, List.append_assoc, List.getElem?_append_left (by simp; omega), List.getElem?_take_of_lt (by omega)]
  by_cases hlt : k < M.length
  · rw [List.getElem?_append_left hlt, List.getElem?_eq_getElem hlt]
    exact ⟨_, .inl (List.getElem_mem hlt), rfl⟩
  · rw [List.getElem?_append_right (by omega), show k - M.length = 0 from by omega]
    exact ⟨x, .inr rfl, rfl⟩
end Go.Proofs.Ytmdimnmdoifkfaa
namespace Go.Proofs.Ytmdimnmdoifkfaa
open Go Go.Proofs.Ytmdimnmdoifkfaa.Clean
set_option linter.unusedVariables false
set_option linter.unusedSimpArgs false
set_option maxRecDepth 10000
end Go.Proofs.Ytmdimnmdoifkfaa
namespace Go.Proofs.Ytmdimnmdoifkfaa
open Go Go.Proofs.Ytmdimnmdoifkfaa.Clean
set_option linter.unusedVariables false
set_option maxRecDepth 100000
noncomputable def hB (b : Bt) : Hp := ⟨[(0, O.rows 5 false [bel b])], 1, []⟩
end Go.Proofs.Ytmdimnmdoifkfaa
namespace Go.Proofs.Ytmdimnmdoifkfaa
open Go Go.Proofs.Ytmdimnmdoifkfaa.Clean
set_option linter.unusedVariables false
set_option linter.unusedSimpArgs false
set_option maxRecDepth 10000
instance (S : Int) (l : List Fd) (j : Nat) : Decidable (nearP S l j) := by unfold nearP; infer_instance
end Go.Proofs.Ytmdimnmdoifkfaa
namespace Go.Proofs.Ytmdimnmdoifkfaa
open Go Go.Proofs.Ytmdimnmdoifkfaa.Clean
set_option linter.unusedVariables false
set_option linter.unusedSimpArgs false
set_option maxRecDepth 10000
def ltK (a x : Sw) : Prop := a.1 < x.1 ∨ (a.1 = x.1 ∧ a.2.1 < x.2.1)
instance (a x : Sw) : Decidable (ltK a x) := by unfold ltK; infer_instance
end Go.Proofs.Ytmdimnmdoifkfaa
namespace Go.Proofs.Ytmdimnmdoifkfaa
open Go Go.Proofs.Ytmdimnmdoifkfaa.Clean
set_option linter.unusedVariables false
set_option linter.unusedSimpArgs false
set_option maxRecDepth 10000
end Go.Proofs.Ytmdimnmdoifkfaa
namespace Go.Proofs.Ytmdimnmdoifkfaa
open Go Go.Proofs.Ytmdimnmdoifkfaa.Clean
set_option linter.unusedVariables false
set_option linter.unusedSimpArgs false
set_option maxRecDepth 10000
theorem onLst_nilS {k : Nat → List (List V) → Prop} (h : k 0 []) : onLst nilS k := h
theorem tot_mono {l : List Int} (h : ∀ x ∈ l, 0 ≤ x) : ∀ k, 0 ≤ tot (l.take k) ∧ tot (l.take k) ≤ tot l := by
  induction l with
  | nil => intro k; simp [tot]
  | cons y l ih =>
    intro k
    have hy := h y (by simp)
    rcases k with _ | k
    · have := ih (fun x hx => h x (by simp [hx])) l.length
      rw [List.take_of_length_le (Nat.le_refl _)] at this
      show 0 ≤ 0 ∧ 0 ≤ y + tot l
      omega
    · have := ih (fun x hx => h x (by simp [hx])) k
      show 0 ≤ y + tot (l.take k) ∧ y + tot (l.take k) ≤ y + tot l
      omega
end Go.Proofs.Ytmdimnmdoifkfaa
namespace Go.Proofs.Ytmdimnmdoifkfaa
open Go Go.Proofs.Ytmdimnmdoifkfaa.Clean
set_option linter.unusedVariables false
set_option maxRecDepth 100000
end Go.Proofs.Ytmdimnmdoifkfaa
namespace Go.Proofs.Ytmdimnmdoifkfaa
open Go Go.Proofs.Ytmdimnmdoifkfaa.Clean
set_option linter.unusedVariables false
set_option linter.unusedSimpArgs false
set_option maxRecDepth 10000
theorem getD_get {l : List Int} {i : Nat} {x : Int} (h : l[i]? = some x) : l.getD i 0 = x := by simp [List.getD, h]
end Go.Proofs.Ytmdimnmdoifkfaa
namespace Go.Proofs.Ytmdimnmdoifkfaa
open Go Go.Proofs.Ytmdimnmdoifkfaa.Clean
set_option linter.unusedVariables false
set_option linter.unusedSimpArgs false
set_option maxRecDepth 10000
theorem tot_append (a b : List Int) : tot (a ++ b) = tot a + tot b := by
  induction a with
  | nil => simp [tot]
  | cons x a ih => show x + tot (a ++ b) = x + tot a + tot b; rw [ih]; omega
end Go.Proofs.Ytmdimnmdoifkfaa
namespace Go.Proofs.Ytmdimnmdoifkfaa
open Go Go.Proofs.Ytmdimnmdoifkfaa.Clean
set_option linter.unusedVariables false
set_option linter.unusedSimpArgs false
set_option maxRecDepth 10000
end Go.Proofs.Ytmdimnmdoifkfaa
namespace Go.Proofs.Ytmdimnmdoifkfaa
open Go Go.Proofs.Ytmdimnmdoifkfaa.Clean
set_option linter.unusedVariables false
set_option maxRecDepth 100000
def moK (f : FuncId) : Nat := bif inN [103] f then 3 else 0
def poK (f : FuncId) (args : List V) (h : Hp) (us : Us) : Hp := h.put (.p 0) (.rows 1 true (us.getD 0 []))
end Go.Proofs.Ytmdimnmdoifkfaa
namespace Go.Proofs.Ytmdimnmdoifkfaa
open Go Go.Proofs.Ytmdimnmdoifkfaa.Clean
set_option linter.unusedVariables false
set_option linter.unusedSimpArgs false
set_option maxRecDepth 10000
end Go.Proofs.Ytmdimnmdoifkfaa
namespace Go.Proofs.Ytmdimnmdoifkfaa
open Go Go.Proofs.Ytmdimnmdoifkfaa.Clean
set_option linter.unusedVariables false
set_option linter.unusedSimpArgs false
set_option maxRecDepth 10000
end Go.Proofs.Ytmdimnmdoifkfaa
namespace Go.Proofs.Ytmdimnmdoifkfaa
open Go Go.Proofs.Ytmdimnmdoifkfaa.Clean
set_option linter.unusedVariables false
set_option maxRecDepth 100000
def kpL : FuncId → Nat → Option (List Tmp) := slotsOf [(102, 0, [0, 5, 6, 7]), (80, 0, [1, 5, 8, 9, 10]), (39, 0, [0, 8, 26, 27, 28]), (40, 0, [0, 1, 2, 8, 9]), (49, 0, [0, 1, 5, 6]), (49, 2, [0, 1, 5, 6, 7]), (42, 0, [0, 5])]
noncomputable def cfL9 : Cfg := { cfgG Try.prog glX moK poK rtB (inN [75, 54, 79]) kpL with clean := fun g => !inN [100, 103] g }
noncomputable def sh80 (p : List Int) (b : Int) (t : Int) (k : Nat) : St := ⟨mkT [(1, iv b), (5, iv t), (8, V.lst 1 (nl p)), (9, iv ((nl p).length : Int)), (10, iv (k : Int))], ⟨[], 0, []⟩⟩
noncomputable def sh39 (c p : List Int) (t : Int) (k : Nat) : St := ⟨mkT [(0, V.lst 1 (nl c)), (8, iv t), (26, V.lst 1 (nl p)), (27, iv ((nl p).length : Int)), (28, iv (k : Int))], ⟨[], 0, []⟩⟩
noncomputable def sh49a (p : List Int) (b t : Int) (k : Nat) : St := ⟨mkT [(0, V.lst 1 (nl p)), (1, iv b), (5, iv t), (6, iv (k : Int))], ⟨[], 0, []⟩⟩
noncomputable def sh49b (p : List Int) (b t : Int) (k i : Nat) : St := ⟨mkT [(0, V.lst 1 (nl p)), (1, iv b), (5, iv t), (6, iv (k : Int)), (7, iv (i : Int))], ⟨[], 0, []⟩⟩
end Go.Proofs.Ytmdimnmdoifkfaa
namespace Go.Proofs.Ytmdimnmdoifkfaa
open Go Go.Proofs.Ytmdimnmdoifkfaa.Clean
set_option linter.unusedVariables false
set_option linter.unusedSimpArgs false
set_option maxRecDepth 10000
theorem hcL9 : cfL9.ok Try.prog := by
  have h : (cfgG Try.prog glX moK poK rtB (inN [75, 54, 79]) kpL).ok Try.prog := cfgG_ok rtB_ok
  exact ⟨h.1, h.2⟩
theorem p8 {a : Int} {n : Nat} (h0 : 0 ≤ a) (h1 : a ≤ 8) (hn : n ≤ 11) : a ^ n ≤ 8589934592 := by
  have h2 : ∀ n : Nat, n ≤ 11 → (8 : Int) ^ n ≤ 8589934592 := by decide
  exact Int.le_trans (pow_le h0 h1 n) (h2 n hn)
theorem power102b {a : Int} {n : Nat} {R : V → Prop} (h0 : 0 ≤ a) (h1 : a ≤ 8) (hn : n ≤ 11) (h : R (iv (a ^ n))) : K0G Try.prog glX 102 [iv a, iv (n : Int)] R := by
  refine K0_of_WY0 hmX hcL9 3000 Try.func102 (see (p := La 0 [(0 : Tmp), (5 : Tmp), (6 : Tmp), (7 : Tmp)] (WY Try.prog cfL9 2994 (Env.mk (Bs.mk 0 []) 0 none 14 102 0) (cdAt [1, 1, 0, 1, 0, 0] (bodyOf Try.f102))) (Qblk 0 (Qthen (WY Try.prog cfL9 2997 (Env.mk (Bs.mk 0 []) 0 none 14 102 0) (cdAt [1, 1, 1] (bodyOf Try.f102)) (QendX Try.prog Try.f102 fun v h => R (frzW h v))) (QendX Try.prog Try.f102 fun v h => R (frzW h v)))) (St.mk (mkT [(0, iv a), (5, iv (1 : Int)), (6, iv (↑n : Int)), (7, iv (0 : Int))]) (Hp.mk [] 0 []))) (by kernel_rfl) ?_)
  refine La.of (σ := Int × Nat) (fun s => sh102 a (n : Int) s.1 s.2) (fun s => s.2 ≤ n ∧ s.1 = a ^ s.2) (fun s => n - s.2) (1, 0) (by kernel_rfl) ⟨by simp, by simp⟩ ?_
  rintro ⟨p, k⟩ ⟨g1, g2⟩ J hJ
  simp only at g1 g2
  refine see (p := ifB (decide ((↑k : Int) < (↑n : Int))) (J (St.mk (mkT [(0, iv a), (5, iv (IntKind.i64.wrap (p * a))), (6, iv (↑n : Int)), (7, iv (IntKind.i64.wrap ((↑k : Int) + (1 : Int))))]) (Hp.mk [] 0 []))) (R (iv p))) (by kernel_rfl) ?_
  subst g2
  refine ifB_mk (fun hb => ?_) (fun hb => ?_)
  · have hlt : k < n := by have := of_decide_eq_true hb; omega
    have b1 := p8 h0 h1 (n := k + 1) (by omega)
    have b2 := pow_nn h0 (k + 1)
    rw [wr1i hlt (by omega), show a ^ k * a = a ^ (k + 1) from (Int.pow_succ a k).symm, wr (by omega) (by omega)]
    exact hJ (a ^ (k + 1), k + 1) ⟨hlt, rfl⟩ (by simp only; omega)
  · have hk : k = n := by have := of_decide_eq_false hb; omega
    subst hk
    exact h
def sS (b : Int) (k : Nat) : List Int → Int
  | [] => 0
  | x :: l => (if x ≤ (k : Int) then b ^ (11 - x.toNat) else 0) + sS b k l
theorem sS_app (b : Int) (k : Nat) (a : List Int) (x : Int) : sS b k (a ++ [x]) = sS b k a + (if x ≤ (k : Int) then b ^ (11 - x.toNat) else 0) := by
  induction a with
  | nil => simp [sS]
  | cons y a ih => simp only [List.cons_append, sS, ih]; omega
theorem cnt_cons (x : Int) (l : List Int) (k : Nat) : cnt (x :: l) k = cnt l k + if x = (k : Int) then 1 else 0 := by
  unfold cnt
  rw [List.count_cons]
  by_cases h : x = (k : Int)
  · subst h; simp
  · rw [if_neg h]; simp [h]
theorem sS_step (b : Int) (k : Nat) : ∀ l : List Int, (∀ x ∈ l, 0 ≤ x) → sS b (k + 1) l = sS b k l + cnt l (k + 1) * b ^ (11 - (k + 1))
  | [], _ => by simp [sS, cnt]
  | x :: l, h => by
    have h0 := h x (by simp)
    simp only [sS]
    rw [sS_step b k l (fun y hy => h y (by simp [hy])), cnt_cons, Int.add_mul]
    by_cases h1 : x ≤ (k : Int)
    · rw [if_pos h1, if_pos (by omega), if_neg (by omega)]; omega
    · by_cases h2 : x = ((k + 1 : Nat) : Int)
      · rw [if_neg h1, if_pos (by omega), if_pos h2, show x.toNat = k + 1 from by omega]; omega
      · rw [if_neg h1, if_neg (by omega), if_neg h2]; omega
theorem sS_zero (b : Int) : ∀ l : List Int, (∀ x ∈ l, 0 ≤ x) → sS b 0 l = cnt l 0 * b ^ 11
  | [], _ => by simp [sS, cnt]
  | x :: l, h => by
    have h0 := h x (by simp)
    simp only [sS]
    rw [sS_zero b l (fun y hy => h y (by simp [hy])), cnt_cons, Int.add_mul]
    by_cases h1 : x = 0
    · subst h1; simp; omega
    · rw [if_neg (by omega), if_neg (by omega)]; omega
theorem sS_mono {b : Int} (hb : 0 ≤ b) (k : Nat) : ∀ l : List Int, sS b k l ≤ sS b 11 l ∨ 11 < k
  | [] => .inl (Int.le_refl _)
  | x :: l => by
    rcases sS_mono hb k l with h | h
    · by_cases hk : 11 < k
      · exact .inr hk
      · refine .inl ?_
        simp only [sS]
        have := pow_nn hb (11 - x.toNat)
        by_cases h1 : x ≤ (k : Int)
        · rw [if_pos h1, if_pos (by omega)]; omega
        · rw [if_neg h1]; split <;> omega
    · exact .inr h
theorem sS_bnd {b : Int} (hb : 0 ≤ b) (hb8 : b ≤ 8) (k : Nat) : ∀ l : List Int, 0 ≤ sS b k l ∧ sS b k l ≤ 8589934592 * l.length
  | [] => by simp [sS]
  | x :: l => by
    have := sS_bnd hb hb8 k l
    have h1 := pow_nn hb (11 - x.toNat)
    have h2 := p8 hb hb8 (n := 11 - x.toNat) (by omega)
    simp only [sS, List.length_cons]
    split <;> omega
def lev (b : Int) (p : List Int) : Nat → Int
  | 0 => 1
  | k + 1 => (lev b p k - cnt p k) * b
theorem lev_sS {b : Int} {p : List Int} (hp : ∀ x ∈ p, 0 ≤ x) : ∀ k, k ≤ 11 → (lev b p k - cnt p k) * b ^ (11 - k) = b ^ 11 - sS b k p
  | 0, _ => by
    rw [sS_zero b p hp]
    show (1 - cnt p 0) * b ^ 11 = _
    rw [Int.sub_mul, Int.one_mul]
  | k + 1, hk => by
    have ih := lev_sS (b := b) hp k (by omega)
    rw [sS_step b k p hp]
    show ((lev b p k - cnt p k) * b - cnt p (k + 1)) * b ^ (11 - (k + 1)) = _
    rw [show 11 - k = (11 - (k + 1)) + 1 from by omega, Int.pow_succ] at ih
    rw [Int.sub_mul]
    have : (lev b p k - cnt p k) * b * b ^ (11 - (k + 1)) = (lev b p k - cnt p k) * (b ^ (11 - (k + 1)) * b) := by rw [Int.mul_assoc, Int.mul_comm b]
    rw [this, ih]
    omega
theorem lev_neg {b : Int} {p : List Int} (hb : 2 ≤ b) (hp : ∀ x ∈ p, 0 ≤ x) {k : Nat} (hk : k ≤ 11) (h : lev b p k - cnt p k < 0) : b ^ 11 < sS b 11 p := by
  have h1 := lev_sS (b := b) hp k hk
  have h2 : 0 < b ^ (11 - k) := Int.pow_pos (by omega)
  have h3 := Int.mul_neg_of_neg_of_pos h h2
  rcases sS_mono (b := b) (by omega) k p with h4 | h4
  · omega
  · omega
theorem lev_ok {b : Int} {p : List Int} (hp : ∀ x ∈ p, 0 ≤ x) (h : 0 ≤ lev b p 11 - cnt p 11) : sS b 11 p ≤ b ^ 11 := by
  have h1 := lev_sS (b := b) hp 11 (Nat.le_refl _)
  rw [show b ^ (11 - 11) = 1 from by simp, Int.mul_one] at h1
  omega
theorem can80 {p : List Int} {b : Int} {R : V → Prop} (hb : 2 ≤ b) (hb8 : b ≤ 8) (hl : p.length ≤ 12) (hp : ∀ x ∈ p, Inn 0 11 x) (h : R (bv (decide (sS b 11 p ≤ b ^ 11)))) : K0G Try.prog glX 80 [.lst 1 (nl p), iv b] R := by
  refine K0_of_WY0 hmX hcL9 3000 Try.func80 (see (p := La 0 [(1 : Tmp), (5 : Tmp), (8 : Tmp), (9 : Tmp), (10 : Tmp)] (WY Try.prog cfL9 2994 (Env.mk (Bs.mk 0 []) 0 none 25 80 0) (cdAt [1, 1, 0, 1, 0, 0] (bodyOf Try.f80))) (Qblk 0 (Qthen (WY Try.prog cfL9 2997 (Env.mk (Bs.mk 0 []) 0 none 25 80 0) (cdAt [1, 1, 1] (bodyOf Try.f80)) (QendX Try.prog Try.f80 fun v h => R (frzW h v))) (QendX Try.prog Try.f80 fun v h => R (frzW h v)))) (St.mk (mkT [(1, iv b), (5, iv (0 : Int)), (8, V.lst 1 (nl p)), (9, iv (↑(nl p).length : Int)), (10, iv (0 : Int))]) (Hp.mk [] 0 []))) (by kernel_rfl) ?_)
  refine La.of (σ := Int × Nat) (fun s => sh80 p b s.1 s.2) (fun s => s.2 ≤ p.length ∧ s.1 = sS b 11 (p.take s.2)) (fun s => p.length - s.2) (0, 0) (by kernel_rfl) ⟨by simp, by simp [sS]⟩ ?_
  rintro ⟨t, k⟩ ⟨g1, g2⟩ J hJ
  simp only at g1 g2
  refine see (p := ifB (decide ((↑k : Int) < (↑(nl p).length : Int))) (onSome (nl p)[k]? fun row => onSome row[0]? fun v => onIntK IntKind.i64 v fun n => K0G Try.prog glX 102 [iv b, iv (IntKind.i64.wrap ((11 : Int) - n))] fun v => onIntK IntKind.i64 v fun n => J (St.mk (mkT [(1, iv b), (5, iv (IntKind.i64.wrap (t + n))), (8, V.lst 1 (nl p)), (9, iv (↑(nl p).length : Int)), (10, iv (IntKind.i64.wrap ((↑k : Int) + (1 : Int))))]) (Hp.mk [] 0 []))) (K0G Try.prog glX 102 [iv b, iv (11 : Int)] fun v => onIntK IntKind.i64 v fun n => R (bv (decide (t ≤ n))))) (by kernel_rfl) ?_
  refine ifB_mk (fun hc => ?_) (fun hc => ?_)
  · have hlt : k < p.length := by rw [nl_length] at hc; have := of_decide_eq_true hc; omega
    obtain ⟨x, hx⟩ := getI hlt
    have hx01 := hp x (mem_at hx)
    have x0 := hx01.1
    have x1 := hx01.2
    refine iel hx ?_
    rw [show IntKind.i64.wrap ((11 : Int) - x) = ((11 - x.toNat : Nat) : Int) from by rw [wr (by omega) (by omega)]; omega]
    refine power102b (by omega) hb8 (by omega) (onIntK_iv ?_)
    have e : t + b ^ (11 - x.toNat) = sS b 11 (p.take (k + 1)) := by rw [take_succ' hx, sS_app, g2, if_pos (by omega)]
    have bd := sS_bnd (b := b) (by omega) hb8 11 (p.take (k + 1))
    have : (p.take (k + 1)).length ≤ 12 := by simp; omega
    rw [wr1i hlt (by omega), wr (by omega) (by omega)]
    exact hJ (t + b ^ (11 - x.toNat), k + 1) ⟨hlt, e⟩ (by simp only; omega)
  · have hk : p.length ≤ k := by rw [nl_length] at hc; have := of_decide_eq_false hc; omega
    rw [List.take_of_length_le hk] at g2
    refine power102b (n := 11) (by omega) hb8 (Nat.le_refl _) (onIntK_iv ?_)
    rw [g2]
    exact h
set_option maxHeartbeats 1000000 in
theorem can49 {p : List Int} {b : Int} {R : V → Prop} (hb : 2 ≤ b) (hb8 : b ≤ 8) (hl : p.length ≤ 12) (hp : ∀ x ∈ p, Inn 0 11 x) (h : R (bv (decide (sS b 11 p ≤ b ^ 11)))) : K0G Try.prog glX 49 [.lst 1 (nl p), iv b] R := by
  refine K0_of_WY0 hmX hcL9 3000 Try.func49 (see (p := La 0 [(0 : Tmp), (1 : Tmp), (5 : Tmp), (6 : Tmp)] (WY Try.prog cfL9 2994 (Env.mk (Bs.mk 0 []) 0 none 32 49 0) (cdAt [1, 1, 0, 1, 0, 0] (bodyOf Try.f49))) (Qblk 0 (Qthen (WY Try.prog cfL9 2997 (Env.mk (Bs.mk 0 []) 0 none 32 49 0) (cdAt [1, 1, 1] (bodyOf Try.f49)) (QendX Try.prog Try.f49 fun v h => R (frzW h v))) (QendX Try.prog Try.f49 fun v h => R (frzW h v)))) (St.mk (mkT [(0, V.lst 1 (nl p)), (1, iv b), (5, iv (1 : Int)), (6, iv (0 : Int))]) (Hp.mk [] 0 []))) (by kernel_rfl) ?_)
  have hp0 : ∀ x ∈ p, 0 ≤ x := fun x hx => (hp x hx).1
  have plen := nl_length p
  refine La.of (σ := Int × Nat) (fun s => sh49a p b s.1 s.2) (fun s => s.2 ≤ 12 ∧ 0 ≤ s.1 ∧ s.1 ≤ 100 ∧ (s.1 = lev b p s.2 ∨ s.1 = 100 ∧ 100 ≤ lev b p s.2) ∧ (s.2 = 12 → 0 ≤ lev b p 11 - cnt p 11)) (fun s => 12 - s.2) (1, 0) (by kernel_rfl) ⟨by simp, by decide, by decide, .inl rfl, fun h => by cases h⟩ ?_
  rintro ⟨t, k⟩ ⟨g1, g2, g3, g4, g5⟩ J hJ
  simp only at g1 g2 g3 g4 g5
  refine see (p := ifB (decide ((↑k : Int) ≤ (11 : Int))) (La 0 [(0 : Tmp), (1 : Tmp), (5 : Tmp), (6 : Tmp), (7 : Tmp)] (WY Try.prog cfL9 2987 (Env.mk (Bs.mk 0 []) 0 none 32 49 2) (cdAt [1, 1, 0, 1, 0, 0, 1, 0, 0, 0, 1, 0, 0] (bodyOf Try.f49))) (Qblk 2 (Qthen (WY Try.prog cfL9 2990 (Env.mk (Bs.mk 0 []) 0 none 32 49 1) (cdAt [1, 1, 0, 1, 0, 0, 1, 0, 0, 1] (bodyOf Try.f49)) (Qblk 1 (Qthen (WY Try.prog cfL9 2992 (Env.mk (Bs.mk 0 []) 0 none 32 49 0) (cdAt [1, 1, 0, 1, 0, 0, 1, 1] (bodyOf Try.f49)) (Qla 0 [(0 : Tmp), (1 : Tmp), (5 : Tmp), (6 : Tmp)] J (Qblk 0 (Qthen (WY Try.prog cfL9 2997 (Env.mk (Bs.mk 0 []) 0 none 32 49 0) (cdAt [1, 1, 1] (bodyOf Try.f49)) (QendX Try.prog Try.f49 fun v h => R (frzW h v))) (QendX Try.prog Try.f49 fun v h => R (frzW h v)))))) (Qla 0 [(0 : Tmp), (1 : Tmp), (5 : Tmp), (6 : Tmp)] J (Qblk 0 (Qthen (WY Try.prog cfL9 2997 (Env.mk (Bs.mk 0 []) 0 none 32 49 0) (cdAt [1, 1, 1] (bodyOf Try.f49)) (QendX Try.prog Try.f49 fun v h => R (frzW h v))) (QendX Try.prog Try.f49 fun v h => R (frzW h v)))))))) (Qblk 1 (Qthen (WY Try.prog cfL9 2992 (Env.mk (Bs.mk 0 []) 0 none 32 49 0) (cdAt [1, 1, 0, 1, 0, 0, 1, 1] (bodyOf Try.f49)) (Qla 0 [(0 : Tmp), (1 : Tmp), (5 : Tmp), (6 : Tmp)] J (Qblk 0 (Qthen (WY Try.prog cfL9 2997 (Env.mk (Bs.mk 0 []) 0 none 32 49 0) (cdAt [1, 1, 1] (bodyOf Try.f49)) (QendX Try.prog Try.f49 fun v h => R (frzW h v))) (QendX Try.prog Try.f49 fun v h => R (frzW h v)))))) (Qla 0 [(0 : Tmp), (1 : Tmp), (5 : Tmp), (6 : Tmp)] J (Qblk 0 (Qthen (WY Try.prog cfL9 2997 (Env.mk (Bs.mk 0 []) 0 none 32 49 0) (cdAt [1, 1, 1] (bodyOf Try.f49)) (QendX Try.prog Try.f49 fun v h => R (frzW h v))) (QendX Try.prog Try.f49 fun v h => R (frzW h v))))))))) (St.mk (mkT [(0, V.lst 1 (nl p)), (1, iv b), (5, iv t), (6, iv (↑k : Int)), (7, iv (0 : Int))]) (Hp.mk [] 0 []))) (R (bv true))) (by kernel_rfl) ?_
  refine ifB_mk (fun hc => ?_) (fun hc => ?_)
  · have hk : k ≤ 11 := by have := of_decide_eq_true hc; omega
    refine La.of (σ := Int × Nat) (fun s => sh49b p b s.1 k s.2) (fun s => s.2 ≤ p.length ∧ s.1 = t - cnt (p.take s.2) k) (fun s => p.length - s.2) (t, 0) (by kernel_rfl) ⟨by simp, by show t = t - 0; omega⟩ ?_
    have ht0 := t
    have tdef : ∃ t0, t0 = t := ⟨t, rfl⟩
    obtain ⟨t0, rfl⟩ := tdef
    rintro ⟨t, i⟩ ⟨f1, f2⟩ I hI
    simp only at f1 f2
    refine see (p := ifB (decide ((↑i : Int) < (↑(nl p).length : Int))) (onSome (nl p)[i]? fun row => onSome row[0]? fun v => onIntK IntKind.i64 v fun n => ifB (n == (↑k : Int)) (I (St.mk (mkT [(0, V.lst 1 (nl p)), (1, iv b), (5, iv (IntKind.i64.wrap (t - (1 : Int)))), (6, iv (↑k : Int)), (7, iv (IntKind.i64.wrap ((↑i : Int) + (1 : Int))))]) (Hp.mk [] 0 []))) (I (St.mk (mkT [(0, V.lst 1 (nl p)), (1, iv b), (5, iv t), (6, iv (↑k : Int)), (7, iv (IntKind.i64.wrap ((↑i : Int) + (1 : Int))))]) (Hp.mk [] 0 [])))) (ifB (decide (t < (0 : Int))) (R (bv false)) (J (St.mk (mkT [(0, V.lst 1 (nl p)), (1, iv b), (5, iv (if (100 : Int) < IntKind.i64.wrap (t * b) then (100 : Int) else IntKind.i64.wrap (t * b))), (6, iv (IntKind.i64.wrap ((↑k : Int) + (1 : Int))))]) (Hp.mk [] 0 []))))) (by kernel_rfl) ?_
    have cb := cnt_le (p.take i) k
    have cl : (p.take i).length ≤ 12 := by simp; omega
    refine ifB_mk (fun d => ?_) (fun d => ?_)
    · have hlt : i < p.length := by rw [plen] at d; have := of_decide_eq_true d; omega
      obtain ⟨x, hx⟩ := getI hlt
      have e : cnt (p.take (i + 1)) k = cnt (p.take i) k + if x = (k : Int) then 1 else 0 := by rw [take_succ' hx, cnt_app]
      refine iel hx ?_
      rw [wr1i hlt (by omega)]
      refine ifB_mk (fun c => ?_) (fun c => ?_)
      · rw [if_pos (by simpa using c)] at e
        rw [wr (by omega) (by omega)]
        exact hI (t - 1, i + 1) ⟨hlt, by simp only; omega⟩ (by simp only; omega)
      · rw [if_neg (by simpa using c)] at e
        exact hI (t, i + 1) ⟨hlt, by simp only; omega⟩ (by simp only; omega)
    · have hi : p.length ≤ i := by rw [plen] at d; have := of_decide_eq_false d; omega
      rw [List.take_of_length_le hi] at f2 cb
      have cp : cnt p k ≤ 12 := by omega
      refine ifB_mk (fun c => ?_) (fun c => ?_)
      · have c := of_decide_eq_true c
        have : lev b p k - cnt p k < 0 := by rcases g4 with q | ⟨q1, q2⟩ <;> omega
        have := lev_neg hb hp0 hk this
        rw [show decide (sS b 11 p ≤ b ^ 11) = false from decide_eq_false (by omega)] at h
        exact h
      · have c := of_decide_eq_false c
        have t0 : 0 ≤ t := by omega
        have t100 : t ≤ 100 := by omega
        have tb0 : 0 ≤ t * b := Int.mul_nonneg t0 (by omega)
        have tb1 : t * b ≤ 800 := by
          have := Int.mul_le_mul t100 hb8 (by omega) (by decide)
          omega
        rw [wr (n := t * b) (by omega) (by omega), wr1i (show k < 12 from by omega) (by omega)]
        have lv : lev b p (k + 1) = (lev b p k - cnt p k) * b := rfl
        have D0 : 0 ≤ lev b p k - cnt p k := by rcases g4 with q | ⟨q1, q2⟩ <;> omega
        refine hJ (if (100 : Int) < t * b then 100 else t * b, k + 1) ⟨by simp only; omega, ?_, ?_, ?_, fun q => ?_⟩ (by simp only; omega)
        · simp only; split <;> omega
        · simp only; split <;> omega
        · simp only
          rcases g4 with q | ⟨q1, q2⟩
          · have : t = lev b p k - cnt p k := by omega
            rw [← this] at lv
            split
            · exact .inr ⟨rfl, by omega⟩
            · exact .inl lv.symm
          · have h88 : 88 ≤ t := by omega
            have h2 := Int.mul_le_mul h88 hb (by decide) t0
            have h3 : 88 ≤ lev b p k - cnt p k := by omega
            have h4 := Int.mul_le_mul h3 hb (by decide) D0
            rw [if_pos (by omega)]
            exact .inr ⟨rfl, by omega⟩
        · have : k = 11 := by simp only at q; omega
          subst this
          exact D0
  · have hk : k = 12 := by have := of_decide_eq_false hc; omega
    have := lev_ok hp0 (g5 hk)
    rw [show decide (sS b 11 p ≤ b ^ 11) = true from decide_eq_true this] at h
    exact h
end Go.Proofs.Ytmdimnmdoifkfaa
namespace Go.Proofs.Ytmdimnmdoifkfaa
open Go Go.Proofs.Ytmdimnmdoifkfaa.Clean
set_option linter.unusedVariables false
set_option linter.unusedSimpArgs false
set_option maxRecDepth 10000
def NumP (c : List Int) (b : Int) : Prop := 2 ≤ b ∧ b ≤ 8 ∧ 1 ≤ c.length ∧ c.length ≤ 12 ∧ ∀ x ∈ c, Inn 0 1000 x
def dotK (c p : List Int) : Nat → Int
  | 0 => 0
  | k + 1 => dotK c p k + c.getD k 0 * p.getD k 0
theorem dot_bnd {c p : List Int} (hc : ∀ x ∈ c, Inn 0 1000 x) (hp : ∀ x ∈ p, Inn 0 11 x) : ∀ k : Nat, 0 ≤ dotK c p k ∧ dotK c p k ≤ 11000 * k
  | 0 => by simp [dotK]
  | k + 1 => by
    have ih := dot_bnd hc hp k
    have h1 : 0 ≤ c.getD k 0 ∧ c.getD k 0 ≤ 1000 := by
      by_cases h : k < c.length
      · obtain ⟨x, hx⟩ := getI h
        rw [getD_get hx]; exact hc x (mem_at hx)
      · simp [List.getD, h]
    have h2 : 0 ≤ p.getD k 0 ∧ p.getD k 0 ≤ 11 := by
      by_cases h : k < p.length
      · obtain ⟨x, hx⟩ := getI h
        rw [getD_get hx]; exact hp x (mem_at hx)
      · simp [List.getD, h]
    have h3 := Int.mul_nonneg h1.1 h2.1
    have h4 := Int.mul_le_mul h1.2 h2.2 h2.1 (by decide)
    simp only [dotK]
    omega
def CostP (c p : List Int) (b : Int) : Prop := NumP c b ∧ p.length = c.length ∧ ∀ x ∈ p, Inn 0 11 x
def CostR (c p : List Int) (b n e : Int) : Prop := (¬ CostP c p b ∧ n = 0 ∧ e = 2) ∨ (CostP c p b ∧ ¬ sS b 11 p ≤ b ^ 11 ∧ n = 0 ∧ e = 6) ∨ (CostP c p b ∧ sS b 11 p ≤ b ^ 11 ∧ n = dotK c p p.length ∧ e = 0)
theorem cost39 {c p : List Int} {b : Int} {R : V → Prop} (hl : c.length ≤ 20) (hl2 : p.length ≤ 20) (h : ∀ n e, CostR c p b n e → R (.tup [iv n, iv e])) : K0G Try.prog glX 39 [.lst 1 (nl c), .lst 1 (nl p), iv b] R := by
  refine K0_of_WY0 hmX hcL9 3000 Try.func39 (see (p := ifB (decide ((2 : Int) ≤ b)) (ifB (decide (b ≤ (8 : Int))) (ifB (decide ((1 : Int) ≤ (↑(nl c).length : Int))) (ifB (decide ((↑(nl c).length : Int) ≤ (12 : Int))) (K0G Try.prog glX 77 [V.lst 1 (nl c), iv (↑(nl c).length : Int), iv (0 : Int), iv (1000 : Int)] fun v => onBool v fun b_1 => ifB (!b_1) (R (V.tup [iv (0 : Int), iv (2 : Int)])) (K0G Try.prog glX 77 [V.lst 1 (nl p), iv (↑(nl c).length : Int), iv (0 : Int), iv (11 : Int)] fun v => onBool v fun b_2 => ifB (!b_2) (R (V.tup [iv (0 : Int), iv (2 : Int)])) (K0G Try.prog glX 80 [V.lst 1 (nl p), iv b] fun v => onBool v fun b => ifB (!b) (R (V.tup [iv (0 : Int), iv (6 : Int)])) (La 0 [(0 : Tmp), (8 : Tmp), (26 : Tmp), (27 : Tmp), (28 : Tmp)] (WY Try.prog cfL9 2992 (Env.mk (Bs.mk 0 []) 0 none 43 39 0) (cdAt [1, 1, 1, 1, 0, 1, 0, 0] (bodyOf Try.f39))) (Qblk 0 (Qthen (WY Try.prog cfL9 2995 (Env.mk (Bs.mk 0 []) 0 none 43 39 0) (cdAt [1, 1, 1, 1, 1] (bodyOf Try.f39)) (QendX Try.prog Try.f39 fun v h => R (frzW h v))) (QendX Try.prog Try.f39 fun v h => R (frzW h v)))) (St.mk (mkT [(0, V.lst 1 (nl c)), (8, iv (0 : Int)), (26, V.lst 1 (nl p)), (27, iv (↑(nl p).length : Int)), (28, iv (0 : Int))]) (Hp.mk [] 0 [])))))) (R (V.tup [iv (0 : Int), iv (2 : Int)]))) (R (V.tup [iv (0 : Int), iv (2 : Int)]))) (R (V.tup [iv (0 : Int), iv (2 : Int)]))) (R (V.tup [iv (0 : Int), iv (2 : Int)]))) (by kernel_rfl) ?_)
  have clen := nl_length c
  have plen := nl_length p
  have bad : ¬ CostP c p b → R (V.tup [iv 0, iv 2]) := fun hn => h 0 2 (.inl ⟨hn, rfl, rfl⟩)
  rw [clen]
  refine ifB_mk (fun c1 => ifB_mk (fun c2 => ifB_mk (fun c3 => ifB_mk (fun c4 => ?_) (fun c4 => bad (fun q => by have := q.1.2.2.2.1; have := of_decide_eq_false c4; omega))) (fun c3 => bad (fun q => by have := q.1.2.2.1; have := of_decide_eq_false c3; omega))) (fun c2 => bad (fun q => by have := q.1.2.1; have := of_decide_eq_false c2; omega))) (fun c1 => bad (fun q => by have := q.1.1; have := of_decide_eq_false c1; omega))
  have c1 := of_decide_eq_true c1
  have c2 := of_decide_eq_true c2
  have c3 := of_decide_eq_true c3
  have c4 := of_decide_eq_true c4
  refine nums77 (by omega) (onBool_bv (ifB_mk (fun d => bad (fun q => ?_)) (fun d => ?_)))
  · rw [dc_t ⟨rfl, q.1.2.2.2.2⟩] at d; cases d
  have hC : Nums c c.length 0 1000 := dc_true (by cases hq : dc (Nums c c.length 0 1000) with | true => rfl | false => rw [hq] at d; cases d)
  refine nums77 (by omega) (onBool_bv (ifB_mk (fun d => bad (fun q => ?_)) (fun d => ?_)))
  · rw [dc_t ⟨by rw [q.2.1], q.2.2⟩] at d; cases d
  have hP : Nums p c.length 0 11 := dc_true (by cases hq : dc (Nums p c.length 0 11) with | true => rfl | false => rw [hq] at d; cases d)
  have lp : p.length = c.length := by have := hP.1; omega
  have hcp : CostP c p b := ⟨⟨c1, c2, by omega, by omega, hC.2⟩, lp, hP.2⟩
  refine can80 c1 c2 (by omega) hP.2 (onBool_bv (ifB_mk (fun d => h 0 6 (.inr (.inl ⟨hcp, by simpa using d, rfl, rfl⟩))) (fun d => ?_)))
  have hcan : sS b 11 p ≤ b ^ 11 := by simpa using d
  refine La.of (σ := Int × Nat) (fun s => sh39 c p s.1 s.2) (fun s => s.2 ≤ p.length ∧ s.1 = dotK c p s.2) (fun s => p.length - s.2) (0, 0) (by kernel_rfl) ⟨by simp, rfl⟩ ?_
  rintro ⟨t, k⟩ ⟨g1, g2⟩ J hJ
  simp only at g1 g2
  refine see (p := ifB (decide ((↑k : Int) < (↑(nl p).length : Int))) (onSome (nl p)[k]? fun row => onSome row[0]? fun v => onIntK IntKind.i64 v fun n => onSome (nl c)[k]? fun row => onSome row[0]? fun v => onIntK IntKind.i64 v fun n_1 => J (St.mk (mkT [(0, V.lst 1 (nl c)), (8, iv (IntKind.i64.wrap (t + IntKind.i64.wrap (n_1 * n)))), (26, V.lst 1 (nl p)), (27, iv (↑(nl p).length : Int)), (28, iv (IntKind.i64.wrap ((↑k : Int) + (1 : Int))))]) (Hp.mk [] 0 []))) (R (V.tup [iv t, iv (0 : Int)]))) (by kernel_rfl) ?_
  refine ifB_mk (fun hc => ?_) (fun hc => ?_)
  · have hlt : k < p.length := by rw [plen] at hc; have := of_decide_eq_true hc; omega
    obtain ⟨x, hx⟩ := getI hlt
    obtain ⟨y, hy⟩ := getI (l := c) (k := k) (by omega)
    have d1 := dot_bnd hC.2 hP.2 k
    have d2 := dot_bnd hC.2 hP.2 (k + 1)
    have e : dotK c p (k + 1) = dotK c p k + y * x := by simp only [dotK]; rw [getD_get hx, getD_get hy]
    refine iel hx (iel hy ?_)
    rw [wr1i hlt (by omega), wr (n := y * x) (by omega) (by omega), wr (by omega) (by omega)]
    exact hJ (t + y * x, k + 1) ⟨hlt, by rw [e, g2]⟩ (by simp only; omega)
  · have hk : k = p.length := by rw [plen] at hc; have := of_decide_eq_false hc; omega
    exact h t 0 (.inr (.inr ⟨hcp, hcan, by rw [g2, hk], rfl⟩))
end Go.Proofs.Ytmdimnmdoifkfaa
namespace Go.Proofs.Ytmdimnmdoifkfaa
open Go Go.Proofs.Ytmdimnmdoifkfaa.Clean
set_option linter.unusedVariables false
set_option maxRecDepth 100000
end Go.Proofs.Ytmdimnmdoifkfaa
namespace Go.Proofs.Ytmdimnmdoifkfaa
open Go Go.Proofs.Ytmdimnmdoifkfaa.Clean
set_option linter.unusedVariables false
set_option linter.unusedSimpArgs false
set_option maxRecDepth 10000
def insS : List Int → Int → List Int
  | [], x => [x]
  | y :: l, x => if x < y then x :: y :: l else y :: insS l x
theorem insS_perm : ∀ (l : List Int) (x : Int), (insS l x).Perm (x :: l)
  | [], x => List.Perm.refl _
  | y :: l, x => by
    unfold insS
    split
    · exact List.Perm.refl _
    · exact ((insS_perm l x).cons y).trans (List.Perm.swap x y l)
theorem insS_srt : ∀ {l : List Int} (x : Int), l.Pairwise (· ≤ ·) → (insS l x).Pairwise (· ≤ ·)
  | [], x, _ => by simp [insS]
  | y :: l, x, h => by
    have h1 := List.pairwise_cons.1 h
    unfold insS
    split
    · refine List.pairwise_cons.2 ⟨fun z hz => ?_, h⟩
      rcases List.mem_cons.1 hz with rfl | hz
      · omega
      · have := h1.1 z hz; omega
    · refine List.pairwise_cons.2 ⟨fun z hz => ?_, insS_srt x h1.2⟩
      rcases List.mem_cons.1 ((insS_perm l x).mem_iff.1 hz) with rfl | hz
      · omega
      · exact h1.1 z hz
theorem insS_length (l : List Int) (x : Int) : (insS l x).length = l.length + 1 := by rw [(insS_perm l x).length_eq]; rfl
theorem tot_perm {a b : List Int} (h : a.Perm b) : tot a = tot b := by
  induction h with
  | nil => rfl
  | cons x _ ih => show x + _ = x + _; rw [ih]
  | swap x y l => show y + (x + tot l) = x + (y + tot l); omega
  | trans _ _ h1 h2 => exact h1.trans h2
def hfC : Nat → Nat → List Int → Int → Int
  | 0, _, _, t => t
  | f + 1, b, s, t => if 1 < s.length then hfC f b (insS (s.drop b) (tot (s.take b))) (t + tot (s.take b)) else t
theorem hfC_end {f b : Nat} {s : List Int} {t : Int} (h : s.length ≤ 1) : hfC f b s t = t := by
  cases f with
  | zero => rfl
  | succ f => exact if_neg (by omega)
def padN (n b : Nat) : Nat := (b - 1 - (n - 1) % (b - 1)) % (b - 1)
def padB (b n : Nat) : Bool := (n + padN n b - 1) % (b - 1) == 0 && decide (padN n b ≤ 7) && (List.range (padN n b)).all fun q => (n + q - 1) % (b - 1) != 0
theorem pad_all : ((List.range 9).all fun b => (List.range 13).all fun n => !(decide (2 ≤ b) && decide (1 ≤ n)) || padB b n) = true := by decide
theorem pad_ok (b : Nat) (h8 : b ≤ 8) (h2 : 2 ≤ b) (n : Nat) (h12 : n ≤ 12) (h1 : 1 ≤ n) : (n + padN n b - 1) % (b - 1) = 0 ∧ padN n b ≤ 7 ∧ ∀ q, q < padN n b → (n + q - 1) % (b - 1) ≠ 0 := by
  have h := List.all_eq_true.1 (List.all_eq_true.1 pad_all b (List.mem_range.2 (by omega))) n (List.mem_range.2 (by omega))
  simp only [h2, h1, decide_true, Bool.and_true, Bool.not_true, Bool.false_or, padB, Bool.and_eq_true, beq_iff_eq, decide_eq_true_eq, List.all_eq_true, List.mem_range, bne_iff_ne] at h
  exact ⟨h.1.1, h.1.2, h.2⟩
theorem tot_rep : ∀ q, tot (List.replicate q (0 : Int)) = 0
  | 0 => rfl
  | q + 1 => by rw [List.replicate_succ]; show 0 + _ = _; rw [tot_rep q]; rfl
theorem even_ge {m b : Nat} (hb : 2 ≤ b) (h : (m - 1) % (b - 1) = 0) (hm : 1 < m) : b ≤ m := by
  have := Nat.div_add_mod (m - 1) (b - 1)
  rw [h, Nat.add_zero] at this
  have h1 : (m - 1) / (b - 1) ≠ 0 := by intro q; rw [q, Nat.mul_zero] at this; omega
  have h2 : b - 1 ≤ (b - 1) * ((m - 1) / (b - 1)) := Nat.le_mul_of_pos_right _ (Nat.pos_of_ne_zero h1)
  omega
theorem even_next {m b : Nat} (hb : 2 ≤ b) (h : (m - 1) % (b - 1) = 0) (hm : b ≤ m) : (m - b + 1 - 1) % (b - 1) = 0 := by
  have e : m - 1 = (m - b + 1 - 1) + (b - 1) := by omega
  rw [e, Nat.add_mod_right] at h
  exact h
theorem nl_take (l : List Int) : List.take l.length (nl l) = nl l := by rw [← nl_length]; exact List.take_length
end Go.Proofs.Ytmdimnmdoifkfaa
namespace Go.Proofs.Ytmdimnmdoifkfaa
open Go Go.Proofs.Ytmdimnmdoifkfaa.Clean
set_option linter.unusedVariables false
set_option linter.unusedSimpArgs false
set_option maxRecDepth 10000
def firstB (b n : Nat) : Bool := 2 + (n - 2) % (b - 1) == b - padN n b && decide (padN n b + 2 ≤ b)
theorem first_all : ((List.range 9).all fun b => (List.range 13).all fun n => !(decide (2 ≤ b) && decide (2 ≤ n)) || firstB b n) = true := by decide
theorem first_ok (b : Nat) (h8 : b ≤ 8) (h2 : 2 ≤ b) (n : Nat) (h12 : n ≤ 12) (h1 : 2 ≤ n) : 2 + (n - 2) % (b - 1) = b - padN n b ∧ padN n b + 2 ≤ b := by
  have h := List.all_eq_true.1 (List.all_eq_true.1 first_all b (List.mem_range.2 (by omega))) n (List.mem_range.2 (by omega))
  simp only [h2, h1, decide_true, Bool.and_true, Bool.not_true, Bool.false_or, firstB, Bool.and_eq_true, beq_iff_eq, decide_eq_true_eq] at h
  exact h
theorem pad_one {b : Nat} (h2 : 2 ≤ b) : padN 1 b = 0 := by
  unfold padN
  rw [show (1 : Nat) - 1 = 0 from rfl, Nat.zero_mod, Nat.sub_zero, Nat.mod_self]
theorem hfC_pad {S : List Int} {b : Nat} (h2 : 2 ≤ b) (h8 : b ≤ 8) (h1 : 1 ≤ S.length) (h12 : S.length ≤ 12) : hfC 20 b (List.replicate (padN S.length b) 0 ++ S) 0 =
    if 1 < S.length then hfC 19 b (insS (S.drop (2 + (S.length - 2) % (b - 1))) (tot (S.take (2 + (S.length - 2) % (b - 1))))) (0 + tot (S.take (2 + (S.length - 2) % (b - 1)))) else 0 := by
  by_cases h : 1 < S.length
  · obtain ⟨e1, e2⟩ := first_ok b h8 h2 S.length h12 h
    rw [if_pos h, e1]
    generalize padN S.length b = p at e2
    have t1 : (List.replicate p (0 : Int) ++ S).take b = List.replicate p 0 ++ S.take (b - p) := by
      rw [List.take_append, List.length_replicate, List.take_of_length_le (by simp; omega)]
    have t2 : (List.replicate p (0 : Int) ++ S).drop b = S.drop (b - p) := by
      rw [List.drop_append, List.length_replicate, List.drop_of_length_le (by simp; omega)]; rfl
    have t3 : tot (List.replicate p (0 : Int) ++ S.take (b - p)) = tot (S.take (b - p)) := by rw [tot_append, tot_rep]; omega
    show (if 1 < (List.replicate p (0 : Int) ++ S).length then hfC 19 b (insS ((List.replicate p (0 : Int) ++ S).drop b) (tot ((List.replicate p (0 : Int) ++ S).take b))) (0 + tot ((List.replicate p (0 : Int) ++ S).take b)) else 0) = _
    rw [if_pos (by simp; omega), t1, t2, t3]
  · have hl : S.length = 1 := by omega
    rw [if_neg h, hl, pad_one h2]
    exact hfC_end (by simp; omega)
end Go.Proofs.Ytmdimnmdoifkfaa
namespace Go.Proofs.Ytmdimnmdoifkfaa
open Go Go.Proofs.Ytmdimnmdoifkfaa.Clean
set_option linter.unusedVariables false
set_option maxRecDepth 100000
abbrev Gp := List Int × Int
def gpr (x : Gp) : List V := [.lst 1 (nl x.1), iv x.2]
def gpl (l : List Gp) : List (List V) := l.map gpr
def kpQ : FuncId → Nat → Option (List Tmp) := slotsOf [(41, 0, [0, 1, 7, 20, 21, 22]), (41, 2, [1, 7, 10, 11, 12]), (41, 4, [1, 7, 10, 11, 12, 13, 50, 51, 52]), (81, 0, [0, 2, 4, 7]), (84, 0, [2, 3, 6, 7, 8])]
def moQ (f : FuncId) : Nat := 0
noncomputable def cfQ : Cfg := { cfgG Try.prog glX moQ poK rtB (inN [54, 75, 79, 81, 83, 84]) kpQ with clean := fun g => !inN [100, 103, 81] g, fz := fun f t => inN [41] f && inN [29] t }
noncomputable def sh41a (c : List Int) (b : Int) (l : List Gp) (M k : Nat) : St := ⟨mkT [(0, V.lst 1 (nl c)), (1, iv b), (7, V.sl (Id.p 0) 0 M), (20, V.lst 1 (nl c)), (21, iv ((nl c).length : Int)), (22, iv (k : Int))], ⟨[(0, O.rows 2 true (gpl l))], 1, []⟩⟩
noncomputable def sh41n (c : List Int) (b : Int) : St := ⟨mkT [(0, V.lst 1 (nl c)), (1, iv b), (7, nilS), (20, V.lst 1 (nl c)), (21, iv ((nl c).length : Int)), (22, iv 0)], ⟨[], 0, []⟩⟩
noncomputable def sh81n (n : Int) : St := ⟨mkT [(0, nilS), (2, V.fn (Fn.func 82) [] []), (4, V.ptr (Id.p 1) 0 0), (7, iv 0)], ⟨[(1, O.rows 2 false [[V.lst 1 [[iv 0]], iv n]])], 2, []⟩⟩
noncomputable def sh81a (l : List Gp) (M k : Nat) (n : Int) (at_ : Nat) : St := ⟨mkT [(0, V.sl (Id.p 0) 0 M), (2, V.fn (Fn.func 82) [] []), (4, V.ptr (Id.p 2) 0 0), (7, iv (at_ : Int))], ⟨[(0, O.rows 2 true (gpl l)), (2, O.rows 2 false [[V.lst 1 [[iv (k : Int)]], iv n]])], 3, []⟩⟩
noncomputable def sh41b (b : Int) (lo M N : Nat) (l : List Gp) (ps : List Int) (cost : Int) (tk : Nat) : St := ⟨mkT [(1, iv b), (7, V.sl (Id.p 0) lo M), (10, V.sl (Id.p 1) 0 N), (11, iv cost), (12, iv (tk : Int))], ⟨[(0, O.rows 2 true (gpl l)), (1, O.rows 1 true (nl ps))], 2, []⟩⟩
noncomputable def sh41c (b : Int) (lo M N : Nat) (l : List Gp) (ps : List Int) (cost : Int) (tk : Nat) (ks : List Int) (g : Int) (i : Nat) : St := ⟨mkT [(1, iv b), (7, V.sl (Id.p 0) lo M), (10, V.sl (Id.p 1) 0 N), (11, iv cost), (12, iv (tk : Int)), (13, V.ptr (Id.p 2) 0 0), (50, V.lst 1 (nl ks)), (51, iv ((nl ks).length : Int)), (52, iv (i : Int))], ⟨[(0, O.rows 2 true (gpl l)), (1, O.rows 1 true (nl ps)), (2, O.rows 2 false [[V.lst 1 (nl ks), iv g]])], 3, []⟩⟩
noncomputable def sh84 (lo M tk N : Nat) (l : List Gp) (ps ks : List Int) (g : Int) (i : Nat) : St := ⟨mkT [(2, V.ptr (Id.p 2) 0 0), (3, V.ptr (Id.p 3) 0 0), (6, V.sl (Id.p 0) lo tk), (7, iv (tk : Int)), (8, iv (i : Int))], ⟨[(0, O.rows 2 true (gpl l)), (1, O.rows 1 true (nl ps)), (2, O.rows 2 false [[nilS, iv 0]]), (3, O.rows 2 false [[V.lst 1 (nl ks), iv g]])], 4, []⟩⟩
noncomputable def sh84n (lo tk : Nat) (l : List Gp) (ps : List Int) : St := ⟨mkT [(2, V.ptr (Id.p 2) 0 0), (3, V.ptr (Id.p 3) 0 0), (6, V.sl (Id.p 0) lo tk), (7, iv (tk : Int)), (8, iv 0)], ⟨[(0, O.rows 2 true (gpl l)), (1, O.rows 1 true (nl ps)), (2, O.rows 2 false [[nilS, iv 0]]), (3, O.rows 2 false [[nilS, iv 0]])], 4, []⟩⟩
noncomputable def sh81b (lo M N : Nat) (l : List Gp) (ps ks : List Int) (g : Int) (at_ : Nat) : St := ⟨mkT [(0, V.sl (Id.p 0) lo M), (2, V.fn (Fn.func 82) [] []), (4, V.ptr (Id.p 3) 0 0), (7, iv (at_ : Int))], ⟨[(0, O.rows 2 true (gpl l)), (1, O.rows 1 true (nl ps)), (2, O.rows 2 false [[V.lst 1 (nl ks), iv g]]), (3, O.rows 2 false [[V.lst 1 (nl ks), iv g]])], 4, []⟩⟩
end Go.Proofs.Ytmdimnmdoifkfaa
namespace Go.Proofs.Ytmdimnmdoifkfaa
open Go Go.Proofs.Ytmdimnmdoifkfaa.Clean
set_option linter.unusedVariables false
set_option maxRecDepth 100000
noncomputable def cfQ2 : Cfg := { cfgG Try.prog glX moQ poK rtB (inN [94, 109, 112]) (fun _ _ => none) with clean := fun g => !inN [100, 103, 81] g }
end Go.Proofs.Ytmdimnmdoifkfaa
namespace Go.Proofs.Ytmdimnmdoifkfaa
open Go Go.Proofs.Ytmdimnmdoifkfaa.Clean
set_option linter.unusedVariables false
set_option linter.unusedSimpArgs false
set_option maxRecDepth 10000
theorem hcQ2 : cfQ2.ok Try.prog := by
  have h : (cfgG Try.prog glX moQ poK rtB (inN [94, 109, 112]) (fun _ _ => none)).ok Try.prog := cfgG_ok rtB_ok
  exact ⟨h.1, h.2⟩
theorem hcQ : cfQ.ok Try.prog := by
  have h : (cfgG Try.prog glX moQ poK rtB (inN [54, 75, 79, 81, 83, 84]) kpQ).ok Try.prog := cfgG_ok rtB_ok
  exact ⟨h.1, h.2⟩
theorem cmp82 {xs ys : List Int} {p r : Int} {R : V → Prop} (h : ∀ n : Int, (0 < n ↔ r < p) → R (iv n)) : K0G Try.prog glX 82 [.agg [.lst 1 (nl xs), iv p], .agg [.lst 1 (nl ys), iv r]] R := by
  refine K0_of_WY0 hmX hcQ2 3000 Try.func82 (see (p := ifB (p != p) (ifB (r != r) (R (iv (0 : Int))) (R (iv (-1 : Int)))) (ifB (r != r) (R (iv (1 : Int))) (ifB (decide (p < r)) (R (iv (-1 : Int))) (ifB (decide (p > r)) (R (iv (1 : Int))) (R (iv (0 : Int))))))) (by kernel_rfl) ?_)
  simp only [bne_self_eq_false]
  refine ifB_f rfl (ifB_f rfl (ifB_mk (fun c1 => h _ ⟨fun q => by omega, fun q => by have := of_decide_eq_true c1; omega⟩) (fun c1 => ifB_mk (fun c2 => h _ ⟨fun _ => by have := of_decide_eq_true c2; omega, fun _ => by decide⟩) (fun c2 => h _ ⟨fun q => by omega, fun q => by have := of_decide_eq_false c2; omega⟩))))
theorem nl_app (a b : List Int) : nl (a ++ b) = nl a ++ nl b := by simp [nl]
theorem concat106n {ys : List Int} {R : V → Prop} (hy : ys.length ≤ 1000) (h : R (.lst 1 (nl ys))) : K0G Try.prog glX 106 [.lst 1 [[nilS], [.lst 1 (nl ys)]]] R := by
  refine K0_of_WY0 hmX hcQ2 3000 Try.func106 (see (p := ifB (decide (IntKind.i64.wrap (IntKind.i64.wrap ((0 : Int) + (↑(0 : Nat) : Int)) + (↑(nl ys).length : Int)) < (0 : Int))) False (ifB (decide (IntKind.i64.wrap (IntKind.i64.wrap ((0 : Int) + (↑(0 : Nat) : Int)) + (↑(nl ys).length : Int)) < (0 : Int))) False (ifB (decide (IntKind.i64.wrap (IntKind.i64.wrap (IntKind.i64.wrap ((0 : Int) + (↑(0 : Nat) : Int)) + (↑(nl ys).length : Int)) - IntKind.i64.wrap ((↑(0 : Nat) : Int) - (↑(0 : Nat) : Int))) > (0 : Int))) (onNat (IntKind.i64.wrap (IntKind.i64.wrap (IntKind.i64.wrap ((0 : Int) + (↑(0 : Nat) : Int)) + (↑(nl ys).length : Int)) - IntKind.i64.wrap ((↑(0 : Nat) : Int) - (↑(0 : Nat) : Int)))) fun n => need (n * 8 ≤ 140737488355328) (need ((0 + (nl ys).length) * 8 ≤ 140737488355328) (R (V.lst 1 (sub ([] ++ nl ys) 0 (0 + (nl ys).length)))))) (need ((0 + (nl ys).length) * 8 ≤ 140737488355328) (R (V.lst 1 (sub ([] ++ nl ys) 0 (0 + (nl ys).length)))))))) (by kernel_rfl) ?_)
  rw [nl_length]
  have w1 : IntKind.i64.wrap ((0 : Int) + ((0 : Nat) : Int)) = 0 := by rw [wr (by omega) (by omega)]; rfl
  have w2 : IntKind.i64.wrap ((0 : Int) + (ys.length : Int)) = (ys.length : Int) := by rw [wr (by omega) (by omega)]; omega
  have w3 : IntKind.i64.wrap (((0 : Nat) : Int) - ((0 : Nat) : Int)) = 0 := by rw [wr (by omega) (by omega)]; rfl
  have w4 : IntKind.i64.wrap ((ys.length : Int) - 0) = (ys.length : Int) := by rw [wr (by omega) (by omega)]; omega
  rw [w1, w2, w3, w4]
  have e1 : sub ([] ++ nl ys) 0 (0 + ys.length) = nl ys := by rw [List.nil_append, Nat.zero_add]; exact sub_all' ys rfl
  rw [e1]
  refine ifB_f (decide_eq_false (by omega)) (ifB_f (decide_eq_false (by omega)) (ifB_mk (fun hp => ?_) (fun hp => need_mk ⟨by omega, h⟩)))
  exact onNat_mk (m := ys.length) rfl (need_mk ⟨by omega, need_mk ⟨by omega, h⟩⟩)
theorem concat106 {xs ys : List Int} {R : V → Prop} (hx : xs.length ≤ 1000) (hy : ys.length ≤ 1000) (h : R (.lst 1 (nl (xs ++ ys)))) : K0G Try.prog glX 106 [.lst 1 [[.lst 1 (nl xs)], [.lst 1 (nl ys)]]] R := by
  refine K0_of_WY0 hmX hcQ2 3000 Try.func106 (see (p := ifB (decide (IntKind.i64.wrap ((0 : Int) + (↑(nl xs).length : Int)) < (0 : Int))) False (ifB (decide (IntKind.i64.wrap (IntKind.i64.wrap ((0 : Int) + (↑(nl xs).length : Int)) + (↑(nl ys).length : Int)) < (0 : Int))) False (ifB (decide (IntKind.i64.wrap (IntKind.i64.wrap ((0 : Int) + (↑(nl xs).length : Int)) + (↑(nl ys).length : Int)) < (0 : Int))) False (ifB (decide (IntKind.i64.wrap (IntKind.i64.wrap (IntKind.i64.wrap ((0 : Int) + (↑(nl xs).length : Int)) + (↑(nl ys).length : Int)) - IntKind.i64.wrap ((↑(0 : Nat) : Int) - (↑(0 : Nat) : Int))) > (0 : Int))) (onNat (IntKind.i64.wrap (IntKind.i64.wrap (IntKind.i64.wrap ((0 : Int) + (↑(nl xs).length : Int)) + (↑(nl ys).length : Int)) - IntKind.i64.wrap ((↑(0 : Nat) : Int) - (↑(0 : Nat) : Int)))) fun n => need (n * 8 ≤ 140737488355328) (need ((0 + (nl xs).length) * 8 ≤ 140737488355328) (need ((0 + (nl xs).length + (nl ys).length) * 8 ≤ 140737488355328) (R (V.lst 1 (sub (List.take (0 + (nl xs).length) ([] ++ nl xs) ++ nl ys) 0 (0 + (nl xs).length + (nl ys).length))))))) (need ((nl xs).length * 8 ≤ 140737488355328) (need (((nl xs).length + (nl ys).length) * 8 ≤ 140737488355328) (R (V.lst 1 (sub (List.take (nl xs).length (nl xs) ++ nl ys) 0 ((nl xs).length + (nl ys).length)))))))))) (by kernel_rfl) ?_)
  rw [nl_length, nl_length]
  have w1 : IntKind.i64.wrap ((0 : Int) + (xs.length : Int)) = (xs.length : Int) := by rw [wr (by omega) (by omega)]; omega
  have w2 : IntKind.i64.wrap ((xs.length : Int) + (ys.length : Int)) = (xs.length : Int) + ys.length := wr (by omega) (by omega)
  have w3 : IntKind.i64.wrap (((0 : Nat) : Int) - ((0 : Nat) : Int)) = 0 := by rw [wr (by omega) (by omega)]; rfl
  have w4 : IntKind.i64.wrap ((xs.length : Int) + (ys.length : Int) - 0) = (xs.length : Int) + ys.length := by rw [wr (by omega) (by omega)]; omega
  rw [w1, w2, w3, w4]
  have e1 : sub (List.take xs.length (nl xs) ++ nl ys) 0 (xs.length + ys.length) = nl (xs ++ ys) := by
    rw [nl_take, ← nl_app]; exact sub_all' _ (by simp)
  refine ifB_f (decide_eq_false (by omega)) (ifB_f (decide_eq_false (by omega)) (ifB_f (decide_eq_false (by omega)) (ifB_mk (fun hp => ?_) (fun hp => ?_))))
  · refine onNat_mk (m := xs.length + ys.length) (by omega) (need_mk ⟨by omega, need_mk ⟨by omega, need_mk ⟨by omega, ?_⟩⟩⟩)
    rw [Nat.zero_add, List.nil_append, e1]
    exact h
  · refine need_mk ⟨by omega, need_mk ⟨by omega, ?_⟩⟩
    rw [e1]
    exact h
def insG : List Gp → Gp → List Gp
  | [], x => [x]
  | y :: l, x => if x.2 < y.2 then x :: y :: l else y :: insG l x
theorem insG_map : ∀ (l : List Gp) (x : Gp), (insG l x).map (·.2) = insS (l.map (·.2)) x.2
  | [], x => rfl
  | y :: l, x => by
    simp only [insG, List.map_cons, insS]
    split
    · rfl
    · rw [List.map_cons, insG_map l x]
theorem insG_at : ∀ (l : List Gp) (x : Gp) (k : Nat), (∀ y ∈ l.take k, y.2 ≤ x.2) → (∀ y ∈ l.drop k, x.2 < y.2) → insG l x = l.take k ++ x :: l.drop k
  | [], x, k, _, _ => by simp [insG]
  | y :: l, x, 0, h1, h2 => by
    have := h2 y (by simp)
    simp [insG, this]
  | y :: l, x, k + 1, h1, h2 => by
    have := h1 y (by simp)
    rw [insG, if_neg (by omega), insG_at l x k (fun z hz => h1 z (by simp [hz])) (fun z hz => h2 z (by simpa using hz))]
    rfl
theorem srt_take {l : List Gp} {k : Nat} {x : Gp} {p : Int} (hs : (l.map (·.2)).Pairwise (· ≤ ·)) (hx : l[k]? = some x) (hp : x.2 ≤ p) : ∀ y ∈ l.take (k + 1), y.2 ≤ p := fun y hy => by
  rw [take_succ' hx] at hy
  rcases List.mem_append.1 hy with hy | hy
  · obtain ⟨i, hi⟩ := List.getElem?_of_mem hy
    rw [List.getElem?_take] at hi
    split at hi
    · rename_i hik
      have h1 := (List.getElem?_eq_some_iff.1 hi)
      have h2 := (List.getElem?_eq_some_iff.1 hx)
      have := List.pairwise_iff_getElem.1 hs i k (by simpa using h1.1) (by simpa using h2.1) hik
      simp only [List.getElem_map] at this
      rw [h1.2, h2.2] at this
      omega
    · cases hi
  · rw [List.mem_singleton.1 hy]; exact hp
end Go.Proofs.Ytmdimnmdoifkfaa
namespace Go.Proofs.Ytmdimnmdoifkfaa
open Go Go.Proofs.Ytmdimnmdoifkfaa.Clean
set_option linter.unusedVariables false
set_option linter.unusedSimpArgs false
set_option maxRecDepth 10000
def dotL : List Int → List Nat → Int
  | w :: s, d :: q => w * (d : Int) + dotL s q
  | _, _ => 0
def krN (b D : Nat) : List Nat → Nat
  | [] => 0
  | d :: q => b ^ (D - d) + krN b D q
theorem krN_perm {b D : Nat} {p q : List Nat} (h : p.Perm q) : krN b D p = krN b D q := by
  induction h with
  | nil => rfl
  | cons x _ ih => simp only [krN, ih]
  | swap x y l => simp only [krN]; omega
  | trans _ _ h1 h2 => exact h1.trans h2
theorem dotL_nn : ∀ {s : List Int} {q : List Nat}, (∀ x ∈ s, 0 ≤ x) → 0 ≤ dotL s q
  | [], _, _ => by simp [dotL]
  | _ :: _, [], _ => by simp [dotL]
  | w :: s, d :: q, h => by
    have h1 := dotL_nn (s := s) (q := q) (fun x hx => h x (by simp [hx]))
    have h2 := Int.mul_nonneg (h w (by simp)) (Int.natCast_nonneg d)
    simp only [dotL]; omega
theorem dotL_perm {a b : List Int} (h : a.Perm b) : ∀ {q : List Nat}, a.length = q.length → ∃ q', q.Perm q' ∧ dotL b q' = dotL a q := by
  induction h with
  | nil => intro q hq; exact ⟨q, List.Perm.refl _, rfl⟩
  | cons x _ ih =>
    intro q hq
    cases q with
    | nil => simp at hq
    | cons d q =>
      obtain ⟨q', h1, h2⟩ := ih (q := q) (by simpa using hq)
      exact ⟨d :: q', h1.cons d, by simp only [dotL, h2]⟩
  | swap x y l =>
    intro q hq
    match q, hq with
    | d :: e :: q, hq => exact ⟨e :: d :: q, List.Perm.swap e d q, by simp only [dotL]; omega⟩
  | trans h1 _ ih1 ih2 =>
    intro q hq
    obtain ⟨q', g1, g2⟩ := ih1 hq
    obtain ⟨q'', g3, g4⟩ := ih2 (q := q') (by rw [← h1.length_eq, hq, g1.length_eq])
    exact ⟨q'', g1.trans g3, by rw [g4, g2]⟩
def insD : List Nat → Nat → List Nat
  | [], y => [y]
  | z :: r, y => if z ≤ y then y :: z :: r else z :: insD r y
theorem insD_perm : ∀ (l : List Nat) (y : Nat), (insD l y).Perm (y :: l)
  | [], y => List.Perm.refl _
  | z :: r, y => by
    unfold insD
    split
    · exact List.Perm.refl _
    · exact ((insD_perm r y).cons z).trans (List.Perm.swap y z r)
theorem insD_srt : ∀ {l : List Nat} (y : Nat), l.Pairwise (fun a b => b ≤ a) → (insD l y).Pairwise (fun a b => b ≤ a)
  | [], y, _ => by simp [insD]
  | z :: r, y, h => by
    have h1 := List.pairwise_cons.1 h
    unfold insD
    split
    · refine List.pairwise_cons.2 ⟨fun x hx => ?_, h⟩
      rcases List.mem_cons.1 hx with rfl | hx
      · omega
      · have := h1.1 x hx; omega
    · refine List.pairwise_cons.2 ⟨fun x hx => ?_, insD_srt y h1.2⟩
      rcases List.mem_cons.1 ((insD_perm r y).mem_iff.1 hx) with rfl | hx
      · omega
      · exact h1.1 x hx
theorem insD_dot : ∀ {s : List Int} {x : Int} {r : List Nat} {y : Nat}, s.length = r.length → (x :: s).Pairwise (· ≤ ·) → dotL (x :: s) (insD r y) ≤ x * (y : Int) + dotL s r
  | [], x, [], y, _, _ => by simp [insD, dotL]
  | x' :: s, x, z :: r, y, hl, h => by
    unfold insD
    split
    · exact Int.le_refl _
    · rename_i hz
      have h1 := List.pairwise_cons.1 h
      have ih := insD_dot (s := s) (x := x') (r := r) (y := y) (by simpa using hl) h1.2
      have h2 := h1.1 x' (by simp)
      have h3 : 0 ≤ (x' - x) * ((z : Int) - y) := Int.mul_nonneg (by omega) (by omega)
      have h4 : (x' - x) * ((z : Int) - y) = x' * z - x' * y - (x * z - x * y) := by rw [Int.sub_mul, Int.mul_sub, Int.mul_sub]
      simp only [dotL] at ih ⊢
      omega
theorem rearr : ∀ {s : List Int} {q : List Nat}, s.length = q.length → s.Pairwise (· ≤ ·) → ∃ q', q.Perm q' ∧ q'.Pairwise (fun a b => b ≤ a) ∧ dotL s q' ≤ dotL s q
  | [], [], _, _ => ⟨[], List.Perm.refl _, List.Pairwise.nil, Int.le_refl _⟩
  | x :: s, y :: q, hl, h => by
    obtain ⟨q1, h1, h2, h3⟩ := rearr (s := s) (q := q) (by simpa using hl) (List.pairwise_cons.1 h).2
    refine ⟨insD q1 y, (h1.cons y).trans (insD_perm q1 y).symm, insD_srt y h2, ?_⟩
    have := insD_dot (s := s) (x := x) (r := q1) (y := y) (by rw [← h1.length_eq]; simpa using hl) h
    simp only [dotL]
    omega
theorem head_rep : ∀ {q : List Nat} {m : Nat}, q.Pairwise (fun a b => b ≤ a) → (∀ d ∈ q, d ≤ m) → ∃ c r, q = List.replicate c m ++ r ∧ ∀ d ∈ r, d < m
  | [], m, _, _ => ⟨0, [], rfl, by simp⟩
  | d :: q, m, h, hm => by
    have h1 := List.pairwise_cons.1 h
    by_cases hd : d = m
    · subst hd
      obtain ⟨c, r, h2, h3⟩ := head_rep (q := q) (m := d) h1.2 (fun x hx => hm x (by simp [hx]))
      exact ⟨c + 1, r, by rw [h2]; simp [List.replicate_succ], h3⟩
    · have := hm d (by simp)
      refine ⟨0, d :: q, rfl, fun x hx => ?_⟩
      rcases List.mem_cons.1 hx with rfl | hx
      · omega
      · have := h1.1 x hx; omega
theorem krN_app (b D : Nat) : ∀ p q : List Nat, krN b D (p ++ q) = krN b D p + krN b D q
  | [], q => by simp [krN]
  | d :: p, q => by simp only [List.cons_append, krN, krN_app b D p q]; omega
theorem krN_rep (b D m : Nat) : ∀ c, krN b D (List.replicate c m) = c * b ^ (D - m)
  | 0 => by simp [krN]
  | c + 1 => by rw [List.replicate_succ]; simp only [krN, krN_rep b D m c]; rw [Nat.succ_mul]; omega
theorem pow_mod1 (p : Nat) : ∀ k, ∃ m, (p + 1) ^ k = p * m + 1
  | 0 => ⟨0, by simp⟩
  | k + 1 => by
    obtain ⟨m, h⟩ := pow_mod1 p k
    refine ⟨m * (p + 1) + 1, ?_⟩
    rw [Nat.pow_succ, h, Nat.add_mul, Nat.one_mul, Nat.mul_add p, Nat.mul_assoc]; omega
theorem krN_mod (p D : Nat) : ∀ q : List Nat, ∃ m, krN (p + 1) D q = p * m + q.length
  | [] => ⟨0, by simp [krN]⟩
  | d :: q => by
    obtain ⟨m, h⟩ := krN_mod p D q
    obtain ⟨m2, h2⟩ := pow_mod1 p (D - d)
    exact ⟨m2 + m, by simp only [krN, h, h2, List.length_cons, Nat.mul_add]; omega⟩
theorem krN_scale (b m D : Nat) (hmD : m ≤ D) : ∀ {q : List Nat}, (∀ d ∈ q, d ≤ m) → krN b D q = b ^ (D - m) * krN b m q
  | [], _ => by simp [krN]
  | d :: q, h => by
    have h1 := h d (by simp)
    simp only [krN, krN_scale b m D hmD (q := q) (fun x hx => h x (by simp [hx])), Nat.mul_add]
    rw [← Nat.pow_add, show D - m + (m - d) = D - d from by omega]
theorem krN_dvd (b m : Nat) : ∀ {q : List Nat}, (∀ d ∈ q, d < m) → ∃ k, krN b m q = b * k
  | [], _ => ⟨0, by simp [krN]⟩
  | d :: q, h => by
    obtain ⟨k, hk⟩ := krN_dvd b m (q := q) (fun x hx => h x (by simp [hx]))
    have h1 := h d (by simp)
    refine ⟨b ^ (m - d - 1) + k, ?_⟩
    simp only [krN, hk, Nat.mul_add]
    have : b ^ (m - d) = b * b ^ (m - d - 1) := by
      conv => lhs; rw [show m - d = (m - d - 1) + 1 from by omega]
      rw [Nat.pow_succ, Nat.mul_comm]
    rw [this]
def sumQ : List Nat → Nat
  | [] => 0
  | d :: q => d + sumQ q
theorem sumQ_perm {p q : List Nat} (h : p.Perm q) : sumQ p = sumQ q := by
  induction h with
  | nil => rfl
  | cons x _ ih => simp only [sumQ, ih]
  | swap x y l => simp only [sumQ]; omega
  | trans _ _ h1 h2 => exact h1.trans h2
theorem dotL_split : ∀ {s : List Int} {b m : Nat} {r : List Nat}, b ≤ s.length → dotL s (List.replicate b m ++ r) = tot (s.take b) * (m : Int) + dotL (s.drop b) r
  | s, 0, m, r, _ => by simp [tot]
  | w :: s, b + 1, m, r, h => by
    rw [List.replicate_succ]
    simp only [List.cons_append, dotL, List.take_succ_cons, List.drop_succ_cons, tot]
    rw [dotL_split (s := s) (b := b) (by simpa using h), Int.add_mul]; omega
set_option maxHeartbeats 1000000 in
theorem huff {p D : Nat} (hp : 1 ≤ p) : ∀ (f : Nat) {s : List Int} {t : Int} (g : Nat) {q : List Nat}, s.Pairwise (· ≤ ·) → (∀ x ∈ s, 0 ≤ x) → s.length = q.length → (∀ d ∈ q, d ≤ D) → krN (p + 1) D q ≤ (p + 1) ^ D → (s.length - 1) % p = 0 → s.length ≤ f + 1 → sumQ q ≤ g → hfC f (p + 1) s t ≤ t + dotL s q := by
  intro f
  induction f with
  | zero =>
    intro s t g q hs h0 hl hD hk hm hf hg
    rw [hfC_end (by omega)]
    have := dotL_nn (q := q) h0
    omega
  | succ f ih =>
    intro s t g
    induction g with
    | zero =>
      intro q hs h0 hl hD hk hm hf hg
      by_cases hn : s.length ≤ 1
      · rw [hfC_end hn]
        have := dotL_nn (q := q) h0
        omega
      · exfalso
        have all0 : ∀ q : List Nat, sumQ q ≤ 0 → krN (p + 1) D q = q.length * (p + 1) ^ D := by
          intro q
          induction q with
          | nil => intro _; simp [krN]
          | cons d q ih =>
            intro h
            simp only [sumQ] at h
            have hd : d = 0 := by omega
            subst hd
            simp only [krN, ih (by omega), List.length_cons, Nat.succ_mul, Nat.sub_zero]; omega
        rw [all0 q hg] at hk
        have h2 : 2 * (p + 1) ^ D ≤ q.length * (p + 1) ^ D := Nat.mul_le_mul_right _ (by omega)
        have h3 : 0 < (p + 1) ^ D := Nat.pow_pos (by omega)
        omega
    | succ g ihg =>
      intro q hs h0 hl hD hk hm hf hg
      by_cases hn : s.length ≤ 1
      · rw [hfC_end hn]
        have := dotL_nn (q := q) h0
        omega
      obtain ⟨q1, e1, e2, e3⟩ := rearr hl hs
      have hl1 : s.length = q1.length := by rw [hl, e1.length_eq]
      have hD1 : ∀ d ∈ q1, d ≤ D := fun d hd => hD d (e1.mem_iff.2 hd)
      have hk1 : krN (p + 1) D q1 ≤ (p + 1) ^ D := by rw [← krN_perm e1]; exact hk
      have hg1 : sumQ q1 ≤ g + 1 := by rw [← sumQ_perm e1]; exact hg
      refine Int.le_trans ?_ (Int.add_le_add_left e3 t)
      clear e3 hl hD hk hg e1 q
      cases q1 with
      | nil => exfalso; rw [hl1] at hn; simp at hn
      | cons m q2 =>
      have hm1 := List.pairwise_cons.1 e2
      have hmm : ∀ d ∈ m :: q2, d ≤ m := fun d hd => by
        rcases List.mem_cons.1 hd with rfl | hd
        · exact Nat.le_refl _
        · exact hm1.1 d hd
      have hmD := hD1 m (by simp)
      have hB : 0 < (p + 1) ^ (D - m) := Nat.pow_pos (by omega)
      have hsc := krN_scale (p + 1) m D hmD hmm
      have hDm : (p + 1) ^ D = (p + 1) ^ (D - m) * (p + 1) ^ m := by rw [← Nat.pow_add, show D - m + m = D from by omega]
      have hK : krN (p + 1) m (m :: q2) ≤ (p + 1) ^ m := by
        rw [hsc, hDm] at hk1
        exact Nat.le_of_mul_le_mul_left hk1 hB
      have hmpos : 1 ≤ m := by
        rcases Nat.eq_zero_or_pos m with h | h
        · subst h
          have hrep : ∀ q : List Nat, krN (p + 1) 0 q = q.length := by
            intro q
            induction q with
            | nil => rfl
            | cons d q ih => simp only [krN, ih, Nat.zero_sub, Nat.pow_zero, List.length_cons]; omega
          rw [hrep, ← hl1, Nat.pow_zero] at hK
          exact absurd hK hn
        · exact h
      obtain ⟨m1, hm1'⟩ := krN_mod p m (m :: q2)
      obtain ⟨m2, hm2⟩ := pow_mod1 p m
      have hlen : ∃ a, (m :: q2).length = p * a + 1 := ⟨(s.length - 1) / p, by
        have := Nat.div_add_mod (s.length - 1) p
        rw [← hl1]; omega⟩
      obtain ⟨a, ha⟩ := hlen
      by_cases hlt : krN (p + 1) m (m :: q2) < (p + 1) ^ m
      ·
        have hroom : krN (p + 1) m (m :: q2) + p ≤ (p + 1) ^ m := by
          rw [hm1', hm2, ha] at hlt ⊢
          have h1 : p * (m1 + a) < p * m2 := by rw [Nat.mul_add]; omega
          have h2 : m1 + a < m2 := Nat.lt_of_mul_lt_mul_left h1
          have h3 : p * (m1 + a + 1) ≤ p * m2 := Nat.mul_le_mul_left p h2
          rw [Nat.mul_add, Nat.mul_add] at h3
          omega
        have hnew : krN (p + 1) m ((m - 1) :: q2) = krN (p + 1) m (m :: q2) + p := by
          simp only [krN, Nat.sub_self, Nat.pow_zero, show m - (m - 1) = 1 from by omega, Nat.pow_one]; omega
        have hle : ∀ d ∈ (m - 1) :: q2, d ≤ m := fun d hd => by
          rcases List.mem_cons.1 hd with rfl | hd
          · omega
          · exact hm1.1 d hd
        have := ihg (q := (m - 1) :: q2) hs h0 (by simpa using hl1) (fun d hd => Nat.le_trans (hle d hd) hmD) (by
          rw [krN_scale (p + 1) m D hmD hle, hDm, hnew]
          exact Nat.mul_le_mul_left _ hroom) hm hf (by simp only [sumQ] at hg1 ⊢; omega)
        refine Int.le_trans this (Int.add_le_add_left ?_ t)
        cases s with
        | nil => simp [dotL]
        | cons w s =>
          simp only [dotL]
          have hw := h0 w (by simp)
          have : w * ((m - 1 : Nat) : Int) ≤ w * (m : Int) := Int.mul_le_mul_of_nonneg_left (by omega) hw
          omega
      ·
        have hKe : krN (p + 1) m (m :: q2) = (p + 1) ^ m := by omega
        obtain ⟨c, r, hc, hr⟩ := head_rep e2 hmm
        obtain ⟨k, hkk⟩ := krN_dvd (p + 1) m hr
        have hcb : p + 1 ≤ c := by
          rw [hc, krN_app, krN_rep, hkk, Nat.sub_self, Nat.pow_zero, Nat.mul_one] at hKe
          have hpm : (p + 1) ^ m = (p + 1) * (p + 1) ^ (m - 1) := by
            conv => lhs; rw [show m = (m - 1) + 1 from by omega]
            rw [Nat.pow_succ, Nat.mul_comm]
          rw [hpm] at hKe
          have hcm : c = (p + 1) * ((p + 1) ^ (m - 1) - k) := by rw [Nat.mul_sub, ← hKe, Nat.add_sub_cancel]
          have hc0 : c ≠ 0 := by
            intro h
            subst h
            rw [List.replicate_zero, List.nil_append] at hc
            have := hr m (by rw [← hc]; simp)
            omega
          have : (p + 1) ^ (m - 1) - k ≠ 0 := by intro h; rw [h] at hcm; omega
          rw [hcm]
          exact Nat.le_mul_of_pos_right _ (by omega)
        obtain ⟨c, rfl⟩ : ∃ c', c = (p + 1) + c' := ⟨c - (p + 1), by omega⟩
        rw [← List.replicate_append_replicate, List.append_assoc] at hc
        generalize List.replicate c m ++ r = r at hc
        have hle' : ∀ d ∈ r, d ≤ m := fun d hd => hmm d (by rw [hc]; simp [hd])
        have lens : s.length = (p + 1) + r.length := by rw [hl1, hc]; simp
        have hnl : ¬ s.length ≤ 1 := hn
        rw [show hfC (f + 1) (p + 1) s t = hfC f (p + 1) (insS (s.drop (p + 1)) (tot (s.take (p + 1)))) (t + tot (s.take (p + 1))) from if_pos (by omega)]
        rw [hc, dotL_split (by omega)]
        have hperm := insS_perm (s.drop (p + 1)) (tot (s.take (p + 1)))
        obtain ⟨q', f1, f2⟩ := dotL_perm hperm.symm (q := (m - 1) :: r) (by simp; omega)
        have ht0 := tot_mono h0 (p + 1)
        have key := ih (s := insS (s.drop (p + 1)) (tot (s.take (p + 1)))) (t := t + tot (s.take (p + 1))) (sumQ q') (q := q') (insS_srt _ (hs.sublist (List.drop_sublist _ _))) (fun x hx => by
            rcases List.mem_cons.1 (hperm.mem_iff.1 hx) with rfl | hx
            · exact ht0.1
            · exact h0 x (List.mem_of_mem_drop hx)) (by rw [hperm.length_eq, ← f1.length_eq]; simp; omega) (fun d hd => by
            rcases List.mem_cons.1 (f1.mem_iff.2 hd) with rfl | hd
            · omega
            · exact Nat.le_trans (hle' d hd) hmD) (by
            rw [← krN_perm f1, krN_scale (p + 1) m D hmD (fun d hd => by
              rcases List.mem_cons.1 hd with rfl | hd
              · omega
              · exact hle' d hd), hDm, ← hKe, hc, krN_app, krN_rep, Nat.sub_self]
            refine Nat.mul_le_mul_left _ ?_
            simp only [krN, show m - (m - 1) = 1 from by omega, Nat.pow_one, Nat.pow_zero, Nat.mul_one]
            exact Nat.le_refl _) (by
            rw [insS_length, List.length_drop, Nat.add_sub_cancel]
            rw [lens, show p + 1 + r.length - 1 = r.length + p from by omega, Nat.add_mod_right] at hm
            rw [lens, show p + 1 + r.length - (p + 1) = r.length from by omega]
            exact hm) (by rw [insS_length, List.length_drop]; omega) (Nat.le_refl _)
        refine Int.le_trans key ?_
        rw [f2]
        simp only [dotL]
        have : tot (s.take (p + 1)) * ((m - 1 : Nat) : Int) = tot (s.take (p + 1)) * (m : Int) - tot (s.take (p + 1)) := by
          rw [show ((m - 1 : Nat) : Int) = (m : Int) - 1 from by omega, Int.mul_sub, Int.mul_one]
        omega
theorem dotL_rep0 : ∀ (n D : Nat) (s : List Int) (q : List Nat), dotL (List.replicate n 0 ++ s) (List.replicate n D ++ q) = dotL s q
  | 0, D, s, q => rfl
  | n + 1, D, s, q => by rw [List.replicate_succ, List.replicate_succ]; simp only [List.cons_append, dotL, dotL_rep0 n D s q]; omega
theorem huff_least {c S : List Int} {q : List Nat} {bn : Nat} (h2 : 2 ≤ bn) (h8 : bn ≤ 8) (h1 : 1 ≤ c.length) (h12 : c.length ≤ 12) (hS : S.Pairwise (· ≤ ·)) (hp : c.Perm S) (h0 : ∀ x ∈ c, 0 ≤ x) (hq : c.length = q.length) (hD : ∀ d ∈ q, d ≤ 11) (hk : krN bn 11 q ≤ bn ^ 11) : hfC 20 bn (List.replicate (padN c.length bn) 0 ++ S) 0 ≤ dotL c q := by
  obtain ⟨pd1, pd2, pd3⟩ := pad_ok bn h8 h2 c.length h12 h1
  have pd4 : padN c.length bn < bn - 1 := Nat.mod_lt _ (by omega)
  generalize padN c.length bn = pd at pd1 pd2 pd3 pd4
  obtain ⟨p, rfl⟩ : ∃ p, bn = p + 1 := ⟨bn - 1, by omega⟩
  rw [Nat.add_sub_cancel] at pd1 pd4
  obtain ⟨q', f1, f2⟩ := dotL_perm hp hq
  have hkp : krN (p + 1) 11 (List.replicate pd 11 ++ q') ≤ (p + 1) ^ 11 := by
    rw [krN_app, krN_rep, Nat.sub_self, Nat.pow_zero, Nat.mul_one, ← krN_perm f1]
    obtain ⟨m1, e1⟩ := krN_mod p 11 q
    obtain ⟨m2, e2⟩ := pow_mod1 p 11
    have hlen : ∃ a, q.length + pd = p * a + 1 := ⟨(c.length + pd - 1) / p, by
      have := Nat.div_add_mod (c.length + pd - 1) p
      rw [← hq]; omega⟩
    obtain ⟨a, ha⟩ := hlen
    rw [e1, e2] at hk ⊢
    rcases Nat.lt_or_ge (p * m2 + 1) (pd + (p * m1 + q.length)) with h | h
    · have h3 : p * m2 < p * (m1 + a) := by rw [Nat.mul_add]; omega
      have h4 : m2 + 1 ≤ m1 + a := Nat.lt_of_mul_lt_mul_left h3
      have h5 := Nat.mul_le_mul_left p h4
      rw [Nat.mul_add, Nat.mul_add] at h5
      omega
    · exact h
  rw [← f2, ← dotL_rep0 pd 11 S q']
  have := huff (p := p) (D := 11) (by omega) 20 (s := List.replicate pd 0 ++ S) (t := 0) (sumQ (List.replicate pd 11 ++ q')) (q := List.replicate pd 11 ++ q') (by
    rw [List.pairwise_append]
    refine ⟨by simp [List.pairwise_replicate], hS, fun x hx y hy => ?_⟩
    have := List.eq_of_mem_replicate hx
    have := h0 y (hp.mem_iff.2 hy)
    omega) (fun x hx => by
    rcases List.mem_append.1 hx with hx | hx
    · rw [List.eq_of_mem_replicate hx]; exact Int.le_refl _
    · exact h0 x (hp.mem_iff.2 hx)) (by simp [← hp.length_eq, hq, f1.length_eq]) (fun d hd => by
    rcases List.mem_append.1 hd with hd | hd
    · rw [List.eq_of_mem_replicate hd]; exact Nat.le_refl _
    · exact hD d (f1.mem_iff.2 hd)) hkp (by
    simp only [List.length_append, List.length_replicate, ← hp.length_eq]
    rw [Nat.add_comm pd]; exact pd1) (by simp [← hp.length_eq]; omega) (Nat.le_refl _)
  omega
end Go.Proofs.Ytmdimnmdoifkfaa
namespace Go.Proofs.Ytmdimnmdoifkfaa
open Go Go.Proofs.Ytmdimnmdoifkfaa.Clean
set_option linter.unusedVariables false
set_option linter.unusedSimpArgs false
set_option maxRecDepth 10000
theorem insG_permH : ∀ (l : List Gp) (x : Gp), (insG l x).Perm (x :: l)
  | [], x => List.Perm.refl _
  | y :: l, x => by
    unfold insG
    split
    · exact List.Perm.refl _
    · exact ((insG_permH l x).cons y).trans (List.Perm.swap x y l)
def sumF (f : Int → Int) : List Int → Int
  | [] => 0
  | i :: l => f i + sumF f l
theorem sumF_perm {f : Int → Int} {a b : List Int} (h : a.Perm b) : sumF f a = sumF f b := by
  induction h with
  | nil => rfl
  | cons x _ ih => simp only [sumF, ih]
  | swap x y l => simp only [sumF]; omega
  | trans _ _ h1 h2 => exact h1.trans h2
theorem sumF_app (f : Int → Int) : ∀ a b : List Int, sumF f (a ++ b) = sumF f a + sumF f b
  | [], b => by simp [sumF]
  | i :: a, b => by simp only [List.cons_append, sumF, sumF_app f a b]; omega
theorem sumF_congr {f g : Int → Int} : ∀ {a : List Int}, (∀ i ∈ a, f i = g i) → sumF f a = sumF g a
  | [], _ => rfl
  | i :: a, h => by simp only [sumF]; rw [h i (by simp), sumF_congr (fun j hj => h j (by simp [hj]))]
theorem sumF_add (f g : Int → Int) : ∀ a : List Int, sumF (fun i => f i + g i) a = sumF f a + sumF g a
  | [] => rfl
  | i :: a => by simp only [sumF, sumF_add f g a]; omega
theorem sumF_mul (f : Int → Int) (m : Int) : ∀ a : List Int, sumF (fun i => m * f i) a = m * sumF f a
  | [] => by simp [sumF]
  | i :: a => by simp only [sumF, sumF_mul f m a, Int.mul_add]
theorem sumF_zero {f : Int → Int} : ∀ {a : List Int}, (∀ i ∈ a, f i = 0) → sumF f a = 0
  | [], _ => rfl
  | i :: a, h => by simp only [sumF]; rw [h i (by simp), sumF_zero (fun j hj => h j (by simp [hj]))]; rfl
def kinds (D : List Gp) : List Int := D.flatMap (·.1)
theorem kinds_perm {a b : List Gp} (h : a.Perm b) : (kinds a).Perm (kinds b) := h.flatMap_right _
theorem kinds_app (a b : List Gp) : kinds (a ++ b) = kinds a ++ kinds b := by simp [kinds]
def rngI (n : Nat) : List Int := (List.range n).map (fun i : Nat => (i : Int))
theorem rngI_nodup (n : Nat) : (rngI n).Nodup := by
  unfold rngI
  exact List.Pairwise.map _ (fun a b h => by omega) (List.nodup_range (n := n))
theorem mem_rngI {n : Nat} {i : Int} : i ∈ rngI n ↔ 0 ≤ i ∧ i < (n : Int) := by
  unfold rngI
  rw [List.mem_map]
  constructor
  · rintro ⟨a, h1, rfl⟩
    have := List.mem_range.1 h1
    omega
  · intro h
    exact ⟨i.toNat, List.mem_range.2 (by omega), by omega⟩
theorem rngI_succ (n : Nat) : rngI (n + 1) = rngI n ++ [(n : Int)] := by simp [rngI, List.range_succ]
def at0 (l : List Int) (i : Int) : Int := l.getD i.toNat 0
def incs : List Int → List Int → List Int
  | [], ps => ps
  | k :: ks, ps => incs ks (ps.set k.toNat (at0 ps k + 1))
theorem incs_length : ∀ (ks ps : List Int), (incs ks ps).length = ps.length
  | [], ps => rfl
  | k :: ks, ps => by rw [incs, incs_length ks]; simp
theorem incs_app : ∀ (a b ps : List Int), incs (a ++ b) ps = incs b (incs a ps)
  | [], b, ps => rfl
  | k :: a, b, ps => by simp only [List.cons_append, incs, incs_app a b]
theorem at0_set {ps : List Int} {k i v : Int} (hk : 0 ≤ k) (hkl : k < (ps.length : Int)) (hi : 0 ≤ i) : at0 (ps.set k.toNat v) i = if i = k then v else at0 ps i := by
  unfold at0
  rw [List.getD_eq_getElem?_getD, List.getD_eq_getElem?_getD, List.getElem?_set]
  by_cases h : i = k
  · subst h; rw [if_pos rfl, if_pos rfl, if_pos (by omega)]; rfl
  · rw [if_neg h, if_neg (by omega)]
theorem incs_at : ∀ {ks ps : List Int} {i : Int}, ks.Nodup → (∀ k ∈ ks, 0 ≤ k ∧ k < (ps.length : Int)) → 0 ≤ i → at0 (incs ks ps) i = at0 ps i + if i ∈ ks then 1 else 0
  | [], ps, i, _, _, _ => by simp [incs]
  | k :: ks, ps, i, hn, hk, hi => by
    have h1 := List.nodup_cons.1 hn
    have h2 := hk k (by simp)
    rw [incs, incs_at h1.2 (fun j hj => by rw [List.length_set]; exact hk j (by simp [hj])) hi, at0_set h2.1 h2.2 hi]
    by_cases h : i = k
    · subst h
      rw [if_pos rfl, if_neg h1.1, if_pos (by simp)]; omega
    · rw [if_neg h]
      by_cases h3 : i ∈ ks
      · rw [if_pos h3, if_pos (by simp [h3])]
      · rw [if_neg h3, if_neg (by simp [h, h3])]
structure PI (c : List Int) (bn : Nat) (D : List Gp) (ps : List Int) (cost : Int) : Prop where
  perm : (kinds D).Perm (rngI c.length)
  len : ps.length = c.length
  parts : ∀ x ∈ D, x.2 = sumF (at0 c) x.1
  cost : cost = sumF (fun i => at0 c i * at0 ps i) (rngI c.length)
  deep : ∃ r : Nat, D.length + r ≤ c.length ∧ ∀ i ∈ rngI c.length, 0 ≤ at0 ps i ∧ at0 ps i ≤ (r : Int)
  kraft : ∀ x ∈ D, sumF (fun i => (bn : Int) ^ (11 - (at0 ps i).toNat)) x.1 ≤ (bn : Int) ^ 11
theorem PI.start {c : List Int} {bn : Nat} {D : List Gp} (h1 : (kinds D).Perm (rngI c.length)) (h2 : ∀ x ∈ D, ∃ i, x.1 = [i] ∧ x.2 = at0 c i) (h3 : D.length = c.length) : PI c bn D (List.replicate c.length 0) 0 := by
  have z : ∀ i, at0 (List.replicate c.length (0 : Int)) i = 0 := fun i => by
    unfold at0
    rw [List.getD_eq_getElem?_getD, List.getElem?_replicate]
    split <;> rfl
  refine ⟨h1, by simp, fun x hx => ?_, ?_, ⟨0, by omega, fun i _ => by rw [z]; simp⟩, fun x hx => ?_⟩
  · obtain ⟨i, e1, e2⟩ := h2 x hx
    rw [e1, e2]; simp [sumF]
  · rw [sumF_zero (fun i _ => by rw [z, Int.mul_zero])]
  · obtain ⟨i, e1, e2⟩ := h2 x hx
    rw [e1]
    simp only [sumF, z]
    simp
theorem tot_parts {c : List Int} : ∀ {D : List Gp}, (∀ x ∈ D, x.2 = sumF (at0 c) x.1) → tot (D.map (·.2)) = sumF (at0 c) (kinds D)
  | [], _ => rfl
  | x :: D, h => by
    have := tot_parts (D := D) (fun y hy => h y (by simp [hy]))
    show x.2 + tot (D.map (·.2)) = _
    rw [this, h x (by simp)]
    show _ = sumF (at0 c) (x.1 ++ kinds D)
    rw [sumF_app]
theorem kraft_parts {f : Int → Int} {m : Int} : ∀ {D : List Gp}, (∀ x ∈ D, sumF f x.1 ≤ m) → sumF f (kinds D) ≤ m * (D.length : Int)
  | [], _ => by simp [kinds, sumF]
  | x :: D, h => by
    have := kraft_parts (D := D) (fun y hy => h y (by simp [hy]))
    have h1 := h x (by simp)
    show sumF f (x.1 ++ kinds D) ≤ m * ((D.length + 1 : Nat) : Int)
    rw [sumF_app, Int.natCast_add, Int.mul_add]
    simp only [Int.natCast_one, Int.mul_one]
    omega
theorem PI.merge {c : List Int} {bn : Nat} {D : List Gp} {ps : List Int} {cost : Int} (h : PI c bn D ps cost) {tk : Nat} (h2 : 2 ≤ tk) (hD : tk ≤ D.length) (hb : tk ≤ bn) (hbp : 1 ≤ bn) (h12 : c.length ≤ 12) : PI c bn (insG (D.drop tk) (kinds (D.take tk), tot ((D.take tk).map (·.2)))) (incs (kinds (D.take tk)) ps) (cost + tot ((D.take tk).map (·.2))) := by
  obtain ⟨e1, e2, e3, e4, ⟨r, e5, e6⟩, e7⟩ := h
  have hsp : kinds D = kinds (D.take tk) ++ kinds (D.drop tk) := by rw [← kinds_app, List.take_append_drop]
  have hnd : (kinds D).Nodup := e1.nodup_iff.2 (rngI_nodup _)
  rw [hsp] at hnd
  have hnk := (List.nodup_append.1 hnd).1
  have hdis := (List.nodup_append.1 hnd).2.2
  have hmem : ∀ k ∈ kinds (D.take tk), 0 ≤ k ∧ k < (ps.length : Int) := fun k hk => by
    rw [e2]
    exact mem_rngI.1 (e1.mem_iff.1 (by rw [hsp]; simp [hk]))
  have hat : ∀ i, 0 ≤ i → at0 (incs (kinds (D.take tk)) ps) i = at0 ps i + if i ∈ kinds (D.take tk) then 1 else 0 := fun i hi => incs_at hnk hmem hi
  have htot : tot ((D.take tk).map (·.2)) = sumF (at0 c) (kinds (D.take tk)) := tot_parts (fun x hx => e3 x (List.mem_of_mem_take hx))
  have hip := insG_permH (D.drop tk) (kinds (D.take tk), tot ((D.take tk).map (·.2)))
  refine ⟨?_, by rw [incs_length, e2], fun x hx => ?_, ?_, ⟨r + 1, ?_, fun i hi => ?_⟩, fun x hx => ?_⟩
  · refine (kinds_perm hip).trans ?_
    show (kinds (D.take tk) ++ kinds (D.drop tk)).Perm _
    rw [← hsp]; exact e1
  · rcases List.mem_cons.1 (hip.mem_iff.1 hx) with rfl | hx
    · exact htot
    · exact e3 x (List.mem_of_mem_drop hx)
  · rw [e4]
    have : sumF (fun i => at0 c i * at0 (incs (kinds (D.take tk)) ps) i) (rngI c.length) = sumF (fun i => at0 c i * at0 ps i + at0 c i * (if i ∈ kinds (D.take tk) then 1 else 0)) (rngI c.length) := sumF_congr (fun i hi => by rw [hat i (mem_rngI.1 hi).1, Int.mul_add])
    rw [this, sumF_add, htot]
    congr 1
    rw [← sumF_perm e1, hsp, sumF_app]
    have z1 : sumF (fun i => at0 c i * (if i ∈ kinds (D.take tk) then 1 else 0)) (kinds (D.take tk)) = sumF (at0 c) (kinds (D.take tk)) := sumF_congr (fun i hi => by rw [if_pos hi, Int.mul_one])
    have z2 : sumF (fun i => at0 c i * (if i ∈ kinds (D.take tk) then 1 else 0)) (kinds (D.drop tk)) = 0 := sumF_zero (fun i hi => by rw [if_neg (fun h => hdis i h i hi rfl), Int.mul_zero])
    rw [z1, z2]; omega
  · rw [hip.length_eq, List.length_cons, List.length_drop]; omega
  · have := e6 i hi
    rw [hat i (mem_rngI.1 hi).1]
    split <;> omega
  · rcases List.mem_cons.1 (hip.mem_iff.1 hx) with rfl | hx
    · show sumF _ (kinds (D.take tk)) ≤ _
      have h1 : (bn : Int) * sumF (fun i => (bn : Int) ^ (11 - (at0 (incs (kinds (D.take tk)) ps) i).toNat)) (kinds (D.take tk)) = sumF (fun i => (bn : Int) ^ (11 - (at0 ps i).toNat)) (kinds (D.take tk)) := by
        rw [← sumF_mul]
        refine sumF_congr (fun i hi => ?_)
        have hi0 := hmem i hi
        have hr := e6 i (mem_rngI.2 (by rw [← e2]; exact hi0))
        rw [hat i hi0.1, if_pos hi, Int.mul_comm, ← Int.pow_succ]
        congr 1
        omega
      have h3 := kraft_parts (f := fun i => (bn : Int) ^ (11 - (at0 ps i).toNat)) (m := (bn : Int) ^ 11) (D := D.take tk) (fun x hx => e7 x (List.mem_of_mem_take hx))
      have h4 : (bn : Int) ^ 11 * ((D.take tk).length : Int) ≤ (bn : Int) ^ 11 * (bn : Int) := Int.mul_le_mul_of_nonneg_left (by rw [List.length_take]; omega) (Int.le_of_lt (Int.pow_pos (by omega)))
      rw [← h1] at h3
      have h5 : (bn : Int) * sumF (fun i => (bn : Int) ^ (11 - (at0 (incs (kinds (D.take tk)) ps) i).toNat)) (kinds (D.take tk)) ≤ (bn : Int) * (bn : Int) ^ 11 := by
        rw [Int.mul_comm (bn : Int) ((bn : Int) ^ 11)]
        exact Int.le_trans h3 h4
      exact Int.le_of_mul_le_mul_left h5 (by omega)
    · have := e7 x (List.mem_of_mem_drop hx)
      have z : sumF (fun i => (bn : Int) ^ (11 - (at0 (incs (kinds (D.take tk)) ps) i).toNat)) x.1 = sumF (fun i => (bn : Int) ^ (11 - (at0 ps i).toNat)) x.1 := by
        refine sumF_congr (fun i hi => ?_)
        have hik : i ∈ kinds (D.drop tk) := List.mem_flatMap.2 ⟨x, hx, hi⟩
        have hi0 := mem_rngI.1 (e1.mem_iff.1 (by rw [hsp]; exact List.mem_append.2 (.inr hik)))
        rw [hat i hi0.1, if_neg (fun h => hdis i h i hik rfl), Int.add_zero]
      rw [z]
      exact this
theorem sS_rng (b : Int) (ps : List Int) (hp : ∀ i ∈ rngI ps.length, at0 ps i ≤ 11) : ∀ n, n ≤ ps.length → sS b 11 (ps.take n) = sumF (fun i => b ^ (11 - (at0 ps i).toNat)) (rngI n)
  | 0, _ => by simp [sS, rngI, sumF]
  | n + 1, h => by
    obtain ⟨x, hx⟩ := getI (l := ps) (k := n) (by omega)
    rw [take_succ' hx, sS_app, sS_rng b ps hp n (by omega), rngI_succ, sumF_app]
    have e : at0 ps (n : Int) = x := by simp [at0, List.getD, hx]
    have := hp n (mem_rngI.2 (by omega))
    rw [e] at this
    rw [if_pos (by omega)]
    simp [sumF, e]
theorem dotK_rng (c ps : List Int) : ∀ n, dotK c ps n = sumF (fun i => at0 c i * at0 ps i) (rngI n)
  | 0 => rfl
  | n + 1 => by rw [rngI_succ, sumF_app, ← dotK_rng c ps n]; simp [dotK, sumF, at0]
theorem PI.fin {c : List Int} {bn : Nat} {D : List Gp} {ps : List Int} {cost : Int} (h : PI c bn D ps cost) (h1 : D.length ≤ 1) (h12 : c.length ≤ 12) (hc : 1 ≤ c.length) : ps.length = c.length ∧ (∀ x ∈ ps, Inn 0 11 x) ∧ sS (bn : Int) 11 ps ≤ (bn : Int) ^ 11 ∧ cost = dotK c ps ps.length := by
  obtain ⟨e1, e2, e3, e4, ⟨r, e5, e6⟩, e7⟩ := h
  have hD : ∃ x, D = [x] := by
    match D, h1 with
    | [], _ =>
      have := e1.length_eq
      simp [kinds, rngI] at this
      omega
    | [x], _ => exact ⟨x, rfl⟩
  obtain ⟨x, rfl⟩ := hD
  have hx : x.1.Perm (rngI c.length) := by have := e1; simpa [kinds] using this
  have hr : r ≤ 11 := by simp at e5; omega
  refine ⟨e2, fun y hy => ?_, ?_, ?_⟩
  · obtain ⟨i, hi⟩ := List.getElem?_of_mem hy
    have hil := (List.getElem?_eq_some_iff.1 hi).1
    have := e6 i (mem_rngI.2 (by omega))
    have e : at0 ps (i : Int) = y := by simp [at0, List.getD, hi]
    rw [e] at this
    exact ⟨this.1, by omega⟩
  · have h7 := e7 x (by simp)
    rw [sumF_perm hx] at h7
    have := sS_rng (bn : Int) ps (fun i hi => by rw [e2] at hi; have := e6 i hi; omega) ps.length (Nat.le_refl _)
    rw [List.take_length] at this
    rw [this, e2]
    exact h7
  · rw [dotK_rng, e4, e2]
def PlanOK (c : List Int) (bn : Nat) (ps : List Int) (cost : Int) : Prop := ps.length = c.length ∧ (∀ x ∈ ps, Inn 0 11 x) ∧ sS (bn : Int) 11 ps ≤ (bn : Int) ^ 11 ∧ cost = dotK c ps ps.length
theorem kinds_step {l : List Gp} {k : Nat} {x : Int} (h : (kinds l).Perm (rngI k)) : (kinds (insG l ([(k : Int)], x))).Perm (rngI (k + 1)) := by
  rw [rngI_succ]
  refine (kinds_perm (insG_permH _ _)).trans ?_
  show ((k : Int) :: kinds l).Perm _
  exact (h.cons _).trans (List.perm_append_comm (l₁ := [(k : Int)]))
theorem single_step {c : List Int} {l : List Gp} {k : Nat} {x : Int} (hx : c[k]? = some x) (h : ∀ y ∈ l, ∃ i, y.1 = [i] ∧ y.2 = at0 c i) : ∀ y ∈ insG l ([(k : Int)], x), ∃ i, y.1 = [i] ∧ y.2 = at0 c i := fun y hy => by
  rcases List.mem_cons.1 ((insG_permH _ _).mem_iff.1 hy) with rfl | hy
  · exact ⟨(k : Int), rfl, by simp [at0, List.getD, hx]⟩
  · exact h y hy
theorem krN_sS {bn : Nat} : ∀ {p : List Int}, (∀ x ∈ p, Inn 0 11 x) → ((krN bn 11 (p.map Int.toNat) : Nat) : Int) = sS (bn : Int) 11 p
  | [], _ => rfl
  | x :: p, h => by
    have h1 := h x (by simp)
    have ih := krN_sS (bn := bn) (p := p) (fun y hy => h y (by simp [hy]))
    have h2 := h1.2
    simp only [List.map_cons, krN, sS]
    rw [if_pos (by omega), ← ih]
    simp
theorem dotL_dotK : ∀ {c p : List Int}, c.length = p.length → (∀ x ∈ p, 0 ≤ x) → dotL c (p.map Int.toNat) = dotK c p p.length := by
  have key : ∀ (x y : Int) (c p : List Int) (k : Nat), dotK (x :: c) (y :: p) (k + 1) = x * y + dotK c p k := by
    intro x y c p k
    induction k with
    | zero => simp [dotK]
    | succ k ih =>
      show dotK (x :: c) (y :: p) (k + 1) + _ = x * y + (dotK c p k + _)
      rw [ih]
      simp
      omega
  intro c
  induction c with
  | nil => intro p hl _; cases p with
    | nil => rfl
    | cons y p => simp at hl
  | cons x c ih =>
    intro p hl h0
    cases p with
    | nil => simp at hl
    | cons y p =>
      have h1 := h0 y (by simp)
      rw [List.length_cons, key]
      simp only [List.map_cons, dotL]
      rw [ih (by simpa using hl) (fun z hz => h0 z (by simp [hz]))]
      rw [show ((y.toNat : Nat) : Int) = y from by omega]
theorem sS_more {b : Int} (hb : 1 ≤ b) : ∀ {p : List Int}, (∀ x ∈ p, Inn 0 11 x) → b ^ 11 * sS (b + 1) 11 p ≤ (b + 1) ^ 11 * sS b 11 p
  | [], _ => by simp [sS]
  | x :: p, h => by
    have h1 := h x (by simp)
    have h2 := h1.1
    have h3 := h1.2
    have ih := sS_more hb (p := p) (fun y hy => h y (by simp [hy]))
    simp only [sS]
    rw [if_pos (by omega), if_pos (by omega), Int.mul_add, Int.mul_add]
    have e : b ^ 11 * (b + 1) ^ (11 - x.toNat) ≤ (b + 1) ^ 11 * b ^ (11 - x.toNat) := by
      have e1 : b ^ 11 = b ^ (11 - x.toNat) * b ^ x.toNat := by rw [← Int.pow_add]; congr 1; omega
      have e2 : (b + 1) ^ 11 = (b + 1) ^ (11 - x.toNat) * (b + 1) ^ x.toNat := by rw [← Int.pow_add]; congr 1; omega
      rw [e1, e2, Int.mul_assoc, Int.mul_comm (b ^ x.toNat), Int.mul_comm ((b + 1) ^ (11 - x.toNat) * _), ← Int.mul_assoc, ← Int.mul_assoc]
      exact Int.mul_le_mul_of_nonneg_left (pow_le (by omega) (by omega) _) (Int.mul_nonneg (pow_nn (by omega) _) (pow_nn (by omega) _))
    omega
theorem sS_more' {b : Int} (hb : 1 ≤ b) {p : List Int} (hp : ∀ x ∈ p, Inn 0 11 x) (h : sS b 11 p ≤ b ^ 11) : sS (b + 1) 11 p ≤ (b + 1) ^ 11 := by
  have h1 := sS_more hb hp
  have h2 : (b + 1) ^ 11 * sS b 11 p ≤ (b + 1) ^ 11 * b ^ 11 := Int.mul_le_mul_of_nonneg_left h (pow_nn (by omega) _)
  have h3 : b ^ 11 * sS (b + 1) 11 p ≤ b ^ 11 * (b + 1) ^ 11 := by rw [Int.mul_comm (b ^ 11) ((b + 1) ^ 11)]; exact Int.le_trans h1 h2
  exact Int.le_of_mul_le_mul_left h3 (Int.pow_pos (by omega))
end Go.Proofs.Ytmdimnmdoifkfaa
