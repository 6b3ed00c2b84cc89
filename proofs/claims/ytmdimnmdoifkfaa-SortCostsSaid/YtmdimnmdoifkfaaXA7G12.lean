/- A part of the proof. -/
import Derived.Test.YtmdimnmdoifkfaaProg
import Derived.Test.YtmdimnmdoifkfaaXA7G10
import Derived.Test.YtmdimnmdoifkfaaXA7G11
namespace Go.Proofs.Ytmdimnmdoifkfaa
open Go Go.Proofs.Ytmdimnmdoifkfaa.Clean
set_option linter.unusedVariables false
set_option maxRecDepth 100000
theorem tok0 : Facts Try.prog glX tb0 := trivial
theorem t0 : KFX fa0 := k0 tok0
theorem tok1 : Facts Try.prog glX tb1 := ⟨t0, tok0⟩
theorem t1 : KFX fa1 := k1 tok1
theorem tok2 : Facts Try.prog glX tb2 := ⟨t1, tok1⟩
theorem t2 : KFX fa2 := k2 tok2
theorem tok3 : Facts Try.prog glX tb3 := ⟨t2, tok2⟩
theorem t3 : KFX fa3 := k3 tok3
theorem tok4 : Facts Try.prog glX tb4 := ⟨t3, tok3⟩
theorem t4 : KFX fa4 := k4 tok4
end Go.Proofs.Ytmdimnmdoifkfaa
namespace Go.Proofs.Ytmdimnmdoifkfaa
open Go Go.Proofs.Ytmdimnmdoifkfaa.Clean
set_option linter.unusedVariables false
set_option maxRecDepth 100000
end Go.Proofs.Ytmdimnmdoifkfaa
namespace Go.Proofs.Ytmdimnmdoifkfaa
open Go Go.Proofs.Ytmdimnmdoifkfaa.Clean
set_option linter.unusedVariables false
set_option linter.unusedSimpArgs false
set_option maxRecDepth 10000
end Go.Proofs.Ytmdimnmdoifkfaa
namespace Go.Proofs.Ytmdimnmdoifkfaa
open Go Go.Proofs.Ytmdimnmdoifkfaa.Clean
set_option linter.unusedVariables false
set_option linter.unusedSimpArgs false
set_option maxRecDepth 10000
theorem tot_app (a : List Int) (x : Int) : tot (a ++ [x]) = tot a + x := by
  induction a with
  | nil => simp [tot]
  | cons y a ih => show y + tot (a ++ [x]) = y + tot a + x; rw [ih]; omega
theorem tot_bnd {a : List Int} (h : ∀ x ∈ a, 0 ≤ x ∧ x ≤ 1000) : 0 ≤ tot a ∧ tot a ≤ 1000 * a.length := by
  induction a with
  | nil => simp [tot]
  | cons y a ih =>
    have := ih (fun x hx => h x (by simp [hx]))
    have := h y (by simp)
    show 0 ≤ y + tot a ∧ y + tot a ≤ 1000 * ((a.length + 1 : Nat) : Int)
    omega
end Go.Proofs.Ytmdimnmdoifkfaa
namespace Go.Proofs.Ytmdimnmdoifkfaa
open Go Go.Proofs.Ytmdimnmdoifkfaa.Clean
set_option linter.unusedVariables false
set_option maxRecDepth 100000
abbrev Sw := Int × Int × Bool
end Go.Proofs.Ytmdimnmdoifkfaa
namespace Go.Proofs.Ytmdimnmdoifkfaa
open Go Go.Proofs.Ytmdimnmdoifkfaa.Clean
set_option linter.unusedVariables false
set_option linter.unusedSimpArgs false
set_option maxRecDepth 10000
def gtS (x y : Sw) : Prop := y.1 < x.1 ∨ (x.1 = y.1 ∧ y.2.1 < x.2.1)
instance (x y : Sw) : Decidable (gtS x y) := by unfold gtS; infer_instance
theorem ins_rows {α : Type} (M : List α) (k n : Nat) (x y : α) (hn : M.length = n) (hk : k ≤ n) (hy : y = x) :
    (List.take (0 + (k + 1)) (List.take n M ++ [x]) ++ List.take (min (sub (List.take n M ++ [x]) (0 + k) (n + 1 - k)).length (n + 1 - (k + 1))) (sub (List.take n M ++ [x]) (0 + k) (n + 1 - k)) ++ List.drop (0 + (k + 1) + min (sub (List.take n M ++ [x]) (0 + k) (n + 1 - k)).length (n + 1 - (k + 1))) (List.take n M ++ [x])).set (0 + k) y = M.take k ++ [x] ++ M.drop k := by
  subst hy
  rw [List.take_of_length_le (by omega : M.length ≤ n), Nat.zero_add, Nat.zero_add]
  have hs : sub (M ++ [y]) k (n + 1 - k) = M.drop k ++ [y] := by
    unfold Clean.sub
    rw [List.drop_append_of_le_length (by omega), List.take_of_length_le (by simp; omega)]
  rw [hs]
  have hmin : min (M.drop k ++ [y]).length (n + 1 - (k + 1)) = n - k := by simp; omega
  have hd : List.drop (n + 1) (M ++ [y]) = [] := List.drop_of_length_le (by simp; omega)
  have ht : List.take (n - k) (M.drop k ++ [y]) = M.drop k := by rw [List.take_append_of_le_length (by simp; omega), List.take_of_length_le (by simp; omega)]
  rw [hmin, show k + 1 + (n - k) = n + 1 from by omega, hd, List.append_nil, ht]
  refine List.ext_getElem? (fun i => ?_)
  have h1 : ((M ++ [y]).take (k + 1)).length = k + 1 := by simp; omega
  have h2 : (M.take k ++ [y]).length = k + 1 := by simp; omega
  rw [List.getElem?_set]
  by_cases hi : k = i
  · subst hi
    rw [if_pos rfl, if_pos (by simp only [List.length_append, h1]; omega), List.getElem?_append_left (by omega), List.getElem?_append_right (by simp; omega)]
    simp [Nat.min_eq_left (show k ≤ M.length by omega)]
  · rw [if_neg hi]
    by_cases hlt : i < k
    · rw [List.getElem?_append_left (by omega), List.getElem?_append_left (by omega), List.getElem?_append_left (by simp; omega), List.getElem?_take_of_lt (by omega), List.getElem?_take_of_lt hlt, List.getElem?_append_left (by omega)]
    · rw [List.getElem?_append_right (by omega), List.getElem?_append_right (by omega), h1, h2]
theorem ins_row {α : Type} (M : List α) (k n : Nat) (x : α) (hn : M.length = n) (hk : k ≤ n) :
    ∃ z, (z ∈ M ∨ z = x) ∧ (List.take (0 + (k + 1)) (List.take n M ++ [x]) ++ List.take (min (sub (List.take n M ++ [x]) (0 + k) (n + 1 - k)).length (n + 1 - (k + 1))) (sub (List.take n M ++ [x]) (0 + k) (n + 1 - k)) ++ List.drop (0 + (k + 1) + min (sub (List.take n M ++ [x]) (0 + k) (n + 1 - k)).length (n + 1 - (k + 1))) (List.take n M ++ [x]))[0 + k]? = some z := by
  rw [List.take_of_length_le (by omega : M.length ≤ n), Nat.zero_add, Nat.zero_add, List.append_assoc, List.getElem?_append_left (by simp; omega), List.getElem?_take_of_lt (by omega)]
  by_cases hlt : k < M.length
  · rw [List.getElem?_append_left hlt, List.getElem?_eq_getElem hlt]
    exact ⟨_, .inl (List.getElem_mem hlt), rfl⟩
  · rw [List.getElem?_append_right (by omega), show k - M.length = 0 from by omega]
    exact ⟨x, .inr rfl, rfl⟩
end Go.Proofs.Ytmdimnmdoifkfaa
namespace Go.Proofs.Ytmdimnmdoifkfaa
open Go Go.Proofs.Ytmdimnmdoifkfaa.Clean
set_option linter.unusedVariables false
set_option linter.unusedSimpArgs false
set_option maxRecDepth 10000
end Go.Proofs.Ytmdimnmdoifkfaa
namespace Go.Proofs.Ytmdimnmdoifkfaa
open Go Go.Proofs.Ytmdimnmdoifkfaa.Clean
set_option linter.unusedVariables false
set_option maxRecDepth 100000
noncomputable def hB (b : Bt) : Hp := ⟨[(0, O.rows 5 false [bel b])], 1, []⟩
end Go.Proofs.Ytmdimnmdoifkfaa
namespace Go.Proofs.Ytmdimnmdoifkfaa
open Go Go.Proofs.Ytmdimnmdoifkfaa.Clean
set_option linter.unusedVariables false
set_option linter.unusedSimpArgs false
set_option maxRecDepth 10000
instance (S : Int) (l : List Fd) (j : Nat) : Decidable (nearP S l j) := by unfold nearP; infer_instance
end Go.Proofs.Ytmdimnmdoifkfaa
namespace Go.Proofs.Ytmdimnmdoifkfaa
open Go Go.Proofs.Ytmdimnmdoifkfaa.Clean
set_option linter.unusedVariables false
set_option linter.unusedSimpArgs false
set_option maxRecDepth 10000
def ltK (a x : Sw) : Prop := a.1 < x.1 ∨ (a.1 = x.1 ∧ a.2.1 < x.2.1)
instance (a x : Sw) : Decidable (ltK a x) := by unfold ltK; infer_instance
end Go.Proofs.Ytmdimnmdoifkfaa
namespace Go.Proofs.Ytmdimnmdoifkfaa
open Go Go.Proofs.Ytmdimnmdoifkfaa.Clean
set_option linter.unusedVariables false
set_option linter.unusedSimpArgs false
set_option maxRecDepth 10000
end Go.Proofs.Ytmdimnmdoifkfaa
namespace Go.Proofs.Ytmdimnmdoifkfaa
open Go Go.Proofs.Ytmdimnmdoifkfaa.Clean
set_option linter.unusedVariables false
set_option linter.unusedSimpArgs false
set_option maxRecDepth 10000
theorem onLst_nilS {k : Nat → List (List V) → Prop} (h : k 0 []) : onLst nilS k := h
theorem tot_mono {l : List Int} (h : ∀ x ∈ l, 0 ≤ x) : ∀ k, 0 ≤ tot (l.take k) ∧ tot (l.take k) ≤ tot l := by
  induction l with
  | nil => intro k; simp [tot]
  | cons y l ih =>
    intro k
    have hy := h y (by simp)
    rcases k with _ | k
    · have := ih (fun x hx => h x (by simp [hx])) l.length
      rw [List.take_of_length_le (Nat.le_refl _)] at this
      show 0 ≤ 0 ∧ 0 ≤ y + tot l
      omega
    · have := ih (fun x hx => h x (by simp [hx])) k
      show 0 ≤ y + tot (l.take k) ∧ y + tot (l.take k) ≤ y + tot l
      omega
end Go.Proofs.Ytmdimnmdoifkfaa
namespace Go.Proofs.Ytmdimnmdoifkfaa
open Go Go.Proofs.Ytmdimnmdoifkfaa.Clean
set_option linter.unusedVariables false
set_option maxRecDepth 100000
end Go.Proofs.Ytmdimnmdoifkfaa
namespace Go.Proofs.Ytmdimnmdoifkfaa
open Go Go.Proofs.Ytmdimnmdoifkfaa.Clean
set_option linter.unusedVariables false
set_option linter.unusedSimpArgs false
set_option maxRecDepth 10000
theorem getD_get {l : List Int} {i : Nat} {x : Int} (h : l[i]? = some x) : l.getD i 0 = x := by simp [List.getD, h]
end Go.Proofs.Ytmdimnmdoifkfaa
namespace Go.Proofs.Ytmdimnmdoifkfaa
open Go Go.Proofs.Ytmdimnmdoifkfaa.Clean
set_option linter.unusedVariables false
set_option linter.unusedSimpArgs false
set_option maxRecDepth 10000
theorem tot_append (a b : List Int) : tot (a ++ b) = tot a + tot b := by
  induction a with
  | nil => simp [tot]
  | cons x a ih => show x + tot (a ++ b) = x + tot a + tot b; rw [ih]; omega
end Go.Proofs.Ytmdimnmdoifkfaa
namespace Go.Proofs.Ytmdimnmdoifkfaa
open Go Go.Proofs.Ytmdimnmdoifkfaa.Clean
set_option linter.unusedVariables false
set_option linter.unusedSimpArgs false
set_option maxRecDepth 10000
end Go.Proofs.Ytmdimnmdoifkfaa
namespace Go.Proofs.Ytmdimnmdoifkfaa
open Go Go.Proofs.Ytmdimnmdoifkfaa.Clean
set_option linter.unusedVariables false
set_option maxRecDepth 100000
def moK (f : FuncId) : Nat := bif inN [103] f then 3 else 0
def poK (f : FuncId) (args : List V) (h : Hp) (us : Us) : Hp := h.put (.p 0) (.rows 1 true (us.getD 0 []))
end Go.Proofs.Ytmdimnmdoifkfaa
namespace Go.Proofs.Ytmdimnmdoifkfaa
open Go Go.Proofs.Ytmdimnmdoifkfaa.Clean
set_option linter.unusedVariables false
set_option linter.unusedSimpArgs false
set_option maxRecDepth 10000
end Go.Proofs.Ytmdimnmdoifkfaa
namespace Go.Proofs.Ytmdimnmdoifkfaa
open Go Go.Proofs.Ytmdimnmdoifkfaa.Clean
set_option linter.unusedVariables false
set_option linter.unusedSimpArgs false
set_option maxRecDepth 10000
end Go.Proofs.Ytmdimnmdoifkfaa
namespace Go.Proofs.Ytmdimnmdoifkfaa
open Go Go.Proofs.Ytmdimnmdoifkfaa.Clean
set_option linter.unusedVariables false
set_option maxRecDepth 100000
def kpL : FuncId → Nat → Option (List Tmp) := slotsOf [(102, 0, [0, 5, 6, 7]), (80, 0, [1, 5, 8, 9, 10]), (39, 0, [0, 8, 26, 27, 28]), (40, 0, [0, 1, 2, 8, 9]), (49, 0, [0, 1, 5, 6]), (49, 2, [0, 1, 5, 6, 7]), (42, 0, [0, 5])]
noncomputable def cfL9 : Cfg := { cfgG Try.prog glX moK poK rtB (inN [75, 54, 79]) kpL with clean := fun g => !inN [100, 103] g }
noncomputable def sh80 (p : List Int) (b : Int) (t : Int) (k : Nat) : St := ⟨mkT [(1, iv b), (5, iv t), (8, V.lst 1 (nl p)), (9, iv ((nl p).length : Int)), (10, iv (k : Int))], ⟨[], 0, []⟩⟩
noncomputable def sh39 (c p : List Int) (t : Int) (k : Nat) : St := ⟨mkT [(0, V.lst 1 (nl c)), (8, iv t), (26, V.lst 1 (nl p)), (27, iv ((nl p).length : Int)), (28, iv (k : Int))], ⟨[], 0, []⟩⟩
noncomputable def sh40 (c p : List Int) (b t : Int) (k : Nat) : St := ⟨mkT [(0, V.lst 1 (nl c)), (1, V.lst 1 (nl p)), (2, iv b), (8, iv t), (9, iv (k : Int))], ⟨[], 0, []⟩⟩
noncomputable def sh49a (p : List Int) (b t : Int) (k : Nat) : St := ⟨mkT [(0, V.lst 1 (nl p)), (1, iv b), (5, iv t), (6, iv (k : Int))], ⟨[], 0, []⟩⟩
noncomputable def sh49b (p : List Int) (b t : Int) (k i : Nat) : St := ⟨mkT [(0, V.lst 1 (nl p)), (1, iv b), (5, iv t), (6, iv (k : Int)), (7, iv (i : Int))], ⟨[], 0, []⟩⟩
noncomputable def sh42 (c : List Int) (k : Nat) : St := ⟨mkT [(0, V.lst 1 (nl c)), (5, iv (k : Int))], ⟨[], 0, []⟩⟩
end Go.Proofs.Ytmdimnmdoifkfaa
namespace Go.Proofs.Ytmdimnmdoifkfaa
open Go Go.Proofs.Ytmdimnmdoifkfaa.Clean
set_option linter.unusedVariables false
set_option linter.unusedSimpArgs false
set_option maxRecDepth 10000
theorem hcL9 : cfL9.ok Try.prog := by
  have h : (cfgG Try.prog glX moK poK rtB (inN [75, 54, 79]) kpL).ok Try.prog := cfgG_ok rtB_ok
  exact ⟨h.1, h.2⟩
theorem p8 {a : Int} {n : Nat} (h0 : 0 ≤ a) (h1 : a ≤ 8) (hn : n ≤ 11) : a ^ n ≤ 8589934592 := by
  have h2 : ∀ n : Nat, n ≤ 11 → (8 : Int) ^ n ≤ 8589934592 := by decide
  exact Int.le_trans (pow_le h0 h1 n) (h2 n hn)
theorem power102b {a : Int} {n : Nat} {R : V → Prop} (h0 : 0 ≤ a) (h1 : a ≤ 8) (hn : n ≤ 11) (h : R (iv (a ^ n))) : K0G Try.prog glX 102 [iv a, iv (n : Int)] R := by
  refine K0_of_WY0 hmX hcL9 3000 Try.func102 (see (p := La 0 [(0 : Tmp), (5 : Tmp), (6 : Tmp), (7 : Tmp)] (WY Try.prog cfL9 2994 (Env.mk (Bs.mk 0 []) 0 none 14 102 0) (cdAt [1, 1, 0, 1, 0, 0] (bodyOf Try.f102))) (Qblk 0 (Qthen (WY Try.prog cfL9 2997 (Env.mk (Bs.mk 0 []) 0 none 14 102 0) (cdAt [1, 1, 1] (bodyOf Try.f102)) (QendX Try.prog Try.f102 fun v h => R (frzW h v))) (QendX Try.prog Try.f102 fun v h => R (frzW h v)))) (St.mk (mkT [(0, iv a), (5, iv (1 : Int)), (6, iv (↑n : Int)), (7, iv (0 : Int))]) (Hp.mk [] 0 []))) (by kernel_rfl) ?_)
  refine La.of (σ := Int × Nat) (fun s => sh102 a (n : Int) s.1 s.2) (fun s => s.2 ≤ n ∧ s.1 = a ^ s.2) (fun s => n - s.2) (1, 0) (by kernel_rfl) ⟨by simp, by simp⟩ ?_
  rintro ⟨p, k⟩ ⟨g1, g2⟩ J hJ
  simp only at g1 g2
  refine see (p := ifB (decide ((↑k : Int) < (↑n : Int))) (J (St.mk (mkT [(0, iv a), (5, iv (IntKind.i64.wrap (p * a))), (6, iv (↑n : Int)), (7, iv (IntKind.i64.wrap ((↑k : Int) + (1 : Int))))]) (Hp.mk [] 0 []))) (R (iv p))) (by kernel_rfl) ?_
  subst g2
  refine ifB_mk (fun hb => ?_) (fun hb => ?_)
  · have hlt : k < n := by have := of_decide_eq_true hb; omega
    have b1 := p8 h0 h1 (n := k + 1) (by omega)
    have b2 := pow_nn h0 (k + 1)
    rw [wr1i hlt (by omega), show a ^ k * a = a ^ (k + 1) from (Int.pow_succ a k).symm, wr (by omega) (by omega)]
    exact hJ (a ^ (k + 1), k + 1) ⟨hlt, rfl⟩ (by simp only; omega)
  · have hk : k = n := by have := of_decide_eq_false hb; omega
    subst hk
    exact h
def sS (b : Int) (k : Nat) : List Int → Int
  | [] => 0
  | x :: l => (if x ≤ (k : Int) then b ^ (11 - x.toNat) else 0) + sS b k l
theorem sS_app (b : Int) (k : Nat) (a : List Int) (x : Int) : sS b k (a ++ [x]) = sS b k a + (if x ≤ (k : Int) then b ^ (11 - x.toNat) else 0) := by
  induction a with
  | nil => simp [sS]
  | cons y a ih => simp only [List.cons_append, sS, ih]; omega
theorem cnt_cons (x : Int) (l : List Int) (k : Nat) : cnt (x :: l) k = cnt l k + if x = (k : Int) then 1 else 0 := by
  unfold cnt
  rw [List.count_cons]
  by_cases h : x = (k : Int)
  · subst h; simp
  · rw [if_neg h]; simp [h]
theorem sS_step (b : Int) (k : Nat) : ∀ l : List Int, (∀ x ∈ l, 0 ≤ x) → sS b (k + 1) l = sS b k l + cnt l (k + 1) * b ^ (11 - (k + 1))
  | [], _ => by simp [sS, cnt]
  | x :: l, h => by
    have h0 := h x (by simp)
    simp only [sS]
    rw [sS_step b k l (fun y hy => h y (by simp [hy])), cnt_cons, Int.add_mul]
    by_cases h1 : x ≤ (k : Int)
    · rw [if_pos h1, if_pos (by omega), if_neg (by omega)]; omega
    · by_cases h2 : x = ((k + 1 : Nat) : Int)
      · rw [if_neg h1, if_pos (by omega), if_pos h2, show x.toNat = k + 1 from by omega]; omega
      · rw [if_neg h1, if_neg (by omega), if_neg h2]; omega
theorem sS_zero (b : Int) : ∀ l : List Int, (∀ x ∈ l, 0 ≤ x) → sS b 0 l = cnt l 0 * b ^ 11
  | [], _ => by simp [sS, cnt]
  | x :: l, h => by
    have h0 := h x (by simp)
    simp only [sS]
    rw [sS_zero b l (fun y hy => h y (by simp [hy])), cnt_cons, Int.add_mul]
    by_cases h1 : x = 0
    · subst h1; simp; omega
    · rw [if_neg (by omega), if_neg (by omega)]; omega
theorem sS_mono {b : Int} (hb : 0 ≤ b) (k : Nat) : ∀ l : List Int, sS b k l ≤ sS b 11 l ∨ 11 < k
  | [] => .inl (Int.le_refl _)
  | x :: l => by
    rcases sS_mono hb k l with h | h
    · by_cases hk : 11 < k
      · exact .inr hk
      · refine .inl ?_
        simp only [sS]
        have := pow_nn hb (11 - x.toNat)
        by_cases h1 : x ≤ (k : Int)
        · rw [if_pos h1, if_pos (by omega)]; omega
        · rw [if_neg h1]; split <;> omega
    · exact .inr h
theorem sS_bnd {b : Int} (hb : 0 ≤ b) (hb8 : b ≤ 8) (k : Nat) : ∀ l : List Int, 0 ≤ sS b k l ∧ sS b k l ≤ 8589934592 * l.length
  | [] => by simp [sS]
  | x :: l => by
    have := sS_bnd hb hb8 k l
    have h1 := pow_nn hb (11 - x.toNat)
    have h2 := p8 hb hb8 (n := 11 - x.toNat) (by omega)
    simp only [sS, List.length_cons]
    split <;> omega
def lev (b : Int) (p : List Int) : Nat → Int
  | 0 => 1
  | k + 1 => (lev b p k - cnt p k) * b
theorem lev_sS {b : Int} {p : List Int} (hp : ∀ x ∈ p, 0 ≤ x) : ∀ k, k ≤ 11 → (lev b p k - cnt p k) * b ^ (11 - k) = b ^ 11 - sS b k p
  | 0, _ => by
    rw [sS_zero b p hp]
    show (1 - cnt p 0) * b ^ 11 = _
    rw [Int.sub_mul, Int.one_mul]
  | k + 1, hk => by
    have ih := lev_sS (b := b) hp k (by omega)
    rw [sS_step b k p hp]
    show ((lev b p k - cnt p k) * b - cnt p (k + 1)) * b ^ (11 - (k + 1)) = _
    rw [show 11 - k = (11 - (k + 1)) + 1 from by omega, Int.pow_succ] at ih
    rw [Int.sub_mul]
    have : (lev b p k - cnt p k) * b * b ^ (11 - (k + 1)) = (lev b p k - cnt p k) * (b ^ (11 - (k + 1)) * b) := by rw [Int.mul_assoc, Int.mul_comm b]
    rw [this, ih]
    omega
theorem lev_neg {b : Int} {p : List Int} (hb : 2 ≤ b) (hp : ∀ x ∈ p, 0 ≤ x) {k : Nat} (hk : k ≤ 11) (h : lev b p k - cnt p k < 0) : b ^ 11 < sS b 11 p := by
  have h1 := lev_sS (b := b) hp k hk
  have h2 : 0 < b ^ (11 - k) := Int.pow_pos (by omega)
  have h3 := Int.mul_neg_of_neg_of_pos h h2
  rcases sS_mono (b := b) (by omega) k p with h4 | h4
  · omega
  · omega
theorem lev_ok {b : Int} {p : List Int} (hp : ∀ x ∈ p, 0 ≤ x) (h : 0 ≤ lev b p 11 - cnt p 11) : sS b 11 p ≤ b ^ 11 := by
  have h1 := lev_sS (b := b) hp 11 (Nat.le_refl _)
  rw [show b ^ (11 - 11) = 1 from by simp, Int.mul_one] at h1
  omega
theorem can80 {p : List Int} {b : Int} {R : V → Prop} (hb : 2 ≤ b) (hb8 : b ≤ 8) (hl : p.length ≤ 12) (hp : ∀ x ∈ p, Inn 0 11 x) (h : R (bv (decide (sS b 11 p ≤ b ^ 11)))) : K0G Try.prog glX 80 [.lst 1 (nl p), iv b] R := by
  refine K0_of_WY0 hmX hcL9 3000 Try.func80 (see (p := La 0 [(1 : Tmp), (5 : Tmp), (8 : Tmp), (9 : Tmp), (10 : Tmp)] (WY Try.prog cfL9 2994 (Env.mk (Bs.mk 0 []) 0 none 25 80 0) (cdAt [1, 1, 0, 1, 0, 0] (bodyOf Try.f80))) (Qblk 0 (Qthen (WY Try.prog cfL9 2997 (Env.mk (Bs.mk 0 []) 0 none 25 80 0) (cdAt [1, 1, 1] (bodyOf Try.f80)) (QendX Try.prog Try.f80 fun v h => R (frzW h v))) (QendX Try.prog Try.f80 fun v h => R (frzW h v)))) (St.mk (mkT [(1, iv b), (5, iv (0 : Int)), (8, V.lst 1 (nl p)), (9, iv (↑(nl p).length : Int)), (10, iv (0 : Int))]) (Hp.mk [] 0 []))) (by kernel_rfl) ?_)
  refine La.of (σ := Int × Nat) (fun s => sh80 p b s.1 s.2) (fun s => s.2 ≤ p.length ∧ s.1 = sS b 11 (p.take s.2)) (fun s => p.length - s.2) (0, 0) (by kernel_rfl) ⟨by simp, by simp [sS]⟩ ?_
  rintro ⟨t, k⟩ ⟨g1, g2⟩ J hJ
  simp only at g1 g2
  refine see (p := ifB (decide ((↑k : Int) < (↑(nl p).length : Int))) (onSome (nl p)[k]? fun row => onSome row[0]? fun v => onIntK IntKind.i64 v fun n => K0G Try.prog glX 102 [iv b, iv (IntKind.i64.wrap ((11 : Int) - n))] fun v => onIntK IntKind.i64 v fun n => J (St.mk (mkT [(1, iv b), (5, iv (IntKind.i64.wrap (t + n))), (8, V.lst 1 (nl p)), (9, iv (↑(nl p).length : Int)), (10, iv (IntKind.i64.wrap ((↑k : Int) + (1 : Int))))]) (Hp.mk [] 0 []))) (K0G Try.prog glX 102 [iv b, iv (11 : Int)] fun v => onIntK IntKind.i64 v fun n => R (bv (decide (t ≤ n))))) (by kernel_rfl) ?_
  refine ifB_mk (fun hc => ?_) (fun hc => ?_)
  · have hlt : k < p.length := by rw [nl_length] at hc; have := of_decide_eq_true hc; omega
    obtain ⟨x, hx⟩ := getI hlt
    have hx01 := hp x (mem_at hx)
    have x0 := hx01.1
    have x1 := hx01.2
    refine iel hx ?_
    rw [show IntKind.i64.wrap ((11 : Int) - x) = ((11 - x.toNat : Nat) : Int) from by rw [wr (by omega) (by omega)]; omega]
    refine power102b (by omega) hb8 (by omega) (onIntK_iv ?_)
    have e : t + b ^ (11 - x.toNat) = sS b 11 (p.take (k + 1)) := by rw [take_succ' hx, sS_app, g2, if_pos (by omega)]
    have bd := sS_bnd (b := b) (by omega) hb8 11 (p.take (k + 1))
    have : (p.take (k + 1)).length ≤ 12 := by simp; omega
    rw [wr1i hlt (by omega), wr (by omega) (by omega)]
    exact hJ (t + b ^ (11 - x.toNat), k + 1) ⟨hlt, e⟩ (by simp only; omega)
  · have hk : p.length ≤ k := by rw [nl_length] at hc; have := of_decide_eq_false hc; omega
    rw [List.take_of_length_le hk] at g2
    refine power102b (n := 11) (by omega) hb8 (Nat.le_refl _) (onIntK_iv ?_)
    rw [g2]
    exact h
set_option maxHeartbeats 1000000 in
theorem can49 {p : List Int} {b : Int} {R : V → Prop} (hb : 2 ≤ b) (hb8 : b ≤ 8) (hl : p.length ≤ 12) (hp : ∀ x ∈ p, Inn 0 11 x) (h : R (bv (decide (sS b 11 p ≤ b ^ 11)))) : K0G Try.prog glX 49 [.lst 1 (nl p), iv b] R := by
  refine K0_of_WY0 hmX hcL9 3000 Try.func49 (see (p := La 0 [(0 : Tmp), (1 : Tmp), (5 : Tmp), (6 : Tmp)] (WY Try.prog cfL9 2994 (Env.mk (Bs.mk 0 []) 0 none 32 49 0) (cdAt [1, 1, 0, 1, 0, 0] (bodyOf Try.f49))) (Qblk 0 (Qthen (WY Try.prog cfL9 2997 (Env.mk (Bs.mk 0 []) 0 none 32 49 0) (cdAt [1, 1, 1] (bodyOf Try.f49)) (QendX Try.prog Try.f49 fun v h => R (frzW h v))) (QendX Try.prog Try.f49 fun v h => R (frzW h v)))) (St.mk (mkT [(0, V.lst 1 (nl p)), (1, iv b), (5, iv (1 : Int)), (6, iv (0 : Int))]) (Hp.mk [] 0 []))) (by kernel_rfl) ?_)
  have hp0 : ∀ x ∈ p, 0 ≤ x := fun x hx => (hp x hx).1
  have plen := nl_length p
  refine La.of (σ := Int × Nat) (fun s => sh49a p b s.1 s.2) (fun s => s.2 ≤ 12 ∧ 0 ≤ s.1 ∧ s.1 ≤ 100 ∧ (s.1 = lev b p s.2 ∨ s.1 = 100 ∧ 100 ≤ lev b p s.2) ∧ (s.2 = 12 → 0 ≤ lev b p 11 - cnt p 11)) (fun s => 12 - s.2) (1, 0) (by kernel_rfl) ⟨by simp, by decide, by decide, .inl rfl, fun h => by cases h⟩ ?_
  rintro ⟨t, k⟩ ⟨g1, g2, g3, g4, g5⟩ J hJ
  simp only at g1 g2 g3 g4 g5
  refine see (p := ifB (decide ((↑k : Int) ≤ (11 : Int))) (La 0 [(0 : Tmp), (1 : Tmp), (5 : Tmp), (6 : Tmp), (7 : Tmp)] (WY Try.prog cfL9 2987 (Env.mk (Bs.mk 0 []) 0 none 32 49 2) (cdAt [1, 1, 0, 1, 0, 0, 1, 0, 0, 0, 1, 0, 0] (bodyOf Try.f49))) (Qblk 2 (Qthen (WY Try.prog cfL9 2990 (Env.mk (Bs.mk 0 []) 0 none 32 49 1) (cdAt [1, 1, 0, 1, 0, 0, 1, 0, 0, 1] (bodyOf Try.f49)) (Qblk 1 (Qthen (WY Try.prog cfL9 2992 (Env.mk (Bs.mk 0 []) 0 none 32 49 0) (cdAt [1, 1, 0, 1, 0, 0, 1, 1] (bodyOf Try.f49)) (Qla 0 [(0 : Tmp), (1 : Tmp), (5 : Tmp), (6 : Tmp)] J (Qblk 0 (Qthen (WY Try.prog cfL9 2997 (Env.mk (Bs.mk 0 []) 0 none 32 49 0) (cdAt [1, 1, 1] (bodyOf Try.f49)) (QendX Try.prog Try.f49 fun v h => R (frzW h v))) (QendX Try.prog Try.f49 fun v h => R (frzW h v)))))) (Qla 0 [(0 : Tmp), (1 : Tmp), (5 : Tmp), (6 : Tmp)] J (Qblk 0 (Qthen (WY Try.prog cfL9 2997 (Env.mk (Bs.mk 0 []) 0 none 32 49 0) (cdAt [1, 1, 1] (bodyOf Try.f49)) (QendX Try.prog Try.f49 fun v h => R (frzW h v))) (QendX Try.prog Try.f49 fun v h => R (frzW h v)))))))) (Qblk 1 (Qthen (WY Try.prog cfL9 2992 (Env.mk (Bs.mk 0 []) 0 none 32 49 0) (cdAt [1, 1, 0, 1, 0, 0, 1, 1] (bodyOf Try.f49)) (Qla 0 [(0 : Tmp), (1 : Tmp), (5 : Tmp), (6 : Tmp)] J (Qblk 0 (Qthen (WY Try.prog cfL9 2997 (Env.mk (Bs.mk 0 []) 0 none 32 49 0) (cdAt [1, 1, 1] (bodyOf Try.f49)) (QendX Try.prog Try.f49 fun v h => R (frzW h v))) (QendX Try.prog Try.f49 fun v h => R (frzW h v)))))) (Qla 0 [(0 : Tmp), (1 : Tmp), (5 : Tmp), (6 : Tmp)] J (Qblk 0 (Qthen (WY Try.prog cfL9 2997 (Env.mk (Bs.mk 0 []) 0 none 32 49 0) (cdAt [1, 1, 1] (bodyOf Try.f49)) (QendX Try.prog Try.f49 fun v h => R (frzW h v))) (QendX Try.prog Try.f49 fun v h => R (frzW h v))))))))) (St.mk (mkT [(0, V.lst 1 (nl p)), (1, iv b), (5, iv t), (6, iv (↑k : Int)), (7, iv (0 : Int))]) (Hp.mk [] 0 []))) (R (bv true))) (by kernel_rfl) ?_
  refine ifB_mk (fun hc => ?_) (fun hc => ?_)
  · have hk : k ≤ 11 := by have := of_decide_eq_true hc; omega
    refine La.of (σ := Int × Nat) (fun s => sh49b p b s.1 k s.2) (fun s => s.2 ≤ p.length ∧ s.1 = t - cnt (p.take s.2) k) (fun s => p.length - s.2) (t, 0) (by kernel_rfl) ⟨by simp, by show t = t - 0; omega⟩ ?_
    have ht0 := t
    have tdef : ∃ t0, t0 = t := ⟨t, rfl⟩
    obtain ⟨t0, rfl⟩ := tdef
    rintro ⟨t, i⟩ ⟨f1, f2⟩ I hI
    simp only at f1 f2
    refine see (p := ifB (decide ((↑i : Int) < (↑(nl p).length : Int))) (onSome (nl p)[i]? fun row => onSome row[0]? fun v => onIntK IntKind.i64 v fun n => ifB (n == (↑k : Int)) (I (St.mk (mkT [(0, V.lst 1 (nl p)), (1, iv b), (5, iv (IntKind.i64.wrap (t - (1 : Int)))), (6, iv (↑k : Int)), (7, iv (IntKind.i64.wrap ((↑i : Int) + (1 : Int))))]) (Hp.mk [] 0 []))) (I (St.mk (mkT [(0, V.lst 1 (nl p)), (1, iv b), (5, iv t), (6, iv (↑k : Int)), (7, iv (IntKind.i64.wrap ((↑i : Int) + (1 : Int))))]) (Hp.mk [] 0 [])))) (ifB (decide (t < (0 : Int))) (R (bv false)) (J (St.mk (mkT [(0, V.lst 1 (nl p)), (1, iv b), (5, iv (if (100 : Int) < IntKind.i64.wrap (t * b) then (100 : Int) else IntKind.i64.wrap (t * b))), (6, iv (IntKind.i64.wrap ((↑k : Int) + (1 : Int))))]) (Hp.mk [] 0 []))))) (by kernel_rfl) ?_
    have cb := cnt_le (p.take i) k
    have cl : (p.take i).length ≤ 12 := by simp; omega
    refine ifB_mk (fun d => ?_) (fun d => ?_)
    · have hlt : i < p.length := by rw [plen] at d; have := of_decide_eq_true d; omega
      obtain ⟨x, hx⟩ := getI hlt
      have e : cnt (p.take (i + 1)) k = cnt (p.take i) k + if x = (k : Int) then 1 else 0 := by rw [take_succ' hx, cnt_app]
      refine iel hx ?_
      rw [wr1i hlt (by omega)]
      refine ifB_mk (fun c => ?_) (fun c => ?_)
      · rw [if_pos (by simpa using c)] at e
        rw [wr (by omega) (by omega)]
        exact hI (t - 1, i + 1) ⟨hlt, by simp only; omega⟩ (by simp only; omega)
      · rw [if_neg (by simpa using c)] at e
        exact hI (t, i + 1) ⟨hlt, by simp only; omega⟩ (by simp only; omega)
    · have hi : p.length ≤ i := by rw [plen] at d; have := of_decide_eq_false d; omega
      rw [List.take_of_length_le hi] at f2 cb
      have cp : cnt p k ≤ 12 := by omega
      refine ifB_mk (fun c => ?_) (fun c => ?_)
      · have c := of_decide_eq_true c
        have : lev b p k - cnt p k < 0 := by rcases g4 with q | ⟨q1, q2⟩ <;> omega
        have := lev_neg hb hp0 hk this
        rw [show decide (sS b 11 p ≤ b ^ 11) = false from decide_eq_false (by omega)] at h
        exact h
      · have c := of_decide_eq_false c
        have t0 : 0 ≤ t := by omega
        have t100 : t ≤ 100 := by omega
        have tb0 : 0 ≤ t * b := Int.mul_nonneg t0 (by omega)
        have tb1 : t * b ≤ 800 := by
          have := Int.mul_le_mul t100 hb8 (by omega) (by decide)
          omega
        rw [wr (n := t * b) (by omega) (by omega), wr1i (show k < 12 from by omega) (by omega)]
        have lv : lev b p (k + 1) = (lev b p k - cnt p k) * b := rfl
        have D0 : 0 ≤ lev b p k - cnt p k := by rcases g4 with q | ⟨q1, q2⟩ <;> omega
        refine hJ (if (100 : Int) < t * b then 100 else t * b, k + 1) ⟨by simp only; omega, ?_, ?_, ?_, fun q => ?_⟩ (by simp only; omega)
        · simp only; split <;> omega
        · simp only; split <;> omega
        · simp only
          rcases g4 with q | ⟨q1, q2⟩
          · have : t = lev b p k - cnt p k := by omega
            rw [← this] at lv
            split
            · exact .inr ⟨rfl, by omega⟩
            · exact .inl lv.symm
          · have h88 : 88 ≤ t := by omega
            have h2 := Int.mul_le_mul h88 hb (by decide) t0
            have h3 : 88 ≤ lev b p k - cnt p k := by omega
            have h4 := Int.mul_le_mul h3 hb (by decide) D0
            rw [if_pos (by omega)]
            exact .inr ⟨rfl, by omega⟩
        · have : k = 11 := by simp only at q; omega
          subst this
          exact D0
  · have hk : k = 12 := by have := of_decide_eq_false hc; omega
    have := lev_ok hp0 (g5 hk)
    rw [show decide (sS b 11 p ≤ b ^ 11) = true from decide_eq_true this] at h
    exact h
end Go.Proofs.Ytmdimnmdoifkfaa
namespace Go.Proofs.Ytmdimnmdoifkfaa
open Go Go.Proofs.Ytmdimnmdoifkfaa.Clean
set_option linter.unusedVariables false
set_option linter.unusedSimpArgs false
set_option maxRecDepth 10000
def NumP (c : List Int) (b : Int) : Prop := 2 ≤ b ∧ b ≤ 8 ∧ 1 ≤ c.length ∧ c.length ≤ 12 ∧ ∀ x ∈ c, Inn 0 1000 x
theorem numbers42 {c : List Int} {b : Int} {R : V → Prop} (hl : c.length ≤ 20) (h : R (bv (dc (NumP c b)))) : K0G Try.prog glX 42 [.lst 1 (nl c), iv b] R := by
  refine K0_of_WY0 hmX hcL9 3000 Try.func42 (see (p := ifB (decide (b ≥ (2 : Int))) (ifB (!decide (b ≤ (8 : Int))) (R (bv false)) (ifB (decide ((↑(nl c).length : Int) ≥ (1 : Int))) (ifB (!decide ((↑(nl c).length : Int) ≤ (12 : Int))) (R (bv false)) (La 0 [(0 : Tmp), (5 : Tmp)] (WY Try.prog cfL9 2994 (Env.mk (Bs.mk 0 []) 0 none 27 42 0) (cdAt [1, 1, 0, 1, 0, 0] (bodyOf Try.f42))) (Qblk 0 (Qthen (WY Try.prog cfL9 2997 (Env.mk (Bs.mk 0 []) 0 none 27 42 0) (cdAt [1, 1, 1] (bodyOf Try.f42)) (QendX Try.prog Try.f42 fun v h => R (frzW h v))) (QendX Try.prog Try.f42 fun v h => R (frzW h v)))) (St.mk (mkT [(0, V.lst 1 (nl c)), (5, iv (0 : Int))]) (Hp.mk [] 0 [])))) (R (bv false)))) (R (bv false))) (by kernel_rfl) ?_)
  have clen := nl_length c
  rw [clen]
  refine ifB_mk (fun c1 => ifB_mk (fun c2 => rf h (fun q => by have := q.2.1; simp at c2; omega)) (fun c2 => ifB_mk (fun c3 => ifB_mk (fun c4 => rf h (fun q => by have := q.2.2.2.1; simp at c4; omega)) (fun c4 => ?_)) (fun c3 => rf h (fun q => by have := q.2.2.1; have := of_decide_eq_false c3; omega)))) (fun c1 => rf h (fun q => by have := q.1; have := of_decide_eq_false c1; omega))
  have c1 := of_decide_eq_true c1
  have c2 : b ≤ 8 := by simpa using c2
  have c3 := of_decide_eq_true c3
  refine La.of (σ := Nat) (fun k => sh42 c k) (fun k => k ≤ c.length ∧ ∀ x ∈ c.take k, Inn 0 1000 x) (fun k => c.length - k) 0 (by kernel_rfl) ⟨by simp, by simp⟩ ?_
  rintro k ⟨g1, g2⟩ J hJ
  refine see (p := ifB (decide ((↑k : Int) < (↑(nl c).length : Int))) (onSome (nl c)[k]? fun row => onSome row[0]? fun v => onIntK IntKind.i64 v fun n => ifB (decide (n ≥ (0 : Int))) (ifB (!decide (n ≤ (1000 : Int))) (R (bv false)) (J (St.mk (mkT [(0, V.lst 1 (nl c)), (5, iv (IntKind.i64.wrap ((↑k : Int) + (1 : Int))))]) (Hp.mk [] 0 [])))) (R (bv false))) (R (bv true))) (by kernel_rfl) ?_
  refine ifB_mk (fun hc => ?_) (fun hc => ?_)
  · have hlt : k < c.length := by rw [clen] at hc; have := of_decide_eq_true hc; omega
    obtain ⟨x, hx⟩ := getI hlt
    refine iel hx (ifB_mk (fun e1 => ifB_mk (fun e2 => rf h (fun q => by have := (q.2.2.2.2 x (mem_at hx)).2; simp at e2; omega)) (fun e2 => ?_)) (fun e1 => rf h (fun q => by have := (q.2.2.2.2 x (mem_at hx)).1; have := of_decide_eq_false e1; omega)))
    rw [wr1i hlt (by omega)]
    exact hJ (k + 1) ⟨hlt, all_take hx g2 ⟨of_decide_eq_true e1, by simpa using e2⟩⟩ (by omega)
  · have hk : c.length ≤ k := by rw [clen] at hc; have := of_decide_eq_false hc; omega
    exact rt h ⟨c1, c2, by omega, by simp at *; omega, all_all hk g2⟩
def dotK (c p : List Int) : Nat → Int
  | 0 => 0
  | k + 1 => dotK c p k + c.getD k 0 * p.getD k 0
theorem dot_bnd {c p : List Int} (hc : ∀ x ∈ c, Inn 0 1000 x) (hp : ∀ x ∈ p, Inn 0 11 x) : ∀ k : Nat, 0 ≤ dotK c p k ∧ dotK c p k ≤ 11000 * k
  | 0 => by simp [dotK]
  | k + 1 => by
    have ih := dot_bnd hc hp k
    have h1 : 0 ≤ c.getD k 0 ∧ c.getD k 0 ≤ 1000 := by
      by_cases h : k < c.length
      · obtain ⟨x, hx⟩ := getI h
        rw [getD_get hx]; exact hc x (mem_at hx)
      · simp [List.getD, h]
    have h2 : 0 ≤ p.getD k 0 ∧ p.getD k 0 ≤ 11 := by
      by_cases h : k < p.length
      · obtain ⟨x, hx⟩ := getI h
        rw [getD_get hx]; exact hp x (mem_at hx)
      · simp [List.getD, h]
    have h3 := Int.mul_nonneg h1.1 h2.1
    have h4 := Int.mul_le_mul h1.2 h2.2 h2.1 (by decide)
    simp only [dotK]
    omega
def CostP (c p : List Int) (b : Int) : Prop := NumP c b ∧ p.length = c.length ∧ ∀ x ∈ p, Inn 0 11 x
def CostR (c p : List Int) (b n e : Int) : Prop := (¬ CostP c p b ∧ n = 0 ∧ e = 2) ∨ (CostP c p b ∧ ¬ sS b 11 p ≤ b ^ 11 ∧ n = 0 ∧ e = 6) ∨ (CostP c p b ∧ sS b 11 p ≤ b ^ 11 ∧ n = dotK c p p.length ∧ e = 0)
theorem CostR.uniq {c p : List Int} {b n e m f : Int} (h : CostR c p b n e) (g : CostR c p b m f) : n = m ∧ e = f := by
  rcases h with ⟨h1, h2, h3⟩ | ⟨h1, h2, h3, h4⟩ | ⟨h1, h2, h3, h4⟩ <;> rcases g with ⟨g1, g2, g3⟩ | ⟨g1, g2, g3, g4⟩ | ⟨g1, g2, g3, g4⟩ <;> first | exact ⟨by omega, by omega⟩ | exact (h1 g1).elim | exact (g1 h1).elim | exact (h2 g2).elim | exact (g2 h2).elim
theorem cost39 {c p : List Int} {b : Int} {R : V → Prop} (hl : c.length ≤ 20) (hl2 : p.length ≤ 20) (h : ∀ n e, CostR c p b n e → R (.tup [iv n, iv e])) : K0G Try.prog glX 39 [.lst 1 (nl c), .lst 1 (nl p), iv b] R := by
  refine K0_of_WY0 hmX hcL9 3000 Try.func39 (see (p := ifB (decide ((2 : Int) ≤ b)) (ifB (decide (b ≤ (8 : Int))) (ifB (decide ((1 : Int) ≤ (↑(nl c).length : Int))) (ifB (decide ((↑(nl c).length : Int) ≤ (12 : Int))) (K0G Try.prog glX 77 [V.lst 1 (nl c), iv (↑(nl c).length : Int), iv (0 : Int), iv (1000 : Int)] fun v => onBool v fun b_1 => ifB (!b_1) (R (V.tup [iv (0 : Int), iv (2 : Int)])) (K0G Try.prog glX 77 [V.lst 1 (nl p), iv (↑(nl c).length : Int), iv (0 : Int), iv (11 : Int)] fun v => onBool v fun b_2 => ifB (!b_2) (R (V.tup [iv (0 : Int), iv (2 : Int)])) (K0G Try.prog glX 80 [V.lst 1 (nl p), iv b] fun v => onBool v fun b => ifB (!b) (R (V.tup [iv (0 : Int), iv (6 : Int)])) (La 0 [(0 : Tmp), (8 : Tmp), (26 : Tmp), (27 : Tmp), (28 : Tmp)] (WY Try.prog cfL9 2992 (Env.mk (Bs.mk 0 []) 0 none 43 39 0) (cdAt [1, 1, 1, 1, 0, 1, 0, 0] (bodyOf Try.f39))) (Qblk 0 (Qthen (WY Try.prog cfL9 2995 (Env.mk (Bs.mk 0 []) 0 none 43 39 0) (cdAt [1, 1, 1, 1, 1] (bodyOf Try.f39)) (QendX Try.prog Try.f39 fun v h => R (frzW h v))) (QendX Try.prog Try.f39 fun v h => R (frzW h v)))) (St.mk (mkT [(0, V.lst 1 (nl c)), (8, iv (0 : Int)), (26, V.lst 1 (nl p)), (27, iv (↑(nl p).length : Int)), (28, iv (0 : Int))]) (Hp.mk [] 0 [])))))) (R (V.tup [iv (0 : Int), iv (2 : Int)]))) (R (V.tup [iv (0 : Int), iv (2 : Int)]))) (R (V.tup [iv (0 : Int), iv (2 : Int)]))) (R (V.tup [iv (0 : Int), iv (2 : Int)]))) (by kernel_rfl) ?_)
  have clen := nl_length c
  have plen := nl_length p
  have bad : ¬ CostP c p b → R (V.tup [iv 0, iv 2]) := fun hn => h 0 2 (.inl ⟨hn, rfl, rfl⟩)
  rw [clen]
  refine ifB_mk (fun c1 => ifB_mk (fun c2 => ifB_mk (fun c3 => ifB_mk (fun c4 => ?_) (fun c4 => bad (fun q => by have := q.1.2.2.2.1; have := of_decide_eq_false c4; omega))) (fun c3 => bad (fun q => by have := q.1.2.2.1; have := of_decide_eq_false c3; omega))) (fun c2 => bad (fun q => by have := q.1.2.1; have := of_decide_eq_false c2; omega))) (fun c1 => bad (fun q => by have := q.1.1; have := of_decide_eq_false c1; omega))
  have c1 := of_decide_eq_true c1
  have c2 := of_decide_eq_true c2
  have c3 := of_decide_eq_true c3
  have c4 := of_decide_eq_true c4
  refine nums77 (by omega) (onBool_bv (ifB_mk (fun d => bad (fun q => ?_)) (fun d => ?_)))
  · rw [dc_t ⟨rfl, q.1.2.2.2.2⟩] at d; cases d
  have hC : Nums c c.length 0 1000 := dc_true (by cases hq : dc (Nums c c.length 0 1000) with | true => rfl | false => rw [hq] at d; cases d)
  refine nums77 (by omega) (onBool_bv (ifB_mk (fun d => bad (fun q => ?_)) (fun d => ?_)))
  · rw [dc_t ⟨by rw [q.2.1], q.2.2⟩] at d; cases d
  have hP : Nums p c.length 0 11 := dc_true (by cases hq : dc (Nums p c.length 0 11) with | true => rfl | false => rw [hq] at d; cases d)
  have lp : p.length = c.length := by have := hP.1; omega
  have hcp : CostP c p b := ⟨⟨c1, c2, by omega, by omega, hC.2⟩, lp, hP.2⟩
  refine can80 c1 c2 (by omega) hP.2 (onBool_bv (ifB_mk (fun d => h 0 6 (.inr (.inl ⟨hcp, by simpa using d, rfl, rfl⟩))) (fun d => ?_)))
  have hcan : sS b 11 p ≤ b ^ 11 := by simpa using d
  refine La.of (σ := Int × Nat) (fun s => sh39 c p s.1 s.2) (fun s => s.2 ≤ p.length ∧ s.1 = dotK c p s.2) (fun s => p.length - s.2) (0, 0) (by kernel_rfl) ⟨by simp, rfl⟩ ?_
  rintro ⟨t, k⟩ ⟨g1, g2⟩ J hJ
  simp only at g1 g2
  refine see (p := ifB (decide ((↑k : Int) < (↑(nl p).length : Int))) (onSome (nl p)[k]? fun row => onSome row[0]? fun v => onIntK IntKind.i64 v fun n => onSome (nl c)[k]? fun row => onSome row[0]? fun v => onIntK IntKind.i64 v fun n_1 => J (St.mk (mkT [(0, V.lst 1 (nl c)), (8, iv (IntKind.i64.wrap (t + IntKind.i64.wrap (n_1 * n)))), (26, V.lst 1 (nl p)), (27, iv (↑(nl p).length : Int)), (28, iv (IntKind.i64.wrap ((↑k : Int) + (1 : Int))))]) (Hp.mk [] 0 []))) (R (V.tup [iv t, iv (0 : Int)]))) (by kernel_rfl) ?_
  refine ifB_mk (fun hc => ?_) (fun hc => ?_)
  · have hlt : k < p.length := by rw [plen] at hc; have := of_decide_eq_true hc; omega
    obtain ⟨x, hx⟩ := getI hlt
    obtain ⟨y, hy⟩ := getI (l := c) (k := k) (by omega)
    have d1 := dot_bnd hC.2 hP.2 k
    have d2 := dot_bnd hC.2 hP.2 (k + 1)
    have e : dotK c p (k + 1) = dotK c p k + y * x := by simp only [dotK]; rw [getD_get hx, getD_get hy]
    refine iel hx (iel hy ?_)
    rw [wr1i hlt (by omega), wr (n := y * x) (by omega) (by omega), wr (by omega) (by omega)]
    exact hJ (t + y * x, k + 1) ⟨hlt, by rw [e, g2]⟩ (by simp only; omega)
  · have hk : k = p.length := by rw [plen] at hc; have := of_decide_eq_false hc; omega
    exact h t 0 (.inr (.inr ⟨hcp, hcan, by rw [g2, hk], rfl⟩))
theorem cost40 {c p : List Int} {b : Int} {R : V → Prop} (hl : c.length ≤ 20) (hl2 : p.length ≤ 20) (h : ∀ n e, CostR c p b n e → R (.tup [iv n, iv e])) : K0G Try.prog glX 40 [.lst 1 (nl c), .lst 1 (nl p), iv b] R := by
  refine K0_of_WY0 hmX hcL9 3000 Try.func40 (see (p := K0G Try.prog glX 42 [V.lst 1 (nl c), iv b] fun v => onBool v fun b_1 => ifB (!b_1) (R (V.tup [iv (0 : Int), iv (2 : Int)])) (ifB ((↑(nl p).length : Int) != (↑(nl c).length : Int)) (R (V.tup [iv (0 : Int), iv (2 : Int)])) (La 0 [(0 : Tmp), (1 : Tmp), (2 : Tmp), (8 : Tmp), (9 : Tmp)] (WY Try.prog cfL9 2993 (Env.mk (Bs.mk 0 []) 0 none 49 40 0) (cdAt [1, 1, 1, 0, 1, 0, 0] (bodyOf Try.f40))) (Qblk 0 (Qthen (WY Try.prog cfL9 2996 (Env.mk (Bs.mk 0 []) 0 none 49 40 0) (cdAt [1, 1, 1, 1] (bodyOf Try.f40)) (QendX Try.prog Try.f40 fun v h => R (frzW h v))) (QendX Try.prog Try.f40 fun v h => R (frzW h v)))) (St.mk (mkT [(0, V.lst 1 (nl c)), (1, V.lst 1 (nl p)), (2, iv b), (8, iv (0 : Int)), (9, iv (0 : Int))]) (Hp.mk [] 0 []))))) (by kernel_rfl) ?_)
  have clen := nl_length c
  have plen := nl_length p
  have bad : ¬ CostP c p b → R (V.tup [iv 0, iv 2]) := fun hn => h 0 2 (.inl ⟨hn, rfl, rfl⟩)
  refine numbers42 hl (onBool_bv (ifB_mk (fun d => bad (fun q => by rw [dc_t q.1] at d; cases d)) (fun d => ?_)))
  have hN : NumP c b := dc_true (by cases hq : dc (NumP c b) with | true => rfl | false => rw [hq] at d; cases d)
  rw [clen, plen]
  refine ifB_mk (fun d => bad (fun q => by have := q.2.1; simp at d; omega)) (fun d => ?_)
  have lp : p.length = c.length := by simp at d; omega
  have c12 := hN.2.2.2.1
  refine La.of (σ := Int × Nat) (fun s => sh40 c p b s.1 s.2) (fun s => s.2 ≤ p.length ∧ s.1 = dotK c p s.2 ∧ 0 ≤ s.1 ∧ s.1 ≤ 11000 * s.2 ∧ ∀ x ∈ p.take s.2, Inn 0 11 x) (fun s => p.length - s.2) (0, 0) (by kernel_rfl) ⟨by simp, rfl, by simp, by simp, by simp⟩ ?_
  rintro ⟨t, k⟩ ⟨g1, g2, g3, g4, g5⟩ J hJ
  simp only at g1 g2 g3 g4 g5
  refine see (p := ifB (decide ((↑k : Int) < (↑(nl p).length : Int))) (onSome (nl p)[k]? fun row => onSome row[0]? fun v => onIntK IntKind.i64 v fun n => ifB (decide (n ≥ (0 : Int))) (ifB (!decide (n ≤ (11 : Int))) (R (V.tup [iv (0 : Int), iv (2 : Int)])) (onSome (nl c)[k]? fun row => onSome row[0]? fun v => onIntK IntKind.i64 v fun n => onSome (nl p)[k]? fun row => onSome row[0]? fun v => onIntK IntKind.i64 v fun n_1 => J (St.mk (mkT [(0, V.lst 1 (nl c)), (1, V.lst 1 (nl p)), (2, iv b), (8, iv (IntKind.i64.wrap (t + IntKind.i64.wrap (n * n_1)))), (9, iv (IntKind.i64.wrap ((↑k : Int) + (1 : Int))))]) (Hp.mk [] 0 [])))) (R (V.tup [iv (0 : Int), iv (2 : Int)]))) (K0G Try.prog glX 49 [V.lst 1 (nl p), iv b] fun v => onBool v fun b => ifB (!b) (R (V.tup [iv (0 : Int), iv (6 : Int)])) (R (V.tup [iv t, iv (0 : Int)])))) (by kernel_rfl) ?_
  refine ifB_mk (fun hc => ?_) (fun hc => ?_)
  · have hlt : k < p.length := by rw [plen] at hc; have := of_decide_eq_true hc; omega
    obtain ⟨x, hx⟩ := getI hlt
    obtain ⟨y, hy⟩ := getI (l := c) (k := k) (by omega)
    have hy1 := hN.2.2.2.2 y (mem_at hy)
    refine iel hx (ifB_mk (fun e1 => ifB_mk (fun e2 => bad (fun q => by have := (q.2.2 x (mem_at hx)).2; simp at e2; omega)) (fun e2 => ?_)) (fun e1 => bad (fun q => by have := (q.2.2 x (mem_at hx)).1; have := of_decide_eq_false e1; omega)))
    have e1 := of_decide_eq_true e1
    have e2 : x ≤ 11 := by simpa using e2
    have h3 := Int.mul_nonneg hy1.1 e1
    have h4 := Int.mul_le_mul hy1.2 e2 e1 (by decide)
    have e : dotK c p (k + 1) = dotK c p k + y * x := by simp only [dotK]; rw [getD_get hx, getD_get hy]
    refine iel hy (iel hx ?_)
    rw [wr1i hlt (by omega), wr (n := y * x) (by omega) (by omega), wr (by omega) (by omega)]
    exact hJ (t + y * x, k + 1) ⟨hlt, by rw [e, g2], by simp only; omega, by simp only; omega, all_take hx g5 ⟨e1, e2⟩⟩ (by simp only; omega)
  · have hk : k = p.length := by rw [plen] at hc; have := of_decide_eq_false hc; omega
    have hP := all_all (by omega) g5
    have hcp : CostP c p b := ⟨hN, lp, hP⟩
    refine can49 hN.1 hN.2.1 (by omega) hP (onBool_bv (ifB_mk (fun d => h 0 6 (.inr (.inl ⟨hcp, by simpa using d, rfl, rfl⟩))) (fun d => h t 0 (.inr (.inr ⟨hcp, by simpa using d, by rw [g2, hk], rfl⟩)))))
end Go.Proofs.Ytmdimnmdoifkfaa
namespace Go.Proofs.Ytmdimnmdoifkfaa
open Go Go.Proofs.Ytmdimnmdoifkfaa.Clean
set_option linter.unusedVariables false
set_option maxRecDepth 100000
def kpM : FuncId → Nat → Option (List Tmp) := slotsOf [(43, 0, [1, 5]), (43, 2, [1, 5, 6]), (43, 4, [1, 5, 6, 7, 8]), (43, 6, [1, 5, 6, 7, 8, 9, 10])]
noncomputable def cfM9 : Cfg := { cfgG Try.prog glX moK poK rtB (inN [75, 54, 79]) kpM with clean := fun g => !inN [100, 103] g }
noncomputable def memM (l : List Int) : Hp := ⟨[(0, O.rows 1 true (nl l))], 1, []⟩
noncomputable def sh43a (b : Int) (M : Nat) (l : List Int) : St := ⟨mkT [(1, iv b), (5, V.sl (Id.p 0) 0 M)], memM l⟩
noncomputable def sh43b (b : Int) (M : Nat) (l : List Int) (t : Int) : St := ⟨mkT [(1, iv b), (5, V.sl (Id.p 0) 0 M), (6, iv t)], memM l⟩
noncomputable def sh43c (b : Int) (M : Nat) (l : List Int) (t s : Int) (k : Nat) : St := ⟨mkT [(1, iv b), (5, V.sl (Id.p 0) 0 M), (6, iv t), (7, iv s), (8, iv (k : Int))], memM l⟩
noncomputable def sh43d (b : Int) (M : Nat) (l : List Int) (t s : Int) (k a i : Nat) : St := ⟨mkT [(1, iv b), (5, V.sl (Id.p 0) 0 M), (6, iv t), (7, iv s), (8, iv (k : Int)), (9, iv (a : Int)), (10, iv (i : Int))], memM l⟩
end Go.Proofs.Ytmdimnmdoifkfaa
namespace Go.Proofs.Ytmdimnmdoifkfaa
open Go Go.Proofs.Ytmdimnmdoifkfaa.Clean
set_option linter.unusedVariables false
set_option linter.unusedSimpArgs false
set_option maxRecDepth 10000
theorem hcM9 : cfM9.ok Try.prog := by
  have h : (cfgG Try.prog glX moK poK rtB (inN [75, 54, 79]) kpM).ok Try.prog := cfgG_ok rtB_ok
  exact ⟨h.1, h.2⟩
def insS : List Int → Int → List Int
  | [], x => [x]
  | y :: l, x => if x < y then x :: y :: l else y :: insS l x
theorem insS_perm : ∀ (l : List Int) (x : Int), (insS l x).Perm (x :: l)
  | [], x => List.Perm.refl _
  | y :: l, x => by
    unfold insS
    split
    · exact List.Perm.refl _
    · exact ((insS_perm l x).cons y).trans (List.Perm.swap x y l)
theorem insS_srt : ∀ {l : List Int} (x : Int), l.Pairwise (· ≤ ·) → (insS l x).Pairwise (· ≤ ·)
  | [], x, _ => by simp [insS]
  | y :: l, x, h => by
    have h1 := List.pairwise_cons.1 h
    unfold insS
    split
    · refine List.pairwise_cons.2 ⟨fun z hz => ?_, h⟩
      rcases List.mem_cons.1 hz with rfl | hz
      · omega
      · have := h1.1 z hz; omega
    · refine List.pairwise_cons.2 ⟨fun z hz => ?_, insS_srt x h1.2⟩
      rcases List.mem_cons.1 ((insS_perm l x).mem_iff.1 hz) with rfl | hz
      · omega
      · exact h1.1 z hz
theorem insS_length (l : List Int) (x : Int) : (insS l x).length = l.length + 1 := by rw [(insS_perm l x).length_eq]; rfl
theorem tot_perm {a b : List Int} (h : a.Perm b) : tot a = tot b := by
  induction h with
  | nil => rfl
  | cons x _ ih => show x + _ = x + _; rw [ih]
  | swap x y l => show y + (x + tot l) = x + (y + tot l); omega
  | trans _ _ h1 h2 => exact h1.trans h2
def hfC : Nat → Nat → List Int → Int → Int
  | 0, _, _, t => t
  | f + 1, b, s, t => if 1 < s.length then hfC f b (insS (s.drop b) (tot (s.take b))) (t + tot (s.take b)) else t
theorem hfC_end {f b : Nat} {s : List Int} {t : Int} (h : s.length ≤ 1) : hfC f b s t = t := by
  cases f with
  | zero => rfl
  | succ f => exact if_neg (by omega)
def padN (n b : Nat) : Nat := (b - 1 - (n - 1) % (b - 1)) % (b - 1)
def padB (b n : Nat) : Bool := (n + padN n b - 1) % (b - 1) == 0 && decide (padN n b ≤ 7) && (List.range (padN n b)).all fun q => (n + q - 1) % (b - 1) != 0
theorem pad_all : ((List.range 9).all fun b => (List.range 13).all fun n => !(decide (2 ≤ b) && decide (1 ≤ n)) || padB b n) = true := by decide
theorem pad_ok (b : Nat) (h8 : b ≤ 8) (h2 : 2 ≤ b) (n : Nat) (h12 : n ≤ 12) (h1 : 1 ≤ n) : (n + padN n b - 1) % (b - 1) = 0 ∧ padN n b ≤ 7 ∧ ∀ q, q < padN n b → (n + q - 1) % (b - 1) ≠ 0 := by
  have h := List.all_eq_true.1 (List.all_eq_true.1 pad_all b (List.mem_range.2 (by omega))) n (List.mem_range.2 (by omega))
  simp only [h2, h1, decide_true, Bool.and_true, Bool.not_true, Bool.false_or, padB, Bool.and_eq_true, beq_iff_eq, decide_eq_true_eq, List.all_eq_true, List.mem_range, bne_iff_ne] at h
  exact ⟨h.1.1, h.1.2, h.2⟩
theorem tot_rep : ∀ q, tot (List.replicate q (0 : Int)) = 0
  | 0 => rfl
  | q + 1 => by rw [List.replicate_succ]; show 0 + _ = _; rw [tot_rep q]; rfl
theorem even_ge {m b : Nat} (hb : 2 ≤ b) (h : (m - 1) % (b - 1) = 0) (hm : 1 < m) : b ≤ m := by
  have := Nat.div_add_mod (m - 1) (b - 1)
  rw [h, Nat.add_zero] at this
  have h1 : (m - 1) / (b - 1) ≠ 0 := by intro q; rw [q, Nat.mul_zero] at this; omega
  have h2 : b - 1 ≤ (b - 1) * ((m - 1) / (b - 1)) := Nat.le_mul_of_pos_right _ (Nat.pos_of_ne_zero h1)
  omega
theorem even_next {m b : Nat} (hb : 2 ≤ b) (h : (m - 1) % (b - 1) = 0) (hm : b ≤ m) : (m - b + 1 - 1) % (b - 1) = 0 := by
  have e : m - 1 = (m - b + 1 - 1) + (b - 1) := by omega
  rw [e, Nat.add_mod_right] at h
  exact h
theorem nl_take (l : List Int) : List.take l.length (nl l) = nl l := by rw [← nl_length]; exact List.take_length
theorem sub_nl (l : List Int) (a n : Nat) : sub (nl l) a n = nl ((l.drop a).take n) := by simp [sub, nl, List.map_take, List.map_drop]
set_option maxHeartbeats 1000000 in
theorem cheap43 {c S : List Int} {bn : Nat} {b : Int} {R : V → Prop} (hbn : b = (bn : Int)) (hN : NumP c b) (hS : S.Pairwise (· ≤ ·)) (hp : c.Perm S) (h : R (iv (hfC 20 bn (List.replicate (padN c.length bn) 0 ++ S) 0))) : K0G Try.prog glX 43 [.lst 1 (nl c), iv b] R := by
  refine K0_of_WY0 hmX hcM9 3000 Try.func43 (see (p := need ((0 + (nl c).length) * 8 ≤ 140737488355328) (La 0 [(1 : Tmp), (5 : Tmp)] (WY Try.prog cfM9 2995 (Env.mk (Bs.mk 0 []) 0 none 72 43 0) (cdAt [1, 1, 0, 0, 0] (bodyOf Try.f43))) (Qblk 0 (Qthen (WY Try.prog cfM9 2997 (Env.mk (Bs.mk 0 []) 0 none 72 43 0) (cdAt [1, 1, 1] (bodyOf Try.f43)) (QendX Try.prog Try.f43 fun v h => R (frzW h v))) (QendX Try.prog Try.f43 fun v h => R (frzW h v)))) (St.mk (mkT [(1, iv b), (5, V.sl (Id.p 0) 0 (0 + (nl c).length))]) (Hp.mk [(0, O.rows 1 true ([] ++ nl c))] 1 [])))) (by kernel_rfl) ?_)
  obtain ⟨b2, b8, c1, c12, hcx⟩ := hN
  have clen := nl_length c
  obtain ⟨pd1, pd2, pd3⟩ := pad_ok bn (by omega) (by omega) c.length c12 c1
  generalize padN c.length bn = p at h pd1 pd2 pd3
  refine need_mk ⟨by omega, ?_⟩
  refine La.of (σ := Nat × List Int × Nat) (fun s => sh43a b s.1 s.2.1) (fun s => s.2.2 ≤ p ∧ s.2.1 = c ++ List.replicate s.2.2 0 ∧ s.1 = s.2.1.length) (fun s => p - s.2.2) (0 + (nl c).length, c, 0) (by kernel_rfl) ⟨by simp, by simp, by simp [nl]⟩ ?_
  rintro ⟨M, l, q⟩ ⟨g1, g2, g3⟩ J hJ
  simp only at g1 g2 g3
  refine see (p := need (IntKind.i64.wrap (b - (1 : Int)) ≠ (0 : Int)) (ifB ((IntKind.i64.wrap ((↑M : Int) - (1 : Int))).tmod (IntKind.i64.wrap (b - (1 : Int))) != (0 : Int)) (need ((M + 1) * 8 ≤ 140737488355328) (J (St.mk (mkT [(1, iv b), (5, V.sl (Id.p 0) 0 (M + 1))]) (Hp.mk [(0, O.rows 1 true (List.take M (nl l) ++ [[iv (0 : Int)]]))] 1 [])))) (La 0 [(1 : Tmp), (5 : Tmp), (6 : Tmp)] (WY Try.prog cfM9 2993 (Env.mk (Bs.mk 0 []) 0 none 72 43 2) (cdAt [1, 1, 1, 1, 0, 0, 0] (bodyOf Try.f43))) (Qblk 2 (Qthen (WY Try.prog cfM9 2995 (Env.mk (Bs.mk 0 []) 0 none 72 43 0) (cdAt [1, 1, 1, 1, 1] (bodyOf Try.f43)) (QendX Try.prog Try.f43 fun v h => R (frzW h v))) (QendX Try.prog Try.f43 fun v h => R (frzW h v)))) (St.mk (mkT [(1, iv b), (5, V.sl (Id.p 0) 0 M), (6, iv (0 : Int))]) (Hp.mk [(0, O.rows 1 true (nl l))] 1 []))))) (by kernel_rfl) ?_
  have hM : M = c.length + q := by rw [g3, g2]; simp
  have wb : IntKind.i64.wrap (b - 1) = ((bn - 1 : Nat) : Int) := by rw [wr (by omega) (by omega)]; omega
  have wM : IntKind.i64.wrap ((M : Int) - 1) = ((M - 1 : Nat) : Int) := by rw [wr (by omega) (by omega)]; omega
  rw [wb, wM, ← Int.ofNat_tmod]
  refine need_mk ⟨by omega, ifB_mk (fun d => need_mk ⟨by omega, ?_⟩) (fun d => ?_)⟩
  · have hne : (M - 1) % (bn - 1) ≠ 0 := by
      intro hq
      rw [hq] at d
      simp at d
    have hq : q < p := by
      rcases Nat.lt_or_ge q p with hq | hq
      · exact hq
      · exact absurd (by rw [hM, show q = p from by omega]; exact pd1) hne
    have e : List.take M (nl l) ++ [[iv (0 : Int)]] = nl (l ++ [0]) := by rw [g3, nl_take]; simp [nl]
    rw [e]
    exact hJ (M + 1, l ++ [0], q + 1) ⟨hq, by rw [g2, List.append_assoc, List.replicate_succ'], by simp [g3]⟩ (by simp only; omega)
  have hz : (M - 1) % (bn - 1) = 0 := by
    have : (((M - 1) % (bn - 1) : Nat) : Int) = 0 := by simpa using d
    omega
  have hqp : q = p := by
    rcases Nat.lt_or_ge q p with hq | hq
    · exact absurd (by rw [← hM]; exact hz) (pd3 q hq)
    · omega
  subst hqp
  have hl : l.Perm (List.replicate q 0 ++ S) := by rw [g2]; exact List.perm_append_comm.trans (List.Perm.append_left _ hp)
  have hT : (List.replicate q (0 : Int) ++ S).Pairwise (· ≤ ·) := by
    rw [List.pairwise_append]
    refine ⟨by simp [List.pairwise_replicate], hS, fun x hx y hy => ?_⟩
    have := List.eq_of_mem_replicate hx
    have := (hcx y (hp.mem_iff.2 hy)).1
    omega
  have hx0 : ∀ x ∈ List.replicate q (0 : Int) ++ S, 0 ≤ x := fun x hx => by
    rcases List.mem_append.1 hx with hx | hx
    · rw [List.eq_of_mem_replicate hx]; exact Int.le_refl _
    · exact (hcx x (hp.mem_iff.2 hx)).1
  have ht0 : tot (List.replicate q (0 : Int) ++ S) ≤ 12000 := by
    rw [← tot_perm hl, g2, tot_append]
    have h1 := (tot_bnd (a := c) hcx).2
    have h2 := tot_rep q
    omega
  have hTl : (List.replicate q (0 : Int) ++ S).length ≤ 19 := by rw [← hl.length_eq, ← g3]; omega
  generalize List.replicate q (0 : Int) ++ S = T at h hl hT hx0 ht0 hTl
  clear g2 hM pd1 pd2 pd3 hJ
  have hMT : M = l.length := g3
  refine La.of (σ := Nat × List Int × Int × List Int × Nat) (fun s => sh43b b s.1 s.2.1 s.2.2.1) (fun s => s.1 = s.2.1.length ∧ s.2.1.Perm s.2.2.2.1 ∧ s.2.2.2.1.Pairwise (· ≤ ·) ∧ (∀ x ∈ s.2.2.2.1, 0 ≤ x) ∧ tot s.2.2.2.1 ≤ 12000 ∧ s.2.2.2.1.length ≤ s.2.2.2.2 ∧ s.2.2.2.2 ≤ 20 ∧ (s.1 - 1) % (bn - 1) = 0 ∧ 0 ≤ s.2.2.1 ∧ s.2.2.1 + 12000 * s.2.2.2.2 ≤ 240000 ∧ hfC s.2.2.2.2 bn s.2.2.2.1 s.2.2.1 = hfC 20 bn T 0) (fun s => s.2.2.2.2) (M, l, 0, T, 20) (by kernel_rfl) ⟨g3, hl, hT, hx0, ht0, by simp only; omega, Nat.le_refl _, hz, by simp, by simp, rfl⟩ ?_
  clear wM hz hl hT hx0 ht0 hTl hMT g3 d
  generalize hfC 20 bn T 0 = res at h
  clear l M
  rintro ⟨M, l, t, T, f⟩ ⟨g1, g2, g3, g4, g5, g6, g7, g8, g9, g10, g11⟩ I hI
  simp only at g1 g2 g3 g4 g5 g6 g7 g8 g9 g10 g11
  refine see (p := ifB (decide ((↑M : Int) > (1 : Int))) (La 0 [(1 : Tmp), (5 : Tmp), (6 : Tmp), (7 : Tmp), (8 : Tmp)] (WY Try.prog cfM9 2986 (Env.mk (Bs.mk 0 []) 0 none 72 43 4) (cdAt [1, 1, 1, 1, 0, 0, 0, 1, 0, 1, 0, 1, 0, 0] (bodyOf Try.f43))) (Qblk 4 (Qthen (WY Try.prog cfM9 2989 (Env.mk (Bs.mk 0 []) 0 none 72 43 3) (cdAt [1, 1, 1, 1, 0, 0, 0, 1, 0, 1, 1] (bodyOf Try.f43)) (Qblk 3 (Qla 0 [(1 : Tmp), (5 : Tmp), (6 : Tmp)] I (Qblk 2 (Qthen (WY Try.prog cfM9 2995 (Env.mk (Bs.mk 0 []) 0 none 72 43 0) (cdAt [1, 1, 1, 1, 1] (bodyOf Try.f43)) (QendX Try.prog Try.f43 fun v h => R (frzW h v))) (QendX Try.prog Try.f43 fun v h => R (frzW h v))))))) (Qblk 3 (Qla 0 [(1 : Tmp), (5 : Tmp), (6 : Tmp)] I (Qblk 2 (Qthen (WY Try.prog cfM9 2995 (Env.mk (Bs.mk 0 []) 0 none 72 43 0) (cdAt [1, 1, 1, 1, 1] (bodyOf Try.f43)) (QendX Try.prog Try.f43 fun v h => R (frzW h v))) (QendX Try.prog Try.f43 fun v h => R (frzW h v)))))))) (St.mk (mkT [(1, iv b), (5, V.sl (Id.p 0) 0 M), (6, iv t), (7, iv (0 : Int)), (8, iv (0 : Int))]) (Hp.mk [(0, O.rows 1 true (nl l))] 1 []))) (R (iv t))) (by kernel_rfl) ?_
  have TM : T.length = M := by rw [g1, g2.length_eq]
  refine ifB_mk (fun d => ?_) (fun d => ?_)
  · have hM1 : 1 < M := by have := of_decide_eq_true d; omega
    have hMb := even_ge (by omega) g8 hM1
    obtain ⟨f, rfl⟩ : ∃ f', f = f' + 1 := ⟨f - 1, by omega⟩
    have tk := fun k => tot_mono g4 k
    refine La.of (σ := Nat × List Int × Int × Nat) (fun s => sh43c b s.1 s.2.1 t s.2.2.1 s.2.2.2) (fun s => s.2.2.2 ≤ bn ∧ s.1 = s.2.1.length ∧ s.2.1.Perm (T.drop s.2.2.2) ∧ s.2.2.1 = tot (T.take s.2.2.2)) (fun s => bn - s.2.2.2) (M, l, 0, 0) (by kernel_rfl) ⟨by simp, g1, by simpa using g2, by simp [tot]⟩ ?_
    rintro ⟨M1, l1, s, k⟩ ⟨f1, f2, f3, f4⟩ H hH
    simp only at f1 f2 f3 f4
    have M1T : M1 = T.length - k := by rw [f2, f3.length_eq, List.length_drop]
    obtain ⟨M0, rfl⟩ : ∃ M0, M0 = M := ⟨M, rfl⟩
    obtain ⟨l0, rfl⟩ : ∃ l0, l0 = l := ⟨l, rfl⟩
    obtain ⟨M, hMe⟩ : ∃ M, M = M1 := ⟨M1, rfl⟩
    obtain ⟨l, hle⟩ : ∃ l, l = l1 := ⟨l1, rfl⟩
    subst hMe hle
    refine see (p := ifB (decide ((↑k : Int) < b)) (La 0 [(1 : Tmp), (5 : Tmp), (6 : Tmp), (7 : Tmp), (8 : Tmp), (9 : Tmp), (10 : Tmp)] (WY Try.prog cfM9 2978 (Env.mk (Bs.mk 0 []) 0 none 72 43 6) (cdAt [1, 1, 1, 1, 0, 0, 0, 1, 0, 1, 0, 1, 0, 0, 1, 0, 0, 1, 0, 1, 0, 0] (bodyOf Try.f43))) (Qblk 6 (Qthen (WY Try.prog cfM9 2981 (Env.mk (Bs.mk 0 []) 0 none 72 43 5) (cdAt [1, 1, 1, 1, 0, 0, 0, 1, 0, 1, 0, 1, 0, 0, 1, 0, 0, 1, 1] (bodyOf Try.f43)) (Qblk 5 (Qthen (WY Try.prog cfM9 2984 (Env.mk (Bs.mk 0 []) 0 none 72 43 4) (cdAt [1, 1, 1, 1, 0, 0, 0, 1, 0, 1, 0, 1, 0, 0, 1, 1] (bodyOf Try.f43)) (Qla 0 [(1 : Tmp), (5 : Tmp), (6 : Tmp), (7 : Tmp), (8 : Tmp)] H (Qblk 4 (Qthen (WY Try.prog cfM9 2989 (Env.mk (Bs.mk 0 []) 0 none 72 43 3) (cdAt [1, 1, 1, 1, 0, 0, 0, 1, 0, 1, 1] (bodyOf Try.f43)) (Qblk 3 (Qla 0 [(1 : Tmp), (5 : Tmp), (6 : Tmp)] I (Qblk 2 (Qthen (WY Try.prog cfM9 2995 (Env.mk (Bs.mk 0 []) 0 none 72 43 0) (cdAt [1, 1, 1, 1, 1] (bodyOf Try.f43)) (QendX Try.prog Try.f43 fun v h => R (frzW h v))) (QendX Try.prog Try.f43 fun v h => R (frzW h v))))))) (Qblk 3 (Qla 0 [(1 : Tmp), (5 : Tmp), (6 : Tmp)] I (Qblk 2 (Qthen (WY Try.prog cfM9 2995 (Env.mk (Bs.mk 0 []) 0 none 72 43 0) (cdAt [1, 1, 1, 1, 1] (bodyOf Try.f43)) (QendX Try.prog Try.f43 fun v h => R (frzW h v))) (QendX Try.prog Try.f43 fun v h => R (frzW h v)))))))))) (Qla 0 [(1 : Tmp), (5 : Tmp), (6 : Tmp), (7 : Tmp), (8 : Tmp)] H (Qblk 4 (Qthen (WY Try.prog cfM9 2989 (Env.mk (Bs.mk 0 []) 0 none 72 43 3) (cdAt [1, 1, 1, 1, 0, 0, 0, 1, 0, 1, 1] (bodyOf Try.f43)) (Qblk 3 (Qla 0 [(1 : Tmp), (5 : Tmp), (6 : Tmp)] I (Qblk 2 (Qthen (WY Try.prog cfM9 2995 (Env.mk (Bs.mk 0 []) 0 none 72 43 0) (cdAt [1, 1, 1, 1, 1] (bodyOf Try.f43)) (QendX Try.prog Try.f43 fun v h => R (frzW h v))) (QendX Try.prog Try.f43 fun v h => R (frzW h v))))))) (Qblk 3 (Qla 0 [(1 : Tmp), (5 : Tmp), (6 : Tmp)] I (Qblk 2 (Qthen (WY Try.prog cfM9 2995 (Env.mk (Bs.mk 0 []) 0 none 72 43 0) (cdAt [1, 1, 1, 1, 1] (bodyOf Try.f43)) (QendX Try.prog Try.f43 fun v h => R (frzW h v))) (QendX Try.prog Try.f43 fun v h => R (frzW h v)))))))))))) (Qblk 5 (Qthen (WY Try.prog cfM9 2984 (Env.mk (Bs.mk 0 []) 0 none 72 43 4) (cdAt [1, 1, 1, 1, 0, 0, 0, 1, 0, 1, 0, 1, 0, 0, 1, 1] (bodyOf Try.f43)) (Qla 0 [(1 : Tmp), (5 : Tmp), (6 : Tmp), (7 : Tmp), (8 : Tmp)] H (Qblk 4 (Qthen (WY Try.prog cfM9 2989 (Env.mk (Bs.mk 0 []) 0 none 72 43 3) (cdAt [1, 1, 1, 1, 0, 0, 0, 1, 0, 1, 1] (bodyOf Try.f43)) (Qblk 3 (Qla 0 [(1 : Tmp), (5 : Tmp), (6 : Tmp)] I (Qblk 2 (Qthen (WY Try.prog cfM9 2995 (Env.mk (Bs.mk 0 []) 0 none 72 43 0) (cdAt [1, 1, 1, 1, 1] (bodyOf Try.f43)) (QendX Try.prog Try.f43 fun v h => R (frzW h v))) (QendX Try.prog Try.f43 fun v h => R (frzW h v))))))) (Qblk 3 (Qla 0 [(1 : Tmp), (5 : Tmp), (6 : Tmp)] I (Qblk 2 (Qthen (WY Try.prog cfM9 2995 (Env.mk (Bs.mk 0 []) 0 none 72 43 0) (cdAt [1, 1, 1, 1, 1] (bodyOf Try.f43)) (QendX Try.prog Try.f43 fun v h => R (frzW h v))) (QendX Try.prog Try.f43 fun v h => R (frzW h v)))))))))) (Qla 0 [(1 : Tmp), (5 : Tmp), (6 : Tmp), (7 : Tmp), (8 : Tmp)] H (Qblk 4 (Qthen (WY Try.prog cfM9 2989 (Env.mk (Bs.mk 0 []) 0 none 72 43 3) (cdAt [1, 1, 1, 1, 0, 0, 0, 1, 0, 1, 1] (bodyOf Try.f43)) (Qblk 3 (Qla 0 [(1 : Tmp), (5 : Tmp), (6 : Tmp)] I (Qblk 2 (Qthen (WY Try.prog cfM9 2995 (Env.mk (Bs.mk 0 []) 0 none 72 43 0) (cdAt [1, 1, 1, 1, 1] (bodyOf Try.f43)) (QendX Try.prog Try.f43 fun v h => R (frzW h v))) (QendX Try.prog Try.f43 fun v h => R (frzW h v))))))) (Qblk 3 (Qla 0 [(1 : Tmp), (5 : Tmp), (6 : Tmp)] I (Qblk 2 (Qthen (WY Try.prog cfM9 2995 (Env.mk (Bs.mk 0 []) 0 none 72 43 0) (cdAt [1, 1, 1, 1, 1] (bodyOf Try.f43)) (QendX Try.prog Try.f43 fun v h => R (frzW h v))) (QendX Try.prog Try.f43 fun v h => R (frzW h v))))))))))))) (St.mk (mkT [(1, iv b), (5, V.sl (Id.p 0) 0 M), (6, iv t), (7, iv s), (8, iv (↑k : Int)), (9, iv (0 : Int)), (10, iv (0 : Int))]) (Hp.mk [(0, O.rows 1 true (nl l))] 1 []))) (need ((M + 1) * 8 ≤ 140737488355328) (I (St.mk (mkT [(1, iv b), (5, V.sl (Id.p 0) 0 (M + 1)), (6, iv (IntKind.i64.wrap (t + s)))]) (Hp.mk [(0, O.rows 1 true (List.take M (nl l) ++ [[iv s]]))] 1 []))))) (by kernel_rfl) ?_
    have tk1 := tk k
    refine ifB_mk (fun e => ?_) (fun e => ?_)
    · have hkb : k < bn := by have := of_decide_eq_true e; omega
      have hMp : 0 < M := by omega
      refine La.of (σ := Nat × Nat) (fun x => sh43d b M l t s k x.1 x.2) (fun x => x.2 ≤ M ∧ x.1 < M ∧ ∀ (j : Nat) (y z : Int), j < x.2 → l[j]? = some y → l[x.1]? = some z → z ≤ y) (fun x => M - x.2) (0, 0) (by kernel_rfl) ⟨by simp, hMp, by simp⟩ ?_
      rintro ⟨a, i⟩ ⟨e1, e2, e3⟩ G hG
      simp only at e1 e2 e3
      refine see (p := ifB (decide ((↑i : Int) < (↑M : Int))) (need (i < M) (onSome (nl l)[0 + i]? fun row => onSome row[0]? fun v => onIntK IntKind.i64 v fun n => need (a < M) (onSome (nl l)[0 + a]? fun row => onSome row[0]? fun v => onIntK IntKind.i64 v fun n_1 => ifB (decide (n < n_1)) (G (St.mk (mkT [(1, iv b), (5, V.sl (Id.p 0) 0 M), (6, iv t), (7, iv s), (8, iv (↑k : Int)), (9, iv (↑i : Int)), (10, iv (IntKind.i64.wrap ((↑i : Int) + (1 : Int))))]) (Hp.mk [(0, O.rows 1 true (nl l))] 1 []))) (G (St.mk (mkT [(1, iv b), (5, V.sl (Id.p 0) 0 M), (6, iv t), (7, iv s), (8, iv (↑k : Int)), (9, iv (↑a : Int)), (10, iv (IntKind.i64.wrap ((↑i : Int) + (1 : Int))))]) (Hp.mk [(0, O.rows 1 true (nl l))] 1 [])))))) (need (a < M) (onSome (nl l)[0 + a]? fun row => onSome row[0]? fun v => onIntK IntKind.i64 v fun n => need (a ≤ M) (onNat (IntKind.i64.wrap ((↑a : Int) + (1 : Int))) fun a_1 => need (M ≤ M) (need (a_1 ≤ M) (need ((0 + (sub (nl l) 0 (a - 0)).length) * 8 ≤ 140737488355328) (need ((0 + (sub (nl l) 0 (a - 0)).length + (sub (nl l) (0 + a_1) (M - a_1)).length) * 8 ≤ 140737488355328) (H (St.mk (mkT [(1, iv b), (5, V.sl (Id.p 0) 0 (0 + (sub (nl l) 0 (a - 0)).length + (sub (nl l) (0 + a_1) (M - a_1)).length)), (6, iv t), (7, iv (IntKind.i64.wrap (s + n))), (8, iv (IntKind.i64.wrap ((↑k : Int) + (1 : Int))))]) (Hp.mk [(0, O.rows 1 true (List.take (0 + (sub (nl l) 0 (a - 0)).length) ([] ++ sub (nl l) 0 (a - 0)) ++ sub (nl l) (0 + a_1) (M - a_1)))] 1 [])))))))))) (by kernel_rfl) ?_
      obtain ⟨z, hz⟩ := getI (l := l) (k := a) (by omega)
      refine ifB_mk (fun w => ?_) (fun w => ?_)
      · have hiM : i < M := by have := of_decide_eq_true w; omega
        obtain ⟨y, hy⟩ := getI (l := l) (k := i) (by omega)
        refine need_mk ⟨hiM, onSome_mk (nl_get hy) (onSome_mk (rfl : [iv y][0]? = some (iv y)) (onIntK_iv (need_mk ⟨e2, onSome_mk (nl_get hz) (onSome_mk (rfl : [iv z][0]? = some (iv z)) (onIntK_iv ?_))⟩)))⟩
        rw [wr1i hiM (by omega)]
        refine ifB_mk (fun u => hG (i, i + 1) ⟨hiM, hiM, fun j y' z' hj hy' hz' => ?_⟩ (by simp only; omega)) (fun u => hG (a, i + 1) ⟨hiM, e2, fun j y' z' hj hy' hz' => ?_⟩ (by simp only; omega))
        · have u := of_decide_eq_true u
          rw [hy] at hz'
          cases hz'
          rcases Nat.lt_succ_iff_lt_or_eq.1 hj with q | q
          · have := e3 j y' z q hy' hz; omega
          · subst q; rw [hy] at hy'; cases hy'; exact Int.le_refl _
        · have u := of_decide_eq_false u
          rw [hz] at hz'
          cases hz'
          rcases Nat.lt_succ_iff_lt_or_eq.1 hj with q | q
          · exact e3 j y' z q hy' hz
          · subst q; rw [hy] at hy'; cases hy'; omega
      · have hiM : i = M := by have := of_decide_eq_false w; omega
        obtain ⟨x, hx⟩ := getI (l := T) (k := k) (by omega)
        have hdrop : T.drop k = x :: T.drop (k + 1) := by rw [List.drop_eq_getElem_cons (by have := (List.getElem?_eq_some_iff.1 hx).1; omega), (List.getElem?_eq_some_iff.1 hx).2]
        rw [hdrop] at f3
        have hsd : (x :: T.drop (k + 1)).Pairwise (· ≤ ·) := by rw [← hdrop]; exact g3.sublist (List.drop_sublist _ _)
        have zx : z = x := by
          have h1 : x ≤ z := by
            rcases List.mem_cons.1 (f3.mem_iff.1 (mem_at hz)) with q | q
            · omega
            · exact (List.pairwise_cons.1 hsd).1 z q
          have hxl : x ∈ l := f3.mem_iff.2 (by simp)
          obtain ⟨j, hj⟩ := List.getElem?_of_mem hxl
          have := e3 j x z (by rw [hiM, f2]; exact (List.getElem?_eq_some_iff.1 hj).1) hj hz
          omega
        subst zx
        have lsplit : l = l.take a ++ z :: l.drop (a + 1) := by
          have := List.drop_eq_getElem_cons (l := l) (i := a) (by omega)
          rw [(List.getElem?_eq_some_iff.1 hz).2] at this
          rw [← this, List.take_append_drop]
        have hrest : (l.take a ++ l.drop (a + 1)).Perm (T.drop (k + 1)) := by
          have h1 : (z :: (l.take a ++ l.drop (a + 1))).Perm l := by
            conv => rhs; rw [lsplit]
            exact List.perm_middle.symm
          exact (h1.trans f3).cons_inv
        have ts : s + z = tot (T.take (k + 1)) := by rw [take_succ' hx, tot_app, f4]
        have tk2 := tk (k + 1)
        have z0 := g4 z (mem_at hx)
        refine need_mk ⟨e2, onSome_mk (nl_get hz) (onSome_mk (rfl : [iv z][0]? = some (iv z)) (onIntK_iv (need_mk ⟨by omega, ?_⟩)))⟩
        refine onNat_mk (m := a + 1) (wr1i (show a < M from e2) (by omega)) (need_mk ⟨Nat.le_refl _, need_mk ⟨by omega, ?_⟩⟩)
        have q1 : sub (nl l) 0 (a - 0) = nl (l.take a) := by rw [sub_nl]; simp
        have q2 : sub (nl l) (0 + (a + 1)) (M - (a + 1)) = nl (l.drop (a + 1)) := by
          rw [sub_nl, Nat.zero_add, List.take_of_length_le (by rw [List.length_drop]; omega)]
        rw [q1, q2, nl_length, nl_length]
        have q3 : (l.take a).length = a := by rw [List.length_take]; omega
        have q4 : (l.drop (a + 1)).length = M - (a + 1) := by rw [List.length_drop]; omega
        refine need_mk ⟨by omega, need_mk ⟨by omega, ?_⟩⟩
        have q5 : List.take (0 + (l.take a).length) ([] ++ nl (l.take a)) ++ nl (l.drop (a + 1)) = nl (l.take a ++ l.drop (a + 1)) := by
          rw [List.nil_append, Nat.zero_add, nl_take]; simp [nl]
        rw [q5, wr1i hkb (by omega), wr (n := s + z) (by omega) (by omega)]
        exact hH (0 + (l.take a).length + (l.drop (a + 1)).length, l.take a ++ l.drop (a + 1), s + z, k + 1) ⟨hkb, by simp, hrest, ts⟩ (by simp only; omega)
    · have hk : k = bn := by have := of_decide_eq_false e; omega
      subst hk
      have e5 : List.take M (nl l) ++ [[iv s]] = nl (l ++ [s]) := by rw [f2, nl_take]; simp [nl]
      rw [e5]
      have tadd : tot (T.drop k) + s = tot T := by
        have := tot_append (T.take k) (T.drop k)
        rw [List.take_append_drop, ← f4] at this
        omega
      have s12 : s ≤ 12000 := by omega
      refine need_mk ⟨by omega, ?_⟩
      rw [wr (n := t + s) (by omega) (by omega)]
      refine hI (M + 1, l ++ [s], t + s, insS (T.drop k) s, f) ⟨by simp [f2], ?_, insS_srt s (g3.sublist (List.drop_sublist _ _)), ?_, ?_, ?_, by simp only; omega, ?_, by simp only; omega, ?_, ?_⟩ (by simp only; omega)
      · exact (List.perm_append_comm (l₁ := l) (l₂ := [s])).trans ((f3.cons s).trans (insS_perm _ s).symm)
      · intro y hy
        rcases List.mem_cons.1 ((insS_perm (T.drop k) s).mem_iff.1 hy) with q | q
        · omega
        · exact g4 y (List.mem_of_mem_drop q)
      · simp only
        rw [tot_perm (insS_perm (T.drop k) s)]
        show s + tot (T.drop k) ≤ 12000
        omega
      · simp only
        rw [insS_length, List.length_drop]
        omega
      · simp only
        rw [show M + 1 - 1 = M0 - k + 1 - 1 from by omega]
        exact even_next (by omega) g8 hMb
      · simp only; omega
      · rw [← g11]
        simp only [hfC]
        rw [if_pos (by omega), ← f4]
  · have hM1 : M ≤ 1 := by have := of_decide_eq_false d; omega
    rw [hfC_end (by omega)] at g11
    rw [g11]
    exact h
end Go.Proofs.Ytmdimnmdoifkfaa
namespace Go.Proofs.Ytmdimnmdoifkfaa
open Go Go.Proofs.Ytmdimnmdoifkfaa.Clean
set_option linter.unusedVariables false
set_option linter.unusedSimpArgs false
set_option maxRecDepth 10000
def firstB (b n : Nat) : Bool := 2 + (n - 2) % (b - 1) == b - padN n b && decide (padN n b + 2 ≤ b)
theorem first_all : ((List.range 9).all fun b => (List.range 13).all fun n => !(decide (2 ≤ b) && decide (2 ≤ n)) || firstB b n) = true := by decide
theorem first_ok (b : Nat) (h8 : b ≤ 8) (h2 : 2 ≤ b) (n : Nat) (h12 : n ≤ 12) (h1 : 2 ≤ n) : 2 + (n - 2) % (b - 1) = b - padN n b ∧ padN n b + 2 ≤ b := by
  have h := List.all_eq_true.1 (List.all_eq_true.1 first_all b (List.mem_range.2 (by omega))) n (List.mem_range.2 (by omega))
  simp only [h2, h1, decide_true, Bool.and_true, Bool.not_true, Bool.false_or, firstB, Bool.and_eq_true, beq_iff_eq, decide_eq_true_eq] at h
  exact h
theorem pad_one {b : Nat} (h2 : 2 ≤ b) : padN 1 b = 0 := by
  unfold padN
  rw [show (1 : Nat) - 1 = 0 from rfl, Nat.zero_mod, Nat.sub_zero, Nat.mod_self]
theorem hfC_pad {S : List Int} {b : Nat} (h2 : 2 ≤ b) (h8 : b ≤ 8) (h1 : 1 ≤ S.length) (h12 : S.length ≤ 12) : hfC 20 b (List.replicate (padN S.length b) 0 ++ S) 0 =
    if 1 < S.length then hfC 19 b (insS (S.drop (2 + (S.length - 2) % (b - 1))) (tot (S.take (2 + (S.length - 2) % (b - 1))))) (0 + tot (S.take (2 + (S.length - 2) % (b - 1)))) else 0 := by
  by_cases h : 1 < S.length
  · obtain ⟨e1, e2⟩ := first_ok b h8 h2 S.length h12 h
    rw [if_pos h, e1]
    generalize padN S.length b = p at e2
    have t1 : (List.replicate p (0 : Int) ++ S).take b = List.replicate p 0 ++ S.take (b - p) := by
      rw [List.take_append, List.length_replicate, List.take_of_length_le (by simp; omega)]
    have t2 : (List.replicate p (0 : Int) ++ S).drop b = S.drop (b - p) := by
      rw [List.drop_append, List.length_replicate, List.drop_of_length_le (by simp; omega)]; rfl
    have t3 : tot (List.replicate p (0 : Int) ++ S.take (b - p)) = tot (S.take (b - p)) := by rw [tot_append, tot_rep]; omega
    show (if 1 < (List.replicate p (0 : Int) ++ S).length then hfC 19 b (insS ((List.replicate p (0 : Int) ++ S).drop b) (tot ((List.replicate p (0 : Int) ++ S).take b))) (0 + tot ((List.replicate p (0 : Int) ++ S).take b)) else 0) = _
    rw [if_pos (by simp; omega), t1, t2, t3]
  · have hl : S.length = 1 := by omega
    rw [if_neg h, hl, pad_one h2]
    exact hfC_end (by simp; omega)
end Go.Proofs.Ytmdimnmdoifkfaa
namespace Go.Proofs.Ytmdimnmdoifkfaa
open Go Go.Proofs.Ytmdimnmdoifkfaa.Clean
set_option linter.unusedVariables false
set_option maxRecDepth 100000
abbrev Gp := List Int × Int
def gpr (x : Gp) : List V := [.lst 1 (nl x.1), iv x.2]
def gpl (l : List Gp) : List (List V) := l.map gpr
def kpQ : FuncId → Nat → Option (List Tmp) := slotsOf [(41, 0, [0, 1, 7, 20, 21, 22]), (41, 2, [1, 7, 10, 11, 12]), (41, 4, [1, 7, 10, 11, 12, 13, 50, 51, 52]), (81, 0, [0, 2, 4, 7]), (84, 0, [2, 3, 6, 7, 8])]
def moQ (f : FuncId) : Nat := 0
noncomputable def cfQ : Cfg := { cfgG Try.prog glX moQ poK rtB (inN [54, 75, 79, 81, 83, 84]) kpQ with clean := fun g => !inN [100, 103, 81] g, fz := fun f t => inN [41] f && inN [29] t }
noncomputable def sh41a (c : List Int) (b : Int) (l : List Gp) (M k : Nat) : St := ⟨mkT [(0, V.lst 1 (nl c)), (1, iv b), (7, V.sl (Id.p 0) 0 M), (20, V.lst 1 (nl c)), (21, iv ((nl c).length : Int)), (22, iv (k : Int))], ⟨[(0, O.rows 2 true (gpl l))], 1, []⟩⟩
noncomputable def sh41n (c : List Int) (b : Int) : St := ⟨mkT [(0, V.lst 1 (nl c)), (1, iv b), (7, nilS), (20, V.lst 1 (nl c)), (21, iv ((nl c).length : Int)), (22, iv 0)], ⟨[], 0, []⟩⟩
noncomputable def sh81n (n : Int) : St := ⟨mkT [(0, nilS), (2, V.fn (Fn.func 82) [] []), (4, V.ptr (Id.p 1) 0 0), (7, iv 0)], ⟨[(1, O.rows 2 false [[V.lst 1 [[iv 0]], iv n]])], 2, []⟩⟩
noncomputable def sh81a (l : List Gp) (M k : Nat) (n : Int) (at_ : Nat) : St := ⟨mkT [(0, V.sl (Id.p 0) 0 M), (2, V.fn (Fn.func 82) [] []), (4, V.ptr (Id.p 2) 0 0), (7, iv (at_ : Int))], ⟨[(0, O.rows 2 true (gpl l)), (2, O.rows 2 false [[V.lst 1 [[iv (k : Int)]], iv n]])], 3, []⟩⟩
noncomputable def sh41b (b : Int) (lo M N : Nat) (l : List Gp) (ps : List Int) (cost : Int) (tk : Nat) : St := ⟨mkT [(1, iv b), (7, V.sl (Id.p 0) lo M), (10, V.sl (Id.p 1) 0 N), (11, iv cost), (12, iv (tk : Int))], ⟨[(0, O.rows 2 true (gpl l)), (1, O.rows 1 true (nl ps))], 2, []⟩⟩
noncomputable def sh41c (b : Int) (lo M N : Nat) (l : List Gp) (ps : List Int) (cost : Int) (tk : Nat) (ks : List Int) (g : Int) (i : Nat) : St := ⟨mkT [(1, iv b), (7, V.sl (Id.p 0) lo M), (10, V.sl (Id.p 1) 0 N), (11, iv cost), (12, iv (tk : Int)), (13, V.ptr (Id.p 2) 0 0), (50, V.lst 1 (nl ks)), (51, iv ((nl ks).length : Int)), (52, iv (i : Int))], ⟨[(0, O.rows 2 true (gpl l)), (1, O.rows 1 true (nl ps)), (2, O.rows 2 false [[V.lst 1 (nl ks), iv g]])], 3, []⟩⟩
noncomputable def sh84 (lo M tk N : Nat) (l : List Gp) (ps ks : List Int) (g : Int) (i : Nat) : St := ⟨mkT [(2, V.ptr (Id.p 2) 0 0), (3, V.ptr (Id.p 3) 0 0), (6, V.sl (Id.p 0) lo tk), (7, iv (tk : Int)), (8, iv (i : Int))], ⟨[(0, O.rows 2 true (gpl l)), (1, O.rows 1 true (nl ps)), (2, O.rows 2 false [[nilS, iv 0]]), (3, O.rows 2 false [[V.lst 1 (nl ks), iv g]])], 4, []⟩⟩
noncomputable def sh84n (lo tk : Nat) (l : List Gp) (ps : List Int) : St := ⟨mkT [(2, V.ptr (Id.p 2) 0 0), (3, V.ptr (Id.p 3) 0 0), (6, V.sl (Id.p 0) lo tk), (7, iv (tk : Int)), (8, iv 0)], ⟨[(0, O.rows 2 true (gpl l)), (1, O.rows 1 true (nl ps)), (2, O.rows 2 false [[nilS, iv 0]]), (3, O.rows 2 false [[nilS, iv 0]])], 4, []⟩⟩
noncomputable def sh81b (lo M N : Nat) (l : List Gp) (ps ks : List Int) (g : Int) (at_ : Nat) : St := ⟨mkT [(0, V.sl (Id.p 0) lo M), (2, V.fn (Fn.func 82) [] []), (4, V.ptr (Id.p 3) 0 0), (7, iv (at_ : Int))], ⟨[(0, O.rows 2 true (gpl l)), (1, O.rows 1 true (nl ps)), (2, O.rows 2 false [[V.lst 1 (nl ks), iv g]]), (3, O.rows 2 false [[V.lst 1 (nl ks), iv g]])], 4, []⟩⟩
end Go.Proofs.Ytmdimnmdoifkfaa
namespace Go.Proofs.Ytmdimnmdoifkfaa
open Go Go.Proofs.Ytmdimnmdoifkfaa.Clean
set_option linter.unusedVariables false
set_option maxRecDepth 100000
noncomputable def cfQ2 : Cfg := { cfgG Try.prog glX moQ poK rtB (inN [94, 109, 112]) (fun _ _ => none) with clean := fun g => !inN [100, 103, 81] g }
end Go.Proofs.Ytmdimnmdoifkfaa
namespace Go.Proofs.Ytmdimnmdoifkfaa
open Go Go.Proofs.Ytmdimnmdoifkfaa.Clean
set_option linter.unusedVariables false
set_option linter.unusedSimpArgs false
set_option maxRecDepth 10000
theorem hcQ2 : cfQ2.ok Try.prog := by
  have h : (cfgG Try.prog glX moQ poK rtB (inN [94, 109, 112]) (fun _ _ => none)).ok Try.prog := cfgG_ok rtB_ok
  exact ⟨h.1, h.2⟩
theorem hcQ : cfQ.ok Try.prog := by
  have h : (cfgG Try.prog glX moQ poK rtB (inN [54, 75, 79, 81, 83, 84]) kpQ).ok Try.prog := cfgG_ok rtB_ok
  exact ⟨h.1, h.2⟩
theorem cmp82 {xs ys : List Int} {p r : Int} {R : V → Prop} (h : ∀ n : Int, (0 < n ↔ r < p) → R (iv n)) : K0G Try.prog glX 82 [.agg [.lst 1 (nl xs), iv p], .agg [.lst 1 (nl ys), iv r]] R := by
  refine K0_of_WY0 hmX hcQ2 3000 Try.func82 (see (p := ifB (p != p) (ifB (r != r) (R (iv (0 : Int))) (R (iv (-1 : Int)))) (ifB (r != r) (R (iv (1 : Int))) (ifB (decide (p < r)) (R (iv (-1 : Int))) (ifB (decide (p > r)) (R (iv (1 : Int))) (R (iv (0 : Int))))))) (by kernel_rfl) ?_)
  simp only [bne_self_eq_false]
  refine ifB_f rfl (ifB_f rfl (ifB_mk (fun c1 => h _ ⟨fun q => by omega, fun q => by have := of_decide_eq_true c1; omega⟩) (fun c1 => ifB_mk (fun c2 => h _ ⟨fun _ => by have := of_decide_eq_true c2; omega, fun _ => by decide⟩) (fun c2 => h _ ⟨fun q => by omega, fun q => by have := of_decide_eq_false c2; omega⟩))))
theorem nl_app (a b : List Int) : nl (a ++ b) = nl a ++ nl b := by simp [nl]
theorem concat106n {ys : List Int} {R : V → Prop} (hy : ys.length ≤ 1000) (h : R (.lst 1 (nl ys))) : K0G Try.prog glX 106 [.lst 1 [[nilS], [.lst 1 (nl ys)]]] R := by
  refine K0_of_WY0 hmX hcQ2 3000 Try.func106 (see (p := ifB (decide (IntKind.i64.wrap (IntKind.i64.wrap ((0 : Int) + (↑(0 : Nat) : Int)) + (↑(nl ys).length : Int)) < (0 : Int))) False (ifB (decide (IntKind.i64.wrap (IntKind.i64.wrap ((0 : Int) + (↑(0 : Nat) : Int)) + (↑(nl ys).length : Int)) < (0 : Int))) False (ifB (decide (IntKind.i64.wrap (IntKind.i64.wrap (IntKind.i64.wrap ((0 : Int) + (↑(0 : Nat) : Int)) + (↑(nl ys).length : Int)) - IntKind.i64.wrap ((↑(0 : Nat) : Int) - (↑(0 : Nat) : Int))) > (0 : Int))) (onNat (IntKind.i64.wrap (IntKind.i64.wrap (IntKind.i64.wrap ((0 : Int) + (↑(0 : Nat) : Int)) + (↑(nl ys).length : Int)) - IntKind.i64.wrap ((↑(0 : Nat) : Int) - (↑(0 : Nat) : Int)))) fun n => need (n * 8 ≤ 140737488355328) (need ((0 + (nl ys).length) * 8 ≤ 140737488355328) (R (V.lst 1 (sub ([] ++ nl ys) 0 (0 + (nl ys).length)))))) (need ((0 + (nl ys).length) * 8 ≤ 140737488355328) (R (V.lst 1 (sub ([] ++ nl ys) 0 (0 + (nl ys).length)))))))) (by kernel_rfl) ?_)
  rw [nl_length]
  have w1 : IntKind.i64.wrap ((0 : Int) + ((0 : Nat) : Int)) = 0 := by rw [wr (by omega) (by omega)]; rfl
  have w2 : IntKind.i64.wrap ((0 : Int) + (ys.length : Int)) = (ys.length : Int) := by rw [wr (by omega) (by omega)]; omega
  have w3 : IntKind.i64.wrap (((0 : Nat) : Int) - ((0 : Nat) : Int)) = 0 := by rw [wr (by omega) (by omega)]; rfl
  have w4 : IntKind.i64.wrap ((ys.length : Int) - 0) = (ys.length : Int) := by rw [wr (by omega) (by omega)]; omega
  rw [w1, w2, w3, w4]
  have e1 : sub ([] ++ nl ys) 0 (0 + ys.length) = nl ys := by rw [List.nil_append, Nat.zero_add]; exact sub_all' ys rfl
  rw [e1]
  refine ifB_f (decide_eq_false (by omega)) (ifB_f (decide_eq_false (by omega)) (ifB_mk (fun hp => ?_) (fun hp => need_mk ⟨by omega, h⟩)))
  exact onNat_mk (m := ys.length) rfl (need_mk ⟨by omega, need_mk ⟨by omega, h⟩⟩)
theorem concat106 {xs ys : List Int} {R : V → Prop} (hx : xs.length ≤ 1000) (hy : ys.length ≤ 1000) (h : R (.lst 1 (nl (xs ++ ys)))) : K0G Try.prog glX 106 [.lst 1 [[.lst 1 (nl xs)], [.lst 1 (nl ys)]]] R := by
  refine K0_of_WY0 hmX hcQ2 3000 Try.func106 (see (p := ifB (decide (IntKind.i64.wrap ((0 : Int) + (↑(nl xs).length : Int)) < (0 : Int))) False (ifB (decide (IntKind.i64.wrap (IntKind.i64.wrap ((0 : Int) + (↑(nl xs).length : Int)) + (↑(nl ys).length : Int)) < (0 : Int))) False (ifB (decide (IntKind.i64.wrap (IntKind.i64.wrap ((0 : Int) + (↑(nl xs).length : Int)) + (↑(nl ys).length : Int)) < (0 : Int))) False (ifB (decide (IntKind.i64.wrap (IntKind.i64.wrap (IntKind.i64.wrap ((0 : Int) + (↑(nl xs).length : Int)) + (↑(nl ys).length : Int)) - IntKind.i64.wrap ((↑(0 : Nat) : Int) - (↑(0 : Nat) : Int))) > (0 : Int))) (onNat (IntKind.i64.wrap (IntKind.i64.wrap (IntKind.i64.wrap ((0 : Int) + (↑(nl xs).length : Int)) + (↑(nl ys).length : Int)) - IntKind.i64.wrap ((↑(0 : Nat) : Int) - (↑(0 : Nat) : Int)))) fun n => need (n * 8 ≤ 140737488355328) (need ((0 + (nl xs).length) * 8 ≤ 140737488355328) (need ((0 + (nl xs).length + (nl ys).length) * 8 ≤ 140737488355328) (R (V.lst 1 (sub (List.take (0 + (nl xs).length) ([] ++ nl xs) ++ nl ys) 0 (0 + (nl xs).length + (nl ys).length))))))) (need ((nl xs).length * 8 ≤ 140737488355328) (need (((nl xs).length + (nl ys).length) * 8 ≤ 140737488355328) (R (V.lst 1 (sub (List.take (nl xs).length (nl xs) ++ nl ys) 0 ((nl xs).length + (nl ys).length)))))))))) (by kernel_rfl) ?_)
  rw [nl_length, nl_length]
  have w1 : IntKind.i64.wrap ((0 : Int) + (xs.length : Int)) = (xs.length : Int) := by rw [wr (by omega) (by omega)]; omega
  have w2 : IntKind.i64.wrap ((xs.length : Int) + (ys.length : Int)) = (xs.length : Int) + ys.length := wr (by omega) (by omega)
  have w3 : IntKind.i64.wrap (((0 : Nat) : Int) - ((0 : Nat) : Int)) = 0 := by rw [wr (by omega) (by omega)]; rfl
  have w4 : IntKind.i64.wrap ((xs.length : Int) + (ys.length : Int) - 0) = (xs.length : Int) + ys.length := by rw [wr (by omega) (by omega)]; omega
  rw [w1, w2, w3, w4]
  have e1 : sub (List.take xs.length (nl xs) ++ nl ys) 0 (xs.length + ys.length) = nl (xs ++ ys) := by
    rw [nl_take, ← nl_app]; exact sub_all' _ (by simp)
  refine ifB_f (decide_eq_false (by omega)) (ifB_f (decide_eq_false (by omega)) (ifB_f (decide_eq_false (by omega)) (ifB_mk (fun hp => ?_) (fun hp => ?_))))
  · refine onNat_mk (m := xs.length + ys.length) (by omega) (need_mk ⟨by omega, need_mk ⟨by omega, need_mk ⟨by omega, ?_⟩⟩⟩)
    rw [Nat.zero_add, List.nil_append, e1]
    exact h
  · refine need_mk ⟨by omega, need_mk ⟨by omega, ?_⟩⟩
    rw [e1]
    exact h
def insG : List Gp → Gp → List Gp
  | [], x => [x]
  | y :: l, x => if x.2 < y.2 then x :: y :: l else y :: insG l x
theorem insG_map : ∀ (l : List Gp) (x : Gp), (insG l x).map (·.2) = insS (l.map (·.2)) x.2
  | [], x => rfl
  | y :: l, x => by
    simp only [insG, List.map_cons, insS]
    split
    · rfl
    · rw [List.map_cons, insG_map l x]
theorem insG_at : ∀ (l : List Gp) (x : Gp) (k : Nat), (∀ y ∈ l.take k, y.2 ≤ x.2) → (∀ y ∈ l.drop k, x.2 < y.2) → insG l x = l.take k ++ x :: l.drop k
  | [], x, k, _, _ => by simp [insG]
  | y :: l, x, 0, h1, h2 => by
    have := h2 y (by simp)
    simp [insG, this]
  | y :: l, x, k + 1, h1, h2 => by
    have := h1 y (by simp)
    rw [insG, if_neg (by omega), insG_at l x k (fun z hz => h1 z (by simp [hz])) (fun z hz => h2 z (by simpa using hz))]
    rfl
theorem srt_take {l : List Gp} {k : Nat} {x : Gp} {p : Int} (hs : (l.map (·.2)).Pairwise (· ≤ ·)) (hx : l[k]? = some x) (hp : x.2 ≤ p) : ∀ y ∈ l.take (k + 1), y.2 ≤ p := fun y hy => by
  rw [take_succ' hx] at hy
  rcases List.mem_append.1 hy with hy | hy
  · obtain ⟨i, hi⟩ := List.getElem?_of_mem hy
    rw [List.getElem?_take] at hi
    split at hi
    · rename_i hik
      have h1 := (List.getElem?_eq_some_iff.1 hi)
      have h2 := (List.getElem?_eq_some_iff.1 hx)
      have := List.pairwise_iff_getElem.1 hs i k (by simpa using h1.1) (by simpa using h2.1) hik
      simp only [List.getElem_map] at this
      rw [h1.2, h2.2] at this
      omega
    · cases hi
  · rw [List.mem_singleton.1 hy]; exact hp
end Go.Proofs.Ytmdimnmdoifkfaa
