/- The first number below a bound that passes a test, and 0 if there is none: what the searches of this program return. Nothing here speaks of the program. -/
namespace Go.Proofs.YthilhofkjnipiaaDoor

def firstB (p : Nat → Bool) (n : Nat) : Nat := ((List.range n).find? p).getD 0
theorem firstB_at {p : Nat → Bool} {n k : Nat} (hk : k < n) (h : p k = true) (hl : ∀ i, i < k → p i = false) : firstB p n = k := by
  have : (List.range n).find? p = some k := by
    rw [List.find?_range_eq_some]
    exact ⟨h, by simpa using hk, fun j hj => by simp [hl j hj]⟩
  simp [firstB, this]
theorem firstB_none {p : Nat → Bool} {n : Nat} (hl : ∀ i, i < n → p i = false) : firstB p n = 0 := by
  have : (List.range n).find? p = none := by
    rw [List.find?_eq_none]
    intro x hx
    simp [hl x (by simpa using hx)]
  simp [firstB, this]
theorem firstB_le (p : Nat → Bool) (n : Nat) (hn : 0 < n) : firstB p n < n := by
  unfold firstB
  cases h : (List.range n).find? p with
  | none => simpa using hn
  | some k => simpa using List.mem_of_find?_eq_some h
end Go.Proofs.YthilhofkjnipiaaDoor
