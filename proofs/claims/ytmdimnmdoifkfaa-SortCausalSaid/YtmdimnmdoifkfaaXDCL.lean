/- Small laws for proofs that go by the calculus. Nothing here speaks of the program. -/
import Derived.Test.YtmdimnmdoifkfaaXDCC
import Derived.IntWalk
import Derived.KernelRfl
namespace Go.Proofs.Ytmdimnmdoifkfaa.Clean

/-- What is asked, seen in other words: the kernel holds the two against each other. -/
theorem see {p q : Prop} (h : p = q) (hp : p) : q := h ▸ hp

theorem onSome_mk {α : Type} {o : Option α} {k : α → Prop} {x : α} (h : o = some x) (hk : k x) : onSome o k := by subst h; exact hk
theorem ifB_mk {b : Bool} {p q : Prop} (h1 : b = true → p) (h2 : b = false → q) : ifB b p q := by cases b; exact h2 rfl; exact h1 rfl
theorem need_mk {c : Prop} [Decidable c] {p : Prop} (h : c ∧ p) : need c p := need_iff.2 h
theorem guardB_mk {b : Bool} {p : Prop} (h : b = true) (hp : p) : guardB b p := guardB_iff.2 ⟨h, hp⟩
theorem onNat_mk {n : Int} {k : Nat → Prop} {m : Nat} (h : n = m) (hk : k m) : onNat n k := by subst h; exact hk
theorem onBool_bv {b : Bool} {k : Bool → Prop} (h : k b) : onBool (bv b) k := h
theorem onIntK_iv {n : Int} {k : Int → Prop} (h : k n) : onIntK .i64 (iv n) k := h

theorem onLst_lst {s : Nat} {es : List (List V)} {k : Nat → List (List V) → Prop} (h : k s es) : onLst (.lst s es) k := h
theorem onLst_nil {k : Nat → List (List V) → Prop} (h : k 0 []) : onLst nilS k := h
theorem onTup_tup {cs : List V} {k : List V → Prop} (h : k cs) : onTup (.tup cs) k := h
theorem onAgg_agg {cs : List V} {k : List V → Prop} (h : k cs) : onAgg (.agg cs) k := h
theorem onNil_nil {k : Prop} (h : k) : onNil [] k := h
theorem nilN_mk {n : Nat} {k : Bool → Prop} (h0 : n = 0 → k true) (h1 : k false) : nilN n k := by cases n; exact ⟨h0 rfl, h1⟩; exact h1
theorem sameE_mk {a b : List (List V)} {k : Prop} (h : a = b) (hk : k) : sameE a b k := ⟨h, hk⟩
theorem onCons_cons {v : V} {r : List V} {k : V → List V → Prop} (h : k v r) : onCons (v :: r) k := h

theorem onSub_mk {x y c : Nat} {k : Nat → Nat → Prop} (hx : x < 18446744073709551616) (hy : y < 18446744073709551616) (hc : c ≤ 1) (h : ∀ r b, r < 18446744073709551616 → b ≤ 1 → r + y + c = x + b * 18446744073709551616 → k r b) : onSub x y c k := by
  unfold onSub
  refine h _ _ ?_ ?_ ?_ <;> simp only [bor64, sub64] <;> (try split) <;> omega
theorem onAdd_mk {x y c : Nat} {k : Nat → Nat → Prop} (hx : x < 18446744073709551616) (hy : y < 18446744073709551616) (hc : c ≤ 1) (h : ∀ r b, r < 18446744073709551616 → b ≤ 1 → r + b * 18446744073709551616 = x + y + c → k r b) : onAdd x y c k := by
  unfold onAdd
  refine h _ _ ?_ ?_ ?_ <;> simp only [car64, add64] <;> omega

/-- A list of ints as data. -/
def il (l : List Int) : List (List V) := l.map fun n => [iv n]
theorem il_get (l : List Int) (m : Nat) : (il l)[m]? = (l[m]?).map fun n => [iv n] := by simp [il]
theorem il_length (l : List Int) : (il l).length = l.length := by simp [il]
theorem il_take (l : List Int) (n : Nat) : (il l).take n = il (l.take n) := by simp [il, List.map_take]
theorem il_append (l k : List Int) : il l ++ il k = il (l ++ k) := by simp [il]
theorem el {l : List Int} {m : Nat} {x : Int} {k : Int → Prop} (h : l[m]? = some x) (hk : k x) :
    onSome (il l)[m]? fun row => onSome row[0]? fun v => onIntK .i64 v k := by
  refine onSome_mk (x := [iv x]) (by rw [il_get, h]; rfl) ?_
  exact hk
theorem wr {n : Int} (h : -9223372036854775808 ≤ n) (h' : n ≤ 9223372036854775807) : IntKind.i64.wrap n = n := by rw [IntKind.wrap_i64]; omega
end Go.Proofs.Ytmdimnmdoifkfaa.Clean
