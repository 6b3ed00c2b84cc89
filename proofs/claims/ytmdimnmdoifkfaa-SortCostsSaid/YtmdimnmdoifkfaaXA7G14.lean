/- A part of the proof. -/
import Derived.ProofKit
import Derived.Deep.Slices
import Derived.Carry
import Derived.Test.YtmdimnmdoifkfaaXA7G7
import Derived.Test.YtmdimnmdoifkfaaXA7G13
namespace Go.Proofs.Ytmdimnmdoifkfaa
open Go Go.Proofs.Ytmdimnmdoifkfaa.Clean
set_option linter.unusedVariables false
set_option linter.unusedSimpArgs false
set_option maxRecDepth 10000
theorem law7 {c p : List Int} {b : Int} {R : V → Prop} (h : R (bv true)) : K0G Try.prog glX 7 [.lst 1 (nl c), .lst 1 (nl p), iv b] R := by
  refine K0_of_WY0 hmX hcQ2 3000 Try.func7 (see (p := ifB (decide ((↑(nl c).length : Int) > (20 : Int))) (R (bv true)) (ifB (decide ((↑(nl p).length : Int) > (20 : Int))) (R (bv true)) (K0G Try.prog glX 39 [V.lst 1 (nl c), V.lst 1 (nl p), iv b] fun v => onTup v fun vs => onCons vs fun u r => onIntK IntKind.i64 u fun n => onCons r fun u r => onIntK IntKind.i64 u fun n_1 => onNil r (K0G Try.prog glX 40 [V.lst 1 (nl c), V.lst 1 (nl p), iv b] fun v => onTup v fun vs => onCons vs fun u r => onIntK IntKind.i64 u fun n_2 => onCons r fun u r => onIntK IntKind.i64 u fun n_3 => onNil r (K0G Try.prog glX 41 [V.lst 1 (nl c), iv b] fun v => onTup v fun vs => onCons vs fun u r => onLst u fun s es => onCons r fun u r => onIntK IntKind.i64 u fun n_4 => onCons r fun u r => onIntK IntKind.i64 u fun n_5 => onNil r (ifB (n != n_2) (R (bv false)) (ifB (n_1 != n_3) (R (bv false)) (K0G Try.prog glX 42 [V.lst 1 (nl c), iv b] fun v => onBool v fun b_1 => ifB (!b_1) (ifB (n_5 == (2 : Int)) (ifB ((↑es.length : Int) == (0 : Int)) (R (bv (n_4 == (0 : Int)))) (R (bv false))) (R (bv false))) (ifB (n_5 == (0 : Int)) (K0G Try.prog glX 43 [V.lst 1 (nl c), iv b] fun v => onIntK IntKind.i64 v fun n => R (bv (n_4 == n))) (R (bv false))))))))))) (by kernel_rfl) ?_)
  refine ifB_mk (fun _ => h) (fun c1 => ifB_mk (fun _ => h) (fun c2 => ?_))
  have c1 : c.length ≤ 20 := by rw [nl_length] at c1; have := of_decide_eq_false c1; omega
  have c2 : p.length ≤ 20 := by rw [nl_length] at c2; have := of_decide_eq_false c2; omega
  refine cost39 c1 c2 (fun n e hc => onTup_tup (onCons_cons (onIntK_iv (onCons_cons (onIntK_iv (onNil_nil ?_))))))
  refine cost40 c1 c2 (fun m f hd => onTup_tup (onCons_cons (onIntK_iv (onCons_cons (onIntK_iv (onNil_nil ?_))))))
  obtain ⟨rfl, rfl⟩ := hc.uniq hd
  have hbn : NumP c b → b = (b.toNat : Int) := fun hN => by have := hN.1; omega
  refine plan41 (bn := b.toNat) hbn c1 (fun hn => onTup_tup (onCons_cons (onLst_nilS (onCons_cons (onIntK_iv (onCons_cons (onIntK_iv (onNil_nil ?_)))))))) (fun hN S ps hS hp => onTup_tup (onCons_cons (onLst_lst (onCons_cons (onIntK_iv (onCons_cons (onIntK_iv (onNil_nil ?_))))))))
  · refine ifB_f (by simp) (ifB_f (by simp) (numbers42 c1 (onBool_bv (ifB_t (by rw [dc_f hn]; rfl) (ifB_t rfl (ifB_t rfl ?_))))))
    exact h
  · refine ifB_f (by simp) (ifB_f (by simp) (numbers42 c1 (onBool_bv (ifB_f (by rw [dc_t hN]; rfl) (ifB_t rfl (cheap43 (hbn hN) hN hS hp (onIntK_iv ?_)))))))
    rw [show (hfC 20 b.toNat (List.replicate (padN c.length b.toNat) 0 ++ S) 0 == hfC 20 b.toNat (List.replicate (padN c.length b.toNat) 0 ++ S) 0) = true from by simp]
    exact h
end Go.Proofs.Ytmdimnmdoifkfaa
namespace Go.Proofs.Ytmdimnmdoifkfaa.Clean
open Go.Deep
set_option linter.unusedSimpArgs false
set_option linter.unusedVariables false
section
variable {H : Type} (enc : TypeId × Value → H) (P : Program) (w : World)
def FW (r : Nat) : Prop := r < w.heap.size
def Opens (t : TypeId) {α : Type} (f : α → List V) (ok : α → Prop) : Prop :=
  ∀ fuel cs x, DataW.trod enc P w 0 (fun _ => true) true fuel t cs = some x → ∃ a, riL (FW w) w (f a) cs ∧ ok a ∧ ∀ u ∈ cs, u.oneCell' = true
end
section
variable {H : Type} {enc : TypeId × Value → H} {P : Program} {w : World}
theorem riL_one {v : V} {x : Value} (h : ri (FW w) w v x) : riL (FW w) w [v] [x] := by simp only [riL]; exact ⟨x, [], rfl, h, rfl⟩
theorem riL_get : ∀ {vs : List V} {xs : List Value}, riL (FW w) w vs xs → ∀ (i : Nat) v, vs[i]? = some v → ∃ x, xs[i]? = some x ∧ ri (FW w) w v x
  | [], xs, h, i, v, hi => by simp at hi
  | u :: vs, xs, h, i, v, hi => by
    simp only [riL] at h
    obtain ⟨x, ys, rfl, h2, h3⟩ := h
    cases i with
    | zero => simp at hi; subst hi; exact ⟨x, rfl, h2⟩
    | succ i => simp at hi; simpa using riL_get h3 i v hi
theorem riL_length : ∀ {vs : List V} {xs : List Value}, riL (FW w) w vs xs → xs.length = vs.length
  | [], xs, h => by simp only [riL] at h; simp [h]
  | v :: vs, xs, h => by simp only [riL] at h; obtain ⟨x, ys, rfl, _, h3⟩ := h; simp [riL_length h3]
theorem opens_int {t : TypeId} {k : IntKind} (ht : P.underlying t = some (.int k)) : Opens enc P w t (fun n : Int => [.raw (.int k n)]) (fun n => (Lit.int k n).wf = true) := by
  intro fuel cs x h
  obtain ⟨n, rfl, _, hw⟩ := DataW.trod_int ht h
  exact ⟨n, riL_one (by simp [ri]), hw, by simp [Value.oneCell']⟩
theorem opens_slice {t e : TypeId} {s : Nat} {α : Type} {f : α → List V} {ok : α → Prop} (ht : P.underlying t = some (.slice e)) (hs : P.cellsOf e = s) (hpos : s ≠ 0) (ho : Opens enc P w e f ok) :
    Opens enc P w t (fun l : List α => [.lst s (l.map f)]) (fun l => l.length ≤ maxLen ∧ ∀ a ∈ l, ok a) := by
  intro fuel cs x h
  rcases open_slice ht h with ⟨rfl, _⟩ | ⟨a, len, cap, m, n, D, Pl, rfl, _, hl, hm, hmm, _, hx⟩
  · exact ⟨[], riL_one (by simp [ri]), by simp, by simp [Value.oneCell']⟩
  · simp only [if_true] at hmm
    subst hmm
    rw [hs] at hx
    have each : ∀ i, i < len → ∃ q : α, (∃ cs', w.cells? 0 (a.add (i * s)) s = some cs' ∧ riL (FW w) w (f q) cs' ∧ ∀ u ∈ cs', u.oneCell' = true) ∧ ok q := by
      intro i hi
      obtain ⟨cs', h1, h2⟩ := hx i (by omega)
      obtain ⟨q, h3, h4, h5⟩ := ho _ _ _ h2
      exact ⟨q, ⟨cs', h1, h3, h5⟩, h4⟩
    obtain ⟨q, hq⟩ : ∃ q : Nat → Option α, ∀ i, i < len → ∃ y, q i = some y ∧ (∃ cs', w.cells? 0 (a.add (i * s)) s = some cs' ∧ riL (FW w) w (f y) cs' ∧ ∀ u ∈ cs', u.oneCell' = true) ∧ ok y := by
      refine Classical.axiomOfChoice (r := fun i (o : Option α) => i < len → ∃ y, o = some y ∧ (∃ cs', w.cells? 0 (a.add (i * s)) s = some cs' ∧ riL (FW w) w (f y) cs' ∧ ∀ u ∈ cs', u.oneCell' = true) ∧ ok y) ?_
      intro i
      by_cases hi : i < len
      · obtain ⟨y, hy⟩ := each i hi
        exact ⟨some y, fun _ => ⟨y, rfl, hy⟩⟩
      · exact ⟨none, fun h => (hi h).elim⟩
    let l : List α := (List.range len).filterMap q
    have hl' : l.length = len ∧ ∀ i, i < len → l[i]? = q i := by
      have key : ∀ k, k ≤ len → ((List.range k).filterMap q).length = k ∧ ∀ i, i < k → ((List.range k).filterMap q)[i]? = q i := by
        intro k
        induction k with
        | zero => intro _; simp
        | succ k ih =>
          intro hk
          obtain ⟨h1, h2⟩ := ih (by omega)
          obtain ⟨y, hy, _⟩ := hq k (by omega)
          have : (List.range (k + 1)).filterMap q = (List.range k).filterMap q ++ [y] := by rw [List.range_succ, List.filterMap_append]; simp [hy]
          rw [this]
          refine ⟨by simp [h1], fun i hi => ?_⟩
          by_cases hik : i < k
          · rw [List.getElem?_append_left (by omega)]; exact h2 i hik
          · have : i = k := by omega
            subst this
            rw [List.getElem?_append_right (by omega), h1, hy]; simp
      exact key len (Nat.le_refl _)
    refine ⟨l, riL_one ?_, ⟨by omega, fun b hb => ?_⟩, by simp [Value.oneCell']⟩
    · simp only [ri]
      refine .inr ⟨a, m, by simp [hl'.1]; exact hl, by simp [hl'.1], ?_⟩
      by_cases h0 : len = 0
      · left
        have : l = [] := List.eq_nil_of_length_eq_zero (by omega)
        simp [this]
      · right
        have cell : ∀ (i : Nat) (cs' : List Value), i < len → w.cells? 0 (a.add (i * s)) s = some cs' → ∀ j, j < s → w.cell? (a.add (i * s + j)) = cs'[j]? ∧ cs'.length = s := by
          intro i cs' hi hc j hj
          obtain ⟨_, hlen, hcc⟩ := World.cells?_some hc
          have := hcc j hj
          rw [add_add] at this
          exact ⟨this, hlen⟩
        obtain ⟨y0, hy0, ⟨cs0, c1, _, _⟩, _⟩ := hq 0 (by omega)
        have hc0 := (cell 0 cs0 (by omega) c1 0 (by omega))
        have hsome : ∃ u, w.cell? a = some u := by
          have h1 := hc0.1
          rw [Nat.zero_mul, Nat.zero_add] at h1
          have : a.add 0 = a := by simp [Addr.add]
          rw [this] at h1
          rw [h1]
          exact ⟨cs0[0]'(by omega), List.getElem?_eq_getElem (by omega)⟩
        obtain ⟨u0, hu0⟩ := hsome
        have hspot : a.spot = none := by
          unfold World.cell? at hu0
          split at hu0
          · split at hu0
            · cases hu0
            · rename_i h; simpa using h
          · cases hu0
        obtain ⟨ab, ao, asp⟩ := a
        simp only at hspot
        subst hspot
        refine ⟨rfl, World.block_lt_of_cell? w _ hu0, ?_⟩
        rw [riRows_iff]
        intro i row hrow
        rw [List.getElem?_map, Option.map_eq_some_iff] at hrow
        obtain ⟨b, hb, rfl⟩ := hrow
        have hi : i < len := by have := (List.getElem?_eq_some_iff.1 hb).1; omega
        obtain ⟨y, hy, ⟨cs', g1, g2, g3⟩, _⟩ := hq i hi
        rw [hl'.2 i hi, hy] at hb
        simp at hb
        subst hb
        have hlen' := riL_length g2
        obtain ⟨_, hclen, _⟩ := World.cells?_some g1
        refine ⟨by omega, fun j v hj => ?_⟩
        obtain ⟨z, z1, z2⟩ := riL_get g2 j v hj
        have hjs : j < s := by have := (List.getElem?_eq_some_iff.1 z1).1; omega
        refine ⟨z, ?_, g3 z (List.mem_of_getElem? z1), z2⟩
        have := (cell i cs' hi g1 j hjs).1
        rw [add_lit, ← Nat.add_assoc] at this
        rw [this]; exact z1
    · obtain ⟨i, hi⟩ := List.mem_iff_getElem?.1 hb
      have hil : i < len := by have := (List.getElem?_eq_some_iff.1 hi).1; omega
      obtain ⟨y, hy, _, hok⟩ := hq i hil
      rw [hl'.2 i hil, hy] at hi
      simp at hi
      exact hi ▸ hok
theorem arg_int {t : TypeId} {k : IntKind} {v : Value} {d : DataW H} {p : List MemPlace} {r : Reach} {b0 : Nat} (ht : P.underlying t = some (.int k)) (hval : Value.okWide P w r b0 t v) (h : DataW.Trod enc P w 0 (fun _ => true) true t v d p) :
    ∃ n, ri (FW w) w (.raw (.int k n)) v ∧ (Lit.int k n).wf = true := by
  obtain ⟨n, rfl, _, _, hw⟩ := ChangeShapes.open_int ht hval h
  exact ⟨n, by simp [ri], hw⟩
theorem arg_slice {t e : TypeId} {v : Value} {d : DataW H} {p : List MemPlace} {r : Reach} {b0 : Nat} {α : Type} {f : α → V} {ok : α → Prop} (ht : P.underlying t = some (.slice e)) (hval : Value.okWide P w r b0 t v) (h : DataW.Trod enc P w 0 (fun _ => true) true t v d p)
    (ho : Opens enc P w t (fun a => [f a]) ok) : ∃ a, ri (FW w) w (f a) v ∧ ok a := by
  obtain ⟨a, len, cap, rfl⟩ := WideShapes.okWide_slice ht hval
  obtain ⟨fuel, hf⟩ := h
  obtain ⟨y, h1, h2, _⟩ := ho _ _ _ hf
  simp only [Value.cells, riL] at h1
  obtain ⟨x, xs, hx, h3, _⟩ := h1
  simp at hx
  exact ⟨y, by rw [hx.1]; exact h3, h2⟩
end
end Go.Proofs.Ytmdimnmdoifkfaa.Clean
