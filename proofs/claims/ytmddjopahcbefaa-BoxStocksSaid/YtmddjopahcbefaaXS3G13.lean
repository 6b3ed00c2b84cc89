/- A part of the proof. -/
import Derived.ProofKit
import Derived.Deep.Slices
import Derived.Carry
import Derived.Test.YtmddjopahcbefaaXS3G7
namespace Go.Proofs.Ytmddjopahcbefaa.Clean
open Go.Deep
set_option linter.unusedSimpArgs false
set_option linter.unusedVariables false
section
variable {H : Type} (enc : TypeId × Value → H) (P : Program) (w : World)
def FW (r : Nat) : Prop := r < w.heap.size
def Opens (t : TypeId) {α : Type} (f : α → List V) (ok : α → Prop) : Prop :=
  ∀ fuel cs x, DataW.trod enc P w 0 (fun _ => true) true fuel t cs = some x → ∃ a, riL (FW w) w (f a) cs ∧ ok a ∧ ∀ u ∈ cs, u.oneCell' = true
def OpensF (total : Nat) (off : Nat) (fs : List Field) {α : Type} (f : α → List V) (ok : α → Prop) : Prop :=
  ∀ n (cs : List Value), cs.length = total → (∀ fd ∈ fs, ∃ x, DataW.trod enc P w 0 (fun _ => true) true n fd.type ((cs.drop fd.offset).take (P.cellsOf fd.type)) = some x) →
    ∃ a, riL (FW w) w (f a) (cs.drop off) ∧ ok a ∧ ∀ u ∈ cs.drop off, u.oneCell' = true
end
section
variable {H : Type} {enc : TypeId × Value → H} {P : Program} {w : World}
theorem riL_append : ∀ {vs us : List V} {xs ys : List Value}, riL (FW w) w vs xs → riL (FW w) w us ys → riL (FW w) w (vs ++ us) (xs ++ ys)
  | [], us, xs, ys, h, k => by simp only [riL] at h; subst h; simpa using k
  | v :: vs, us, xs, ys, h, k => by
    simp only [riL] at h
    obtain ⟨x, zs, rfl, h2, h3⟩ := h
    simp only [List.cons_append, riL]
    exact ⟨x, zs ++ ys, rfl, h2, riL_append h3 k⟩
theorem riL_one {v : V} {x : Value} (h : ri (FW w) w v x) : riL (FW w) w [v] [x] := by simp only [riL]; exact ⟨x, [], rfl, h, rfl⟩
theorem riL_get : ∀ {vs : List V} {xs : List Value}, riL (FW w) w vs xs → ∀ (i : Nat) v, vs[i]? = some v → ∃ x, xs[i]? = some x ∧ ri (FW w) w v x
  | [], xs, h, i, v, hi => by simp at hi
  | u :: vs, xs, h, i, v, hi => by
    simp only [riL] at h
    obtain ⟨x, ys, rfl, h2, h3⟩ := h
    cases i with
    | zero => simp at hi; subst hi; exact ⟨x, rfl, h2⟩
    | succ i => simp at hi; simpa using riL_get h3 i v hi
theorem riL_length : ∀ {vs : List V} {xs : List Value}, riL (FW w) w vs xs → xs.length = vs.length
  | [], xs, h => by simp only [riL] at h; simp [h]
  | v :: vs, xs, h => by simp only [riL] at h; obtain ⟨x, ys, rfl, _, h3⟩ := h; simp [riL_length h3]
theorem opens_int {t : TypeId} {k : IntKind} (ht : P.underlying t = some (.int k)) : Opens enc P w t (fun n : Int => [.raw (.int k n)]) (fun n => (Lit.int k n).wf = true) := by
  intro fuel cs x h
  obtain ⟨n, rfl, _, hw⟩ := DataW.trod_int ht h
  exact ⟨n, riL_one (by simp [ri]), hw, by simp [Value.oneCell']⟩
theorem opens_slice {t e : TypeId} {s : Nat} {α : Type} {f : α → List V} {ok : α → Prop} (ht : P.underlying t = some (.slice e)) (hs : P.cellsOf e = s) (hpos : s ≠ 0) (ho : Opens enc P w e f ok) :
    Opens enc P w t (fun l : List α => [.lst s (l.map f)]) (fun l => l.length ≤ maxLen ∧ ∀ a ∈ l, ok a) := by
  intro fuel cs x h
  rcases open_slice ht h with ⟨rfl, _⟩ | ⟨a, len, cap, m, n, D, Pl, rfl, _, hl, hm, hmm, _, hx⟩
  · exact ⟨[], riL_one (by simp [ri]), by simp, by simp [Value.oneCell']⟩
  · simp only [if_true] at hmm
    subst hmm
    rw [hs] at hx
    have each : ∀ i, i < len → ∃ q : α, (∃ cs', w.cells? 0 (a.add (i * s)) s = some cs' ∧ riL (FW w) w (f q) cs' ∧ ∀ u ∈ cs', u.oneCell' = true) ∧ ok q := by
      intro i hi
      obtain ⟨cs', h1, h2⟩ := hx i (by omega)
      obtain ⟨q, h3, h4, h5⟩ := ho _ _ _ h2
      exact ⟨q, ⟨cs', h1, h3, h5⟩, h4⟩
    obtain ⟨q, hq⟩ : ∃ q : Nat → Option α, ∀ i, i < len → ∃ y, q i = some y ∧ (∃ cs', w.cells? 0 (a.add (i * s)) s = some cs' ∧ riL (FW w) w (f y) cs' ∧ ∀ u ∈ cs', u.oneCell' = true) ∧ ok y := by
      refine Classical.axiomOfChoice (r := fun i (o : Option α) => i < len → ∃ y, o = some y ∧ (∃ cs', w.cells? 0 (a.add (i * s)) s = some cs' ∧ riL (FW w) w (f y) cs' ∧ ∀ u ∈ cs', u.oneCell' = true) ∧ ok y) ?_
      intro i
      by_cases hi : i < len
      · obtain ⟨y, hy⟩ := each i hi
        exact ⟨some y, fun _ => ⟨y, rfl, hy⟩⟩
      · exact ⟨none, fun h => (hi h).elim⟩
    let l : List α := (List.range len).filterMap q
    have hl' : l.length = len ∧ ∀ i, i < len → l[i]? = q i := by
      have key : ∀ k, k ≤ len → ((List.range k).filterMap q).length = k ∧ ∀ i, i < k → ((List.range k).filterMap q)[i]? = q i := by
        intro k
        induction k with
        | zero => intro _; simp
        | succ k ih =>
          intro hk
          obtain ⟨h1, h2⟩ := ih (by omega)
          obtain ⟨y, hy, _⟩ := hq k (by omega)
          have : (List.range (k + 1)).filterMap q = (List.range k).filterMap q ++ [y] := by rw [List.range_succ, List.filterMap_append]; simp [hy]
          rw [this]
          refine ⟨by simp [h1], fun i hi => ?_⟩
          by_cases hik : i < k
          · rw [List.getElem?_append_left (by omega)]; exact h2 i hik
          · have : i = k := by omega
            subst this
            rw [List.getElem?_append_right (by omega), h1, hy]; simp
      exact key len (Nat.le_refl _)
    refine ⟨l, riL_one ?_, ⟨by omega, fun b hb => ?_⟩, by simp [Value.oneCell']⟩
    · simp only [ri]
      refine .inr ⟨a, m, by simp [hl'.1]; exact hl, by simp [hl'.1], ?_⟩
      by_cases h0 : len = 0
      · left
        have : l = [] := List.eq_nil_of_length_eq_zero (by omega)
        simp [this]
      · right
        have cell : ∀ (i : Nat) (cs' : List Value), i < len → w.cells? 0 (a.add (i * s)) s = some cs' → ∀ j, j < s → w.cell? (a.add (i * s + j)) = cs'[j]? ∧ cs'.length = s := by
          intro i cs' hi hc j hj
          obtain ⟨_, hlen, hcc⟩ := World.cells?_some hc
          have := hcc j hj
          rw [add_add] at this
          exact ⟨this, hlen⟩
        obtain ⟨y0, hy0, ⟨cs0, c1, _, _⟩, _⟩ := hq 0 (by omega)
        have hc0 := (cell 0 cs0 (by omega) c1 0 (by omega))
        have hsome : ∃ u, w.cell? a = some u := by
          have h1 := hc0.1
          rw [Nat.zero_mul, Nat.zero_add] at h1
          have : a.add 0 = a := by simp [Addr.add]
          rw [this] at h1
          rw [h1]
          exact ⟨cs0[0]'(by omega), List.getElem?_eq_getElem (by omega)⟩
        obtain ⟨u0, hu0⟩ := hsome
        have hspot : a.spot = none := by
          unfold World.cell? at hu0
          split at hu0
          · split at hu0
            · cases hu0
            · rename_i h; simpa using h
          · cases hu0
        obtain ⟨ab, ao, asp⟩ := a
        simp only at hspot
        subst hspot
        refine ⟨rfl, World.block_lt_of_cell? w _ hu0, ?_⟩
        rw [riRows_iff]
        intro i row hrow
        rw [List.getElem?_map, Option.map_eq_some_iff] at hrow
        obtain ⟨b, hb, rfl⟩ := hrow
        have hi : i < len := by have := (List.getElem?_eq_some_iff.1 hb).1; omega
        obtain ⟨y, hy, ⟨cs', g1, g2, g3⟩, _⟩ := hq i hi
        rw [hl'.2 i hi, hy] at hb
        simp at hb
        subst hb
        have hlen' := riL_length g2
        obtain ⟨_, hclen, _⟩ := World.cells?_some g1
        refine ⟨by omega, fun j v hj => ?_⟩
        obtain ⟨z, z1, z2⟩ := riL_get g2 j v hj
        have hjs : j < s := by have := (List.getElem?_eq_some_iff.1 z1).1; omega
        refine ⟨z, ?_, g3 z (List.mem_of_getElem? z1), z2⟩
        have := (cell i cs' hi g1 j hjs).1
        rw [add_lit, ← Nat.add_assoc] at this
        rw [this]; exact z1
    · obtain ⟨i, hi⟩ := List.mem_iff_getElem?.1 hb
      have hil : i < len := by have := (List.getElem?_eq_some_iff.1 hi).1; omega
      obtain ⟨y, hy, _, hok⟩ := hq i hil
      rw [hl'.2 i hil, hy] at hi
      simp at hi
      exact hi ▸ hok
theorem opensF_nil {total : Nat} : OpensF enc P w total total [] (fun _ : Unit => []) (fun _ => True) := by
  intro n cs hl _
  rw [List.drop_of_length_le (by omega)]
  exact ⟨(), by simp [riL], trivial, by simp⟩
theorem opensF_cons {total off k : Nat} {fd : Field} {fs : List Field} {α β : Type} {f : α → List V} {g : β → List V} {ok : α → Prop} {ok' : β → Prop} (ho : fd.offset = off) (hk : P.cellsOf fd.type = k)
    (h1 : Opens enc P w fd.type f ok) (h2 : OpensF enc P w total (off + k) fs g ok') : OpensF enc P w total off (fd :: fs) (fun x : α × β => f x.1 ++ g x.2) (fun x => ok x.1 ∧ ok' x.2) := by
  intro n cs hl hf
  obtain ⟨x, hx⟩ := hf fd (by simp)
  rw [ho, hk] at hx
  obtain ⟨a, a1, a2, a3⟩ := h1 _ _ _ hx
  obtain ⟨b, b1, b2, b3⟩ := h2 n cs hl (fun fd' h' => hf fd' (by simp [h']))
  have hsplit : cs.drop off = (cs.drop off).take k ++ cs.drop (off + k) := by rw [← List.drop_drop, List.take_append_drop]
  refine ⟨(a, b), ?_, ⟨a2, b2⟩, ?_⟩
  · rw [hsplit]; exact riL_append a1 b1
  · rw [hsplit]
    intro u hu
    rcases List.mem_append.1 hu with hu | hu
    · exact a3 u hu
    · exact b3 u hu
theorem opens_struct {t : TypeId} {fs : Array Field} {total : Nat} {α : Type} {f : α → List V} {ok : α → Prop} (ht : P.underlying t = some (.struct fs)) (hc : P.cellsOf t = total) (h : OpensF enc P w total 0 fs.toList f ok) : Opens enc P w t f ok := by
  intro fuel cs x hx
  obtain ⟨xs, n, _, _, hl, hxl, hf⟩ := DataW.trod_struct ht hx
  have := h n cs (by omega) (fun fd hfd => by
    obtain ⟨i, hi⟩ := List.mem_iff_getElem?.1 hfd
    have hi' : fs[i]? = some fd := by simpa using hi
    have := hf i fd hi'
    have hil : i < xs.length := by rw [hxl]; exact lt_of_some hi'
    rw [List.getElem?_eq_getElem hil] at this
    exact ⟨_, this⟩)
  simpa using this
theorem arg_slice {t e : TypeId} {v : Value} {d : DataW H} {p : List MemPlace} {r : Reach} {b0 : Nat} {α : Type} {f : α → V} {ok : α → Prop} (ht : P.underlying t = some (.slice e)) (hval : Value.okWide P w r b0 t v) (h : DataW.Trod enc P w 0 (fun _ => true) true t v d p)
    (ho : Opens enc P w t (fun a => [f a]) ok) : ∃ a, ri (FW w) w (f a) v ∧ ok a := by
  obtain ⟨a, len, cap, rfl⟩ := WideShapes.okWide_slice ht hval
  obtain ⟨fuel, hf⟩ := h
  obtain ⟨y, h1, h2, _⟩ := ho _ _ _ hf
  simp only [Value.cells, riL] at h1
  obtain ⟨x, xs, hx, h3, _⟩ := h1
  simp at hx
  exact ⟨y, by rw [hx.1]; exact h3, h2⟩
end
end Go.Proofs.Ytmddjopahcbefaa.Clean
