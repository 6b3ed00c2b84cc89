/- How memory changes: a new block, a store, a block that moves. Nothing here speaks of the program. -/
import Derived.Test.YtmdimnmdoifkfaaXDCV
namespace Go.Proofs.Ytmdimnmdoifkfaa.Clean

def Nu.add (ν : Nu) (r s n : Nat) : Nu where
  at_ b := if b = .p ν.nxt then some (r, s, n) else ν.at_ b
  nxt := ν.nxt + 1
  cnt := ν.cnt
  lt b x h := by
    by_cases hb : b = .p ν.nxt
    · subst hb; exact Id.lt_new _ _
    · simp only [hb, if_false] at h; exact Id.lt_le (ν.lt b x h) (Nat.le_succ _)
  ph b := if b = .p ν.nxt then false else ν.ph b
  phx b x h := by
    by_cases hb : b = .p ν.nxt
    · rw [if_pos hb]
    · simp only [hb, if_false] at h ⊢; exact ν.phx b x h
/-- A block that is not there yet. -/
def Nu.addPh (ν : Nu) : Nu where
  at_ b := if b = .p ν.nxt then none else ν.at_ b
  nxt := ν.nxt + 1
  cnt := ν.cnt
  lt b x h := by
    by_cases hb : b = .p ν.nxt
    · simp [hb] at h
    · simp only [hb, if_false] at h; exact Id.lt_le (ν.lt b x h) (Nat.le_succ _)
  ph b := if b = .p ν.nxt then true else ν.ph b
  phx b x h := by
    by_cases hb : b = .p ν.nxt
    · simp [hb] at h
    · simp only [hb, if_false] at h ⊢; exact ν.phx b x h
def Nu.del (ν : Nu) (b : Id) : Nu where
  at_ j := if j = b then none else ν.at_ j
  nxt := ν.nxt
  cnt := ν.cnt
  lt j x h := by
    by_cases hb : j = b
    · simp [hb] at h
    · simp only [hb, if_false] at h; exact ν.lt j x h
  ph j := if j = b then false else ν.ph j
  phx j x h := by
    by_cases hb : j = b
    · rw [if_pos hb]
    · simp only [hb, if_false] at h ⊢; exact ν.phx j x h

theorem Hp.get_add (h : Hp) (o : O) (b : Id) : (h.add o).get b = if b = .p h.nxt then some o else h.get b := by
  cases b with
  | p n =>
    simp only [Hp.get, Hp.add, getB_cons, Id.p.injEq]
    by_cases hb : n = h.nxt
    · simp [hb]
    · rw [if_neg (by omega), if_neg hb]
  | m B k => simp [Hp.get, Hp.add]
@[simp] theorem Hp.del_nxt (h : Hp) (b : Id) : (h.del b).nxt = h.nxt := by cases b <;> rfl
theorem Hp.get_m {h : Hp} {B k : Nat} {o : O} (hg : h.get (.m B k) = some o) : ∃ f es, getF h.fs B = some f ∧ memb f.ms k = some es ∧ o = .rows f.s true es := by
  simp only [Hp.get] at hg
  split at hg
  · rename_i f hf
    rw [Option.map_eq_some_iff] at hg
    obtain ⟨es, h1, h2⟩ := hg
    exact ⟨f, es, hf, h1, h2.symm⟩
  · cases hg
theorem Hp.get_del (h : Hp) (b j : Id) : (h.del b).get j = if j = b then none else h.get j := by
  cases b with
  | p b =>
    cases j with
    | p j => simp only [Hp.get, Hp.del, getB_delB, Id.p.injEq]
    | m B k => simp [Hp.get, Hp.del]
  | m B k =>
    cases j with
    | p j => simp [Hp.get, Hp.del]
    | m B' k' =>
      simp only [Hp.get, Hp.del, getF_setF, Id.m.injEq]
      by_cases hB : B' = B
      · subst hB
        simp only [if_true, true_and]
        cases hf : getF h.fs B' with
        | none => simp
        | some f =>
          simp only [Option.map_some]
          by_cases hk : k < f.ms.length
          · rw [memb_set _ _ _ _ hk]
            by_cases hkk : k' = k
            · simp [hkk]
            · simp [hkk]
          · have e1 : f.ms.set k none = f.ms := List.set_eq_of_length_le (by omega)
            rw [e1]
            by_cases hkk : k' = k
            · subst hkk
              have : memb f.ms k' = none := by simp [memb, List.getElem?_eq_none (show f.ms.length ≤ k' by omega)]
              simp [this]
            · simp [hkk]
      · simp [hB]
theorem Hp.get_put {h : Hp} {b : Id} {s : Nat} {p : Bool} {es0 : List (List V)} {p0 : Bool} (hb : h.get b = some (.rows s p0 es0)) (hp : putOK b p = true) (es : List (List V)) (j : Id) : (h.put b (.rows s p es)).get j = if j = b then some (.rows s p es) else h.get j := by
  cases b with
  | p b =>
    cases j with
    | p j =>
      simp only [Hp.get, Hp.put, getB_cons, getB_delB, Id.p.injEq]
      by_cases hb : j = b
      · simp [hb]
      · rw [if_neg (by omega), if_neg hb, if_neg hb]
    | m B k => simp [Hp.get, Hp.put]
  | m B k =>
    obtain ⟨f, es1, hf, hm, he⟩ := Hp.get_m hb
    simp at he
    obtain ⟨rfl, rfl, rfl⟩ := he
    simp only [putOK] at hp
    subst hp
    cases j with
    | p j => simp [Hp.get, Hp.put]
    | m B' k' =>
      simp only [Hp.get, Hp.put, getF_setF, Id.m.injEq]
      by_cases hB : B' = B
      · subst hB
        simp only [if_true, true_and, hf, Option.map_some]
        rw [memb_set _ _ _ _ (memb_lt hm)]
        by_cases hkk : k' = k
        · simp [hkk]
        · simp [hkk]
      · simp [hB]
theorem Hp.get_putM (h : Hp) (b : Nat) (es : List (V × V)) (j : Id) : (h.put (.p b) (.mp es)).get j = if j = .p b then some (.mp es) else h.get j := by
  cases j with
  | p j =>
    simp only [Hp.get, Hp.put, getB_cons, getB_delB, Id.p.injEq]
    by_cases hb : j = b
    · simp [hb]
    · rw [if_neg (by omega), if_neg hb, if_neg hb]
  | m B k => simp [Hp.get, Hp.put]

section
variable {ν : Nu} {F : Nat → Prop} {w w' : World} {h : Hp}

theorem rowsC_evo {F' : Nat → Prop} {ν' : Nu} (k : HeapOK ν F h w) (e : Evo ν F w ν' F' w') {p : Bool} {c : Array Value} {s : Nat} {es : List (List V)} {o : Nat}
    (hr : rowsC (repO F w ν p) c s es o) : rowsC (repO F' w' ν' p) c s es o := by
  rw [rowsC_iff] at hr ⊢
  intro i r hi
  obtain ⟨h1, h2⟩ := hr i r hi
  exact ⟨h1, fun j v hj => let ⟨x, h3, h4, h5⟩ := h2 j v hj; ⟨x, h3, h4, repO_evo k e h5⟩⟩

theorem entsOK_evoW {F' : Nat → Prop} {ν' : Nu} (e : EvoW ν F w ν' F' w') {es : List (V × V)} {ents : Array MapEntry} (hr : entsOK (rep F w ν) es ents) : entsOK (rep F' w' ν') es ents :=
  ⟨hr.1, fun i kv hi => let ⟨x, h1, h2, h3, h4⟩ := hr.2 i kv hi; ⟨x, h1, h2, rep_evoW e _ _ h3, rep_evoW e _ _ h4⟩⟩
theorem entsOK_evo {F' : Nat → Prop} {ν' : Nu} (k : HeapOK ν F h w) (e : Evo ν F w ν' F' w') {es : List (V × V)} {ents : Array MapEntry} (hr : entsOK (rep F w ν) es ents) : entsOK (rep F' w' ν') es ents := entsOK_evoW (e.toW k) hr
theorem rowsC_evoW {F' : Nat → Prop} {ν' : Nu} (e : EvoW ν F w ν' F' w') {p : Bool} {c : Array Value} {s : Nat} {es : List (List V)} {o : Nat} (hr : rowsC (repO F w ν p) c s es o) : rowsC (repO F' w' ν' p) c s es o := by
  rw [rowsC_iff] at hr ⊢
  intro i row hrow
  obtain ⟨k1, k2⟩ := hr i row hrow
  exact ⟨k1, fun j v hj => let ⟨x, k3, k4, k5⟩ := k2 j v hj; ⟨x, k3, k4, repO_evoW e k5⟩⟩
theorem obl_evoW {F' : Nat → Prop} {ν' : Nu} (e : EvoW ν F w ν' F' w') {r s n : Nat} (hw : w'.heap[r]? = w.heap[r]?) {o : O} (ho : Obl F w ν r s n o) : Obl F' w' ν' r s n o := by
  cases o with
  | rows s' p es =>
    obtain ⟨h1, h2, c, el, h3, h4, h5⟩ := ho
    exact ⟨h1, h2, c, el, by rw [hw]; exact h3, h4, rowsC_evoW e h5⟩
  | mp es =>
    obtain ⟨ents, h1, h2⟩ := ho
    exact ⟨ents, by rw [hw]; exact h1, entsOK_evoW e h2⟩
  | lp q =>
    obtain ⟨rec, h1, h2⟩ := ho
    exact ⟨rec, by rw [hw]; exact h1, h2.mono (rep_evoW e)⟩
  | it x m seen =>
    obtain ⟨mr, h1, h2⟩ := ho
    exact ⟨mr, by rw [hw]; exact h1, rep_evoW e _ _ h2⟩
theorem obl_evo {F' : Nat → Prop} {ν' : Nu} (k : HeapOK ν F h w) (e : Evo ν F w ν' F' w') {r s n : Nat} (hw : w'.heap[r]? = w.heap[r]?) {o : O} (ho : Obl F w ν r s n o) : Obl F' w' ν' r s n o := obl_evoW (e.toW k) hw ho

/-- The world drew, or did nothing. -/
theorem heap_same (k : HeapOK ν F h w) (hh : w'.heap = w.heap) (h1 : w'.os = w.os) (h2 : w'.tape = w.tape) (h3 : w'.output = w.output) : HeapOK ν F h w' ∧ Evo ν F w ν F w' := by
  have e : Evo ν F w ν F w' := ⟨h1, h2, h3, by rw [hh]; exact Nat.le_refl _, fun r _ _ => by rw [hh], fun _ h => h, fun _ h => .inl h, fun _ h => .inl h, fun _ _ _ h => h, Nat.le_refl _, fun _ => Nat.le_refl _, fun _ _ h => h,
    fun _ _ _ _ _ _ c e fr hc => ⟨c, by rw [hh]; exact hc, rfl⟩⟩
  refine ⟨⟨fun b r s n hb => ?_, k.dom, k.inj, fun r hr => by rw [hh]; exact k.frz r hr, k.nxt, k.cnt⟩, e⟩
  obtain ⟨o, g1, g2⟩ := k.blk b r s n hb
  exact ⟨o, g1, obl_evo k e (by rw [hh]) g2⟩

theorem push_old {ob : Obj} (hw : w' = { w with heap := w.heap.push ob }) {r : Nat} (hlt : r < w.heap.size) : w'.heap[r]? = w.heap[r]? := by
  subst hw; show (w.heap.push _)[r]? = _; rw [Array.getElem?_push, if_neg (by omega)]
theorem push_new {ob : Obj} (hw : w' = { w with heap := w.heap.push ob }) : w'.heap[w.heap.size]? = some ob := by
  subst hw; show (w.heap.push _)[w.heap.size]? = _; rw [Array.getElem?_push, if_pos rfl]

/-- A new block, whatever lies in it. -/
theorem heap_newO (k : HeapOK ν F h w) (s n : Nat) (o : O) (ob : Obj) (hw : w' = { w with heap := w.heap.push ob })
    (ho : Evo ν F w (ν.add w.heap.size s n) F w' → Obl F w' (ν.add w.heap.size s n) w.heap.size s n o) :
    HeapOK (ν.add w.heap.size s n) F (h.add o) w' ∧ Evo ν F w (ν.add w.heap.size s n) F w' := by
  have hpush : ∀ r, r < w.heap.size → w'.heap[r]? = w.heap[r]? := fun r hlt => push_old hw hlt
  have hsize : w'.heap.size = w.heap.size + 1 := by subst hw; simp
  have e : Evo ν F w (ν.add w.heap.size s n) F w' := by
    refine ⟨by rw [hw], by rw [hw], by rw [hw], by omega, fun r hlt _ => hpush r hlt, fun _ h => h, fun _ h => .inl h, ?_, ?_, ?_, fun _ => Nat.le_refl _, fun b hb hx => by simp only [Nu.add] at hx; rwa [if_neg (Id.ne_new hb)] at hx, ?_⟩
    · rintro r ⟨b, s', n', hb⟩
      simp only [Nu.add] at hb
      by_cases hb0 : b = .p ν.nxt
      · rw [if_pos hb0] at hb; simp at hb; omega
      · rw [if_neg hb0] at hb; exact .inl ⟨b, s', n', hb⟩
    · intro b x hb hx
      simp only [Nu.add] at hx
      rwa [if_neg (Id.ne_new hb)] at hx
    · simp [Nu.add]
    · intro b r s' n' hb _ c' e' fr hc
      exact ⟨c', by rw [hpush r (lt_of_some hc)]; exact hc, rfl⟩
  refine ⟨⟨?_, ?_, ?_, ?_, ?_, k.cnt⟩, e⟩
  · intro b r s' n' hb
    simp only [Nu.add] at hb
    rw [Hp.get_add, ← k.nxt]
    by_cases hb0 : b = .p ν.nxt
    · rw [if_pos hb0] at hb
      simp at hb
      obtain ⟨rfl, rfl, rfl⟩ := hb
      exact ⟨o, by rw [if_pos hb0], ho e⟩
    · rw [if_neg hb0] at hb
      obtain ⟨o', g1, g2⟩ := k.blk b r s' n' hb
      exact ⟨o', by rw [if_neg hb0]; exact g1, obl_evo k e (hpush r (k.at_lt hb)) g2⟩
  · intro b o hb
    rw [Hp.get_add, ← k.nxt] at hb
    simp only [Nu.add]
    by_cases hb0 : b = .p ν.nxt
    · exact .inl ⟨_, by rw [if_pos hb0]⟩
    · rw [if_neg hb0] at hb ⊢; rw [if_neg hb0]; exact k.dom b o hb
  · intro b b' r s1 n1 s2 n2 h1 h2
    have lt : ∀ b s' n', ν.at_ b = some (w.heap.size, s', n') → False := fun b s' n' hb => by
      have := k.at_lt hb
      omega
    simp only [Nu.add] at h1 h2
    by_cases hb0 : b = .p ν.nxt
    · by_cases hb1 : b' = .p ν.nxt
      · rw [hb0, hb1]
      · rw [if_pos hb0] at h1; rw [if_neg hb1] at h2; simp at h1; rw [← h1.1] at h2; exact (lt _ _ _ h2).elim
    · by_cases hb1 : b' = .p ν.nxt
      · rw [if_neg hb0] at h1; rw [if_pos hb1] at h2; simp at h2; rw [← h2.1] at h1; exact (lt _ _ _ h1).elim
      · rw [if_neg hb0] at h1; rw [if_neg hb1] at h2; exact k.inj b b' r s1 n1 s2 n2 h1 h2
  · intro r hr'
    obtain ⟨h1, h2⟩ := k.frz r hr'
    refine ⟨by omega, ?_⟩
    rintro ⟨b, s', n', hb⟩
    simp only [Nu.add] at hb
    by_cases hb0 : b = .p ν.nxt
    · rw [if_pos hb0] at hb; simp at hb; omega
    · rw [if_neg hb0] at hb; exact h2 ⟨b, s', n', hb⟩
  · simp only [Nu.add, Hp.add, k.nxt]

theorem heap_new (k : HeapOK ν F h w) (p : Bool) (s : Nat) (es : List (List V)) (c : Array Value) (el : TypeId) (hw : w' = { w with heap := w.heap.push (.cells c el) })
    (hn : es.length * s ≤ c.size) (hr : rowsC (repO F w ν p) c s es 0) :
    HeapOK (ν.add w.heap.size s es.length) F (h.add (.rows s p es)) w' ∧ Evo ν F w (ν.add w.heap.size s es.length) F w' :=
  heap_newO k s es.length (.rows s p es) _ hw fun e => ⟨rfl, rfl, c, el, push_new hw, hn, rowsC_evo k e hr⟩
/-- A new map. -/
theorem heap_newM (k : HeapOK ν F h w) (hw : w' = { w with heap := w.heap.push (.map #[] 0) }) :
    HeapOK (ν.add w.heap.size 0 0) F (h.add (.mp [])) w' ∧ Evo ν F w (ν.add w.heap.size 0 0) F w' :=
  heap_newO k 0 0 (.mp []) _ hw fun _ => ⟨#[], push_new hw, by simp [entsOK]⟩

theorem setF_cnt {l : List (Nat × Fam)} {B0 k0 : Nat} {x : Option (List (List V))} (B : Nat) : famLen (setF l B0 k0 x) B = famLen l B := by
  unfold famLen
  rw [getF_setF]
  by_cases hB : B = B0
  · subst hB
    rw [if_pos rfl]
    cases getF l B with
    | none => rfl
    | some f => simp
  · rw [if_neg hB]
theorem heap_del (k : HeapOK ν F h w) (b0 : Id) : HeapOK (ν.del b0) F (h.del b0) w ∧ Evo ν F w (ν.del b0) F w := by
  have hat : ∀ b x, (ν.del b0).at_ b = some x → b ≠ b0 ∧ ν.at_ b = some x := fun b x hb => by
    simp only [Nu.del] at hb
    by_cases h0 : b = b0
    · simp [h0] at hb
    · rw [if_neg h0] at hb; exact ⟨h0, hb⟩
  have e : Evo ν F w (ν.del b0) F w :=
    ⟨rfl, rfl, rfl, Nat.le_refl _, fun _ _ _ => rfl, fun _ h => h, fun _ h => .inl h, fun r ⟨b, s, n, hb⟩ => .inl ⟨b, s, n, (hat b _ hb).2⟩, fun b x _ hx => (hat b x hx).2, Nat.le_refl _, fun _ => Nat.le_refl _, fun b _ hx => by simp only [Nu.del] at hx; split at hx; cases hx; exact hx,
      fun _ _ _ _ _ _ c e fr hc => ⟨c, hc, rfl⟩⟩
  refine ⟨⟨?_, ?_, ?_, ?_, ?_, ?_⟩, e⟩
  · intro b r s n hb
    obtain ⟨h0, hb⟩ := hat b _ hb
    obtain ⟨o, g1, g2⟩ := k.blk b r s n hb
    exact ⟨o, by rw [Hp.get_del, if_neg h0]; exact g1, obl_evo k e rfl g2⟩
  · intro b o hb
    rw [Hp.get_del] at hb
    by_cases h0 : b = b0
    · simp [h0] at hb
    · rw [if_neg h0] at hb
      rcases k.dom b o hb with ⟨x, hx⟩ | ⟨hx, hy⟩
      · exact .inl ⟨x, by simp only [Nu.del]; rw [if_neg h0]; exact hx⟩
      · exact .inr ⟨by simp only [Nu.del]; rw [if_neg h0]; exact hx, hy⟩
  · intro b b' r s n s' n' h1 h2
    exact k.inj b b' r s n s' n' (hat b _ h1).2 (hat b' _ h2).2
  · intro r hr
    exact ⟨(k.frz r hr).1, fun ⟨b, s, n, hb⟩ => (k.frz r hr).2 ⟨b, s, n, (hat b _ hb).2⟩⟩
  · cases b0 <;> exact k.nxt
  · cases b0 with
    | p n => exact k.cnt
    | m B k0 => exact fun B' => (k.cnt B').trans (setF_cnt B').symm

/-- A block is written, and keeps its number. -/
theorem heap_setO (k : HeapOK ν F h w) {b0 : Id} {r0 s0 n0 : Nat} {o : O} (hb : ν.at_ b0 = some (r0, s0, n0)) {h' : Hp} (hget : ∀ j, h'.get j = if j = b0 then some o else h.get j) (hnx : h'.nxt = h.nxt) (hcn : ∀ B, ν.cnt B = famLen h'.fs B)
    (hother : ∀ r, r ≠ r0 → w'.heap[r]? = w.heap[r]?) (hsize : w'.heap.size = w.heap.size) (h1 : w'.os = w.os) (h2 : w'.tape = w.tape) (h3 : w'.output = w.output)
    (hcell : ∀ c e fr, w.heap[r0]? = some (.cells c e fr) → ∃ c', w'.heap[r0]? = some (.cells c' e fr) ∧ c'.size = c.size)
    (ho : Evo ν F w ν F w' → Obl F w' ν r0 s0 n0 o) : HeapOK ν F h' w' ∧ Evo ν F w ν F w' := by
  have own0 : ν.own r0 := ⟨b0, s0, _, hb⟩
  have e : Evo ν F w ν F w' := by
    refine ⟨h1, h2, h3, by omega, fun r _ ho => hother r (fun h => ho (h ▸ own0)), fun _ h => h, fun _ h => .inl h, fun _ h => .inl h, fun _ _ _ h => h, Nat.le_refl _, fun _ => Nat.le_refl _, fun _ _ h => h, ?_⟩
    intro b r s n _ _ c1 e1 fr hc1
    by_cases hr0 : r = r0
    · subst hr0
      exact hcell c1 e1 fr hc1
    · exact ⟨c1, by rw [hother r hr0]; exact hc1, rfl⟩
  refine ⟨⟨?_, ?_, k.inj, fun r hr => by rw [hsize]; exact k.frz r hr, by rw [hnx]; exact k.nxt, hcn⟩, e⟩
  · intro b r s n hb'
    rw [hget]
    by_cases h0 : b = b0
    · subst h0
      rw [hb] at hb'
      simp at hb'
      obtain ⟨rfl, rfl, rfl⟩ := hb'
      exact ⟨o, by rw [if_pos rfl], ho e⟩
    · obtain ⟨o', g1, g2⟩ := k.blk b r s n hb'
      have hne : r ≠ r0 := fun heq => h0 (k.inj b b0 r s n s0 n0 hb' (heq ▸ hb))
      exact ⟨o', by rw [if_neg h0]; exact g1, obl_evo k e (hother r hne) g2⟩
  · intro b o' hb'
    rw [hget] at hb'
    by_cases h0 : b = b0
    · exact .inl ⟨_, h0 ▸ hb⟩
    · rw [if_neg h0] at hb'; exact k.dom b o' hb'

theorem put_nxt (h : Hp) (b : Id) (o : O) : (h.put b o).nxt = h.nxt := by
  cases b with
  | p n => rfl
  | m B k => cases o <;> rfl
theorem put_cnt (k : HeapOK ν F h w) (b : Id) (o : O) : ∀ B, ν.cnt B = famLen (h.put b o).fs B := by
  cases b with
  | p n => exact k.cnt
  | m B k0 =>
    cases o with
    | rows s p es => exact fun B' => (k.cnt B').trans (setF_cnt B').symm
    | mp es => exact k.cnt
    | lp q => exact k.cnt
    | it x n seen => exact k.cnt
/-- A store: the block keeps its number. -/
theorem heap_set (k : HeapOK ν F h w) {b0 : Id} {r0 s0 : Nat} {p p0 : Bool} {es0 es es' : List (List V)} {c c' : Array Value} {el : TypeId} (hg : h.get b0 = some (.rows s0 p0 es0)) (hp : putOK b0 p = true) (hb : ν.at_ b0 = some (r0, s0, es.length)) (hl : es'.length = es.length)
    (hc : w.heap[r0]? = some (.cells c el (0, 0))) (hc' : w'.heap[r0]? = some (.cells c' el (0, 0))) (hs : c'.size = c.size)
    (hother : ∀ r, r ≠ r0 → w'.heap[r]? = w.heap[r]?) (hsize : w'.heap.size = w.heap.size) (h1 : w'.os = w.os) (h2 : w'.tape = w.tape) (h3 : w'.output = w.output)
    (hn : es.length * s0 ≤ c.size) (hr : rowsC (repO F w ν p) c' s0 es' 0) :
    HeapOK ν F (h.put b0 (.rows s0 p es')) w' ∧ Evo ν F w ν F w' := by
  refine heap_setO k hb (Hp.get_put hg hp es') (put_nxt _ _ _) (put_cnt k _ _) hother hsize h1 h2 h3 (fun c1 e1 fr hc1 => ?_) (fun e => ⟨rfl, hl, c', el, hc', by omega, rowsC_evo k e hr⟩)
  rw [hc] at hc1
  simp at hc1
  obtain ⟨rfl, rfl, rfl⟩ := hc1
  exact ⟨c', hc', hs⟩
/-- A map is written. -/
theorem heap_setM (k : HeapOK ν F h w) {b0 r0 s0 n0 : Nat} {es es' : List (V × V)} {ents ents' : Array MapEntry} (hb : ν.at_ (.p b0) = some (r0, s0, n0))
    (hc : w.heap[r0]? = some (.map ents es.length)) (hc' : w'.heap[r0]? = some (.map ents' es'.length))
    (hother : ∀ r, r ≠ r0 → w'.heap[r]? = w.heap[r]?) (hsize : w'.heap.size = w.heap.size) (h1 : w'.os = w.os) (h2 : w'.tape = w.tape) (h3 : w'.output = w.output)
    (hr : entsOK (rep F w ν) es' ents') :
    HeapOK ν F (h.put (.p b0) (.mp es')) w' ∧ Evo ν F w ν F w' :=
  heap_setO k hb (Hp.get_putM h b0 es') (put_nxt _ _ _) (put_cnt k _ _) hother hsize h1 h2 h3 (fun c1 e1 fr hc1 => by rw [hc] at hc1; cases hc1) (fun e => ⟨ents', hc', entsOK_evo k e hr⟩)

/-- The block is written, and known under a new number from here on. -/
theorem heap_move (k : HeapOK ν F h w) {b0 : Id} {r0 s0 n0 : Nat} {p : Bool} {es' : List (List V)} {c c' : Array Value} {el : TypeId} (hb : ν.at_ b0 = some (r0, s0, n0))
    (hc : w.heap[r0]? = some (.cells c el (0, 0))) (hc' : w'.heap[r0]? = some (.cells c' el (0, 0)))
    (hother : ∀ r, r ≠ r0 → w'.heap[r]? = w.heap[r]?) (hsize : w'.heap.size = w.heap.size) (h1 : w'.os = w.os) (h2 : w'.tape = w.tape) (h3 : w'.output = w.output)
    (hn : es'.length * s0 ≤ c'.size) (hr : rowsC (repO F w ν p) c' s0 es' 0) :
    HeapOK ((ν.del b0).add r0 s0 es'.length) F ((h.del b0).add (.rows s0 p es')) w' ∧ Evo ν F w ((ν.del b0).add r0 s0 es'.length) F w' := by
  have own0 : ν.own r0 := ⟨b0, s0, n0, hb⟩
  have hnn : (ν.del b0).nxt = ν.nxt := rfl
  have hdn : (h.del b0).nxt = h.nxt := by cases b0 <;> rfl
  have hat : ∀ b x, ((ν.del b0).add r0 s0 es'.length).at_ b = some x → (b = .p ν.nxt ∧ x = (r0, s0, es'.length)) ∨ (b ≠ .p ν.nxt ∧ b ≠ b0 ∧ ν.at_ b = some x) := fun b x hx => by
    simp only [Nu.add, hnn] at hx
    by_cases h0 : b = .p ν.nxt
    · rw [if_pos h0] at hx; simp at hx; exact .inl ⟨h0, hx.symm⟩
    · rw [if_neg h0] at hx
      simp only [Nu.del] at hx
      by_cases h1 : b = b0
      · simp [h1] at hx
      · rw [if_neg h1] at hx; exact .inr ⟨h0, h1, hx⟩
  have e : Evo ν F w ((ν.del b0).add r0 s0 es'.length) F w' := by
    refine ⟨h1, h2, h3, by omega, fun r _ ho => hother r (fun h => ho (h ▸ own0)), fun _ h => h, fun _ h => .inl h, ?_, ?_, by simp [Nu.add, Nu.del], fun _ => Nat.le_refl _, fun b hb hx => by simp only [Nu.add, hnn] at hx; rw [if_neg (Id.ne_new hb)] at hx; simp only [Nu.del] at hx; split at hx; cases hx; exact hx, ?_⟩
    · rintro r ⟨b, s, n, hx⟩
      rcases hat b _ hx with ⟨_, h⟩ | ⟨_, _, h⟩
      · simp at h; exact .inl (h.1 ▸ own0)
      · exact .inl ⟨b, s, n, h⟩
    · intro b x hlt hx
      rcases hat b _ hx with ⟨h, _⟩ | ⟨_, _, h⟩
      · exact (Id.ne_new hlt h).elim
      · exact h
    · intro b r s n hb1 hb2 c1 e1 fr hc1
      rcases hat b _ hb2 with ⟨h, _⟩ | ⟨_, h0, _⟩
      · exact (Id.ne_new (ν.lt b _ hb1) h).elim
      · have hne : r ≠ r0 := fun heq => h0 (k.inj b b0 r s n s0 n0 hb1 (heq ▸ hb))
        exact ⟨c1, by rw [hother r hne]; exact hc1, rfl⟩
  have hget : ∀ b, ((h.del b0).add (.rows s0 p es')).get b = if b = .p ν.nxt then some (.rows s0 p es') else if b = b0 then none else h.get b := fun b => by
    rw [Hp.get_add, Hp.get_del, hdn, ← k.nxt]
  refine ⟨⟨?_, ?_, ?_, ?_, ?_, ?_⟩, e⟩
  · intro b r s n hx
    rcases hat b _ hx with ⟨h0, h⟩ | ⟨h0, h0', h⟩
    · simp at h
      obtain ⟨rfl, rfl, rfl⟩ := h
      exact ⟨.rows s p es', by rw [hget, if_pos h0], rfl, rfl, c', el, hc', hn, rowsC_evo k e hr⟩
    · obtain ⟨o, g1, g2⟩ := k.blk b r s n h
      have hne : r ≠ r0 := fun heq => h0' (k.inj b b0 r s n s0 n0 h (heq ▸ hb))
      exact ⟨o, by rw [hget, if_neg h0, if_neg h0']; exact g1, obl_evo k e (hother r hne) g2⟩
  · intro b o hx
    rw [hget] at hx
    simp only [Nu.add, hnn]
    by_cases h0 : b = .p ν.nxt
    · exact .inl ⟨_, by rw [if_pos h0]⟩
    · rw [if_neg h0] at hx ⊢
      rw [if_neg h0]
      by_cases h1 : b = b0
      · simp [h1] at hx
      · rw [if_neg h1] at hx
        rcases k.dom b o hx with ⟨x, hx'⟩ | ⟨hx', hy⟩
        · exact .inl ⟨x, by simp only [Nu.del]; rw [if_neg h1]; exact hx'⟩
        · exact .inr ⟨by simp only [Nu.del]; rw [if_neg h1]; exact hx', hy⟩
  · intro b b' r s n s' n' hx hy
    rcases hat b _ hx with ⟨h0, h⟩ | ⟨h0, h0', h⟩ <;> rcases hat b' _ hy with ⟨j0, j⟩ | ⟨j0, j0', j⟩
    · rw [h0, j0]
    · simp at h; exact (j0' (k.inj b' b0 r s' n' s0 n0 j (h.1 ▸ hb))).elim
    · simp at j; exact (h0' (k.inj b b0 r s n s0 n0 h (j.1 ▸ hb))).elim
    · exact k.inj b b' r s n s' n' h j
  · intro r hr'
    refine ⟨by rw [hsize]; exact (k.frz r hr').1, ?_⟩
    rintro ⟨b, s, n, hx⟩
    rcases hat b _ hx with ⟨_, h⟩ | ⟨_, _, h⟩
    · simp at h; exact (k.frz r hr').2 (h.1 ▸ own0)
    · exact (k.frz r hr').2 ⟨b, s, n, h⟩
  · simp only [Nu.add, Hp.add, hdn, k.nxt, Nu.del]
  · cases b0 with
    | p n => exact k.cnt
    | m B k0 => exact fun B' => (k.cnt B').trans (setF_cnt B').symm

/-- A block that is not there yet is known. -/
theorem heap_ph (k : HeapOK ν F h w) (s : Nat) (p : Bool) : HeapOK ν.addPh F (h.add (.rows s p [])) w ∧ Evo ν F w ν.addPh F w := by
  have hat : ∀ b x, ν.addPh.at_ b = some x → b ≠ .p ν.nxt ∧ ν.at_ b = some x := fun b x hb => by
    simp only [Nu.addPh] at hb
    by_cases h0 : b = .p ν.nxt
    · simp [h0] at hb
    · rw [if_neg h0] at hb; exact ⟨h0, hb⟩
  have e : Evo ν F w ν.addPh F w :=
    ⟨rfl, rfl, rfl, Nat.le_refl _, fun _ _ _ => rfl, fun _ h => h, fun _ h => .inl h, fun r ⟨b, s, n, hb⟩ => .inl ⟨b, s, n, (hat b _ hb).2⟩, fun b x _ hx => (hat b x hx).2, by simp [Nu.addPh], fun _ => Nat.le_refl _,
      fun b hb hx => by simp only [Nu.addPh] at hx; rwa [if_neg (Id.ne_new hb)] at hx, fun _ _ _ _ _ _ c e fr hc => ⟨c, hc, rfl⟩⟩
  refine ⟨⟨?_, ?_, ?_, ?_, by simp only [Nu.addPh, Hp.add, k.nxt], k.cnt⟩, e⟩
  · intro b r s n hb
    obtain ⟨h0, hb⟩ := hat b _ hb
    obtain ⟨o, g1, g2⟩ := k.blk b r s n hb
    exact ⟨o, by rw [Hp.get_add, ← k.nxt, if_neg h0]; exact g1, obl_evo k e rfl g2⟩
  · intro b o hb
    rw [Hp.get_add, ← k.nxt] at hb
    simp only [Nu.addPh]
    by_cases h0 : b = .p ν.nxt
    · rw [if_pos h0] at hb
      simp at hb
      exact .inr ⟨by rw [if_pos h0], s, p, hb.symm⟩
    · rw [if_neg h0] at hb
      rw [if_neg h0, if_neg h0]
      exact k.dom b o hb
  · intro b b' r s n s' n' h1 h2
    exact k.inj b b' r s n s' n' (hat b _ h1).2 (hat b' _ h2).2
  · intro r hr
    exact ⟨(k.frz r hr).1, fun ⟨b, s, n, hb⟩ => (k.frz r hr).2 ⟨b, s, n, (hat b _ hb).2⟩⟩
end
end Go.Proofs.Ytmdimnmdoifkfaa.Clean
