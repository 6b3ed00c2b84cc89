/- How memory changes: a new block, a store, a block that moves. Nothing here speaks of the program. -/
import Derived.Test.YtahoindkdkhpmaaXCV
namespace Go.Proofs.Ytahoindkdkhpmaa.Clean

def Nu.add (ν : Nu) (r s n : Nat) : Nu where
  at_ b := if b = ν.nxt then some (r, s, n) else ν.at_ b
  nxt := ν.nxt + 1
  lt b x h := by
    by_cases hb : b = ν.nxt
    · omega
    · simp only [hb, if_false] at h; have := ν.lt b x h; omega
  ph b := if b = ν.nxt then false else ν.ph b
  phx b x h := by
    by_cases hb : b = ν.nxt
    · rw [if_pos hb]
    · simp only [hb, if_false] at h ⊢; exact ν.phx b x h
/-- A block that is not there yet. -/
def Nu.addPh (ν : Nu) : Nu where
  at_ b := if b = ν.nxt then none else ν.at_ b
  nxt := ν.nxt + 1
  lt b x h := by
    by_cases hb : b = ν.nxt
    · omega
    · simp only [hb, if_false] at h; have := ν.lt b x h; omega
  ph b := if b = ν.nxt then true else ν.ph b
  phx b x h := by
    by_cases hb : b = ν.nxt
    · simp [hb] at h
    · simp only [hb, if_false] at h ⊢; exact ν.phx b x h
def Nu.del (ν : Nu) (b : Nat) : Nu where
  at_ j := if j = b then none else ν.at_ j
  nxt := ν.nxt
  lt j x h := by
    by_cases hb : j = b
    · simp [hb] at h
    · simp only [hb, if_false] at h; exact ν.lt j x h
  ph j := if j = b then false else ν.ph j
  phx j x h := by
    by_cases hb : j = b
    · rw [if_pos hb]
    · simp only [hb, if_false] at h ⊢; exact ν.phx j x h

theorem Hp.get_add (h : Hp) (o : O) (b : Nat) : (h.add o).get b = if b = h.nxt then some o else h.get b := by
  simp only [Hp.get, Hp.add, getB_cons]
  by_cases hb : b = h.nxt
  · simp [hb]
  · rw [if_neg (by omega), if_neg hb]
theorem Hp.get_del (h : Hp) (b j : Nat) : (h.del b).get j = if j = b then none else h.get j := by
  simp only [Hp.get, Hp.del, getB_delB]
theorem Hp.get_put (h : Hp) (b : Nat) (o : O) (j : Nat) : (h.put b o).get j = if j = b then some o else h.get j := by
  simp only [Hp.get, Hp.put, getB_cons, getB_delB]
  by_cases hb : j = b
  · simp [hb]
  · rw [if_neg (by omega), if_neg hb, if_neg hb]

section
variable {ν : Nu} {F : Nat → Prop} {w w' : World} {h : Hp}

theorem rowsC_evo {F' : Nat → Prop} {ν' : Nu} (k : HeapOK ν F h w) (e : Evo ν F w ν' F' w') {p : Bool} {c : Array Value} {s : Nat} {es : List (List V)} {o : Nat}
    (hr : rowsC (repO F w ν p) c s es o) : rowsC (repO F' w' ν' p) c s es o := by
  rw [rowsC_iff] at hr ⊢
  intro i r hi
  obtain ⟨h1, h2⟩ := hr i r hi
  exact ⟨h1, fun j v hj => let ⟨x, h3, h4, h5⟩ := h2 j v hj; ⟨x, h3, h4, repO_evo k e h5⟩⟩

/-- The world drew, or did nothing. -/
theorem heap_same (k : HeapOK ν F h w) (hh : w'.heap = w.heap) (h1 : w'.os = w.os) (h2 : w'.tape = w.tape) (h3 : w'.output = w.output) : HeapOK ν F h w' ∧ Evo ν F w ν F w' := by
  have e : Evo ν F w ν F w' := ⟨h1, h2, h3, by rw [hh]; exact Nat.le_refl _, fun r _ _ => by rw [hh], fun _ h => h, fun _ h => .inl h, fun _ h => .inl h, fun _ _ _ h => h, Nat.le_refl _, fun _ _ h => h,
    fun _ _ _ _ _ _ c e fr hc => ⟨c, by rw [hh]; exact hc, rfl⟩⟩
  refine ⟨⟨fun b r s n hb => ?_, k.dom, k.inj, fun r hr => by rw [hh]; exact k.frz r hr, k.nxt⟩, e⟩
  obtain ⟨p, es, g1, g2, c, el, g3, g4, g5⟩ := k.blk b r s n hb
  exact ⟨p, es, g1, g2, c, el, by rw [hh]; exact g3, g4, rowsC_evo k e g5⟩

theorem heap_new (k : HeapOK ν F h w) (p : Bool) (s : Nat) (es : List (List V)) (c : Array Value) (el : TypeId) (hw : w' = { w with heap := w.heap.push (.cells c el) })
    (hn : es.length * s ≤ c.size) (hr : rowsC (repO F w ν p) c s es 0) :
    HeapOK (ν.add w.heap.size s es.length) F (h.add (.rows s p es)) w' ∧ Evo ν F w (ν.add w.heap.size s es.length) F w' := by
  have hpush : ∀ r, r < w.heap.size → w'.heap[r]? = w.heap[r]? := fun r hlt => by
    subst hw; show (w.heap.push _)[r]? = _; rw [Array.getElem?_push, if_neg (by omega)]
  have hlast : w'.heap[w.heap.size]? = some (.cells c el (0, 0)) := by
    subst hw; show (w.heap.push _)[w.heap.size]? = _; rw [Array.getElem?_push, if_pos rfl]
  have hsize : w'.heap.size = w.heap.size + 1 := by subst hw; simp
  have e : Evo ν F w (ν.add w.heap.size s es.length) F w' := by
    refine ⟨by rw [hw], by rw [hw], by rw [hw], by omega, fun r hlt _ => hpush r hlt, fun _ h => h, fun _ h => .inl h, ?_, ?_, ?_, fun b hb hx => by simp only [Nu.add] at hx; rwa [if_neg (by omega)] at hx, ?_⟩
    · rintro r ⟨b, s', n', hb⟩
      simp only [Nu.add] at hb
      by_cases hb0 : b = ν.nxt
      · rw [if_pos hb0] at hb; simp at hb; omega
      · rw [if_neg hb0] at hb; exact .inl ⟨b, s', n', hb⟩
    · intro b x hb hx
      simp only [Nu.add] at hx
      rwa [if_neg (by omega)] at hx
    · simp [Nu.add]
    · intro b r s' n' hb _ c' e' fr hc
      exact ⟨c', by rw [hpush r (lt_of_some hc)]; exact hc, rfl⟩
  refine ⟨⟨?_, ?_, ?_, ?_, ?_⟩, e⟩
  · intro b r s' n' hb
    simp only [Nu.add] at hb
    rw [Hp.get_add, ← k.nxt]
    by_cases hb0 : b = ν.nxt
    · rw [if_pos hb0] at hb
      simp at hb
      obtain ⟨rfl, rfl, rfl⟩ := hb
      exact ⟨p, es, by rw [if_pos hb0], rfl, c, el, hlast, hn, rowsC_evo k e hr⟩
    · rw [if_neg hb0] at hb
      obtain ⟨p', es', g1, g2, c', el', g3, g4, g5⟩ := k.blk b r s' n' hb
      exact ⟨p', es', by rw [if_neg hb0]; exact g1, g2, c', el', by rw [hpush r (lt_of_some g3)]; exact g3, g4, rowsC_evo k e g5⟩
  · intro b o hb
    rw [Hp.get_add, ← k.nxt] at hb
    simp only [Nu.add]
    by_cases hb0 : b = ν.nxt
    · exact .inl ⟨_, by rw [if_pos hb0]⟩
    · rw [if_neg hb0] at hb ⊢; rw [if_neg hb0]; exact k.dom b o hb
  · intro b b' r s1 n1 s2 n2 h1 h2
    have lt : ∀ b s' n', ν.at_ b = some (w.heap.size, s', n') → False := fun b s' n' hb => by
      obtain ⟨_, _, _, _, c', el', g3, _, _⟩ := k.blk b _ s' n' hb
      have := lt_of_some g3
      omega
    simp only [Nu.add] at h1 h2
    by_cases hb0 : b = ν.nxt
    · by_cases hb1 : b' = ν.nxt
      · omega
      · rw [if_pos hb0] at h1; rw [if_neg hb1] at h2; simp at h1; rw [← h1.1] at h2; exact (lt _ _ _ h2).elim
    · by_cases hb1 : b' = ν.nxt
      · rw [if_neg hb0] at h1; rw [if_pos hb1] at h2; simp at h2; rw [← h2.1] at h1; exact (lt _ _ _ h1).elim
      · rw [if_neg hb0] at h1; rw [if_neg hb1] at h2; exact k.inj b b' r s1 n1 s2 n2 h1 h2
  · intro r hr'
    obtain ⟨h1, h2⟩ := k.frz r hr'
    refine ⟨by omega, ?_⟩
    rintro ⟨b, s', n', hb⟩
    simp only [Nu.add] at hb
    by_cases hb0 : b = ν.nxt
    · rw [if_pos hb0] at hb; simp at hb; omega
    · rw [if_neg hb0] at hb; exact h2 ⟨b, s', n', hb⟩
  · simp only [Nu.add, Hp.add, k.nxt]

theorem heap_del (k : HeapOK ν F h w) (b0 : Nat) : HeapOK (ν.del b0) F (h.del b0) w ∧ Evo ν F w (ν.del b0) F w := by
  have hat : ∀ b x, (ν.del b0).at_ b = some x → b ≠ b0 ∧ ν.at_ b = some x := fun b x hb => by
    simp only [Nu.del] at hb
    by_cases h0 : b = b0
    · simp [h0] at hb
    · rw [if_neg h0] at hb; exact ⟨h0, hb⟩
  have e : Evo ν F w (ν.del b0) F w :=
    ⟨rfl, rfl, rfl, Nat.le_refl _, fun _ _ _ => rfl, fun _ h => h, fun _ h => .inl h, fun r ⟨b, s, n, hb⟩ => .inl ⟨b, s, n, (hat b _ hb).2⟩, fun b x _ hx => (hat b x hx).2, Nat.le_refl _, fun b _ hx => by simp only [Nu.del] at hx; split at hx; cases hx; exact hx,
      fun _ _ _ _ _ _ c e fr hc => ⟨c, hc, rfl⟩⟩
  refine ⟨⟨?_, ?_, ?_, ?_, k.nxt⟩, e⟩
  · intro b r s n hb
    obtain ⟨h0, hb⟩ := hat b _ hb
    obtain ⟨p, es, g1, g2, c, el, g3, g4, g5⟩ := k.blk b r s n hb
    exact ⟨p, es, by rw [Hp.get_del, if_neg h0]; exact g1, g2, c, el, g3, g4, rowsC_evo k e g5⟩
  · intro b o hb
    rw [Hp.get_del] at hb
    by_cases h0 : b = b0
    · simp [h0] at hb
    · rw [if_neg h0] at hb
      rcases k.dom b o hb with ⟨x, hx⟩ | ⟨hx, hy⟩
      · exact .inl ⟨x, by simp only [Nu.del]; rw [if_neg h0]; exact hx⟩
      · exact .inr ⟨by simp only [Nu.del]; rw [if_neg h0]; exact hx, hy⟩
  · intro b b' r s n s' n' h1 h2
    exact k.inj b b' r s n s' n' (hat b _ h1).2 (hat b' _ h2).2
  · intro r hr
    exact ⟨(k.frz r hr).1, fun ⟨b, s, n, hb⟩ => (k.frz r hr).2 ⟨b, s, n, (hat b _ hb).2⟩⟩

/-- A store: the block keeps its number. -/
theorem heap_set (k : HeapOK ν F h w) {b0 r0 s0 : Nat} {p : Bool} {es es' : List (List V)} {c c' : Array Value} {el : TypeId} (hb : ν.at_ b0 = some (r0, s0, es.length)) (hl : es'.length = es.length)
    (hc : w.heap[r0]? = some (.cells c el (0, 0))) (hc' : w'.heap[r0]? = some (.cells c' el (0, 0))) (hs : c'.size = c.size)
    (hother : ∀ r, r ≠ r0 → w'.heap[r]? = w.heap[r]?) (hsize : w'.heap.size = w.heap.size) (h1 : w'.os = w.os) (h2 : w'.tape = w.tape) (h3 : w'.output = w.output)
    (hn : es.length * s0 ≤ c.size) (hr : rowsC (repO F w ν p) c' s0 es' 0) :
    HeapOK ν F (h.put b0 (.rows s0 p es')) w' ∧ Evo ν F w ν F w' := by
  have own0 : ν.own r0 := ⟨b0, s0, _, hb⟩
  have e : Evo ν F w ν F w' := by
    refine ⟨h1, h2, h3, by omega, fun r _ ho => hother r (fun h => ho (h ▸ own0)), fun _ h => h, fun _ h => .inl h, fun _ h => .inl h, fun _ _ _ h => h, Nat.le_refl _, fun _ _ h => h, ?_⟩
    intro b r s n _ _ c1 e1 fr hc1
    by_cases hr0 : r = r0
    · subst hr0
      rw [hc] at hc1
      simp at hc1
      obtain ⟨rfl, rfl, rfl⟩ := hc1
      exact ⟨c', hc', hs⟩
    · exact ⟨c1, by rw [hother r hr0]; exact hc1, rfl⟩
  refine ⟨⟨?_, ?_, k.inj, fun r hr => by rw [hsize]; exact k.frz r hr, k.nxt⟩, e⟩
  · intro b r s n hb'
    rw [Hp.get_put]
    by_cases h0 : b = b0
    · subst h0
      rw [hb] at hb'
      simp at hb'
      obtain ⟨rfl, rfl, rfl⟩ := hb'
      exact ⟨p, es', by rw [if_pos rfl], hl, c', el, hc', by omega, rowsC_evo k e hr⟩
    · obtain ⟨p', es1, g1, g2, c1, el1, g3, g4, g5⟩ := k.blk b r s n hb'
      have hne : r ≠ r0 := fun heq => h0 (k.inj b b0 r s n s0 es.length hb' (heq ▸ hb))
      exact ⟨p', es1, by rw [if_neg h0]; exact g1, g2, c1, el1, by rw [hother r hne]; exact g3, g4, rowsC_evo k e g5⟩
  · intro b o hb'
    rw [Hp.get_put] at hb'
    by_cases h0 : b = b0
    · exact .inl ⟨_, h0 ▸ hb⟩
    · rw [if_neg h0] at hb'; exact k.dom b o hb'

/-- The block is written, and known under a new number from here on. -/
theorem heap_move (k : HeapOK ν F h w) {b0 r0 s0 n0 : Nat} {p : Bool} {es' : List (List V)} {c c' : Array Value} {el : TypeId} (hb : ν.at_ b0 = some (r0, s0, n0))
    (hc : w.heap[r0]? = some (.cells c el (0, 0))) (hc' : w'.heap[r0]? = some (.cells c' el (0, 0)))
    (hother : ∀ r, r ≠ r0 → w'.heap[r]? = w.heap[r]?) (hsize : w'.heap.size = w.heap.size) (h1 : w'.os = w.os) (h2 : w'.tape = w.tape) (h3 : w'.output = w.output)
    (hn : es'.length * s0 ≤ c'.size) (hr : rowsC (repO F w ν p) c' s0 es' 0) :
    HeapOK ((ν.del b0).add r0 s0 es'.length) F ((h.del b0).add (.rows s0 p es')) w' ∧ Evo ν F w ((ν.del b0).add r0 s0 es'.length) F w' := by
  have own0 : ν.own r0 := ⟨b0, s0, n0, hb⟩
  have hnn : (ν.del b0).nxt = ν.nxt := rfl
  have hat : ∀ b x, ((ν.del b0).add r0 s0 es'.length).at_ b = some x → (b = ν.nxt ∧ x = (r0, s0, es'.length)) ∨ (b ≠ ν.nxt ∧ b ≠ b0 ∧ ν.at_ b = some x) := fun b x hx => by
    simp only [Nu.add, hnn] at hx
    by_cases h0 : b = ν.nxt
    · rw [if_pos h0] at hx; simp at hx; exact .inl ⟨h0, hx.symm⟩
    · rw [if_neg h0] at hx
      simp only [Nu.del] at hx
      by_cases h1 : b = b0
      · simp [h1] at hx
      · rw [if_neg h1] at hx; exact .inr ⟨h0, h1, hx⟩
  have e : Evo ν F w ((ν.del b0).add r0 s0 es'.length) F w' := by
    refine ⟨h1, h2, h3, by omega, fun r _ ho => hother r (fun h => ho (h ▸ own0)), fun _ h => h, fun _ h => .inl h, ?_, ?_, by simp [Nu.add, Nu.del], fun b hb hx => by simp only [Nu.add, hnn] at hx; rw [if_neg (by omega)] at hx; simp only [Nu.del] at hx; split at hx; cases hx; exact hx, ?_⟩
    · rintro r ⟨b, s, n, hx⟩
      rcases hat b _ hx with ⟨_, h⟩ | ⟨_, _, h⟩
      · simp at h; exact .inl (h.1 ▸ own0)
      · exact .inl ⟨b, s, n, h⟩
    · intro b x hlt hx
      rcases hat b _ hx with ⟨h, _⟩ | ⟨_, _, h⟩
      · omega
      · exact h
    · intro b r s n hb1 hb2 c1 e1 fr hc1
      rcases hat b _ hb2 with ⟨h, _⟩ | ⟨_, h0, _⟩
      · have := ν.lt b _ hb1; omega
      · have hne : r ≠ r0 := fun heq => h0 (k.inj b b0 r s n s0 n0 hb1 (heq ▸ hb))
        exact ⟨c1, by rw [hother r hne]; exact hc1, rfl⟩
  refine ⟨⟨?_, ?_, ?_, ?_, ?_⟩, e⟩
  · intro b r s n hx
    have hget : ((h.del b0).add (.rows s0 p es')).get b = if b = ν.nxt then some (.rows s0 p es') else if b = b0 then none else h.get b := by
      rw [Hp.get_add, Hp.get_del, show (h.del b0).nxt = ν.nxt from k.nxt.symm]
    rcases hat b _ hx with ⟨h0, h⟩ | ⟨h0, h0', h⟩
    · simp at h
      obtain ⟨rfl, rfl, rfl⟩ := h
      exact ⟨p, es', by rw [hget, if_pos h0], rfl, c', el, hc', hn, rowsC_evo k e hr⟩
    · obtain ⟨p', es1, g1, g2, c1, el1, g3, g4, g5⟩ := k.blk b r s n h
      have hne : r ≠ r0 := fun heq => h0' (k.inj b b0 r s n s0 n0 h (heq ▸ hb))
      exact ⟨p', es1, by rw [hget, if_neg h0, if_neg h0']; exact g1, g2, c1, el1, by rw [hother r hne]; exact g3, g4, rowsC_evo k e g5⟩
  · intro b o hx
    rw [Hp.get_add, Hp.get_del, show (h.del b0).nxt = ν.nxt from k.nxt.symm] at hx
    simp only [Nu.add, hnn]
    by_cases h0 : b = ν.nxt
    · exact .inl ⟨_, by rw [if_pos h0]⟩
    · rw [if_neg h0] at hx ⊢
      rw [if_neg h0]
      by_cases h1 : b = b0
      · simp [h1] at hx
      · rw [if_neg h1] at hx
        rcases k.dom b o hx with ⟨x, hx'⟩ | ⟨hx', hy⟩
        · exact .inl ⟨x, by simp only [Nu.del]; rw [if_neg h1]; exact hx'⟩
        · exact .inr ⟨by simp only [Nu.del]; rw [if_neg h1]; exact hx', hy⟩
  · intro b b' r s n s' n' hx hy
    rcases hat b _ hx with ⟨h0, h⟩ | ⟨h0, h0', h⟩ <;> rcases hat b' _ hy with ⟨j0, j⟩ | ⟨j0, j0', j⟩
    · omega
    · simp at h; exact (j0' (k.inj b' b0 r s' n' s0 n0 j (h.1 ▸ hb))).elim
    · simp at j; exact (h0' (k.inj b b0 r s n s0 n0 h (j.1 ▸ hb))).elim
    · exact k.inj b b' r s n s' n' h j
  · intro r hr'
    refine ⟨by rw [hsize]; exact (k.frz r hr').1, ?_⟩
    rintro ⟨b, s, n, hx⟩
    rcases hat b _ hx with ⟨_, h⟩ | ⟨_, _, h⟩
    · simp at h; exact (k.frz r hr').2 (h.1 ▸ own0)
    · exact (k.frz r hr').2 ⟨b, s, n, h⟩
  · simp only [Nu.add, Hp.add, Hp.del, Nu.del, k.nxt]

/-- A block that is not there yet is known. -/
theorem heap_ph (k : HeapOK ν F h w) (s : Nat) (p : Bool) : HeapOK ν.addPh F (h.add (.rows s p [])) w ∧ Evo ν F w ν.addPh F w := by
  have hat : ∀ b x, ν.addPh.at_ b = some x → b ≠ ν.nxt ∧ ν.at_ b = some x := fun b x hb => by
    simp only [Nu.addPh] at hb
    by_cases h0 : b = ν.nxt
    · simp [h0] at hb
    · rw [if_neg h0] at hb; exact ⟨h0, hb⟩
  have e : Evo ν F w ν.addPh F w :=
    ⟨rfl, rfl, rfl, Nat.le_refl _, fun _ _ _ => rfl, fun _ h => h, fun _ h => .inl h, fun r ⟨b, s, n, hb⟩ => .inl ⟨b, s, n, (hat b _ hb).2⟩, fun b x _ hx => (hat b x hx).2, by simp [Nu.addPh],
      fun b hb hx => by simp only [Nu.addPh] at hx; rwa [if_neg (by omega)] at hx, fun _ _ _ _ _ _ c e fr hc => ⟨c, hc, rfl⟩⟩
  refine ⟨⟨?_, ?_, ?_, ?_, by simp only [Nu.addPh, Hp.add, k.nxt]⟩, e⟩
  · intro b r s n hb
    obtain ⟨h0, hb⟩ := hat b _ hb
    obtain ⟨p, es, g1, g2, c, el, g3, g4, g5⟩ := k.blk b r s n hb
    exact ⟨p, es, by rw [Hp.get_add, ← k.nxt, if_neg h0]; exact g1, g2, c, el, g3, g4, rowsC_evo k e g5⟩
  · intro b o hb
    rw [Hp.get_add, ← k.nxt] at hb
    simp only [Nu.addPh]
    by_cases h0 : b = ν.nxt
    · rw [if_pos h0] at hb
      simp at hb
      exact .inr ⟨by rw [if_pos h0], s, p, hb.symm⟩
    · rw [if_neg h0] at hb
      rw [if_neg h0, if_neg h0]
      exact k.dom b o hb
  · intro b b' r s n s' n' h1 h2
    exact k.inj b b' r s n s' n' (hat b _ h1).2 (hat b' _ h2).2
  · intro r hr
    exact ⟨(k.frz r hr).1, fun ⟨b, s, n, hb⟩ => (k.frz r hr).2 ⟨b, s, n, (hat b _ hb).2⟩⟩
end
end Go.Proofs.Ytahoindkdkhpmaa.Clean
