/- Soundness, the operations that make or write memory. Nothing here speaks of the program. -/
import Derived.Test.YtmdimnmdoifkfaaXDCQ
import Derived.Deep.AppendSrc
namespace Go.Proofs.Ytmdimnmdoifkfaa.Clean
set_option linter.unusedSimpArgs false
set_option linter.unusedVariables false

section
variable {F : Nat → Prop} {w : World} {ν : Nu} {h : Hp}

/-- What an operation that may write makes of state and world. 'tch': the blocks of the state that it may write to. -/
def EV (P : Program) (F : Nat → Prop) (ν : Nu) (w : World) (tch : Id → Bool) (c : Sem Value) (k : V → Hp → Prop) : Prop :=
  ∃ x w' ν' v h', c.run P w = .ok x w' ∧ k v h' ∧ HeapOK ν' F h' w' ∧ rep F w' ν' v x ∧ Evo ν F w ν' F w' ∧
    ∀ b y, ν.at_ b = some y → tch b = false → w'.heap[y.1]? = w.heap[y.1]? ∧ ν'.at_ b = some y

/-- The same, where something may be kept for ever by it. -/
def EVF (P : Program) (F : Nat → Prop) (ν : Nu) (w : World) (tch : Id → Bool) (c : Sem Value) (k : V → Hp → Prop) : Prop :=
  ∃ F' x w' ν' v h', c.run P w = .ok x w' ∧ k v h' ∧ HeapOK ν' F' h' w' ∧ rep F' w' ν' v x ∧ Evo ν F w ν' F' w' ∧
    ∀ b y, ν.at_ b = some y → tch b = false → w'.heap[y.1]? = w.heap[y.1]? ∧ ν'.at_ b = some y
theorem EV.toF {P : Program} {tch : Id → Bool} {c : Sem Value} {k : V → Hp → Prop} (h : EV P F ν w tch c k) : EVF P F ν w tch c k := ⟨F, h⟩
theorem rowsC_one {R : V → Value → Prop} {c : Array Value} {cs : List V} (hc : cellsC R c cs 0) : rowsC R c cs.length [cs] 0 := by
  simp only [rowsC]; exact ⟨trivial, hc, trivial⟩

theorem cellsC_of_repL (hk : HeapOK ν F h w) {cs : List V} {xs : Array Value} (hr : repL F w ν cs xs.toList) (ho : allOne h cs = true) : cellsC (rep F w ν) xs cs 0 := by
  rw [cellsC_iff]
  intro j v hj
  obtain ⟨x, h1, h2⟩ := repL_get hr j v hj
  refine ⟨x, by simpa using h1, rep_one hk h2 ?_, h2⟩
  simp only [allOne, List.all_eq_true] at ho
  exact ho v (List.mem_of_getElem? hj)

theorem newRow_run (P : Program) (e : TypeId) (c : Array Value) (w : World) : (newRow e c).run P w = .ok ⟨w.heap.size, 0, none⟩ { w with heap := w.heap.push (.cells c e) } := by
  simp [newRow]

theorem still_new (hk : HeapOK ν F h w) {c : Array Value} {el : TypeId} {s n : Nat} (b : Id) (y : Nat × Nat × Nat) (hb : ν.at_ b = some y) :
    ({ w with heap := w.heap.push (.cells c el) } : World).heap[y.1]? = w.heap[y.1]? ∧ (ν.add w.heap.size s n).at_ b = some y := by
  obtain ⟨r, s', n'⟩ := y
  have hlt := hk.at_lt hb
  refine ⟨?_, ?_⟩
  · show (w.heap.push _)[r]? = _
    rw [Array.getElem?_push, if_neg (by omega)]
  · simp only [Nu.add]
    rw [if_neg (Id.ne_new (ν.lt b _ hb))]
    exact hb

/-- A new block of one row. -/
theorem e_newVar {P : Program} (hk : HeapOK ν F h w) {cs : List V} {x : Array Value} {t : TypeId} {tch : Id → Bool} {k : V → Hp → Prop} (hr : repL F w ν cs x.toList) (ho : allOne h cs = true)
    (hK : k (.ptr (.p h.nxt) 0 0) (h.add (.rows cs.length false [cs]))) {c : Sem Value} (hc : c.run P w = .ok (.pointer (some ⟨w.heap.size, 0, none⟩)) { w with heap := w.heap.push (.cells x t) }) :
    EV P F ν w tch c k := by
  have hl := repL_length hr
  have hn := heap_new (w' := { w with heap := w.heap.push (.cells x t) }) hk false cs.length [cs] x t rfl (by simp at hl ⊢; omega) (rowsC_one (cellsC_of_repL hk hr ho))
  refine ⟨_, _, _, _, _, hc, hK, hn.1, ?_, hn.2, fun b y hb _ => still_new hk b y hb⟩
  simp only [rep]
  refine ⟨⟨by simp only [Nu.add, hk.nxt]; exact Id.lt_new _ _, by simp [Nu.add, hk.nxt]⟩, fun r s n hat => ?_⟩
  simp only [Nu.add, hk.nxt, if_true] at hat
  simp at hat
  obtain ⟨rfl, rfl, rfl⟩ := hat
  simp

theorem e_box {P : Program} (hk : HeapOK ν F h w) {v : V} {x : Value} {t : TypeId} {tch : Id → Bool} {k : V → Hp → Prop} (hr : rep F w ν v x)
    (hh : onSome v.cells fun cs => guardB (allOne h cs) (k (.ptr (.p h.nxt) 0 0) (h.add (.rows cs.length false [cs])))) : EV P F ν w tch (Instr.box t x) k := by
  simp only [onSome_iff, guardB_iff] at hh
  obtain ⟨cs, hcs, ho, hK⟩ := hh
  exact e_newVar hk (t := t) (rep_cells hr hcs hk ho) ho hK (by simp [Instr.box, newVar, newRow_run])

theorem e_alloc {P : Program} (hk : HeapOK ν F h w) {t : TypeId} {tch : Id → Bool} {k : V → Hp → Prop}
    (hh : onSome (P.info? t) fun inf => onSome (zeroRow inf) fun cs => guardB (allOne h cs) (k (.ptr (.p h.nxt) 0 0) (h.add (.rows cs.length false [cs])))) : EV P F ν w tch (Instr.alloc t true (.tuple #[])) k := by
  simp only [onSome_iff, guardB_iff, zeroRow, Option.bind_eq_some_iff] at hh
  obtain ⟨inf, hi, cs, ⟨z, hz, hcs⟩, ho, hK⟩ := hh
  refine e_newVar hk (t := t) (x := z.cells) (riL_repL _ _ (ofValue_cells hcs ho).1) ho hK ?_
  simp [Instr.alloc, zeroValue, typeInfo, hi, hz, newVar, newRow_run]

theorem e_store {P : Program} (hk : HeapOK ν F h w) {t : TypeId} {x v : V} {x' v' : Value} {tch : Id → Bool} {k : Hp → Prop} (hx : rep F w ν x x') (hv : rep F w ν v v')
    (ht : ∀ b i off, x = .ptr b i off → ∀ b', tch b' = false → b' ≠ b) (hh : wStore P h t x v k) :
    ∃ w' h', (Instr.storeAt t x' v').run P w = .ok () w' ∧ k h' ∧ HeapOK ν F h' w' ∧ Evo ν F w ν F w' ∧ ∀ b y, ν.at_ b = some y → tch b = false → w'.heap[y.1]? = w.heap[y.1]? := by
  unfold wStore at hh
  split at hh
  · rename_i b i off
    rw [onRows_iff] at hh
    obtain ⟨s, p, es, hb, hh⟩ := hh
    simp only [onSome_iff, guardB_iff, Bool.and_eq_true] at hh
    obtain ⟨row, hrow, cs, hcs, inf, hi, hpo, hl, ho, hle, hK⟩ := hh
    have hl := beq_eq hl
    have hle := Nat.le_of_ble_eq_true hle
    simp only [rep] at hx
    obtain ⟨⟨r, s', n⟩, hat⟩ := hk.domP b _ hb hx.1.2
    obtain ⟨rfl, g2, c, el, g3, g4, g5⟩ := hk.blkR hb hat
    have hx' := hx.2 r _ n hat
    subst hx'
    have hcells := rep_cells hv hcs hk ho
    have hvl : v'.cells.size = cs.length := by have := repL_length hcells; simpa using this
    rw [rowsC_iff] at g5
    obtain ⟨hrl, hrc⟩ := g5 i row hrow
    have hi_lt : i < es.length := (List.getElem?_eq_some_iff.1 hrow).1
    have hseg : (i + 1) * s ≤ es.length * s := Nat.mul_le_mul_right _ hi_lt
    rw [Nat.add_mul, Nat.one_mul, g2] at hseg
    have hbound : i * s + off + 0 + v'.cells.toList.length ≤ c.size := by simp [hvl]; omega
    have hone : ∀ u ∈ v'.cells.toList, u.oneCell' = true := by
      intro u hu
      obtain ⟨j, hj⟩ := List.mem_iff_getElem?.1 hu
      have hjl : j < cs.length := by have := (List.getElem?_eq_some_iff.1 hj).1; simp [hvl] at this; exact this
      obtain ⟨x, q1, q2⟩ := repL_get hcells j cs[j] (List.getElem?_eq_getElem hjl)
      rw [hj] at q1
      simp at q1
      subst q1
      refine rep_one hk q2 ?_
      simp only [allOne, List.all_eq_true] at ho
      exact ho _ (List.getElem_mem hjl)
    have hrun := run_storeCells_at (P := P) r (i * s + off) el v'.cells.toList 0 c w g3 hbound hone
    simp only [Nat.add_zero] at hrun hbound
    let c' : Array Value := (c.toList.take (i * s + off) ++ v'.cells.toList ++ c.toList.drop (i * s + off + v'.cells.toList.length)).toArray
    have hc'get : ∀ q, c'[q]? = if q < i * s + off then c[q]? else if q < i * s + off + cs.length then v'.cells[q - (i * s + off)]? else c[q]? := by
      intro q
      have := splice c.toList v'.cells.toList (i * s + off) q (by simpa using hbound)
      simp only [c', List.getElem?_toArray, this]
      simp [hvl]
    have hc'size : c'.size = c.size := by
      simp only [c', List.size_toArray, List.length_append, List.length_take, List.length_drop, Array.length_toList]
      simp at hbound
      omega
    have hset := heap_set (w' := w.setRow r c') hk hb (p := p && closedL cs) (es := es) (es' := es.set i (row.take off ++ cs ++ row.drop (off + cs.length))) (c := c) (c' := c') (el := el) (b0 := b) (r0 := r) (s0 := _) hpo (by rw [g2]; exact hat)
      (by simp) g3 (setRow_heap w r c c' el (0, 0) g3) hc'size (fun q hq => setRow_other w r q c' hq) (setRow_size w r c') rfl rfl rfl (by rw [g2]; exact g4) (by
        rw [rowsC_iff]
        intro i' r' hr'
        rw [List.getElem?_set] at hr'
        by_cases hii : i = i'
        · subst hii
          simp [hi_lt] at hr'
          subst hr'
          have hsp : ∀ j, (row.take off ++ cs ++ row.drop (off + cs.length))[j]? = if j < off then row[j]? else if j < off + cs.length then cs[j - off]? else row[j]? := fun j => splice row cs off j hle
          refine ⟨?_, fun j u hj => ?_⟩
          · simp only [List.length_append, List.length_take, List.length_drop]; omega
          · have hj' := hsp j
            simp only [List.append_assoc] at hj'
            rw [hj'] at hj
            rw [Nat.zero_add, hc'get]
            by_cases h1 : j < off
            · rw [if_pos h1] at hj
              rw [if_pos (by omega)]
              obtain ⟨z, z1, z2, z3⟩ := hrc j u hj
              exact ⟨z, by simpa using z1, z2, repO_and z3⟩
            · rw [if_neg h1] at hj
              by_cases h2 : j < off + cs.length
              · rw [if_pos h2] at hj
                rw [if_neg (by omega), if_pos (by omega)]
                obtain ⟨z, z1, z2⟩ := repL_get hcells (j - off) u hj
                refine ⟨z, by rw [show i * s + j - (i * s + off) = j - off by omega]; simpa using z1, rep_one hk z2 (by simp only [allOne, List.all_eq_true] at ho; exact ho _ (List.mem_of_getElem? hj)), ?_⟩
                refine repO_of z2 (fun hp => ?_)
                simp only [Bool.and_eq_true] at hp
                have hmem : ∀ (l : List V), closedL l = true → ∀ u ∈ l, u.closed = true := by
                  intro l; induction l with
                  | nil => simp
                  | cons a l ih => intro hcl u hu; simp only [closedL, Bool.and_eq_true] at hcl; simp at hu; rcases hu with rfl | hu; exact hcl.1; exact ih hcl.2 u hu
                exact hmem cs hp.2 u (List.mem_of_getElem? hj)
              · rw [if_neg h2] at hj
                rw [if_neg (by omega), if_neg (by omega)]
                obtain ⟨z, z1, z2, z3⟩ := hrc j u hj
                exact ⟨z, by simpa using z1, z2, repO_and z3⟩
        · rw [if_neg hii] at hr'
          obtain ⟨k1, k2⟩ := g5 i' r' hr'
          refine ⟨k1, fun j u hj => ?_⟩
          obtain ⟨z, z1, z2, z3⟩ := k2 j u hj
          refine ⟨z, ?_, z2, repO_and z3⟩
          have hjs : j < s := by have := (List.getElem?_eq_some_iff.1 hj).1; omega
          rw [hc'get]
          rcases Nat.lt_or_gt_of_ne hii with hlt | hgt
          · have := Nat.mul_le_mul_right s (show i + 1 ≤ i' from hlt)
            rw [Nat.add_mul, Nat.one_mul] at this
            rw [if_neg (by omega), if_neg (by omega)]; exact z1
          · have := Nat.mul_le_mul_right s (show i' + 1 ≤ i from hgt)
            rw [Nat.add_mul, Nat.one_mul] at this
            rw [if_pos (by omega)]; exact z1)
    refine ⟨_, _, ?_, hK, hset.1, hset.2, fun b' y hb' htc => ?_⟩
    · simp only [Instr.storeAt, Instr.sureAddr, storeVar, sizeOf, typeInfo]
      simp [hi, hvl, hl]
      simpa [c'] using hrun
    · refine setRow_other w r _ c' (fun heq => ht b i off rfl b' htc ?_)
      obtain ⟨r', s', n'⟩ := y
      exact hk.inj b' b r' s' n' s n hb' (by simp at heq; rw [heq]; exact hat)
  · exact hh.elim
end
end Go.Proofs.Ytmdimnmdoifkfaa.Clean
