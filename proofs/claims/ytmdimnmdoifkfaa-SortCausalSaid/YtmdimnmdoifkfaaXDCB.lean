/- Soundness: operations that make a block, wherever they come. Nothing here speaks of the program. -/
import Derived.Test.YtmdimnmdoifkfaaXDCK
namespace Go.Proofs.Ytmdimnmdoifkfaa.Clean
set_option linter.unusedSimpArgs false
set_option linter.unusedVariables false

section
variable {F : Nat → Prop} {w : World} {ν : Nu} {h : Hp}

/-- What an operation that makes a block yields, in every world. -/
def AllocOf (P : Program) (F : Nat → Prop) (ν : Nu) (w : World) (h : Hp) (c : Sem Next) (k : V → Hp → Prop) : Prop :=
  ∃ (cs : Array Value) (e : TypeId) (s : Nat) (p : Bool) (es : List (List V)) (X : Nat → Value) (Y : Nat → V),
    (∀ w' : World, c.run P w' = .ok (.value (X w'.heap.size)) { w' with heap := w'.heap.push (.cells cs e) }) ∧ es.length * s ≤ cs.size ∧ rowsC (repO F w ν p) cs s es 0 ∧ k (Y h.nxt) (h.add (.rows s p es)) ∧
    ∀ (ν' : Nu) (F' : Nat → Prop) (w' : World) (b r : Nat), b < ν'.nxt → ν'.ph (.p b) = false → (∀ x, ν'.at_ (.p b) = some x → x = (r, s, es.length)) → w'.heap[r]? = some (.cells cs e (0, 0)) → rep F' w' ν' (Y b) (X r)

theorem rep_ptr0 {b r s n : Nat} (hb : b < ν.nxt) (hp : ν.ph (.p b) = false) (hat : ∀ x, ν.at_ (.p b) = some x → x = (r, s, n)) : rep F w ν (.ptr (.p b) 0 0) (.pointer (some ⟨r, 0, none⟩)) := by
  simp only [rep]
  refine ⟨⟨hb, hp⟩, fun r1 s1 n1 h1 => ?_⟩
  have := hat _ h1
  simp at this
  obtain ⟨rfl, rfl, rfl⟩ := this
  simp
theorem rep_sl0 {b r s n len cap : Nat} {c : Array Value} {e : TypeId} (hb : b < ν.nxt) (hp : ν.ph (.p b) = false) (hat : ∀ x, ν.at_ (.p b) = some x → x = (r, s, n)) (hl : len ≤ n) (hlc : len ≤ cap) (hc : w.heap[r]? = some (.cells c e (0, 0))) (hs : cap * s ≤ c.size) :
    rep F w ν (.sl (.p b) 0 len) (.slice (some ⟨r, 0, none⟩) len cap) := by
  simp only [rep]
  refine ⟨⟨hb, fun hq => by rw [hp] at hq; cases hq⟩, fun r1 s1 n1 h1 => ?_⟩
  have := hat _ h1
  simp at this
  obtain ⟨rfl, rfl, rfl⟩ := this
  exact ⟨by omega, cap, hlc, by simp, c, e, (0, 0), hc, by simpa using hs⟩

theorem alloc_row {P : Program} (hk : HeapOK ν F h w) {cs : List V} {x : Array Value} {t : TypeId} {k : V → Hp → Prop} (hr : repL F w ν cs x.toList) (ho : allOne h cs = true)
    (hK : k (.ptr (.p h.nxt) 0 0) (h.add (.rows cs.length false [cs]))) {c : Sem Next} (hc : ∀ w' : World, c.run P w' = .ok (.value (.pointer (some ⟨w'.heap.size, 0, none⟩))) { w' with heap := w'.heap.push (.cells x t) }) :
    AllocOf P F ν w h c k := by
  have hl := repL_length hr
  exact ⟨x, t, cs.length, false, [cs], fun r => .pointer (some ⟨r, 0, none⟩), fun b => .ptr (.p b) 0 0, hc, by simp at hl ⊢; omega, rowsC_one (cellsC_of_repL hk hr ho), hK, fun ν' F' w' b r hb hp hat _ => rep_ptr0 hb hp hat⟩

theorem alloc_op {P : Program} {C : Calling} {o : Oper} {ρV : Operand → V} {ρ : Operand → Value} (hρ : ∀ x, rep F w ν (ρV x) (ρ x)) (hk : HeapOK ν F h w) {k : V → Hp → Prop} (ha : allocOp o.op = true) (hh : wop P C ρV h o.type o.op k) :
    AllocOf P F ν w h (execOp ρ o) k := by
  obtain ⟨dst, op, type, pos, after, guard⟩ := o
  cases op <;> simp only [allocOp, Bool.false_eq_true] at ha <;> simp only [wop] at hh <;> simp only [execOp]
  case alloc t =>
    simp only [onSome_iff, guardB_iff, zeroRow, Option.bind_eq_some_iff] at hh
    obtain ⟨inf, hi, cs, ⟨z, hz, hcs⟩, ho, hK⟩ := hh
    exact alloc_row hk (x := z.cells) (t := t) (riL_repL _ _ (ofValue_cells hcs ho).1) ho hK (fun w' => by simp [Instr.alloc, zeroValue, typeInfo, hi, hz, newVar, newRow_run])
  case box t x =>
    simp only [onSome_iff, guardB_iff] at hh
    obtain ⟨cs, hcs, ho, hK⟩ := hh
    exact alloc_row hk (x := (ρ x).cells) (t := t) (rep_cells (hρ x) hcs hk ho) ho hK (fun w' => by simp [Instr.box, newVar, newRow_run])
  case buildSlice t len parts =>
    unfold wBuildSlice at hh
    rw [onSome_iff] at hh
    obtain ⟨d, hd, hh⟩ := hh
    split at hh
    · rename_i e
      simp only [onSome_iff, guardB_iff, Bool.and_eq_true, zeroRow, Option.bind_eq_some_iff] at hh
      obtain ⟨inf, hi, z, ⟨x, hx, hz⟩, ⟨⟨hl, ho⟩, hle⟩, hf⟩ := hh
      have hl := beq_eq hl
      have hle := Nat.le_of_ble_eq_true hle
      obtain ⟨hzc, hzs⟩ := ofValue_cells (F := F) (w := w) hz ho
      have h0 := zero_rows hzc hzs (one_of_all hk hzc ho hzs) len (if len * z.length = 0 then #[] else x.cells) (fun hne => by rw [if_neg hne])
      obtain ⟨es', c', q1, q2, q3, q4, q5⟩ := fill_rows hρ hk (p := partsClosed (parts.toList.map fun p => (p.1, ρV p.2))) (s := z.length) parts.toList _ _ (rowsC_ri h0) (by simp) (by rw [hl]; exact hf)
      have hlen : es'.length = len := by rw [q5]; simp
      refine ⟨c', e, inf.size, _, es', fun r => .slice (some ⟨r, 0, none⟩) len len, fun b => .sl (.p b) 0 len, fun w' => ?_, by rw [← hl]; omega, by rw [← hl]; exact q3, q1, fun ν' F' w' b r hb hp hat hc => rep_sl0 hb hp hat (by omega) (Nat.le_refl _) hc (by rw [q4, hlen, ← hl]; simp)⟩
      have hmul : ¬ (16777216 < len * inf.size) := by omega
      have hq2 := q2
      rw [hl] at hq2
      by_cases hz0 : len * inf.size = 0
      · simp only [hz0, if_true] at hq2
        simp [Instr.buildSlice, run_underlying hd, sizeOf, typeInfo, hi, hz0, hmul]
        simp at hq2
        rw [hq2]
        simp [newRow_run]
      · simp only [hz0, if_false] at hq2
        simp [Instr.buildSlice, run_underlying hd, sizeOf, typeInfo, zeroValue, hi, hx, hz0, hmul]
        rw [hq2]
        simp [newRow_run]
    · exact hh.elim
  case makeSlice t l c =>
    have hl := hρ l
    have hc := hρ c
    unfold wMakeSlice at hh
    split at hh
    · rename_i kl l' kc c' hlv hcv
      rw [hlv] at hl
      rw [hcv] at hc
      simp only [rep] at hl hc
      simp only [onNat_iff, onSome_iff] at hh
      obtain ⟨n, rfl, m, rfl, d, hd, hh⟩ := hh
      split at hh
      · rename_i e
        simp only [onSome_iff, guardB_iff, need_iff, Bool.and_eq_true, zeroRow, Option.bind_eq_some_iff] at hh
        obtain ⟨inf, hi, z, ⟨x, hx, hz⟩, ⟨hzl, ho⟩, hnm, hby, h63, hK⟩ := hh
        have hzl := beq_eq hzl
        obtain ⟨hzc, hzs⟩ := ofValue_cells (F := F) (w := w) hz ho
        have hby' : (inf.bytes : Int) * (m : Int) ≤ 281474976710656 := by
          have h1 : ((inf.bytes * m : Nat) : Int) ≤ 281474976710656 := by omega
          rwa [Int.natCast_mul] at h1
        have h0 := zero_rows hzc hzs (one_of_all hk hzc ho hzs) m x.cells (fun _ => rfl)
        have h1 : rowsC (repO F w ν (flatZ z)) (madeCells x.cells (m * inf.size)) inf.size (List.replicate n z) 0 := by
          rw [hzl] at h0
          rw [rowsC_iff] at h0 ⊢
          intro i row hrow
          rw [List.getElem?_replicate] at hrow
          split at hrow
          · obtain ⟨ha, hb⟩ := h0 i row (by rw [List.getElem?_replicate, if_pos (by omega)]; exact hrow)
            exact ⟨ha, fun j v hj => by obtain ⟨y, hy, h1, hr⟩ := hb j v hj; exact ⟨y, hy, h1, repO_ri hr⟩⟩
          · simp at hrow
        refine ⟨madeCells x.cells (m * inf.size), e, inf.size, flatZ z, List.replicate n z, fun r => .slice (some ⟨r, 0, none⟩) n m, fun b => .sl (.p b) 0 n, fun w' => ?_, by rw [size_madeCells, List.length_replicate]; exact Nat.mul_le_mul_right _ hnm, h1, hK,
          fun ν' F' w' b r hb hp hat hc => rep_sl0 hb hp hat (by simp) hnm hc (by rw [size_madeCells]; exact Nat.le_refl _)⟩
        have hrun := run_make (P := P) w' t e inf x hd hi hx kl kc n m (by omega) (by omega) hby' (by omega)
        simp only [Int.toNat_natCast] at hrun
        rw [hl, hc]
        simp only [Sem.run_bind, hrun, Result.andThen_ok, Sem.run_pure]
        rfl
      · exact hh.elim
    · exact hh.elim

/-! a block that is there already becomes the state's own -/
mutual
theorem rep_add {r s n : Nat} : ∀ (v : V) (x : Value), rep F w ν v x → rep F w (ν.add r s n) v x
  | .raw v, x, h => by simp only [rep] at h ⊢; exact h
  | .ptr b i off, x, hr => by
    simp only [rep] at hr ⊢
    refine ⟨⟨Id.lt_le hr.1.1 (Nat.le_succ _), by simp only [Nu.add]; rw [if_neg (Id.ne_new hr.1.1)]; exact hr.1.2⟩, fun r' s' n' hb => hr.2 r' s' n' ?_⟩
    simp only [Nu.add] at hb
    rwa [if_neg (Id.ne_new hr.1.1)] at hb
  | .mp b, x, hr => by
    simp only [rep] at hr ⊢
    refine ⟨Id.lt_le hr.1 (Nat.le_succ _), fun r' s' n' hb => hr.2 r' s' n' ?_⟩
    simp only [Nu.add] at hb
    rwa [if_neg (Id.ne_new hr.1)] at hb
  | .yl b, x, hr => by
    simp only [rep] at hr ⊢
    refine ⟨Id.lt_le hr.1 (Nat.le_succ _), fun r' s' n' hb => hr.2 r' s' n' ?_⟩
    simp only [Nu.add] at hb
    rwa [if_neg (Id.ne_new hr.1)] at hb
  | .sla b i off len, x, hr => by
    simp only [rep] at hr ⊢
    refine ⟨⟨Id.lt_le hr.1.1 (Nat.le_succ _), by simp only [Nu.add]; rw [if_neg (Id.ne_new hr.1.1)]; exact hr.1.2⟩, fun r' s' n' hb => hr.2 r' s' n' ?_⟩
    simp only [Nu.add] at hb
    rwa [if_neg (Id.ne_new hr.1.1)] at hb
  | .sl b lo len, x, hr => by
    simp only [rep] at hr ⊢
    refine ⟨⟨Id.lt_le hr.1.1 (Nat.le_succ _), fun hq => hr.1.2 (by simp only [Nu.add] at hq; rwa [if_neg (Id.ne_new hr.1.1)] at hq)⟩, fun r' s' n' hb => hr.2 r' s' n' ?_⟩
    simp only [Nu.add] at hb
    rwa [if_neg (Id.ne_new hr.1.1)] at hb
  | .lst s es, x, hr => by simp only [rep] at hr ⊢; exact hr
  | .lsx s es, x, hr => by simp only [rep] at hr ⊢; exact hr
  | .adr cs off, x, hr => by simp only [rep] at hr ⊢; exact hr
  | .agg cs, x, hr => by
    simp only [rep] at hr ⊢
    obtain ⟨vs, h1, h2⟩ := hr
    exact ⟨vs, h1, repL_add cs _ h2⟩
  | .tup cs, x, hr => by
    simp only [rep] at hr ⊢
    obtain ⟨vs, h1, h2⟩ := hr
    exact ⟨vs, h1, repL_add cs _ h2⟩
  | .fn f a c, x, hr => by
    simp only [rep] at hr ⊢
    obtain ⟨as, cs, h1, h2, h3⟩ := hr
    exact ⟨as, cs, h1, repL_add a _ h2, repL_add c _ h3⟩
  | .junk, _, _ => by simp only [rep]
theorem repL_add {r s n : Nat} : ∀ (vs : List V) (xs : List Value), repL F w ν vs xs → repL F w (ν.add r s n) vs xs
  | [], xs, hr => by simp only [repL] at hr ⊢; exact hr
  | v :: vs, xs, hr => by
    simp only [repL] at hr ⊢
    obtain ⟨x, ys, h1, h2, h3⟩ := hr
    exact ⟨x, ys, h1, rep_add v x h2, repL_add vs ys h3⟩
end
theorem rowsC_add {r s' n : Nat} {p : Bool} {c : Array Value} {s o : Nat} {es : List (List V)} (h1 : rowsC (repO F w ν p) c s es o) : rowsC (repO F w (ν.add r s' n) p) c s es o := by
  rw [rowsC_iff] at h1 ⊢
  intro i row hrow
  obtain ⟨g1, g2⟩ := h1 i row hrow
  refine ⟨g1, fun j v hj => ?_⟩
  obtain ⟨x, g3, g4, g5⟩ := g2 j v hj
  refine ⟨x, g3, g4, ?_⟩
  unfold repO at g5 ⊢
  cases p
  · exact rep_add v x g5
  · exact g5
theorem obl_add {r0 s0 n0 r s n : Nat} {o : O} (ho : Obl F w ν r s n o) : Obl F w (ν.add r0 s0 n0) r s n o := by
  cases o with
  | rows s' p es =>
    obtain ⟨h1, h2, c, el, h3, h4, h5⟩ := ho
    exact ⟨h1, h2, c, el, h3, h4, rowsC_add h5⟩
  | lp q =>
    obtain ⟨rec, h1, h2⟩ := ho
    exact ⟨rec, h1, h2.mono rep_add⟩
  | it x m seen =>
    obtain ⟨mr, h1, h2⟩ := ho
    exact ⟨mr, h1, rep_add _ _ h2⟩
  | mp es =>
    obtain ⟨ents, h1, h2, h3⟩ := ho
    exact ⟨ents, h1, h2, fun i kv hi => let ⟨e, g1, g2, g3, g4⟩ := h3 i kv hi; ⟨e, g1, g2, rep_add _ _ g3, rep_add _ _ g4⟩⟩
theorem heap_adopt (k : HeapOK ν F h w) {p : Bool} {s : Nat} {es : List (List V)} {c : Array Value} {el : TypeId} {r : Nat} (hc : w.heap[r]? = some (.cells c el (0, 0))) (hno : ¬ν.own r) (hnf : ¬F r) (hn : es.length * s ≤ c.size)
    (hr : rowsC (repO F w ν p) c s es 0) : HeapOK (ν.add r s es.length) F (h.add (.rows s p es)) w := by
  refine ⟨?_, ?_, ?_, ?_, by simp only [Nu.add, Hp.add, k.nxt], k.cnt⟩
  · intro b r' s' n' hb
    simp only [Nu.add] at hb
    rw [Hp.get_add, ← k.nxt]
    by_cases hb0 : b = .p ν.nxt
    · rw [if_pos hb0] at hb
      simp at hb
      obtain ⟨rfl, rfl, rfl⟩ := hb
      exact ⟨.rows s p es, by rw [if_pos hb0], rfl, rfl, c, el, hc, hn, rowsC_add hr⟩
    · rw [if_neg hb0] at hb
      obtain ⟨o, g1, g2⟩ := k.blk b r' s' n' hb
      exact ⟨o, by rw [if_neg hb0]; exact g1, obl_add g2⟩
  · intro b o hb
    rw [Hp.get_add, ← k.nxt] at hb
    simp only [Nu.add]
    by_cases hb0 : b = .p ν.nxt
    · exact .inl ⟨_, by rw [if_pos hb0]⟩
    · rw [if_neg hb0] at hb ⊢; rw [if_neg hb0]; exact k.dom b o hb
  · intro b b' r' s1 n1 s2 n2 h1 h2
    simp only [Nu.add] at h1 h2
    by_cases hb0 : b = .p ν.nxt
    · by_cases hb1 : b' = .p ν.nxt
      · rw [hb0, hb1]
      · rw [if_pos hb0] at h1; rw [if_neg hb1] at h2; simp at h1; rw [← h1.1] at h2; exact (hno ⟨_, _, _, h2⟩).elim
    · by_cases hb1 : b' = .p ν.nxt
      · rw [if_neg hb0] at h1; rw [if_pos hb1] at h2; simp at h2; rw [← h2.1] at h1; exact (hno ⟨_, _, _, h1⟩).elim
      · rw [if_neg hb0] at h1; rw [if_neg hb1] at h2; exact k.inj b b' r' s1 n1 s2 n2 h1 h2
  · intro r' hr'
    refine ⟨(k.frz r' hr').1, ?_⟩
    rintro ⟨b, s', n', hb⟩
    simp only [Nu.add] at hb
    by_cases hb0 : b = .p ν.nxt
    · rw [if_pos hb0] at hb; simp at hb; exact hnf (hb.1 ▸ hr')
    · rw [if_neg hb0] at hb; exact (k.frz r' hr').2 ⟨b, s', n', hb⟩

theorem own_add {r s n r' : Nat} (h1 : ¬ν.own r') (h2 : r' ≠ r) : ¬(ν.add r s n).own r' := by
  rintro ⟨b, s', n', hb⟩
  simp only [Nu.add] at hb
  by_cases hb0 : b = .p ν.nxt
  · rw [if_pos hb0] at hb; simp at hb; exact h2 hb.1.symm
  · rw [if_neg hb0] at hb; exact h1 ⟨b, s', n', hb⟩

theorem evoU_adopt {U : Id → Bool} {ν0 : Nu} {F0 : Nat → Prop} {w0 : World} {r s n : Nat} (he : EvoU U ν0 F0 w0 ν F w) (hr : w0.heap.size ≤ r) : EvoU U ν0 F0 w0 (ν.add r s n) F w := by
  obtain ⟨e, hu⟩ := he
  have hat : ∀ b x, b.lt ν0.nxt ν0.cnt → (ν.add r s n).at_ b = some x → ν.at_ b = some x := fun b x hb hx => by
    simp only [Nu.add] at hx
    rwa [if_neg (Id.ne_new (e.lt hb))] at hx
  refine ⟨⟨e.os, e.tape, e.output, e.size, e.old, e.fmono, e.fnew, ?_, fun b x hb hx => e.keep b x hb (hat b x hb hx), Nat.le_trans e.nxt (by simp [Nu.add]), e.cnt, fun b hb hx => e.kph b hb (by
    simp only [Nu.add] at hx
    rwa [if_neg (Id.ne_new (e.lt hb))] at hx), fun b r s n hb hb' => e.len b r s n hb (hat b _ (ν0.lt b _ hb) hb')⟩,
    fun b y hy hb => ⟨(hu b y hy hb).1, Nu.add_old (hu b y hy hb).2⟩⟩
  rintro r' ⟨b, s', n', hb⟩
  simp only [Nu.add] at hb
  by_cases hb0 : b = .p ν.nxt
  · rw [if_pos hb0] at hb; simp at hb; exact .inr (hb.1 ▸ hr)
  · rw [if_neg hb0] at hb; exact e.onew r' ⟨b, s', n', hb⟩

theorem heap_grow {w' : World} (k : HeapOK ν F h w) (o : Obj) (hw : w' = { w with heap := w.heap.push o }) : HeapOK ν F h w' ∧ Evo ν F w ν F w' := by
  have hpush : ∀ r, r < w.heap.size → w'.heap[r]? = w.heap[r]? := fun r hlt => by
    subst hw; show (w.heap.push _)[r]? = _; rw [Array.getElem?_push, if_neg (by omega)]
  have hsize : w'.heap.size = w.heap.size + 1 := by subst hw; simp
  have e : Evo ν F w ν F w' := ⟨by rw [hw], by rw [hw], by rw [hw], by omega, fun r hlt _ => hpush r hlt, fun _ h => h, fun _ h => .inl h, fun _ h => .inl h, fun _ _ _ h => h, Nat.le_refl _, fun _ => Nat.le_refl _, fun _ _ h => h,
    fun b r s n hb _ c e fr hc => ⟨c, by rw [hpush r (lt_of_some hc)]; exact hc, rfl⟩⟩
  refine ⟨⟨fun b r s n hb => ?_, k.dom, k.inj, fun r hr => ⟨by have := (k.frz r hr).1; omega, (k.frz r hr).2⟩, k.nxt, k.cnt⟩, e⟩
  obtain ⟨o, g1, g2⟩ := k.blk b r s n hb
  exact ⟨o, g1, obl_evo k e (hpush r (k.at_lt hb)) g2⟩
end
end Go.Proofs.Ytmdimnmdoifkfaa.Clean
