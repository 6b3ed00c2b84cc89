/- Soundness: regions that draw their order. Nothing here speaks of the program. -/
import Derived.Test.YtdjibbbeegpjpaaXCK
namespace Go.Proofs.Ytdjibbbeegpjpaa.Clean
set_option linter.unusedSimpArgs false
set_option linter.unusedVariables false

section
variable {P : Program} {ops : Array Oper} {Q : Exit → Act → World → Prop} {md : Region.Mode}

/-- Whatever order is picked, and S holds behind every operation that is carried out: S may ask which have been. -/
def wpAnyS (P : Program) (md : Region.Mode) (ops : Array Oper) (Q : Exit → Act → World → Prop) (S : Array Bool → World → Prop) : Nat → Array Bool → Act → World → Prop
  | 0, listed, a, w => Region.ready md ops listed = [] ∧ Q .normal a w
  | fuel + 1, listed, a, w => (Region.ready md ops listed = [] → Q .normal a w) ∧
      ∀ i ∈ Region.ready md ops listed, wpOp P ops Q i (fun a' w' => S (listed.setIfInBounds i true) w' ∧ wpAnyS P md ops Q S fuel (listed.setIfInBounds i true) a' w') a w

theorem wpAny_of_S {S : Array Bool → World → Prop} : ∀ (fuel : Nat) (listed : Array Bool) (a : Act) (w : World), wpAnyS P md ops Q S fuel listed a w → wpAny P md ops Q fuel listed a w
  | 0, _, _, _, h => h
  | fuel + 1, _, _, _, h => ⟨h.1, fun i hi => wpOp_mono (fun a' w' h' => wpAny_of_S fuel _ a' w' h'.2) (h.2 i hi)⟩
theorem wpAnyS_mono {S S' : Array Bool → World → Prop} (hS : ∀ l w, S l w → S' l w) : ∀ (fuel : Nat) (listed : Array Bool) (a : Act) (w : World), wpAnyS P md ops Q S fuel listed a w → wpAnyS P md ops Q S' fuel listed a w
  | 0, _, _, _, h => h
  | fuel + 1, _, _, _, h => ⟨h.1, fun i hi => wpOp_mono (fun a' w' h' => ⟨hS _ _ h'.1, wpAnyS_mono hS fuel _ a' w' h'.2⟩) (h.2 i hi)⟩

/-- What has been carried out has not overtaken what it waits for. -/
def ClosedL (md : Region.Mode) (ops : Array Oper) (listed : Array Bool) : Prop :=
  ∀ (j : Nat) oj, ops[j]? = some oj → listed.getD j false = true → ∀ e ∈ oj.after, Region.binds md e = true → listed.getD e.on false = true

theorem ClosedL.step {listed : Array Bool} {i : Nat} (hc : ClosedL md ops listed) (hi : i ∈ Region.ready md ops listed) : ClosedL md ops (listed.setIfInBounds i true) := by
  intro j oj hj hl e he hb
  obtain ⟨h0, oi, hoi, hall⟩ := mem_ready.1 hi
  by_cases hij : i = j
  · subst hij
    rw [hoi] at hj
    simp at hj
    subst hj
    exact getD_set_true (hall e he hb)
  · rw [getD_set_ne false hij] at hl
    exact getD_set_true (hc j oj hj hl e he hb)

/-- An operation that yields its value wherever φ holds may be taken first. -/
theorem wpAnyS_first {S : Array Bool → World → Prop} {i : Nat} {oi : Oper} {v : Value} {φ : World → Prop} (hi : ops[i]? = some oi) (hsel : ∀ (j : Nat) (o : Oper) cs b, ops[j]? = some o → o.op ≠ .select cs b)
    (hQ : ∀ c a w, Q (.panic c) (a.put oi.dst v) w → Q (.panic c) a w)
    (hSi : ∀ listed w, S (listed.setIfInBounds i true) w ↔ S listed w)
    (hφ : ∀ listed w, S listed w → ClosedL md ops listed → listed.getD i true = false → φ w) :
    ∀ (fuel : Nat) (listed : Array Bool) (a : Act) (w : World),
      (∀ j oj, ops[j]? = some oj → j ≠ i → listed.getD j true = false → (∀ e ∈ oj.after, Region.binds md e = true → e.on ≠ i) → oi.apart ops oj = true) →
      i ∈ Region.ready md ops listed → ClosedL md ops listed → YieldsIf P ops φ oi v a → S listed w →
      wpAnyS P md ops Q S fuel (listed.setIfInBounds i true) (a.put oi.dst v) w → wpAnyS P md ops Q S (fuel + 1) listed a w := by
  intro fuel
  induction fuel with
  | zero =>
    intro listed a w _ hr hc hy hS H
    refine ⟨fun h => (by rw [h] at hr; cases hr), fun j hj => ?_⟩
    have hφw := hφ listed w hS hc (mem_ready.1 hr).1
    by_cases hji : j = i
    · subst hji
      exact hy.wpOp hi hφw ⟨(hSi _ _).2 hS, H⟩
    · have := ready_mono hj hji
      rw [H.1] at this
      cases this
  | succ fuel ih =>
    intro listed a w hfree hr hc hy hS H
    refine ⟨fun h => (by rw [h] at hr; cases hr), fun j hj => ?_⟩
    have hφw := hφ listed w hS hc (mem_ready.1 hr).1
    by_cases hji : j = i
    · subst hji
      exact hy.wpOp hi hφw ⟨(hSi _ _).2 hS, H⟩
    · have h1 := H.2 j (ready_mono hj hji)
      obtain ⟨hjun, oj, hoj, hall⟩ := mem_ready.1 hj
      have hnot : ∀ e ∈ oj.after, Region.binds md e = true → e.on ≠ i := fun e he hb heq => by
        have h1 := hall e he hb
        have h0 := (mem_ready.1 hr).1
        rw [heq] at h1
        rcases Nat.lt_or_ge i listed.size with h' | h'
        · simp [h'] at h0 h1; rw [h0] at h1; cases h1
        · simp [Array.getElem?_eq_none h'] at h1
      have h2 := wpOp_putIf hoj (hfree j oj hoj hji hjun hnot) (fun cs b => hsel i oi cs b hi) (fun cs b => hsel j oj cs b hoj) hQ hy h1
      have hfree' : ∀ k ok, ops[k]? = some ok → k ≠ i → (listed.setIfInBounds j true).getD k true = false →
          (∀ e ∈ ok.after, Region.binds md e = true → e.on ≠ i) → oi.apart ops ok = true := fun k ok hk hki hun hno => by
        refine hfree k ok hk hki ?_ hno
        by_cases hjk : j = k
        · subst hjk; exact hjun
        · rw [getD_set_ne true hjk] at hun; exact hun
      refine wpOp_mono (fun a' w' h3 => ?_) h2
      obtain ⟨hy', hS', hK⟩ := h3
      rw [Array.setIfInBounds_comm _ _ (Ne.symm hji)] at hS' hK
      have hS'' := (hSi _ _).1 hS'
      exact ⟨hS'', ih (listed.setIfInBounds j true) a' w' hfree' (ready_mono hr (Ne.symm hji)) (hc.step hj) hy' hS'' hK⟩
end

/-! masks -/
theorem testBit_or_pow (m i t : Nat) : (m ||| 2 ^ i).testBit t = (m.testBit t || decide (i = t)) := by
  rw [Nat.testBit_or, Nat.testBit_two_pow]

theorem onMask_bit (o : Oper) (t : Nat) : (onMask o).testBit t = true ↔ ∃ e ∈ o.after, Region.binds .any e = true ∧ e.on = t := by
  have key : ∀ (l : List Edge) (m : Nat), (l.foldl (fun m e => bif Region.binds .any e then m ||| 2 ^ e.on else m) m).testBit t = true ↔ m.testBit t = true ∨ ∃ e ∈ l, Region.binds .any e = true ∧ e.on = t := by
    intro l
    induction l with
    | nil => intro m; simp
    | cons e l ih =>
      intro m
      rw [List.foldl_cons, ih]
      cases hb : Region.binds .any e
      · simp [hb]
      · simp only [cond_true, testBit_or_pow, Bool.or_eq_true, decide_eq_true_eq, List.mem_cons, exists_eq_or_imp, hb, true_and]
        constructor
        · rintro ((h | h) | h)
          · exact .inl h
          · exact .inr (.inl h)
          · exact .inr (.inr h)
        · rintro (h | h | h)
          · exact .inl (.inl h)
          · exact .inl (.inr h)
          · exact .inr h
  unfold onMask
  rw [key]
  simp

theorem befMask_bit (acc : List Nat) (o : Oper) (t : Nat) (h : (befMask acc o).testBit t = true) : ∃ e ∈ o.after, Region.binds .any e = true ∧ (e.on = t ∨ (acc.getD e.on 0).testBit t = true) := by
  have key : ∀ (l : List Edge) (m : Nat), (l.foldl (fun m e => bif Region.binds .any e then m ||| 2 ^ e.on ||| acc.getD e.on 0 else m) m).testBit t = true →
      m.testBit t = true ∨ ∃ e ∈ l, Region.binds .any e = true ∧ (e.on = t ∨ (acc.getD e.on 0).testBit t = true) := by
    intro l
    induction l with
    | nil => intro m h; exact .inl h
    | cons e l ih =>
      intro m h
      rw [List.foldl_cons] at h
      rcases ih _ h with h | ⟨e', he', hb, h⟩
      · cases hb : Region.binds .any e
        · simp [hb] at h; exact .inl h
        · simp only [hb, cond_true, Nat.testBit_or, Bool.or_eq_true, Nat.testBit_two_pow, decide_eq_true_eq] at h
          rcases h with (h | h) | h
          · exact .inl h
          · exact .inr ⟨e, by simp, hb, .inl h⟩
          · exact .inr ⟨e, by simp, hb, .inr h⟩
      · exact .inr ⟨e', by simp [he'], hb, h⟩
  unfold befMask at h
  rcases key _ _ h with h | ⟨e, he, h⟩
  · simp at h
  · exact ⟨e, by simpa using he, h⟩

theorem befs_fold : ∀ (l : List Oper) (acc : List Nat),
    (l.foldl (fun acc o => acc ++ [befMask acc o]) acc).length = acc.length + l.length ∧
    (∀ k, k < acc.length → (l.foldl (fun acc o => acc ++ [befMask acc o]) acc).getD k 0 = acc.getD k 0) ∧
    ∀ k o, l[k]? = some o → ∃ pre : List Nat, pre.length = acc.length + k ∧ (∀ t, t < pre.length → pre.getD t 0 = (l.foldl (fun acc o => acc ++ [befMask acc o]) acc).getD t 0) ∧
      (l.foldl (fun acc o => acc ++ [befMask acc o]) acc).getD (acc.length + k) 0 = befMask pre o
  | [], acc => by simp
  | o :: l, acc => by
    obtain ⟨h1, h2, h3⟩ := befs_fold l (acc ++ [befMask acc o])
    simp only [List.foldl_cons]
    refine ⟨by rw [h1]; simp; omega, fun k hk => ?_, fun k o' ho' => ?_⟩
    · rw [h2 k (by simp; omega)]
      simp [List.getD, List.getElem?_append_left hk]
    · cases k with
      | zero =>
        simp at ho'
        subst ho'
        refine ⟨acc, by simp, fun t ht => ?_, ?_⟩
        · rw [h2 t (by simp; omega)]
          simp [List.getD, List.getElem?_append_left ht]
        · rw [h2 _ (by simp)]
          simp [List.getD]
      | succ k =>
        obtain ⟨pre, p1, p2, p3⟩ := h3 k o' (by simpa using ho')
        refine ⟨pre, by rw [p1]; simp; omega, p2, ?_⟩
        rw [← p3]
        congr 1
        simp
        omega

theorem befs_bit {ops : Array Oper} {j : Nat} {oj : Oper} (hj : ops[j]? = some oj) {t : Nat} (h : ((befsOf ops.toList).getD j 0).testBit t = true) :
    ∃ e ∈ oj.after, Region.binds .any e = true ∧ (e.on = t ∨ (e.on < j ∧ ((befsOf ops.toList).getD e.on 0).testBit t = true)) := by
  obtain ⟨_, _, h3⟩ := befs_fold ops.toList []
  obtain ⟨pre, p1, p2, p3⟩ := h3 j oj (by simpa using hj)
  simp only [List.length_nil, Nat.zero_add] at p1 p3
  unfold befsOf at h ⊢
  rw [p3] at h
  obtain ⟨e, he, hb, hh⟩ := befMask_bit pre oj t h
  refine ⟨e, he, hb, ?_⟩
  rcases hh with hh | hh
  · exact .inl hh
  · by_cases hlt : e.on < pre.length
    · rw [p2 _ hlt] at hh
      exact .inr ⟨by omega, hh⟩
    · simp [List.getD, List.getElem?_eq_none (Nat.le_of_not_lt hlt)] at hh

theorem bef_listed {ops : Array Oper} {listed : Array Bool} (hs : listed.size = ops.size) (hc : ClosedL .any ops listed) : ∀ (n j : Nat), j < n → listed.getD j false = true → ∀ t, ((befsOf ops.toList).getD j 0).testBit t = true → listed.getD t false = true
  | 0, j, hj, _, _, _ => by omega
  | n + 1, j, hj, hl, t, ht => by
    have hlt : j < ops.size := by
      rw [← hs]
      rcases Nat.lt_or_ge j listed.size with h | h
      · exact h
      · simp [Array.getElem?_eq_none h] at hl
    obtain ⟨e, he, hb, h⟩ := befs_bit (Array.getElem?_eq_getElem hlt) ht
    have hle := hc j _ (Array.getElem?_eq_getElem hlt) hl e he hb
    rcases h with rfl | ⟨hlt', h⟩
    · exact hle
    · exact bef_listed hs hc n e.on (by omega) hle t h

def Rel (ops : Array Oper) (m : Nat) (listed : Array Bool) : Prop := listed.size = ops.size ∧ ∀ j, listed.getD j false = m.testBit j

theorem Rel.step {ops : Array Oper} {m i : Nat} {listed : Array Bool} (h : Rel ops m listed) (hi : i < ops.size) : Rel ops (m ||| 2 ^ i) (listed.setIfInBounds i true) := by
  refine ⟨by simp [h.1], fun j => ?_⟩
  rw [testBit_or_pow, ← h.2 j]
  by_cases hij : i = j
  · subst hij
    have : i < listed.size := by rw [h.1]; exact hi
    simp [this]
  · rw [getD_set_ne false hij]; simp [hij]

theorem isReady_iff {ops : Array Oper} {m : Nat} {listed : Array Bool} (h : Rel ops m listed) {i : Nat} {o : Oper} (hi : ops[i]? = some o) : isReady m i (onMask o) = true ↔ i ∈ Region.ready .any ops listed := by
  have hlt : i < listed.size := by rw [h.1]; exact lt_of_some hi
  rw [mem_ready]
  simp only [isReady, Bool.and_eq_true, Bool.not_eq_true', hi, Option.some.injEq, exists_eq_left']
  have h1 : listed.getD i true = listed.getD i false := by simp [hlt]
  rw [h1, ← h.2 i]
  refine and_congr_right fun _ => ?_
  constructor
  · intro hb e he hbd
    have := beq_eq hb
    rw [h.2, ← Bool.and_true (m.testBit e.on)]
    have hon : (onMask o).testBit e.on = true := (onMask_bit o e.on).2 ⟨e, he, hbd, rfl⟩
    have := congrArg (fun x => x.testBit e.on) this
    simp only [Nat.testBit_and, hon, Bool.true_and] at this
    simp [this]
  · intro hall
    have : onMask o &&& m = onMask o := by
      apply Nat.eq_of_testBit_eq
      intro t
      rw [Nat.testBit_and]
      cases ho : (onMask o).testBit t
      · simp
      · obtain ⟨e, he, hbd, rfl⟩ := (onMask_bit o t).1 ho
        have := hall e he hbd
        rw [h.2] at this
        simp [this]
    rw [this]
    simp

theorem prepAll_mem {ops : Array Oper} {p : Prep} (h : p ∈ prepAll ops.toList) : ops[p.i]? = some p.o ∧ p.quiet = quietOp p.o.op ∧ p.on = onMask p.o ∧ p.bef = (befsOf ops.toList).getD p.i 0 := by
  simp only [prepAll, List.mem_map, Prod.exists] at h
  obtain ⟨o, i, hm, rfl⟩ := h
  have := List.mem_zipIdx_iff_getElem?.1 hm
  exact ⟨by simpa using this, rfl, rfl, rfl⟩
theorem prepAll_of {ops : Array Oper} {i : Nat} {o : Oper} (h : ops[i]? = some o) : (⟨i, o, quietOp o.op, onMask o, (befsOf ops.toList).getD i 0⟩ : Prep) ∈ prepAll ops.toList := by
  simp only [prepAll, List.mem_map, Prod.exists]
  exact ⟨o, i, List.mem_zipIdx_iff_getElem?.2 (by simpa using h), rfl⟩

theorem readyOnes_filter (m : Nat) : ∀ ps : List Prep, readyOnes m ps = ps.filter fun p => isReady m p.i p.on
  | [] => rfl
  | p :: r => by
    simp only [readyOnes, List.filter_cons, readyOnes_filter m r]
    cases isReady m p.i p.on <;> simp

theorem firstQuiet_some {m : Nat} : ∀ {ps : List Prep} {p : Prep}, firstQuiet m ps = some p → p ∈ ps ∧ p.quiet = true ∧ isReady m p.i p.on = true
  | [], p, h => by simp [firstQuiet] at h
  | q :: r, p, h => by
    simp only [firstQuiet] at h
    cases hq : q.quiet && isReady m q.i q.on
    · rw [hq] at h
      obtain ⟨h1, h2⟩ := firstQuiet_some h
      exact ⟨by simp [h1], h2⟩
    · rw [hq] at h
      simp at h
      subst h
      simp only [Bool.and_eq_true] at hq
      exact ⟨by simp, hq⟩

theorem ready_map {ops : Array Oper} {m : Nat} {listed : Array Bool} (h : Rel ops m listed) : Region.ready .any ops listed = (readyOnes m (prepAll ops.toList)).map (·.i) := by
  have hp : (prepAll ops.toList).map (·.i) = List.range ops.size := by
    simp only [prepAll, List.map_map]
    have : ((fun p : Prep => p.i) ∘ fun (x : Oper × Nat) => (⟨x.2, x.1, quietOp x.1.op, onMask x.1, (befsOf ops.toList).getD x.2 0⟩ : Prep)) = Prod.snd := rfl
    show List.map ((fun p : Prep => p.i) ∘ fun (x : Oper × Nat) => (⟨x.2, x.1, quietOp x.1.op, onMask x.1, (befsOf ops.toList).getD x.2 0⟩ : Prep)) ops.toList.zipIdx = _
    rw [this, List.zipIdx_map_snd]
    simp [List.range_eq_range']
  have hmem : ∀ i, i ∈ Region.ready .any ops listed → i < ops.size := fun i hi => by
    obtain ⟨_, o, ho, _⟩ := mem_ready.1 hi
    exact lt_of_some ho
  rw [readyOnes_filter]
  have hr : Region.ready .any ops listed = (List.range ops.size).filter fun i => decide (i ∈ Region.ready .any ops listed) := by
    have : Region.ready .any ops listed = (List.range ops.size).filter fun i => !listed.getD i true && ((ops[i]?).map (·.after.all fun e => !Region.binds .any e || listed.getD e.on false)).getD false := rfl
    conv => lhs; rw [this]
    apply List.filter_congr
    intro i hi
    have : i ∈ Region.ready .any ops listed ↔ (!listed.getD i true && ((ops[i]?).map (·.after.all fun e => !Region.binds .any e || listed.getD e.on false)).getD false) = true := by
      rw [this, List.mem_filter]; simp [List.mem_range.1 hi]
    rw [Bool.eq_iff_iff, decide_eq_true_eq]
    exact this.symm
  rw [hr, ← hp, List.filter_map]
  congr 1
  apply List.filter_congr
  intro p hpm
  obtain ⟨h1, _, h3, _⟩ := prepAll_mem hpm
  rw [Bool.eq_iff_iff]
  simp only [Function.comp, decide_eq_true_eq]
  rw [h3, isReady_iff h h1]

/-! the whole region -/
def SH (ops : Array Oper) (HR : List (Nat × (World → Prop))) (listed : Array Bool) (w : World) : Prop :=
  ∀ p ∈ HR, (∀ (j : Nat) oj, ops[j]? = some oj → quietOp oj.op = false → ((befsOf ops.toList).getD j 0).testBit p.1 = true → listed.getD j false = false) → p.2 w

theorem SH.quiet {ops : Array Oper} {HR : List (Nat × (World → Prop))} {i : Nat} {oi : Oper} (hi : ops[i]? = some oi) (hq : quietOp oi.op = true) (listed : Array Bool) (w : World) : SH ops HR (listed.setIfInBounds i true) w ↔ SH ops HR listed w := by
  have key : ∀ (j : Nat) oj, ops[j]? = some oj → quietOp oj.op = false → (listed.setIfInBounds i true).getD j false = listed.getD j false := fun j oj hj hqj => by
    have hne : i ≠ j := fun h => by subst h; rw [hi] at hj; simp at hj; subst hj; rw [hq] at hqj; cases hqj
    exact getD_set_ne false hne
  constructor
  · intro h p hp hc
    exact h p hp fun j oj hj hqj hb => by rw [key j oj hj hqj]; exact hc j oj hj hqj hb
  · intro h p hp hc
    exact h p hp fun j oj hj hqj hb => by rw [← key j oj hj hqj]; exact hc j oj hj hqj hb

theorem regionOK_spec {ops : Array Oper} (h : regionOK ops (prepAll ops.toList) = true) {listed : Array Bool} (hs : listed.size = ops.size) (hc : ClosedL .any ops listed) {i : Nat} {oi : Oper} (hi : ops[i]? = some oi) (hq : quietOp oi.op = true)
    (hr : i ∈ Region.ready .any ops listed) : Region.noSelect ops = true ∧ ∀ (j : Nat) oj, ops[j]? = some oj → j ≠ i → listed.getD j true = false → (∀ e ∈ oj.after, Region.binds .any e = true → e.on ≠ i) → oi.apart ops oj = true := by
  simp only [regionOK, Bool.and_eq_true, List.all_eq_true] at h
  refine ⟨h.1, fun j oj hj hne hun hno => ?_⟩
  have h1 := h.2 _ (prepAll_of hi)
  simp only [hq, Bool.not_true, Bool.false_or, List.all_eq_true] at h1
  have h2 := h1 _ (prepAll_of hj)
  simp only [Bool.or_eq_true] at h2
  have hjl : j < listed.size := by rw [hs]; exact lt_of_some hj
  have hun' : listed.getD j false = false := by simpa [hjl] using hun
  rcases h2 with ((h2 | h2) | h2) | h2
  · exact (hne (beq_eq h2)).elim
  · exfalso
    obtain ⟨e, he, hb, hh⟩ := befs_bit hi h2
    obtain ⟨_, o', ho', hall⟩ := mem_ready.1 hr
    rw [hi] at ho'
    simp at ho'
    subst ho'
    have hle := hall e he hb
    rcases hh with rfl | ⟨_, hh⟩
    · rw [hun'] at hle; cases hle
    · have := bef_listed hs hc _ e.on (Nat.lt_succ_self _) hle j hh
      rw [hun'] at this; cases this
  · obtain ⟨e, he, hb, rfl⟩ := (onMask_bit oj i).1 h2
    exact (hno e he hb rfl).elim
  · exact h2

section
variable {F : Nat → Prop} {w : World} {ν : Nu} {N : Nat} {st : St} {a : Act}

/-- A quiet operation, its guard and all. -/
theorem quiet_sound {P : Program} {C : Calling} {ops : Array Oper} {o : Oper} (hq : quietOp o.op = true) {k : St → Prop} (hst : StOK N ν F st a w) (hw : wOper P C N ops.toList (fun _ => true) o st k) :
    ∃ x st', k st' ∧ StOK N ν F st' (a.put o.dst x) w ∧ ∃ fp, (∀ b, fp = some b → readsB (ev st.tm) o.op = some b) ∧ YieldsIf P ops (fun w' => Agree F ν fp w w') o x a := by
  have run : ∀ tm, SlotOK F w ν tm a.tmps → Region.wanted o (yielded ops a.tmps) = true → (∀ b, readsB (ev tm) o.op = some b → readsB (ev st.tm) o.op = some b) → wop P C (ev tm) st.h o.type o.op (fun v h => putT N tm o.dst v fun tm => k ⟨tm, h⟩) →
      ∃ x st', k st' ∧ StOK N ν F st' (a.put o.dst x) w ∧ ∃ fp, (∀ b, fp = some b → readsB (ev st.tm) o.op = some b) ∧ YieldsIf P ops (fun w' => Agree F ν fp w w') o x a := fun tm hs hwt hrd hw => by
    obtain ⟨x, v, h1, h2, h3⟩ := q_sound (P := P) (C := C) (o := o) (ev_rep (a := a) hs) hst.heap hq hw
    obtain ⟨tm', q1, q2, q3, q4⟩ := put_ok (d := o.dst) hs hst.size h2 h1
    exact ⟨x, ⟨tm', st.h⟩, q1, ⟨hst.heap, q3, q4.trans hst.defers, q2⟩, readsB (ev tm) o.op, hrd, .inl ⟨hwt, h3⟩⟩
  have pass : ∀ tm, SlotOK F w ν tm a.tmps → Region.wanted o (yielded ops a.tmps) = false → putT N tm o.dst .junk (fun tm => k ⟨tm, st.h⟩) →
      ∃ x st', k st' ∧ StOK N ν F st' (a.put o.dst x) w ∧ ∃ fp, (∀ b, fp = some b → readsB (ev st.tm) o.op = some b) ∧ YieldsIf P ops (fun w' => Agree F ν fp w w') o x a := fun tm hs hwt hw => by
    obtain ⟨tm', q1, q2, q3, q4⟩ := put_ok (d := o.dst) (x := undef) hs hst.size (by simp [rep]) hw
    exact ⟨undef, ⟨tm', st.h⟩, q1, ⟨hst.heap, q3, q4.trans hst.defers, q2⟩, none, (fun b h => by cases h), .inr ⟨hwt, rfl⟩⟩
  unfold wOper at hw
  cases hg : o.guard with
  | none =>
    simp only [hg, guardB_iff, true_and] at hw
    exact run st.tm hst.slot (by unfold Region.wanted; rw [hg]) (fun b h => h) hw
  | some gw =>
    obtain ⟨j, want⟩ := gw
    simp only [hg, onSome_iff, onBool_iff, ifB_iff] at hw
    obtain ⟨d, hd, v, hv, b, rfl, h1, h2⟩ := hw
    obtain ⟨x, hx, hr⟩ := hst.slot d _ hv
    simp only [rep] at hr
    subst hr
    have hwt := wanted_some hg hd hx
    have hrd : ∀ (tm' : T V) (c : Bool), (∀ t, tm'.get t = if t = d then some (.raw (.bool c)) else st.tm.get t) → ∀ b', readsB (ev tm') o.op = some b' → readsB (ev st.tm) o.op = some b' := by
      intro tm' c hget b' hb'
      unfold readsB at hb' ⊢
      split at hb'
      · rename_i t x heq
        cases x with
        | tmp t' =>
          simp only [ev, hget] at hb' ⊢
          by_cases htd : t' = d
          · subst htd; simp at hb'
          · simpa [htd] using hb'
        | const v => exact hb'
        | global g => exact hb'
        | func f => exact hb'
      · exact hb'
    cases b
    · obtain ⟨tm', q1, q2, q3⟩ := put_same hst.slot hx (by simp only [rep]) (h2 rfl)
      cases want
      · simp only [guardB_iff, true_and] at q1
        exact run tm' q2 (by rw [hwt]; rfl) (hrd tm' _ q3) q1
      · exact pass tm' q2 (by rw [hwt]; rfl) q1
    · obtain ⟨tm', q1, q2, q3⟩ := put_same hst.slot hx (by simp only [rep]) (h1 rfl)
      cases want
      · exact pass tm' q2 (by rw [hwt]; rfl) q1
      · simp only [guardB_iff, true_and] at q1
        exact run tm' q2 (by rw [hwt]; rfl) (hrd tm' _ q3) q1

/-- What is known of the loads that have been taken: where none that waits for it has acted, what it read is as it was. -/
def Inv (ops : Array Oper) (HR : List (Nat × (World → Prop))) (held : List (Nat × Nat)) (listed : Array Bool) (ν : Nu) (F : Nat → Prop) (w : World) : Prop :=
  ∀ p ∈ HR, (∀ (j : Nat) oj, ops[j]? = some oj → quietOp oj.op = false → ((befsOf ops.toList).getD j 0).testBit p.1 = true → listed.getD j false = false) →
    ∃ fp, (∀ w', Agree F ν fp w w' → p.2 w') ∧ ∀ b, fp = some b → (p.1, b) ∈ held

theorem draw_sound {P : Program} {C : Calling} (hC : C.ok P) {ops : Array Oper} (hok : regionOK ops (prepAll ops.toList) = true) {Q : Exit → Act → World → Prop} (hQp : ∀ c a w, ¬ Q (.panic c) a w) {k : St → Prop} {ν0 : Nu} {F0 : Nat → Prop} {w0 : World}
    (hQ : ∀ ν F st a w, StOK N ν F st a w → Evo ν0 F0 w0 ν F w → k st → Q .normal a w) :
    ∀ (f m : Nat) (held : List (Nat × Nat)) (HR : List (Nat × (World → Prop))) (listed : Array Bool) (ν : Nu) (F : Nat → Prop) (st : St) (a : Act) (w : World), Rel ops m listed → ClosedL .any ops listed → StOK N ν F st a w → Evo ν0 F0 w0 ν F w →
      Inv ops HR held listed ν F w → wDraw P C N ops.toList (prepAll ops.toList) f m held st k → wpAnyS P .any ops Q (SH ops HR) f listed a w
  | 0, m, held, HR, listed, ν, F, st, a, w, hrel, hc, hst, he, hinv, hw => by
    simp only [wDraw] at hw
    have hr := ready_map hrel
    split at hw
    · rename_i h0
      rw [h0] at hr
      exact ⟨hr, hQ ν F st a w hst he hw⟩
    · exact hw.elim
  | f + 1, m, held, HR, listed, ν, F, st, a, w, hrel, hc, hst, he, hinv, hw => by
    simp only [wDraw] at hw
    split at hw
    · rename_i p hp
      obtain ⟨hpm, hpq, hpr⟩ := firstQuiet_some hp
      obtain ⟨hi, hq, hon, hbef⟩ := prepAll_mem hpm
      rw [hq] at hpq
      rw [hon] at hpr
      have hready := (isReady_iff hrel hi).1 hpr
      obtain ⟨x, st', hk, hst', fp, hfp, hy⟩ := quiet_sound hpq hst hw
      obtain ⟨hsel, hfree⟩ := regionOK_spec hok hrel.1 hc hi hpq hready
      have hlt : p.i < ops.size := lt_of_some hi
      let φ : World → Prop := fun w' => Agree F ν fp w w'
      have hinv' : Inv ops ((p.i, φ) :: HR) (match readsB (ev st.tm) p.o.op with | some b => (p.i, b) :: held | none => held) (listed.setIfInBounds p.i true) ν F w := by
        have hkeep : ∀ (j : Nat) oj, ops[j]? = some oj → quietOp oj.op = false → (listed.setIfInBounds p.i true).getD j false = listed.getD j false := fun j oj hj hqj => by
          have hne : p.i ≠ j := fun h => by subst h; rw [hi] at hj; simp at hj; subst hj; rw [hpq] at hqj; cases hqj
          exact getD_set_ne false hne
        intro p' hp' hact
        have hmem : ∀ y, y ∈ held → y ∈ (match readsB (ev st.tm) p.o.op with | some b => (p.i, b) :: held | none => held) := fun y hy => by
          split
          · simp [hy]
          · exact hy
        simp only [List.mem_cons] at hp'
        rcases hp' with rfl | hp'
        · refine ⟨fp, fun w' h => h, fun b hb => ?_⟩
          rw [hfp b hb]
          simp
        · obtain ⟨fp', g1, g2⟩ := hinv p' hp' (fun j oj hj hqj hb => by rw [← hkeep j oj hj hqj]; exact hact j oj hj hqj hb)
          exact ⟨fp', g1, fun b hb => hmem _ (g2 b hb)⟩
      have ih := draw_sound hC hok hQp hQ f (m ||| 2 ^ p.i) _ ((p.i, φ) :: HR) (listed.setIfInBounds p.i true) ν F st' (a.put p.o.dst x) w (hrel.step hlt) (hc.step hready) hst' he hinv' hk
      have hS : SH ops ((p.i, φ) :: HR) listed w := by
        intro p' hp' hact
        have hact' : ∀ (j : Nat) oj, ops[j]? = some oj → quietOp oj.op = false → ((befsOf ops.toList).getD j 0).testBit p'.1 = true → (listed.setIfInBounds p.i true).getD j false = false := fun j oj hj hqj hb => by
          have hne : p.i ≠ j := fun h => by subst h; rw [hi] at hj; simp at hj; subst hj; rw [hpq] at hqj; cases hqj
          rw [getD_set_ne false hne]
          exact hact j oj hj hqj hb
        obtain ⟨fp', g1, _⟩ := hinv' p' hp' hact'
        exact g1 w (Agree.refl fp')
      have hmain := wpAnyS_first (S := SH ops ((p.i, φ) :: HR)) (φ := φ) hi (Region.noSelect_spec hsel) (fun c a w h => (hQp c _ w h).elim) (fun l w => SH.quiet hi hpq l w)
        (fun l w' hSl hcl hun => by
          refine hSl (p.i, φ) (by simp) (fun j oj hj hqj hb => ?_)
          cases hlj : l.getD j false with
          | false => rfl
          | true =>
            exfalso
            have hls : p.i < l.size := by
              rcases Nat.lt_or_ge p.i l.size with h | h
              · exact h
              · simp [Array.getElem?_eq_none h] at hun
            obtain ⟨e, he, hbd, hh⟩ := befs_bit hj hb
            have hle := hcl j oj hj hlj e he hbd
            have hun' : l.getD p.i false = false := by simpa [hls] using hun
            have key : ∀ n t, t < n → l.getD t false = true → ((befsOf ops.toList).getD t 0).testBit p.i = true → l.getD p.i false = true := by
              intro n
              induction n with
              | zero => intro t ht; omega
              | succ n ihn =>
                intro t ht hlt' hbt
                by_cases hts : t < ops.size
                · obtain ⟨e', he', hbd', hh'⟩ := befs_bit (Array.getElem?_eq_getElem hts) hbt
                  have hle' := hcl t _ (Array.getElem?_eq_getElem hts) hlt' e' he' hbd'
                  rcases hh' with h' | ⟨h1', h2'⟩
                  · rw [← h']; exact hle'
                  · exact ihn e'.on (by omega) hle' h2'
                · have hl0 : (befsOf ops.toList).length = ops.size := by
                    have := (befs_fold ops.toList []).1
                    simpa [befsOf] using this
                  simp [List.getD, List.getElem?_eq_none (show (befsOf ops.toList).length ≤ t by omega)] at hbt
            rcases hh with h' | ⟨_, h2'⟩
            · rw [h', hun'] at hle; cases hle
            · have := key _ e.on (Nat.lt_succ_self _) hle h2'
              rw [hun'] at this; cases this)
        f listed a w hfree hready hc hy hS ih
      exact wpAnyS_mono (fun l w h p' hp' hact => h p' (List.mem_cons_of_mem _ hp') hact) (f + 1) listed a w hmain
    · have hr := ready_map hrel
      split at hw
      · rename_i h0
        rw [h0] at hr
        exact ⟨fun _ => hQ ν F st a w hst he hw, fun i hi => by rw [hr] at hi; simp at hi⟩
      · rename_i p h0
        rw [h0] at hr
        simp only [List.map] at hr
        have hpm : p ∈ prepAll ops.toList := by
          have : p ∈ readyOnes m (prepAll ops.toList) := by rw [h0]; simp
          rw [readyOnes_filter, List.mem_filter] at this
          exact this.1
        obtain ⟨hi, hq, hon, hbef⟩ := prepAll_mem hpm
        have hready : p.i ∈ Region.ready .any ops listed := by rw [hr]; simp
        have hlt : p.i < ops.size := lt_of_some hi
        refine ⟨fun h => by rw [hr] at h; simp at h, fun i hi' => ?_⟩
        rw [hr] at hi'
        simp at hi'
        subst hi'
        let held' := held.filter fun x => !p.bef.testBit x.1
        refine wpOp_mono (fun a' w' hn => ?_) (oper_sound (tch := fun b => !(held'.any fun x => x.2.beq b)) hC hi hst (fun ρ b hck hb => ?_) hw)
        · obtain ⟨ν', F', st', g1, g2, g3, g4⟩ := hn
          have hqf : quietOp p.o.op = false := by
            cases hqq : quietOp p.o.op with
            | false => rfl
            | true =>
              exfalso
              rename_i hnone
              have : ∀ ps : List Prep, firstQuiet m ps = none → ∀ q ∈ ps, ¬ (q.quiet = true ∧ isReady m q.i q.on = true) := by
                intro ps
                induction ps with
                | nil => simp
                | cons q r ihr =>
                  intro hn q' hq'
                  simp only [firstQuiet] at hn
                  cases hb : q.quiet && isReady m q.i q.on with
                  | true => rw [hb] at hn; simp at hn
                  | false =>
                    rw [hb] at hn
                    simp at hq'
                    rcases hq' with rfl | hq'
                    · intro ⟨h1, h2⟩; simp [h1, h2] at hb
                    · exact ihr hn q' hq'
              refine this _ (by assumption) p hpm ⟨by rw [hq]; exact hqq, ?_⟩
              have : p ∈ readyOnes m (prepAll ops.toList) := by rw [h0]; simp
              rw [readyOnes_filter, List.mem_filter] at this
              exact this.2
          have hinv' : Inv ops HR held' (listed.setIfInBounds p.i true) ν' F' w' := by
            intro p' hp' hact
            obtain ⟨fp, q1, q2⟩ := hinv p' hp' (fun j oj hj hqj hb => by
              have := hact j oj hj hqj hb
              by_cases hij : p.i = j
              · subst hij
                have hls : p.i < listed.size := by rw [hrel.1]; exact hlt
                simp [hls] at this
              · rwa [getD_set_ne false hij] at this)
            have hnw : p.bef.testBit p'.1 = false := by
              cases hb : p.bef.testBit p'.1 with
              | false => rfl
              | true =>
                exfalso
                rw [hbef] at hb
                have := hact p.i p.o hi hqf hb
                have hls : p.i < listed.size := by rw [hrel.1]; exact hlt
                simp [hls] at this
            refine ⟨fp, fun w'' hag => q1 w'' ⟨fun r hr => ?_, fun b r s n hb hat => ?_⟩, fun b hb => ?_⟩
            · rw [hag.1 r (g2.fmono r hr)]
              exact g2.old r (hst.heap.frz r hr).1 (hst.heap.frz r hr).2
            · have hmem : (p'.1, b) ∈ held' := List.mem_filter.2 ⟨q2 b hb, by simp [hnw]⟩
              obtain ⟨z1, z2⟩ := g4 b (r, s, n) hat (by
                simp only [Bool.not_eq_false', List.any_eq_true]
                exact ⟨_, hmem, by simp⟩)
              rw [hag.2 b r s n hb z2]
              exact z1
            · exact List.mem_filter.2 ⟨q2 b hb, by simp [hnw]⟩
          refine ⟨fun p' hp' hact => ?_, ?_⟩
          · obtain ⟨fp, q1, _⟩ := hinv' p' hp' hact
            exact q1 w' (Agree.refl fp)
          · exact draw_sound hC hok hQp hQ f (m ||| 2 ^ p.i) held' HR _ ν' F' st' a' w' (hrel.step hlt) (hc.step hready) g1 (he.trans g2) hinv' g3
        · simp only [Bool.not_eq_false', List.any_eq_true] at hb
          obtain ⟨x, hx, hxb⟩ := hb
          have := List.all_eq_true.1 hck x hx
          rw [← beq_eq hxb]
          simpa using this
      · exact hw.elim
end
end Go.Proofs.Ytdjibbbeegpjpaa.Clean
