/- Soundness: what a round of a loop keeps; what a function returns. Nothing here speaks of the program. -/
import Derived.Test.YtahoindkdkhpmaaXCT
namespace Go.Proofs.Ytahoindkdkhpmaa.Clean
set_option linter.unusedSimpArgs false
set_option linter.unusedVariables false

theorem nodupB_inj {α : Type} {f : α → Nat} : ∀ {l : List α}, nodupB (l.map f) = true → ∀ {p q : α}, p ∈ l → q ∈ l → f p = f q → p = q
  | [], _, p, q, hp, _, _ => by simp at hp
  | x :: l, h, p, q, hp, hq, hf => by
    simp only [List.map, nodupB, Bool.and_eq_true, Bool.not_eq_true', List.any_eq_false, List.mem_map, forall_exists_index, and_imp, forall_apply_eq_imp_iff₂] at h
    have hne : ∀ y ∈ l, f x ≠ f y := fun y hy he => by
      have := h.1 y hy
      rw [he] at this
      simp at this
    simp only [List.mem_cons] at hp hq
    rcases hp with rfl | hp <;> rcases hq with rfl | hq
    · rfl
    · exact (hne q hq hf).elim
    · exact (hne p hp hf.symm).elim
    · exact nodupB_inj h.2 hp hq hf

theorem renOf_cases : ∀ (bs : List (Nat × Nat)) (x : Nat), renOf bs x = .drop ∨ ∃ b, renOf bs x = .ren b ∧ (x, b) ∈ bs
  | [], x => .inl rfl
  | (a, b) :: r, x => by
    simp only [renOf, cond_beq]
    by_cases h : a = x
    · subst h; rw [if_pos rfl]; exact .inr ⟨b, rfl, by simp⟩
    · rw [if_neg h]
      rcases renOf_cases r x with h1 | ⟨b', h1, h2⟩
      · exact .inl h1
      · exact .inr ⟨b', h1, by simp [h2]⟩

/-- What becomes of a block. -/
def keepO (τ : Nat → Tr) (pu : Bool) : O → O
  | .rows s true es => .rows s true es
  | .rows s false es => bif pu && es.all closedL then .rows s true es else .rows s false (es.map (trL τ))

theorem keepBs_cons {τ : Nat → Tr} {pu : List Nat} {h : Hp} {a b : Nat} {r : List (Nat × Nat)} : keepBs τ pu h ((a, b) :: r) = match h.get a with | some o => (b, keepO τ (pu.any b.beq) o) :: keepBs τ pu h r | none => keepBs τ pu h r := by
  simp only [keepBs]
  cases h.get a with
  | none => rfl
  | some o => cases o with | rows s p es => cases p <;> rfl

theorem keepBs_get {τ : Nat → Tr} {pu : List Nat} {h : Hp} : ∀ {bs : List (Nat × Nat)}, nodupB (bs.map (·.2)) = true → ∀ {a b : Nat} {o : O}, (a, b) ∈ bs → h.get a = some o → getB (keepBs τ pu h bs) b = some (keepO τ (pu.any b.beq) o)
  | [], _, a, b, o, hm, _ => by simp at hm
  | (a', b') :: r, hn, a, b, o, hm, ho => by
    have hn' := hn
    simp only [List.map, nodupB, Bool.and_eq_true] at hn
    simp only [List.mem_cons] at hm
    rw [keepBs_cons]
    rcases hm with hm | hm
    · simp at hm
      obtain ⟨rfl, rfl⟩ := hm
      simp only [ho]
      simp [getB_cons]
    · have hne : b' ≠ b := fun he => by
        have hf : (r.map (·.2)).any b'.beq = false := by simpa using hn.1
        rw [List.any_eq_false] at hf
        have := hf b (List.mem_map.2 ⟨(a, b), hm, rfl⟩)
        rw [he] at this
        simp at this
      have ih := keepBs_get (τ := τ) (pu := pu) (h := h) hn.2 hm ho
      cases h.get a' with
      | none => exact ih
      | some o' => simp only [getB_cons]; rw [if_neg hne]; exact ih

theorem keepBs_dom {τ : Nat → Tr} {pu : List Nat} {h : Hp} : ∀ {bs : List (Nat × Nat)} {b : Nat} {o : O}, getB (keepBs τ pu h bs) b = some o → ∃ a o', (a, b) ∈ bs ∧ h.get a = some o'
  | [], b, o, hg => by simp [keepBs, getB] at hg
  | (a', b') :: r, b, o, hg => by
    rw [keepBs_cons] at hg
    cases ha : h.get a' with
    | none =>
      simp only [ha] at hg
      obtain ⟨a, o', h1, h2⟩ := keepBs_dom hg
      exact ⟨a, o', by simp [h1], h2⟩
    | some o' =>
      simp only [ha, getB_cons] at hg
      by_cases hb : b' = b
      · exact ⟨a', o', by simp [hb], ha⟩
      · rw [if_neg hb] at hg
        obtain ⟨a, o'', h1, h2⟩ := keepBs_dom hg
        exact ⟨a, o'', by simp [h1], h2⟩

theorem trL_length (τ : Nat → Tr) : ∀ vs : List V, (trL τ vs).length = vs.length
  | [] => rfl
  | v :: vs => by simp [trL, trL_length τ vs]
theorem trL_get (τ : Nat → Tr) : ∀ (vs : List V) (j : Nat), (trL τ vs)[j]? = (vs[j]?).map (V.tr τ)
  | [], j => by simp [trL]
  | v :: vs, j => by
    cases j with
    | zero => simp [trL]
    | succ j => simpa [trL] using trL_get τ vs j

theorem mkT_get : ∀ (l : List (Tmp × V)), (∀ p ∈ l, p.1 < 1000000) → ∀ t v, (mkT l).get t = some v → (t, v) ∈ l
  | [], _, t, v, h => by simp [mkT, T.get] at h
  | (t', v') :: r, hl, t, v, h => by
    rw [mkT, get_set (hl (t', v') (by simp))] at h
    by_cases ht : t = t'
    · subst ht; simp at h; subst h; simp
    · rw [if_neg ht] at h
      exact List.mem_cons_of_mem _ (mkT_get r (fun p hp => hl p (by simp [hp])) t v h)

theorem nilBs_get : ∀ {l : List (Tmp × Nat × Nat)} {b : Nat} {o : O}, getB (nilBs l) b = some o → ∃ t s, (t, b, s) ∈ l ∧ o = .rows s true []
  | [], b, o, h => by simp [nilBs, getB] at h
  | (t, b', s) :: r, b, o, h => by
    rw [nilBs, getB_cons] at h
    by_cases hb : b' = b
    · rw [if_pos hb] at h
      simp at h
      exact ⟨t, s, by simp [hb], h.symm⟩
    · rw [if_neg hb] at h
      obtain ⟨t', s', h1, h2⟩ := nilBs_get h
      exact ⟨t', s', by simp [h1], h2⟩
theorem nilBs_none : ∀ {l : List (Tmp × Nat × Nat)} {b : Nat}, (∀ p ∈ l, p.2.1 ≠ b) → getB (nilBs l) b = none
  | [], b, h => by simp [nilBs, getB]
  | (t, b', s) :: r, b, h => by
    rw [nilBs, getB_cons, if_neg (h (t, b', s) (by simp))]
    exact nilBs_none fun p hp => h p (by simp [hp])
theorem getB_append : ∀ (l m : List (Nat × O)) (b : Nat), getB (l ++ m) b = (match getB l b with | some o => some o | none => getB m b)
  | [], m, b => by simp [getB]
  | (k, o) :: r, m, b => by
    rw [List.cons_append, getB_cons, getB_cons, getB_append r m b]
    by_cases hk : k = b
    · simp [hk]
    · simp [hk]
theorem nodupB_mem : ∀ {l : List Nat} {a b : List Nat}, l = a ++ b → nodupB l = true → ∀ x, x ∈ a → x ∈ b → False
  | l, [], b, _, _, x, hx, _ => by simp at hx
  | l, y :: a, b, hl, hn, x, hx, hb => by
    subst hl
    simp only [List.cons_append, nodupB, Bool.and_eq_true, Bool.not_eq_true', List.any_eq_false] at hn
    simp only [List.mem_cons] at hx
    rcases hx with rfl | hx
    · have := hn.1 x (by simp [hb])
      simp at this
    · exact nodupB_mem rfl hn.2 x hx hb
theorem nodupB_right : ∀ {a b : List Nat}, nodupB (a ++ b) = true → nodupB b = true
  | [], b, h => h
  | y :: a, b, h => by
    simp only [List.cons_append, nodupB, Bool.and_eq_true] at h
    exact nodupB_right h.2

section
variable {G : Nat → Option (List V)} {F : Nat → Prop} {w : World} {ν : Nu} {N : Nat} {st : St} {a : Act} {kp : Keep}

theorem Keep.ok_iff : kp.ok = true ↔ nodupB (kp.blocks.map (·.1)) = true ∧ nodupB (kp.nils.map (·.2.1) ++ kp.blocks.map (·.2)) = true ∧ (∀ p ∈ kp.blocks, Nat.blt p.2 kp.nxt = true) ∧ (∀ p ∈ kp.nils, Nat.blt p.2.1 kp.nxt = true ∧ Nat.blt p.1 1000000 = true) ∧ ∀ t ∈ kp.slots, Nat.blt t 1000000 = true := by
  simp only [Keep.ok, Bool.and_eq_true, List.all_eq_true, and_assoc]

def kpNu (kp : Keep) (hok : kp.ok = true) (ν : Nu) : Nu where
  at_ b' := (kp.blocks.find? fun p => p.2.beq b').bind fun p => ν.at_ p.1
  nxt := kp.nxt
  lt b x h := by
    rw [Option.bind_eq_some_iff] at h
    obtain ⟨p, h1, _⟩ := h
    have hm := List.mem_of_find?_eq_some h1
    have hb := List.find?_some (p := fun p : Nat × Nat => p.2.beq b) h1
    have := blt_of ((Keep.ok_iff.1 hok).2.2.1 p hm)
    have := beq_eq hb
    omega
  ph b' := kp.nils.any (fun p => p.2.1.beq b') || ((kp.blocks.find? fun p => p.2.beq b').any fun p => ν.ph p.1)
  phx b' x h := by
    rw [Option.bind_eq_some_iff] at h
    obtain ⟨p, h1, h2⟩ := h
    have hm := List.mem_of_find?_eq_some h1
    have hb := beq_eq (List.find?_some (p := fun p : Nat × Nat => p.2.beq b') h1)
    rw [h1, Bool.or_eq_false_iff, List.any_eq_false]
    refine ⟨fun q hq he => ?_, by simp [ν.phx p.1 x h2]⟩
    exact nodupB_mem rfl (Keep.ok_iff.1 hok).2.1 b' (List.mem_map.2 ⟨q, hq, beq_eq he⟩) (List.mem_map.2 ⟨p, hm, hb⟩)

theorem kpNu_find (hok : kp.ok = true) {b a : Nat} (hm : (a, b) ∈ kp.blocks) : kp.blocks.find? (fun p => p.2.beq b) = some (a, b) := by
  have hn := nodupB_right (Keep.ok_iff.1 hok).2.1
  cases hf : kp.blocks.find? (fun p => p.2.beq b) with
  | none =>
    rw [List.find?_eq_none] at hf
    have := hf (a, b) hm
    simp at this
  | some p =>
    have hpm := List.mem_of_find?_eq_some hf
    have hb := beq_eq (List.find?_some (p := fun p : Nat × Nat => p.2.beq b) hf)
    have := nodupB_inj (f := fun p : Nat × Nat => p.2) hn hpm hm hb
    rw [this]

theorem kpNu_iff (hok : kp.ok = true) {b : Nat} {x : Nat × Nat × Nat} : (kpNu kp hok ν).at_ b = some x ↔ ∃ a, (a, b) ∈ kp.blocks ∧ ν.at_ a = some x := by
  simp only [kpNu, Option.bind_eq_some_iff]
  constructor
  · rintro ⟨p, h1, h2⟩
    have hm := List.mem_of_find?_eq_some h1
    have hb := beq_eq (List.find?_some (p := fun p : Nat × Nat => p.2.beq b) h1)
    exact ⟨p.1, by rw [← hb]; exact hm, h2⟩
  · rintro ⟨a, hm, h2⟩
    exact ⟨_, kpNu_find hok hm, h2⟩
theorem kpNu_ph (hok : kp.ok = true) {b a : Nat} (hm : (a, b) ∈ kp.blocks) : (kpNu kp hok ν).ph b = ν.ph a := by
  simp only [kpNu, kpNu_find hok hm]
  have : kp.nils.any (fun p => p.2.1.beq b) = false := by
    rw [List.any_eq_false]
    exact fun q hq he => nodupB_mem rfl (Keep.ok_iff.1 hok).2.1 b (List.mem_map.2 ⟨q, hq, beq_eq he⟩) (List.mem_map.2 ⟨(a, b), hm, rfl⟩)
  rw [this]
  simp
theorem kpNu_nil (hok : kp.ok = true) {t b s : Nat} (hm : (t, b, s) ∈ kp.nils) : (kpNu kp hok ν).ph b = true ∧ (kpNu kp hok ν).at_ b = none := by
  have h1 : (kpNu kp hok ν).ph b = true := by
    simp only [kpNu, Bool.or_eq_true]
    exact .inl (List.any_eq_true.2 ⟨_, hm, by simp⟩)
  refine ⟨h1, ?_⟩
  cases h : (kpNu kp hok ν).at_ b with
  | none => rfl
  | some x => have := (kpNu kp hok ν).phx b x h; rw [h1] at this; cases this

/-- The first n blocks stay what they are. -/
def Keep.base (n : Nat) (kp : Keep) : Bool := Nat.ble n kp.nxt && kp.blocks.all (fun p => Nat.ble n p.2 || p.1.beq p.2) && kp.nils.all fun p => Nat.ble n p.2.1
theorem Keep.base_at {n : Nat} {kp : Keep} (h : kp.base n = true) (st : St) : (kp.at st).base n = true := by
  simp only [Keep.base, Keep.at, Bool.and_eq_true, List.all_eq_true, List.mem_filter] at *
  exact ⟨⟨h.1.1, fun p hm => h.1.2 p hm.1⟩, fun p hm => h.2 p hm.1⟩
theorem Keep.base_nu {n : Nat} {kp : Keep} (h : kp.base n = true) (hok : kp.ok = true) : n ≤ (kpNu kp hok ν).nxt ∧ (∀ b x, b < n → (kpNu kp hok ν).at_ b = some x → ν.at_ b = some x) ∧ ∀ b, b < n → (kpNu kp hok ν).ph b = true → ν.ph b = true := by
  simp only [Keep.base, Bool.and_eq_true, List.all_eq_true, Bool.or_eq_true] at h
  refine ⟨Nat.le_of_ble_eq_true h.1.1, fun b x hb hx => ?_, fun b hb hx => ?_⟩
  · rw [kpNu_iff] at hx
    obtain ⟨a, hm, hx⟩ := hx
    rcases h.1.2 _ hm with h1 | h1
    · have := Nat.le_of_ble_eq_true h1; simp only at this; omega
    · have := beq_eq h1; simp only at this; exact this ▸ hx
  · simp only [kpNu, Bool.or_eq_true, List.any_eq_true, Option.any_eq_true] at hx
    rcases hx with ⟨q, hq, he⟩ | ⟨p, hp, hx⟩
    · have := Nat.le_of_ble_eq_true (h.2 q hq)
      have := beq_eq he
      omega
    · have hm := List.mem_of_find?_eq_some hp
      have hb' := beq_eq (List.find?_some (p := fun p : Nat × Nat => p.2.beq b) hp)
      rcases h.1.2 _ hm with h1 | h1
      · have := Nat.le_of_ble_eq_true h1; omega
      · have := beq_eq h1; rw [hb'] at this; exact this ▸ hx
/-- Blocks below n that are there stay there. -/
def Keep.all (n : Nat) (kp : Keep) : Bool := (List.range n).all fun b => kp.blocks.any fun p => p.1.beq b && p.2.beq b
theorem Keep.all_nu {n : Nat} {kp : Keep} (h : kp.all n = true) (hok : kp.ok = true) : ∀ b x, b < n → ν.at_ b = some x → (kpNu kp hok ν).at_ b = some x := by
  intro b x hb hx
  simp only [Keep.all, List.all_eq_true, List.mem_range, List.any_eq_true, Bool.and_eq_true] at h
  obtain ⟨p, hp, h1, h2⟩ := h b hb
  rw [kpNu_iff]
  refine ⟨b, ?_, hx⟩
  have e1 := beq_eq h1
  have e2 := beq_eq h2
  rw [show (b, b) = p from Prod.ext e1.symm e2.symm]
  exact hp

theorem keep_tr (hok : kp.ok = true) : TrOK F F w ν (kpNu kp hok ν) (renOf kp.blocks) := by
  intro b hb
  rcases renOf_cases kp.blocks b with h | ⟨b', h, hm⟩
  · rw [h]; trivial
  · rw [h]
    refine ⟨⟨blt_of ((Keep.ok_iff.1 hok).2.2.1 _ hm), fun hq => by rw [kpNu_ph hok hm] at hq; exact hq⟩, fun y hy => ?_⟩
    rw [kpNu_iff] at hy
    obtain ⟨a', ha', hy⟩ := hy
    have := nodupB_inj (f := fun p : Nat × Nat => p.2) (nodupB_right (Keep.ok_iff.1 hok).2.1) ha' hm rfl
    simp at this
    exact this ▸ hy

theorem keep_heap {h : Hp} (hok : kp.ok = true) (hk : HeapOK ν F h w) : HeapOK (kpNu kp hok ν) F ⟨nilBs kp.nils ++ keepBs (renOf kp.blocks) kp.pu h kp.blocks, kp.nxt⟩ w ∧ ∀ r, (kpNu kp hok ν).own r → ν.own r := by
  obtain ⟨hn1, hn12, hlt, hnl, hsl⟩ := Keep.ok_iff.1 hok
  have hn2 := nodupB_right hn12
  have htr : TrOK F F w ν (kpNu kp hok ν) (renOf kp.blocks) := keep_tr hok
  have skip : ∀ {a b : Nat}, (a, b) ∈ kp.blocks → getB (nilBs kp.nils) b = none := fun hm => nilBs_none fun q hq he =>
    nodupB_mem rfl hn12 _ (List.mem_map.2 ⟨q, hq, he⟩) (List.mem_map.2 ⟨_, hm, rfl⟩)
  refine ⟨⟨?_, ?_, ?_, ?_, rfl⟩, ?_⟩
  · intro b r s n hat
    rw [kpNu_iff] at hat
    obtain ⟨a', ha', hat⟩ := hat
    obtain ⟨p, es, g1, g2, c, el, g3, g4, g5⟩ := hk.blk a' r s n hat
    have hg := keepBs_get (τ := renOf kp.blocks) (pu := kp.pu) (h := h) hn2 ha' g1
    have hg' : ∀ o, getB (keepBs (renOf kp.blocks) kp.pu h kp.blocks) b = some o → Hp.get ⟨nilBs kp.nils ++ keepBs (renOf kp.blocks) kp.pu h kp.blocks, kp.nxt⟩ b = some o := fun o ho => by
      simp only [Hp.get, getB_append, skip ha', ho]
    cases p with
    | true => exact ⟨true, es, hg' _ hg, g2, c, el, g3, g4, g5⟩
    | false =>
      cases hpu : (kp.pu.any b.beq && es.all closedL) with
      | true =>
        simp only [keepO, hpu, cond_true] at hg
        refine ⟨true, es, hg' _ hg, g2, c, el, g3, g4, ?_⟩
        simp only [Bool.and_eq_true, List.all_eq_true] at hpu
        rw [rowsC_iff] at g5 ⊢
        intro i row hrow
        obtain ⟨k1, k2⟩ := g5 i row hrow
        refine ⟨k1, fun j v hj => ?_⟩
        obtain ⟨x, k3, k4, k5⟩ := k2 j v hj
        exact ⟨x, k3, k4, rep_ri v x (closedL_mem (hpu.2 row (List.mem_of_getElem? hrow)) (List.mem_of_getElem? hj)) k5⟩
      | false =>
      simp only [keepO, hpu, cond_false] at hg
      refine ⟨false, es.map (trL (renOf kp.blocks)), hg' _ hg, by simpa using g2, c, el, g3, g4, ?_⟩
      rw [rowsC_iff] at g5 ⊢
      intro i row hrow
      rw [List.getElem?_map, Option.map_eq_some_iff] at hrow
      obtain ⟨row0, hrow0, rfl⟩ := hrow
      obtain ⟨k1, k2⟩ := g5 i row0 hrow0
      refine ⟨by rw [trL_length]; exact k1, fun j v hj => ?_⟩
      rw [trL_get, Option.map_eq_some_iff] at hj
      obtain ⟨v0, hv0, rfl⟩ := hj
      obtain ⟨x, k3, k4, k5⟩ := k2 j v0 hv0
      exact ⟨x, k3, k4, rep_tr (fun _ h => h) htr v0 x k5⟩
  · intro b o hb
    simp only [Hp.get, getB_append] at hb
    split at hb
    · rename_i o' ho
      obtain ⟨t, s, hm, he⟩ := nilBs_get ho
      simp at hb
      exact .inr ⟨(kpNu_nil hok hm).1, s, true, by rw [← hb]; exact he⟩
    · obtain ⟨a', o', h1, h2⟩ := keepBs_dom hb
      rcases hk.dom a' o' h2 with ⟨x, hx⟩ | ⟨hp, s, p, rfl⟩
      · exact .inl ⟨x, (kpNu_iff hok).2 ⟨a', h1, hx⟩⟩
      · have hg := keepBs_get (τ := renOf kp.blocks) (pu := kp.pu) (h := h) hn2 h1 h2
        rw [hb] at hg
        simp at hg
        refine .inr ⟨by rw [kpNu_ph hok h1]; exact hp, ?_⟩
        rw [hg]
        cases p with
        | true => exact ⟨s, true, by simp [keepO]⟩
        | false => cases hq : kp.pu.any b.beq <;> exact ⟨s, _, by simp only [keepO, hq]; rfl⟩
  · intro b b' r s n s' n' h1 h2
    rw [kpNu_iff] at h1 h2
    obtain ⟨a1, m1, h1⟩ := h1
    obtain ⟨a2, m2, h2⟩ := h2
    have := hk.inj a1 a2 r s n s' n' h1 h2
    have := nodupB_inj (f := fun p : Nat × Nat => p.1) hn1 m1 m2 this
    simp at this
    exact this.2
  · intro r hr
    refine ⟨(hk.frz r hr).1, ?_⟩
    rintro ⟨b, s, n, hb⟩
    rw [kpNu_iff] at hb
    obtain ⟨a', _, hb⟩ := hb
    exact (hk.frz r hr).2 ⟨a', s, n, hb⟩
  · rintro r ⟨b, s, n, hb⟩
    rw [kpNu_iff] at hb
    obtain ⟨a', _, hb⟩ := hb
    exact ⟨a', s, n, hb⟩

theorem nilTs_mem : ∀ {l : List (Tmp × Nat × Nat)} {t : Tmp} {v : V}, (t, v) ∈ nilTs l → ∃ b s, (t, b, s) ∈ l ∧ v = .sl b 0 0
  | [], t, v, h => by simp [nilTs] at h
  | (t', b, s) :: r, t, v, h => by
    simp only [nilTs, List.mem_cons, Prod.mk.injEq] at h
    rcases h with ⟨rfl, rfl⟩ | h
    · exact ⟨b, s, by simp, rfl⟩
    · obtain ⟨b', s', h1, h2⟩ := nilTs_mem h
      exact ⟨b', s', by simp [h1], h2⟩

theorem keep_sound' (hok : kp.ok = true) (hnil : ∀ p ∈ kp.nils, isNilV (st.tm.get p.1) = true) (hst : StOK G N ν F st a w) : StOK G N (kpNu kp hok ν) F (kp.st st) a w ∧ ∀ r, (kpNu kp hok ν).own r → ν.own r := by
  obtain ⟨hn1, hn12, hlt, hnl, hsl⟩ := Keep.ok_iff.1 hok
  obtain ⟨hheap, hown⟩ := keep_heap hok hst.heap
  refine ⟨⟨hheap, hst.size, hst.defers, ⟨fun t v ht => ?_, hst.slot.2⟩⟩, hown⟩
  have hm := mkT_get _ (by
    intro p hp
    simp only [List.mem_append, List.mem_filterMap, Option.map_eq_some_iff] at hp
    rcases hp with hp | ⟨t, ht, v, _, rfl⟩
    · obtain ⟨b, s, h1, _⟩ := nilTs_mem (t := p.1) (v := p.2) hp
      exact blt_of (hnl _ h1).2
    · exact blt_of (hsl t ht)) t v ht
  simp only [List.mem_append, List.mem_filterMap, Option.map_eq_some_iff, Prod.mk.injEq] at hm
  rcases hm with hm | ⟨t', _, v0, hv0, rfl, rfl⟩
  · obtain ⟨b, s, h1, rfl⟩ := nilTs_mem hm
    have hnv := hnil _ h1
    simp only [isNilV] at hnv
    split at hnv
    · rename_i heq
      obtain ⟨x, x1, x2⟩ := hst.slot.1 _ _ heq
      simp only [rep] at x2
      refine ⟨x, x1, ?_⟩
      simp only [rep]
      refine ⟨⟨blt_of (hnl _ h1).1, fun _ => ⟨trivial, trivial, x2⟩⟩, fun r s n hat => ?_⟩
      rw [(kpNu_nil hok h1).2] at hat; cases hat
    · cases hnv
  · obtain ⟨x, h1, h2⟩ := hst.slot.1 t' v0 hv0
    exact ⟨x, h1, rep_tr (fun _ h => h) (keep_tr hok) v0 x h2⟩
theorem keep_at {st : St} : ∀ p ∈ (kp.at st).nils, isNilV (st.tm.get p.1) = true := fun p hp => by
  simp only [Keep.at, List.mem_filter] at hp
  exact hp.2

/-! results -/
def resF (a : Act) (r : ResultVar) : Sem Value := match r with
  | .tmp t => pure (a.tmps.getD t undef)
  | .cell b t => do loadVar t (← asAddr (a.tmps.getD b undef))

theorem res1_sound {P : Program} (hst : StOK G N ν F st a w) {r : ResultVar} {k : V → Prop} (h : wRes1 P st r k) :
    ∃ x v, k v ∧ rep F w ν v x ∧ (resF a r).run P w = .ok x w := by
  cases r with
  | tmp t =>
    refine ⟨_, _, h, ?_, rfl⟩
    exact ev_rep (a := a) hst.slot (.tmp t)
  | cell b t =>
    simp only [wRes1] at h
    have hr := ev_rep (a := a) hst.slot (.tmp b)
    simp only [ev, Act.eval] at hr
    obtain ⟨row, off, p, r, o, hK, hy, hrow, hag⟩ := at_row hst.heap hr h
    obtain ⟨x, v, h1, h2, h3⟩ := load_row (P := P) (fp := blkOf ((st.tm.get b).getD .junk)) (fun v x hv => repO_rep hv) hrow hag hK
    refine ⟨x, v, h1, h2, ?_⟩
    have := h3 w (Agree.refl _)
    simp only [resF, hy]
    simp [asAddr, this]

theorem resL_sound {P : Program} (hst : StOK G N ν F st a w) : ∀ (rs : List ResultVar) (k : List V → Prop), wResL P st rs k →
    ∃ xs vs, k vs ∧ repL F w ν vs xs ∧ (rs.mapM (resF a)).run P w = .ok xs w
  | [], k, h => ⟨[], [], h, by simp [repL], by simp⟩
  | r :: rs, k, h => by
    simp only [wResL] at h
    obtain ⟨x, v, h1, h2, h3⟩ := res1_sound (P := P) hst h
    obtain ⟨xs, vs, g1, g2, g3⟩ := resL_sound hst rs _ h1
    refine ⟨x :: xs, v :: vs, g1, ?_, ?_⟩
    · simp only [repL]; exact ⟨x, xs, rfl, h2, g2⟩
    · simp only [List.mapM_cons, Sem.run_bind, h3, Result.andThen_ok, g3]
      rfl

theorem res_sound {P : Program} {fn : Func} (hst : StOK G N ν F st a w) {k : V → Prop} (h : wRes P fn.results st k) :
    ∃ x v, k v ∧ rep F w ν v x ∧ (results fn a.tmps).run P w = .ok x w := by
  unfold wRes at h
  obtain ⟨xs, vs, h1, h2, h3⟩ := resL_sound (P := P) hst _ _ h
  have hl := repL_length h2
  refine ⟨(if hh : xs.toArray.size = 1 then xs.toArray[0] else .tuple xs.toArray), oneOf vs, h1, ?_, ?_⟩
  · cases vs with
    | nil =>
      simp only [oneOf, rep]
      rw [dif_neg (by simp [hl])]
      exact ⟨_, rfl, h2⟩
    | cons v vs =>
      cases vs with
      | nil =>
        simp only [repL] at h2
        obtain ⟨x, ys, rfl, h4, rfl⟩ := h2
        simp only [oneOf]
        simpa using h4
      | cons u us =>
        simp only [oneOf, rep]
        rw [dif_neg (by simp [hl])]
        exact ⟨_, rfl, h2⟩
  · have hm : fn.results.mapM (resF a) =
        List.toArray <$> fn.results.toList.mapM (resF a) := by
      rw [← List.mapM_toArray]
    have hu : results fn a.tmps = (do let vs ← fn.results.mapM (resF a); pure (if h : vs.size = 1 then vs[0] else .tuple vs)) := rfl
    rw [hu]
    simp only [hm, Sem.run_bind, Sem.run_map, h3, Result.andThen_ok]
    rfl

/-- What is returned where nothing is the state's own any more. -/
theorem frz_sound {h : Hp} (hk : HeapOK ν F h w) {v : V} {x : Value} (hr : rep F w ν v x) :
    ∃ F', ri F' w (frzV h v) x ∧ (∀ r, F r → F' r) ∧ (∀ r, F' r → F r ∨ ν.own r) := by
  refine ⟨fun r => F r ∨ ν.own r, ?_, fun r h => .inl h, fun r h => h⟩
  have hcl : ∀ b b', frzT h b ≠ .ren b' := by
    intro b b'
    unfold frzT
    split
    · simp
    · rename_i s es _
      cases es.all closedL <;> simp
    · simp
  have ht : TrOK F (fun r => F r ∨ ν.own r) w ν ⟨fun _ => none, 0, by simp, fun _ => false, by simp⟩ (frzT h) := by
    intro b hb
    cases hg : h.get b with
    | none => simp [frzT, hg]
    | some o =>
      by_cases hph : ν.ph b = true
      · obtain ⟨s, p, rfl⟩ : ∃ s p, o = .rows s p [] := by
          rcases hk.dom b o hg with ⟨x, hx⟩ | ⟨_, h⟩
          · have := ν.phx b x hx; rw [hph] at this; cases this
          · exact h
        cases p <;> simp [frzT, hg, hph]
      obtain ⟨⟨r, s', n⟩, hat⟩ := hk.domP b o hg (by simpa using hph)
      cases o with
      | rows s p es =>
      have hrw := rowsW_own hk (b := b) (r := r) (s := s) (n := n) (p := p) (es := es) hg (by
        obtain ⟨p', es', g1, g2, _⟩ := hk.blk b r s' n hat
        rw [hg] at g1; simp at g1; obtain ⟨rfl, _, _⟩ := g1; exact hat)
      obtain ⟨p', es', g1, g2, _⟩ := hk.blk b r s' n hat
      rw [hg] at g1
      simp at g1
      obtain ⟨rfl, rfl, rfl⟩ := g1
      cases p with
      | true =>
        simp only [frzT, hg]
        refine .inr ⟨r, by rw [g2]; exact hat, .inr ⟨b, s, n, hat⟩, fun i row hrow => ?_⟩
        obtain ⟨k1, k2⟩ := hrw i row hrow
        refine ⟨k1, fun j v hj => ?_⟩
        obtain ⟨x, k3, k4, k5⟩ := k2 j v hj
        exact ⟨x, k3, k4, ri_mono (fun r h => .inl h) (fun _ _ _ => rfl) v x k5⟩
      | false =>
        cases hall : es.all closedL with
        | false => simp [frzT, hg, hall]
        | true =>
          simp only [frzT, hg, hall, cond_true]
          refine .inr ⟨r, by rw [g2]; exact hat, .inr ⟨b, s, n, hat⟩, fun i row hrow => ?_⟩
          obtain ⟨k1, k2⟩ := hrw i row hrow
          refine ⟨k1, fun j v hj => ?_⟩
          obtain ⟨x, k3, k4, k5⟩ := k2 j v hj
          rw [List.all_eq_true] at hall
          have hv : v.closed = true := closedL_mem (hall row (List.mem_of_getElem? hrow)) (List.mem_of_getElem? hj)
          exact ⟨x, k3, k4, ri_mono (fun r h => .inl h) (fun _ _ _ => rfl) v x (rep_ri v x hv k5)⟩
  exact rep_ri _ x (tr_closed hcl v) (rep_tr (fun r h => .inl h) ht v x hr)
end
end Go.Proofs.Ytahoindkdkhpmaa.Clean
