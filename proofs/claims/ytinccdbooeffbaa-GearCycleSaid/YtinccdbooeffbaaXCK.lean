/- Soundness: what a round of a loop keeps; what a function returns. Nothing here speaks of the program. -/
import Derived.Test.YtinccdbooeffbaaXCT
namespace Go.Proofs.Ytinccdbooeffbaa.Clean
set_option linter.unusedSimpArgs false
set_option linter.unusedVariables false

theorem nodupB_inj {α : Type} {f : α → Nat} : ∀ {l : List α}, nodupB (l.map f) = true → ∀ {p q : α}, p ∈ l → q ∈ l → f p = f q → p = q
  | [], _, p, q, hp, _, _ => by simp at hp
  | x :: l, h, p, q, hp, hq, hf => by
    simp only [List.map, nodupB, Bool.and_eq_true, Bool.not_eq_true', List.any_eq_false, List.mem_map, forall_exists_index, and_imp, forall_apply_eq_imp_iff₂] at h
    have hne : ∀ y ∈ l, f x ≠ f y := fun y hy he => by
      have := h.1 y hy
      rw [he] at this
      simp at this
    simp only [List.mem_cons] at hp hq
    rcases hp with rfl | hp <;> rcases hq with rfl | hq
    · rfl
    · exact (hne q hq hf).elim
    · exact (hne p hp hf.symm).elim
    · exact nodupB_inj h.2 hp hq hf

theorem renOf_cases : ∀ (bs : List (Nat × Nat)) (x : Nat), renOf bs x = .drop ∨ ∃ b, renOf bs x = .ren b ∧ (x, b) ∈ bs
  | [], x => .inl rfl
  | (a, b) :: r, x => by
    simp only [renOf, cond_beq]
    by_cases h : a = x
    · subst h; rw [if_pos rfl]; exact .inr ⟨b, rfl, by simp⟩
    · rw [if_neg h]
      rcases renOf_cases r x with h1 | ⟨b', h1, h2⟩
      · exact .inl h1
      · exact .inr ⟨b', h1, by simp [h2]⟩

def trO (τ : Nat → Tr) : O → O
  | .rows s true es => .rows s true es
  | .rows s false es => .rows s false (es.map (trL τ))

theorem keepBs_get {τ : Nat → Tr} {h : Hp} : ∀ {bs : List (Nat × Nat)}, nodupB (bs.map (·.2)) = true → ∀ {a b : Nat} {o : O}, (a, b) ∈ bs → h.get a = some o → getB (keepBs τ h bs) b = some (trO τ o)
  | [], _, a, b, o, hm, _ => by simp at hm
  | (a', b') :: r, hn, a, b, o, hm, ho => by
    have hn' := hn
    simp only [List.map, nodupB, Bool.and_eq_true] at hn
    simp only [List.mem_cons] at hm
    rcases hm with hm | hm
    · simp at hm
      obtain ⟨rfl, rfl⟩ := hm
      simp only [keepBs, ho]
      cases o with
      | rows s p es => cases p <;> simp [getB_cons, trO]
    · have hne : b' ≠ b := fun he => by
        have hf : (r.map (·.2)).any b'.beq = false := by simpa using hn.1
        rw [List.any_eq_false] at hf
        have := hf b (List.mem_map.2 ⟨(a, b), hm, rfl⟩)
        rw [he] at this
        simp at this
      have ih := keepBs_get (τ := τ) (h := h) hn.2 hm ho
      simp only [keepBs]
      cases h.get a' with
      | none => exact ih
      | some o' =>
        cases o' with
        | rows s p es => cases p <;> (simp only [getB_cons]; rw [if_neg hne]; exact ih)

theorem keepBs_dom {τ : Nat → Tr} {h : Hp} : ∀ {bs : List (Nat × Nat)} {b : Nat} {o : O}, getB (keepBs τ h bs) b = some o → ∃ a o', (a, b) ∈ bs ∧ h.get a = some o'
  | [], b, o, hg => by simp [keepBs, getB] at hg
  | (a', b') :: r, b, o, hg => by
    simp only [keepBs] at hg
    cases ha : h.get a' with
    | none =>
      simp only [ha] at hg
      obtain ⟨a, o', h1, h2⟩ := keepBs_dom hg
      exact ⟨a, o', by simp [h1], h2⟩
    | some o' =>
      have : b' = b ∨ getB (keepBs τ h r) b = some o := by
        simp only [ha] at hg
        cases o' with
        | rows s p es =>
          cases p <;> (simp only [getB_cons] at hg; by_cases hb : b' = b; exact .inl hb; rw [if_neg hb] at hg; exact .inr hg)
      rcases this with rfl | hg'
      · exact ⟨a', o', by simp, ha⟩
      · obtain ⟨a, o'', h1, h2⟩ := keepBs_dom hg'
        exact ⟨a, o'', by simp [h1], h2⟩

theorem trL_length (τ : Nat → Tr) : ∀ vs : List V, (trL τ vs).length = vs.length
  | [] => rfl
  | v :: vs => by simp [trL, trL_length τ vs]
theorem trL_get (τ : Nat → Tr) : ∀ (vs : List V) (j : Nat), (trL τ vs)[j]? = (vs[j]?).map (V.tr τ)
  | [], j => by simp [trL]
  | v :: vs, j => by
    cases j with
    | zero => simp [trL]
    | succ j => simpa [trL] using trL_get τ vs j

theorem mkT_get : ∀ (l : List (Tmp × V)), (∀ p ∈ l, p.1 < 1000000) → ∀ t v, (mkT l).get t = some v → (t, v) ∈ l
  | [], _, t, v, h => by simp [mkT, T.get] at h
  | (t', v') :: r, hl, t, v, h => by
    rw [mkT, get_set (hl (t', v') (by simp))] at h
    by_cases ht : t = t'
    · subst ht; simp at h; subst h; simp
    · rw [if_neg ht] at h
      exact List.mem_cons_of_mem _ (mkT_get r (fun p hp => hl p (by simp [hp])) t v h)

section
variable {F : Nat → Prop} {w : World} {ν : Nu} {N : Nat} {st : St} {a : Act} {kp : Keep}

def kpNu (kp : Keep) (hok : kp.ok = true) (ν : Nu) : Nu where
  at_ b' := (kp.blocks.find? fun p => p.2.beq b').bind fun p => ν.at_ p.1
  nxt := kp.nxt
  lt b x h := by
    rw [Option.bind_eq_some_iff] at h
    obtain ⟨p, h1, _⟩ := h
    have hm := List.mem_of_find?_eq_some h1
    have hb := List.find?_some (p := fun p : Nat × Nat => p.2.beq b) h1
    simp only [Keep.ok, Bool.and_eq_true, List.all_eq_true] at hok
    have := Nat.le_of_ble_eq_true (hok.1.2 p hm)
    have := beq_eq hb
    omega

theorem kpNu_iff (hok : kp.ok = true) {b : Nat} {x : Nat × Nat × Nat} : (kpNu kp hok ν).at_ b = some x ↔ ∃ a, (a, b) ∈ kp.blocks ∧ ν.at_ a = some x := by
  have hn : nodupB (kp.blocks.map (·.2)) = true := by simp only [Keep.ok, Bool.and_eq_true] at hok; exact hok.1.1.2
  simp only [kpNu, Option.bind_eq_some_iff]
  constructor
  · rintro ⟨p, h1, h2⟩
    have hm := List.mem_of_find?_eq_some h1
    have hb := beq_eq (List.find?_some (p := fun p : Nat × Nat => p.2.beq b) h1)
    exact ⟨p.1, by rw [← hb]; exact hm, h2⟩
  · rintro ⟨a, hm, h2⟩
    cases hf : kp.blocks.find? (fun p => p.2.beq b) with
    | none =>
      rw [List.find?_eq_none] at hf
      have := hf (a, b) hm
      simp at this
    | some p =>
      have hpm := List.mem_of_find?_eq_some hf
      have hb := beq_eq (List.find?_some (p := fun p : Nat × Nat => p.2.beq b) hf)
      have := nodupB_inj (f := fun p : Nat × Nat => p.2) hn hpm hm hb
      subst this
      exact ⟨_, rfl, h2⟩

theorem keep_sound (hok : kp.ok = true) (hst : StOK N ν F st a w) : ∃ ν', StOK N ν' F (kp.st st) a w ∧ ∀ r, ν'.own r → ν.own r := by
  have hok' := hok
  simp only [Keep.ok, Bool.and_eq_true, List.all_eq_true] at hok'
  obtain ⟨⟨⟨hn1, hn2⟩, hlt⟩, hsl⟩ := hok'
  have htr : TrOK F F w ν (kpNu kp hok ν) (renOf kp.blocks) := by
    intro b hb
    rcases renOf_cases kp.blocks b with h | ⟨b', h, hm⟩
    · rw [h]; trivial
    · rw [h]
      refine ⟨Nat.le_of_ble_eq_true (hlt _ hm), fun y hy => ?_⟩
      rw [kpNu_iff] at hy
      obtain ⟨a', ha', hy⟩ := hy
      have := nodupB_inj (f := fun p : Nat × Nat => p.2) hn2 ha' hm rfl
      simp at this
      exact this ▸ hy
  refine ⟨kpNu kp hok ν, ⟨⟨?_, ?_, ?_, ?_, rfl⟩, hst.size, hst.defers, ?_⟩, ?_⟩
  · intro b r s n hat
    rw [kpNu_iff] at hat
    obtain ⟨a', ha', hat⟩ := hat
    obtain ⟨p, es, g1, g2, c, el, g3, g4, g5⟩ := hst.heap.blk a' r s n hat
    have hg := keepBs_get (τ := renOf kp.blocks) (h := st.h) hn2 ha' g1
    cases p with
    | true => exact ⟨true, es, hg, g2, c, el, g3, g4, g5⟩
    | false =>
      refine ⟨false, es.map (trL (renOf kp.blocks)), hg, by simpa using g2, c, el, g3, g4, ?_⟩
      rw [rowsC_iff] at g5 ⊢
      intro i row hrow
      rw [List.getElem?_map, Option.map_eq_some_iff] at hrow
      obtain ⟨row0, hrow0, rfl⟩ := hrow
      obtain ⟨k1, k2⟩ := g5 i row0 hrow0
      refine ⟨by rw [trL_length]; exact k1, fun j v hj => ?_⟩
      rw [trL_get, Option.map_eq_some_iff] at hj
      obtain ⟨v0, hv0, rfl⟩ := hj
      obtain ⟨x, k3, k4, k5⟩ := k2 j v0 hv0
      exact ⟨x, k3, k4, rep_tr (fun _ h => h) htr v0 x k5⟩
  · intro b o hb
    obtain ⟨a', o', h1, h2⟩ := keepBs_dom hb
    obtain ⟨x, hx⟩ := hst.heap.dom a' o' h2
    exact ⟨x, (kpNu_iff hok).2 ⟨a', h1, hx⟩⟩
  · intro b b' r s n s' n' h1 h2
    rw [kpNu_iff] at h1 h2
    obtain ⟨a1, m1, h1⟩ := h1
    obtain ⟨a2, m2, h2⟩ := h2
    have := hst.heap.inj a1 a2 r s n s' n' h1 h2
    have := nodupB_inj (f := fun p : Nat × Nat => p.1) hn1 m1 m2 this
    simp at this
    exact this.2
  · intro r hr
    refine ⟨(hst.heap.frz r hr).1, ?_⟩
    rintro ⟨b, s, n, hb⟩
    rw [kpNu_iff] at hb
    obtain ⟨a', _, hb⟩ := hb
    exact (hst.heap.frz r hr).2 ⟨a', s, n, hb⟩
  · intro t v ht
    have hm := mkT_get _ (by
      intro p hp
      simp only [List.mem_filterMap, Option.map_eq_some_iff] at hp
      obtain ⟨t, ht, v, _, rfl⟩ := hp
      exact Nat.le_of_ble_eq_true (hsl t ht)) t v ht
    simp only [List.mem_filterMap, Option.map_eq_some_iff, Prod.mk.injEq] at hm
    obtain ⟨t', _, v0, hv0, rfl, rfl⟩ := hm
    obtain ⟨x, h1, h2⟩ := hst.slot t' v0 hv0
    exact ⟨x, h1, rep_tr (fun _ h => h) htr v0 x h2⟩
  · rintro r ⟨b, s, n, hb⟩
    rw [kpNu_iff] at hb
    obtain ⟨a', _, hb⟩ := hb
    exact ⟨a', s, n, hb⟩

/-! results -/
def resF (a : Act) (r : ResultVar) : Sem Value := match r with
  | .tmp t => pure (a.tmps.getD t undef)
  | .cell b t => do loadVar t (← asAddr (a.tmps.getD b undef))

theorem res1_sound {P : Program} (hst : StOK N ν F st a w) {r : ResultVar} {k : V → Prop} (h : wRes1 P st r k) :
    ∃ x v, k v ∧ rep F w ν v x ∧ (resF a r).run P w = .ok x w := by
  cases r with
  | tmp t =>
    refine ⟨_, _, h, ?_, rfl⟩
    exact ev_rep (a := a) hst.slot (.tmp t)
  | cell b t =>
    simp only [wRes1] at h
    have hr := ev_rep (a := a) hst.slot (.tmp b)
    simp only [ev, Act.eval] at hr
    obtain ⟨row, off, p, r, o, hK, hy, hrow, hag⟩ := at_row hst.heap hr h
    obtain ⟨x, v, h1, h2, h3⟩ := load_row (P := P) (fp := blkOf ((st.tm.get b).getD .junk)) (fun v x hv => repO_rep hv) hrow hag hK
    refine ⟨x, v, h1, h2, ?_⟩
    have := h3 w (Agree.refl _)
    simp only [resF, hy]
    simp [asAddr, this]

theorem resL_sound {P : Program} (hst : StOK N ν F st a w) : ∀ (rs : List ResultVar) (k : List V → Prop), wResL P st rs k →
    ∃ xs vs, k vs ∧ repL F w ν vs xs ∧ (rs.mapM (resF a)).run P w = .ok xs w
  | [], k, h => ⟨[], [], h, by simp [repL], by simp⟩
  | r :: rs, k, h => by
    simp only [wResL] at h
    obtain ⟨x, v, h1, h2, h3⟩ := res1_sound (P := P) hst h
    obtain ⟨xs, vs, g1, g2, g3⟩ := resL_sound hst rs _ h1
    refine ⟨x :: xs, v :: vs, g1, ?_, ?_⟩
    · simp only [repL]; exact ⟨x, xs, rfl, h2, g2⟩
    · simp only [List.mapM_cons, Sem.run_bind, h3, Result.andThen_ok, g3]
      rfl

theorem res_sound {P : Program} {fn : Func} (hst : StOK N ν F st a w) {k : V → Prop} (h : wRes P fn.results st k) :
    ∃ x v, k v ∧ rep F w ν v x ∧ (results fn a.tmps).run P w = .ok x w := by
  unfold wRes at h
  obtain ⟨xs, vs, h1, h2, h3⟩ := resL_sound (P := P) hst _ _ h
  have hl := repL_length h2
  refine ⟨(if hh : xs.toArray.size = 1 then xs.toArray[0] else .tuple xs.toArray), oneOf vs, h1, ?_, ?_⟩
  · cases vs with
    | nil =>
      simp only [oneOf, rep]
      rw [dif_neg (by simp [hl])]
      exact ⟨_, rfl, h2⟩
    | cons v vs =>
      cases vs with
      | nil =>
        simp only [repL] at h2
        obtain ⟨x, ys, rfl, h4, rfl⟩ := h2
        simp only [oneOf]
        simpa using h4
      | cons u us =>
        simp only [oneOf, rep]
        rw [dif_neg (by simp [hl])]
        exact ⟨_, rfl, h2⟩
  · have hm : fn.results.mapM (resF a) =
        List.toArray <$> fn.results.toList.mapM (resF a) := by
      rw [← List.mapM_toArray]
    have hu : results fn a.tmps = (do let vs ← fn.results.mapM (resF a); pure (if h : vs.size = 1 then vs[0] else .tuple vs)) := rfl
    rw [hu]
    simp only [hm, Sem.run_bind, Sem.run_map, h3, Result.andThen_ok]
    rfl

/-- What is returned where nothing is the state's own any more. -/
theorem frz_sound {h : Hp} (hk : HeapOK ν F h w) {v : V} {x : Value} (hr : rep F w ν v x) :
    ∃ F', ri F' w (frzV h v) x ∧ (∀ r, F r → F' r) ∧ (∀ r, F' r → F r ∨ ν.own r) := by
  refine ⟨fun r => F r ∨ ν.own r, ?_, fun r h => .inl h, fun r h => h⟩
  have hcl : ∀ b b', frzT h b ≠ .ren b' := by
    intro b b'
    unfold frzT
    split
    · simp
    · rename_i s es _
      cases es.all closedL <;> simp
    · simp
  have ht : TrOK F (fun r => F r ∨ ν.own r) w ν ⟨fun _ => none, 0, by simp⟩ (frzT h) := by
    intro b hb
    cases hg : h.get b with
    | none => simp [frzT, hg]
    | some o =>
      obtain ⟨⟨r, s', n⟩, hat⟩ := hk.dom b o hg
      cases o with
      | rows s p es =>
      have hrw := rowsW_own hk (b := b) (r := r) (s := s) (n := n) (p := p) (es := es) hg (by
        obtain ⟨p', es', g1, g2, _⟩ := hk.blk b r s' n hat
        rw [hg] at g1; simp at g1; obtain ⟨rfl, _, _⟩ := g1; exact hat)
      obtain ⟨p', es', g1, g2, _⟩ := hk.blk b r s' n hat
      rw [hg] at g1
      simp at g1
      obtain ⟨rfl, rfl, rfl⟩ := g1
      cases p with
      | true =>
        simp only [frzT, hg]
        refine ⟨r, by rw [g2]; exact hat, .inr ⟨b, s, n, hat⟩, fun i row hrow => ?_⟩
        obtain ⟨k1, k2⟩ := hrw i row hrow
        refine ⟨k1, fun j v hj => ?_⟩
        obtain ⟨x, k3, k4, k5⟩ := k2 j v hj
        exact ⟨x, k3, k4, ri_mono (fun r h => .inl h) (fun _ _ _ => rfl) v x k5⟩
      | false =>
        cases hall : es.all closedL with
        | false => simp [frzT, hg, hall]
        | true =>
          simp only [frzT, hg, hall, cond_true]
          refine ⟨r, by rw [g2]; exact hat, .inr ⟨b, s, n, hat⟩, fun i row hrow => ?_⟩
          obtain ⟨k1, k2⟩ := hrw i row hrow
          refine ⟨k1, fun j v hj => ?_⟩
          obtain ⟨x, k3, k4, k5⟩ := k2 j v hj
          rw [List.all_eq_true] at hall
          have hv : v.closed = true := closedL_mem (hall row (List.mem_of_getElem? hrow)) (List.mem_of_getElem? hj)
          exact ⟨x, k3, k4, ri_mono (fun r h => .inl h) (fun _ _ _ => rfl) v x (rep_ri v x hv k5)⟩
  exact rep_ri _ x (tr_closed hcl v) (rep_tr (fun r h => .inl h) ht v x hr)
end
end Go.Proofs.Ytinccdbooeffbaa.Clean
