/- Soundness: what a round of a loop keeps; what a function returns. Nothing here speaks of the program. -/
import Derived.Test.YtmdimnmdoifkfaaXDCT
namespace Go.Proofs.Ytmdimnmdoifkfaa.Clean
set_option linter.unusedSimpArgs false
set_option linter.unusedVariables false

theorem nodupB_inj {α : Type} {f : α → Nat} : ∀ {l : List α}, nodupB (l.map f) = true → ∀ {p q : α}, p ∈ l → q ∈ l → f p = f q → p = q
  | [], _, p, q, hp, _, _ => by simp at hp
  | x :: l, h, p, q, hp, hq, hf => by
    simp only [List.map, nodupB, Bool.and_eq_true, Bool.not_eq_true', List.any_eq_false, List.mem_map, forall_exists_index, and_imp, forall_apply_eq_imp_iff₂] at h
    have hne : ∀ y ∈ l, f x ≠ f y := fun y hy he => by
      have := h.1 y hy
      rw [he] at this
      simp at this
    simp only [List.mem_cons] at hp hq
    rcases hp with rfl | hp <;> rcases hq with rfl | hq
    · rfl
    · exact (hne q hq hf).elim
    · exact (hne p hp hf.symm).elim
    · exact nodupB_inj h.2 hp hq hf

theorem nodupI_iff : ∀ {l : List Id}, nodupI l = true ↔ l.Nodup
  | [] => by simp [nodupI]
  | x :: l => by
    simp only [nodupI, Bool.and_eq_true, Bool.not_eq_true', List.any_eq_false, List.nodup_cons, nodupI_iff (l := l)]
    refine and_congr_left fun _ => ⟨fun h hm => h x hm (by simp), fun h y hy he => h ?_⟩
    rw [Id.beq_iff.1 he]; exact hy
theorem nodupI_inj {α : Type} {f : α → Id} : ∀ {l : List α}, nodupI (l.map f) = true → ∀ {p q : α}, p ∈ l → q ∈ l → f p = f q → p = q
  | [], _, p, q, hp, _, _ => by simp at hp
  | x :: l, h, p, q, hp, hq, hf => by
    simp only [List.map, nodupI, Bool.and_eq_true, Bool.not_eq_true', List.any_eq_false, List.mem_map, forall_exists_index, and_imp, forall_apply_eq_imp_iff₂] at h
    have hne : ∀ y ∈ l, f x ≠ f y := fun y hy he => by
      have := h.1 y hy
      rw [he] at this
      simp at this
    simp only [List.mem_cons] at hp hq
    rcases hp with rfl | hp <;> rcases hq with rfl | hq
    · rfl
    · exact (hne q hq hf).elim
    · exact (hne p hp hf.symm).elim
    · exact nodupI_inj h.2 hp hq hf
theorem renOf_cases : ∀ (bs : List (Id × Nat)) (x : Id), renOf bs x = .drop ∨ ∃ b, renOf bs x = .ren (.p b) ∧ (x, b) ∈ bs
  | [], x => .inl rfl
  | (a, b) :: r, x => by
    simp only [renOf, Id.cond_beq]
    by_cases h : a = x
    · subst h; rw [if_pos rfl]; exact .inr ⟨b, rfl, by simp⟩
    · rw [if_neg h]
      rcases renOf_cases r x with h1 | ⟨b', h1, h2⟩
      · exact .inl h1
      · exact .inr ⟨b', h1, by simp [h2]⟩

/-- What becomes of a block. -/
noncomputable def keepO (τ : Id → Tr) (pu : Bool) : O → O
  | .rows s true es => .rows s true es
  | .rows s false es => bif pu && es.all closedL then .rows s true es else .rows s false (es.map (trL τ))
  | .mp es => .mp (es.map fun kv => (kv.1.tr τ, kv.2.tr τ))
  | .lp q => .lp (q.mapV (V.tr τ))
  | .it x n seen => .it (x.tr τ) n seen

theorem keepBs_cons {τ : Id → Tr} {pu : List Nat} {h : Hp} {a : Id} {b : Nat} {r : List (Id × Nat)} : keepBs τ pu h ((a, b) :: r) = match h.get a with | some o => (b, keepO τ (pu.any b.beq) o) :: keepBs τ pu h r | none => keepBs τ pu h r := by
  simp only [keepBs]
  cases h.get a with
  | none => rfl
  | some o => cases o with
    | rows s p es => cases p <;> rfl
    | mp es => rfl
    | lp q => rfl
    | it x n seen => rfl

theorem keepBs_get {τ : Id → Tr} {pu : List Nat} {h : Hp} : ∀ {bs : List (Id × Nat)}, nodupB (bs.map (·.2)) = true → ∀ {a : Id} {b : Nat} {o : O}, (a, b) ∈ bs → h.get a = some o → getB (keepBs τ pu h bs) b = some (keepO τ (pu.any b.beq) o)
  | [], _, a, b, o, hm, _ => by simp at hm
  | (a', b') :: r, hn, a, b, o, hm, ho => by
    have hn' := hn
    simp only [List.map, nodupB, Bool.and_eq_true] at hn
    simp only [List.mem_cons] at hm
    rw [keepBs_cons]
    rcases hm with hm | hm
    · simp at hm
      obtain ⟨rfl, rfl⟩ := hm
      simp only [ho]
      simp [getB_cons]
    · have hne : b' ≠ b := fun he => by
        have hf : (r.map (·.2)).any b'.beq = false := by simpa using hn.1
        rw [List.any_eq_false] at hf
        have := hf b (List.mem_map.2 ⟨(a, b), hm, rfl⟩)
        rw [he] at this
        simp at this
      have ih := keepBs_get (τ := τ) (pu := pu) (h := h) hn.2 hm ho
      cases h.get a' with
      | none => exact ih
      | some o' => simp only [getB_cons]; rw [if_neg hne]; exact ih

theorem keepBs_dom {τ : Id → Tr} {pu : List Nat} {h : Hp} : ∀ {bs : List (Id × Nat)} {b : Nat} {o : O}, getB (keepBs τ pu h bs) b = some o → ∃ a o', (a, b) ∈ bs ∧ h.get a = some o'
  | [], b, o, hg => by simp [keepBs, getB] at hg
  | (a', b') :: r, b, o, hg => by
    rw [keepBs_cons] at hg
    cases ha : h.get a' with
    | none =>
      simp only [ha] at hg
      obtain ⟨a, o', h1, h2⟩ := keepBs_dom hg
      exact ⟨a, o', by simp [h1], h2⟩
    | some o' =>
      simp only [ha, getB_cons] at hg
      by_cases hb : b' = b
      · exact ⟨a', o', by simp [hb], ha⟩
      · rw [if_neg hb] at hg
        obtain ⟨a, o'', h1, h2⟩ := keepBs_dom hg
        exact ⟨a, o'', by simp [h1], h2⟩

theorem trL_length (τ : Id → Tr) : ∀ vs : List V, (trL τ vs).length = vs.length
  | [] => rfl
  | v :: vs => by simp [trL, trL_length τ vs]
theorem trL_get (τ : Id → Tr) : ∀ (vs : List V) (j : Nat), (trL τ vs)[j]? = (vs[j]?).map (V.tr τ)
  | [], j => by simp [trL]
  | v :: vs, j => by
    cases j with
    | zero => simp [trL]
    | succ j => simpa [trL] using trL_get τ vs j

theorem mkT_get : ∀ (l : List (Tmp × V)), (∀ p ∈ l, p.1 < 1000000) → ∀ t v, (mkT l).get t = some v → (t, v) ∈ l
  | [], _, t, v, h => by simp [mkT, T.get] at h
  | (t', v') :: r, hl, t, v, h => by
    rw [mkT, get_set (hl (t', v') (by simp))] at h
    by_cases ht : t = t'
    · subst ht; simp at h; subst h; simp
    · rw [if_neg ht] at h
      exact List.mem_cons_of_mem _ (mkT_get r (fun p hp => hl p (by simp [hp])) t v h)

theorem nilBs_get : ∀ {l : List (Tmp × Nat × Nat)} {b : Nat} {o : O}, getB (nilBs l) b = some o → ∃ t s, (t, b, s) ∈ l ∧ o = .rows s true []
  | [], b, o, h => by simp [nilBs, getB] at h
  | (t, b', s) :: r, b, o, h => by
    rw [nilBs, getB_cons] at h
    by_cases hb : b' = b
    · rw [if_pos hb] at h
      simp at h
      exact ⟨t, s, by simp [hb], h.symm⟩
    · rw [if_neg hb] at h
      obtain ⟨t', s', h1, h2⟩ := nilBs_get h
      exact ⟨t', s', by simp [h1], h2⟩
theorem nilBs_none : ∀ {l : List (Tmp × Nat × Nat)} {b : Nat}, (∀ p ∈ l, p.2.1 ≠ b) → getB (nilBs l) b = none
  | [], b, h => by simp [nilBs, getB]
  | (t, b', s) :: r, b, h => by
    rw [nilBs, getB_cons, if_neg (h (t, b', s) (by simp))]
    exact nilBs_none fun p hp => h p (by simp [hp])
theorem getB_append : ∀ (l m : List (Nat × O)) (b : Nat), getB (l ++ m) b = (match getB l b with | some o => some o | none => getB m b)
  | [], m, b => by simp [getB]
  | (k, o) :: r, m, b => by
    rw [List.cons_append, getB_cons, getB_cons, getB_append r m b]
    by_cases hk : k = b
    · simp [hk]
    · simp [hk]
theorem nodupB_mem : ∀ {l : List Nat} {a b : List Nat}, l = a ++ b → nodupB l = true → ∀ x, x ∈ a → x ∈ b → False
  | l, [], b, _, _, x, hx, _ => by simp at hx
  | l, y :: a, b, hl, hn, x, hx, hb => by
    subst hl
    simp only [List.cons_append, nodupB, Bool.and_eq_true, Bool.not_eq_true', List.any_eq_false] at hn
    simp only [List.mem_cons] at hx
    rcases hx with rfl | hx
    · have := hn.1 x (by simp [hb])
      simp at this
    · exact nodupB_mem rfl hn.2 x hx hb
theorem nodupB_right : ∀ {a b : List Nat}, nodupB (a ++ b) = true → nodupB b = true
  | [], b, h => h
  | y :: a, b, h => by
    simp only [List.cons_append, nodupB, Bool.and_eq_true] at h
    exact nodupB_right h.2

section
variable {D : List Deferred} {G : Nat → Option (List V)} {F : Nat → Prop} {w : World} {ν : Nu} {N : Nat} {st : St} {a : Act} {kp : Keep}

theorem Keep.ok_iff : kp.ok = true ↔ nodupI (kp.blocks.map (·.1)) = true ∧ nodupB (kp.nils.map (·.2.1) ++ kp.blocks.map (·.2)) = true ∧ (∀ p ∈ kp.blocks, Nat.blt p.2 kp.nxt = true) ∧ (∀ p ∈ kp.nils, Nat.blt p.2.1 kp.nxt = true ∧ Nat.blt p.1 1000000 = true) ∧ (∀ t ∈ kp.slots, Nat.blt t 1000000 = true) ∧ famsOK kp = true := by
  simp only [Keep.ok, Bool.and_eq_true, List.all_eq_true, and_assoc]

/-- Which block is it that has this number behind the round? -/
def Keep.src (kp : Keep) (h : Hp) : Id → Option Id
  | .p b' => (kp.blocks.find? fun p => p.2.beq b').map (·.1)
  | .m B k => match kp.fams.find? fun f => f.to.beq B with
    | none => none
    | some f => if k < (f.old h).length then f.of.map (fun B0 => Id.m B0 k) else (f.take[k - (f.old h).length]?).map .p
def Keep.live (kp : Keep) (h : Hp) : Id → Bool
  | .p _ => true
  | .m B k => match kp.fams.find? fun f => f.to.beq B with
    | none => false
    | some f => (memb (f.ms h) k).isSome
def Keep.cnt (kp : Keep) (h : Hp) (B : Nat) : Nat := match kp.fams.find? fun f => f.to.beq B with
  | none => 0
  | some f => (f.ms h).length
theorem keepFs_get {h : Hp} : ∀ (fs : List Fk) (B : Nat), getF (keepFs h fs) B = (fs.find? fun f => f.to.beq B).map fun f => ⟨f.s, f.ms h⟩
  | [], B => rfl
  | f :: r, B => by
    simp only [keepFs, getF, List.find?_cons]
    cases f.to.beq B with
    | true => rfl
    | false => exact keepFs_get r B
theorem Keep.cnt_eq (kp : Keep) (h : Hp) (B : Nat) : kp.cnt h B = famLen (keepFs h kp.fams) B := by
  unfold Keep.cnt famLen
  rw [keepFs_get]
  cases kp.fams.find? fun f => f.to.beq B <;> rfl

theorem pairwise_get {l : List Fk} {R : Fk → Fk → Prop} (hr : l.Pairwise R) (hsym : ∀ a b, R a b → R b a) {f f' : Fk} (hf : f ∈ l) (hf' : f' ∈ l) : f = f' ∨ R f f' := by
  obtain ⟨i, hi, rfl⟩ := List.mem_iff_getElem.1 hf
  obtain ⟨j, hj, rfl⟩ := List.mem_iff_getElem.1 hf'
  rw [List.pairwise_iff_getElem] at hr
  rcases Nat.lt_trichotomy i j with h | h | h
  · exact .inr (hr i j hi hj h)
  · subst h; exact .inl rfl
  · exact .inr (hsym _ _ (hr j i hj hi h))

structure FamsOK (kp : Keep) : Prop where
  plain : kp.fams ≠ [] → ∀ p ∈ kp.blocks, p.1.plain = true
  apart : kp.fams ≠ [] → (kp.blocks.map (·.1) ++ kp.fams.flatMap fun f => f.take.map Id.p).Nodup
  to : ∀ f ∈ kp.fams, ∀ f' ∈ kp.fams, f.to = f'.to → f = f'
  of : ∀ f ∈ kp.fams, ∀ f' ∈ kp.fams, ∀ B, f.of = some B → f'.of = some B → f = f'
theorem nodupB_iff : ∀ {l : List Nat}, nodupB l = true → l.Nodup
  | [], _ => by simp
  | x :: l, h => by
    simp only [nodupB, Bool.and_eq_true, Bool.not_eq_true', List.any_eq_false] at h
    rw [List.nodup_cons]
    exact ⟨fun hm => h.1 x hm (by simp), nodupB_iff h.2⟩
theorem famsOK_iff (h : famsOK kp = true) : FamsOK kp := by
  unfold famsOK at h
  simp only [Bool.or_eq_true, Bool.and_eq_true, List.isEmpty_iff, List.all_eq_true] at h
  rcases h with h | ⟨⟨⟨h1, h2⟩, h3⟩, h4⟩
  · refine ⟨fun hn => (hn h).elim, fun hn => (hn h).elim, fun f hf => by simp [h] at hf, fun f hf => by simp [h] at hf⟩
  · refine ⟨fun _ => h1, fun _ => nodupI_iff.1 h2, fun f hf f' hf' he => nodupB_inj (f := fun f : Fk => f.to) h3 hf hf' he, fun f hf f' hf' B h5 h6 => ?_⟩
    have hn := nodupB_iff h4
    have : kp.fams.Pairwise fun f f' => ∀ B, f.of = some B → f'.of = some B → False := by
      have hp : (kp.fams.filterMap (·.of)).Pairwise (· ≠ ·) := hn
      rw [List.pairwise_filterMap] at hp
      exact hp.imp fun hR B a1 a2 => hR B a1 B a2 rfl
    rcases pairwise_get this (fun a b hab B x y => hab B y x) hf hf' with h | h
    · exact h
    · exact (h B h5 h6).elim

theorem find_to {l : List Fk} {B : Nat} {f : Fk} (h : l.find? (fun f => f.to.beq B) = some f) : f ∈ l ∧ f.to = B :=
  ⟨List.mem_of_find?_eq_some h, beq_eq (List.find?_some (p := fun f : Fk => f.to.beq B) h)⟩
theorem find_to_some (hF : FamsOK kp) {f : Fk} (hf : f ∈ kp.fams) : kp.fams.find? (fun g => g.to.beq f.to) = some f := by
  cases hx : kp.fams.find? (fun g => g.to.beq f.to) with
  | none =>
    rw [List.find?_eq_none] at hx
    have := hx f hf
    simp at this
  | some g =>
    obtain ⟨h1, h2⟩ := find_to hx
    rw [hF.to g h1 f hf h2]

theorem find_blk (hok : kp.ok = true) {b : Nat} {a : Id} (hm : (a, b) ∈ kp.blocks) : kp.blocks.find? (fun p => p.2.beq b) = some (a, b) := by
  have hn := nodupB_right (Keep.ok_iff.1 hok).2.1
  cases hf : kp.blocks.find? (fun p => p.2.beq b) with
  | none =>
    rw [List.find?_eq_none] at hf
    have := hf (a, b) hm
    simp at this
  | some p =>
    have hpm := List.mem_of_find?_eq_some hf
    have hb := beq_eq (List.find?_some (p := fun p : Id × Nat => p.2.beq b) hf)
    have := nodupB_inj (f := fun p : Id × Nat => p.2) hn hpm hm hb
    rw [this]
theorem src_p {h : Hp} {b : Nat} {a : Id} (hs : kp.src h (.p b) = some a) : (a, b) ∈ kp.blocks := by
  simp only [Keep.src, Option.map_eq_some_iff] at hs
  obtain ⟨p, h1, rfl⟩ := hs
  have hb := beq_eq (List.find?_some (p := fun p : Id × Nat => p.2.beq b) h1)
  rw [← hb]
  exact List.mem_of_find?_eq_some h1
theorem src_m {h : Hp} {B k : Nat} {a : Id} (hs : kp.src h (.m B k) = some a) : ∃ f ∈ kp.fams, f.to = B ∧ kp.fams.find? (fun f => f.to.beq B) = some f ∧
    ((k < (f.old h).length ∧ ∃ B0, f.of = some B0 ∧ a = .m B0 k) ∨ (¬ k < (f.old h).length ∧ ∃ a0, f.take[k - (f.old h).length]? = some a0 ∧ a = .p a0)) := by
  simp only [Keep.src] at hs
  cases hf : kp.fams.find? fun f => f.to.beq B with
  | none => simp [hf] at hs
  | some f =>
    obtain ⟨h1, h2⟩ := find_to hf
    rw [hf] at hs
    refine ⟨f, h1, h2, rfl, ?_⟩
    simp only at hs
    by_cases hk : k < (f.old h).length
    · rw [if_pos hk, Option.map_eq_some_iff] at hs
      obtain ⟨B0, h3, h4⟩ := hs
      exact .inl ⟨hk, B0, h3, h4.symm⟩
    · rw [if_neg hk, Option.map_eq_some_iff] at hs
      obtain ⟨a0, h3, h4⟩ := hs
      exact .inr ⟨hk, a0, h3, h4.symm⟩
theorem src_inj (hok : kp.ok = true) {h : Hp} {b b' a : Id} (h1 : kp.src h b = some a) (h2 : kp.src h b' = some a) : b = b' := by
  have hF := famsOK_iff (Keep.ok_iff.1 hok).2.2.2.2.2
  have hn1 := (Keep.ok_iff.1 hok).1
  have pm : ∀ {b0 B k : Nat}, kp.src h (.p b0) = some a → kp.src h (.m B k) = some a → False := fun {b0 B k} h1 h2 => by
    have hm := src_p h1
    obtain ⟨f, hf, _, _, h3⟩ := src_m h2
    have hne : kp.fams ≠ [] := fun he => by simp [he] at hf
    rcases h3 with ⟨_, B0, _, rfl⟩ | ⟨_, a0, h3, rfl⟩
    · have := hF.plain hne _ hm
      simp [Id.plain] at this
    · have hnd := hF.apart hne
      rw [List.nodup_append] at hnd
      exact hnd.2.2 (.p a0) (List.mem_map.2 ⟨_, hm, rfl⟩) (.p a0) (List.mem_flatMap.2 ⟨f, hf, List.mem_map.2 ⟨a0, List.mem_of_getElem? h3, rfl⟩⟩) rfl
  cases b with
  | p b0 =>
    cases b' with
    | p b1 =>
      have m1 := src_p h1
      have m2 := src_p h2
      have := nodupI_inj (f := fun p : Id × Nat => p.1) hn1 m1 m2 rfl
      simp at this
      rw [this]
    | m B k => exact (pm h1 h2).elim
  | m B k =>
    cases b' with
    | p b1 => exact (pm h2 h1).elim
    | m B' k' =>
      obtain ⟨f, hf, rfl, _, h3⟩ := src_m h1
      obtain ⟨f', hf', rfl, _, h4⟩ := src_m h2
      rcases h3 with ⟨_, B0, h5, rfl⟩ | ⟨hk, a0, h5, rfl⟩ <;> rcases h4 with ⟨_, B1, h6, h7⟩ | ⟨hk', a1, h6, h7⟩
      · simp at h7
        obtain ⟨rfl, rfl⟩ := h7
        rw [hF.of f hf f' hf' _ h5 h6]
      · simp at h7
      · simp at h7
      · simp at h7
        subst h7
        have hne : kp.fams ≠ [] := fun he => by simp [he] at hf
        have hnd := (List.nodup_append.1 (hF.apart hne)).2.1
        have hnd : (kp.fams.flatMap fun f => f.take.map Id.p).Pairwise (· ≠ ·) := hnd
        rw [List.pairwise_flatMap] at hnd
        have hff : f = f' := by
          rcases pairwise_get hnd.2 (fun a b hab x hx y hy he => hab y hy x hx he.symm) hf hf' with h | h
          · exact h
          · exact (h (.p a0) (List.mem_map.2 ⟨a0, List.mem_of_getElem? h5, rfl⟩) (.p a0) (List.mem_map.2 ⟨a0, List.mem_of_getElem? h6, rfl⟩) rfl).elim
        subst hff
        have hnt : f.take.Nodup := by
          have : (f.take.map Id.p).Pairwise (· ≠ ·) := hnd.1 f hf
          rw [List.pairwise_map] at this
          exact this.imp fun hR he => hR (by rw [he])
        have := (List.getElem?_inj (List.getElem?_eq_some_iff.1 h5).1 hnt).1 (h5.trans h6.symm)
        rw [show k = k' by omega]

def kpNu (kp : Keep) (hok : kp.ok = true) (h : Hp) (ν : Nu) : Nu where
  at_ b' := if kp.live h b' = true then (kp.src h b').bind ν.at_ else none
  nxt := kp.nxt
  cnt := kp.cnt h
  lt b x hx := by
    split at hx
    · rename_i hl
      rw [Option.bind_eq_some_iff] at hx
      obtain ⟨a, h1, _⟩ := hx
      cases b with
      | p b0 => exact blt_of ((Keep.ok_iff.1 hok).2.2.1 _ (src_p h1))
      | m B k =>
        simp only [Keep.live] at hl
        show k < kp.cnt h B
        unfold Keep.cnt
        cases hf : kp.fams.find? fun f => f.to.beq B with
        | none => simp [hf] at hl
        | some f =>
          rw [hf] at hl
          obtain ⟨es, he⟩ := Option.isSome_iff_exists.1 hl
          exact memb_lt he
    · cases hx
  ph b' := (match b' with | .p n => kp.nils.any (fun p => p.2.1.beq n) | .m _ _ => false) || ((kp.src h b').any ν.ph)
  phx b' x hx := by
    split at hx
    · rw [Option.bind_eq_some_iff] at hx
      obtain ⟨a, h1, h2⟩ := hx
      rw [h1, Bool.or_eq_false_iff]
      refine ⟨?_, by simp [ν.phx a x h2]⟩
      cases b' with
      | m B k => rfl
      | p n =>
        rw [List.any_eq_false]
        exact fun q hq he => nodupB_mem rfl (Keep.ok_iff.1 hok).2.1 n (List.mem_map.2 ⟨q, hq, beq_eq he⟩) (List.mem_map.2 ⟨_, src_p h1, rfl⟩)
    · cases hx

theorem kpNu_at (hok : kp.ok = true) {h : Hp} {b : Id} {x : Nat × Nat × Nat} : (kpNu kp hok h ν).at_ b = some x ↔ kp.live h b = true ∧ ∃ a, kp.src h b = some a ∧ ν.at_ a = some x := by
  simp only [kpNu]
  constructor
  · intro hx
    split at hx
    · rename_i hl
      rw [Option.bind_eq_some_iff] at hx
      exact ⟨hl, hx⟩
    · cases hx
  · rintro ⟨hl, a, h1, h2⟩
    rw [if_pos hl, h1]
    exact h2
theorem kpNu_iff (hok : kp.ok = true) {h : Hp} {b : Nat} {x : Nat × Nat × Nat} : (kpNu kp hok h ν).at_ (.p b) = some x ↔ ∃ a, (a, b) ∈ kp.blocks ∧ ν.at_ a = some x := by
  rw [kpNu_at]
  constructor
  · rintro ⟨_, a, h1, h2⟩
    exact ⟨a, src_p h1, h2⟩
  · rintro ⟨a, hm, h2⟩
    exact ⟨rfl, a, by simp only [Keep.src, find_blk hok hm]; rfl, h2⟩
theorem kpNu_ph (hok : kp.ok = true) {h : Hp} {b : Nat} {a : Id} (hm : (a, b) ∈ kp.blocks) : (kpNu kp hok h ν).ph (.p b) = ν.ph a := by
  simp only [kpNu, Keep.src, find_blk hok hm]
  have : kp.nils.any (fun p => p.2.1.beq b) = false := by
    rw [List.any_eq_false]
    exact fun q hq he => nodupB_mem rfl (Keep.ok_iff.1 hok).2.1 b (List.mem_map.2 ⟨q, hq, beq_eq he⟩) (List.mem_map.2 ⟨(a, b), hm, rfl⟩)
  rw [this]
  simp
theorem kpNu_nil (hok : kp.ok = true) {h : Hp} {t b s : Nat} (hm : (t, b, s) ∈ kp.nils) : (kpNu kp hok h ν).ph (.p b) = true ∧ (kpNu kp hok h ν).at_ (.p b) = none := by
  have h1 : (kpNu kp hok h ν).ph (.p b) = true := by
    simp only [kpNu, Bool.or_eq_true]
    exact .inl (List.any_eq_true.2 ⟨_, hm, by simp⟩)
  refine ⟨h1, ?_⟩
  cases h2 : (kpNu kp hok h ν).at_ (.p b) with
  | none => rfl
  | some x => have := (kpNu kp hok h ν).phx _ x h2; rw [h1] at this; cases this

/-- The first n blocks stay what they are. -/
def Keep.base (n : Nat) (kp : Keep) : Bool := Nat.ble n kp.nxt && kp.blocks.all (fun p => Nat.ble n p.2 || p.1.beq (.p p.2)) && kp.nils.all fun p => Nat.ble n p.2.1
theorem Keep.base_at {n : Nat} {kp : Keep} (h : kp.base n = true) (st : St) : (kp.at st).base n = true := by
  simp only [Keep.base, Keep.at, Bool.and_eq_true, List.all_eq_true, List.mem_filter] at *
  exact ⟨⟨h.1.1, fun p hm => h.1.2 p hm.1⟩, fun p hm => h.2 p hm.1⟩
theorem Keep.base_nu {n : Nat} {kp : Keep} (hb : kp.base n = true) (hok : kp.ok = true) {h : Hp} : n ≤ (kpNu kp hok h ν).nxt ∧ (∀ b x, b < n → (kpNu kp hok h ν).at_ (.p b) = some x → ν.at_ (.p b) = some x) ∧ ∀ b, b < n → (kpNu kp hok h ν).ph (.p b) = true → ν.ph (.p b) = true := by
  simp only [Keep.base, Bool.and_eq_true, List.all_eq_true, Bool.or_eq_true] at hb
  refine ⟨Nat.le_of_ble_eq_true hb.1.1, fun b x hbn hx => ?_, fun b hbn hx => ?_⟩
  · rw [kpNu_iff] at hx
    obtain ⟨a, hm, hx⟩ := hx
    rcases hb.1.2 _ hm with h1 | h1
    · have := Nat.le_of_ble_eq_true h1; simp only at this; omega
    · have := Id.beq_iff.1 h1; simp only at this; exact this ▸ hx
  · simp only [kpNu, Bool.or_eq_true, List.any_eq_true] at hx
    rcases hx with ⟨q, hq, he⟩ | hx
    · have := Nat.le_of_ble_eq_true (hb.2 q hq)
      have := beq_eq he
      omega
    · cases hs : kp.src h (.p b) with
      | none => simp [hs] at hx
      | some a =>
        rw [hs] at hx
        rcases hb.1.2 _ (src_p hs) with h1 | h1
        · have := Nat.le_of_ble_eq_true h1; simp only at this; omega
        · have := Id.beq_iff.1 h1; simp only at this; subst this; simpa using hx
/-- Blocks below n that are there stay there. -/
def Keep.all (n : Nat) (kp : Keep) : Bool := (List.range n).all fun b => kp.blocks.any fun p => p.1.beq (.p b) && p.2.beq b

theorem posOf_iff : ∀ {l : List Nat} {x j : Nat}, posOf l x = some j → l[j]? = some x
  | [], x, j, h => by simp [posOf] at h
  | a :: r, x, j, h => by
    simp only [posOf, Clean.cond_beq] at h
    by_cases ha : a = x
    · rw [if_pos ha] at h
      simp at h
      subst h
      simp [ha]
    · rw [if_neg ha, Option.map_eq_some_iff] at h
      obtain ⟨i, h1, rfl⟩ := h
      simpa using posOf_iff h1
/-- What a block becomes that is taken, or whose family goes on. -/
theorem renFs_cases {h : Hp} : ∀ (fs : List Fk) (x : Id), renFs h fs x = .drop ∨ ∃ f ∈ fs,
    (∃ a j, x = .p a ∧ f.take[j]? = some a ∧ renFs h fs x = .ren (.m f.to ((f.old h).length + j))) ∨
    (∃ B k g, x = .m B k ∧ f.of = some B ∧ getF h.fs B = some g ∧ g.s = f.s ∧ renFs h fs x = .ren (.m f.to k))
  | [], x => .inl (by cases x <;> rfl)
  | f :: r, x => by
    have rest : renFs h (f :: r) x = renFs h r x → (renFs h (f :: r) x = .drop ∨ ∃ f' ∈ f :: r,
      (∃ a j, x = .p a ∧ f'.take[j]? = some a ∧ renFs h (f :: r) x = .ren (.m f'.to ((f'.old h).length + j))) ∨
      (∃ B k g, x = .m B k ∧ f'.of = some B ∧ getF h.fs B = some g ∧ g.s = f'.s ∧ renFs h (f :: r) x = .ren (.m f'.to k))) := fun he => by
      rcases renFs_cases r x with h1 | ⟨f', hf', h1⟩
      · exact .inl (he.trans h1)
      · refine .inr ⟨f', by simp [hf'], ?_⟩
        rw [he]
        exact h1
    cases x with
    | p a =>
      cases hp : posOf f.take a with
      | none => exact rest (by simp only [renFs, hp])
      | some j => exact .inr ⟨f, by simp, .inl ⟨a, j, rfl, posOf_iff hp, by simp only [renFs, hp]⟩⟩
    | m B k =>
      cases ho : f.of with
      | none => exact rest (by simp only [renFs, ho])
      | some B' =>
        by_cases hB : B' = B
        · subst hB
          cases hg : getF h.fs B' with
          | none => exact .inl (by simp [renFs, ho, hg])
          | some g =>
            by_cases hs : g.s = f.s
            · exact .inr ⟨f, by simp, .inr ⟨B', k, g, rfl, ho, hg, hs, by simp [renFs, ho, hg, hs]⟩⟩
            · exact .inl (by simp [renFs, ho, hg, Clean.cond_beq, hs])
        · exact rest (by simp [renFs, ho, Clean.cond_beq, hB])

theorem old_len {h : Hp} {f : Fk} {B : Nat} {g : Fam} (h1 : f.of = some B) (h2 : getF h.fs B = some g) (h3 : g.s = f.s) : f.old h = g.ms := by
  simp [Fk.old, h1, h2, h3]
theorem ms_len {h : Hp} {f : Fk} : (f.ms h).length = (f.old h).length + f.take.length := by simp [Fk.ms]

theorem keep_tr {h : Hp} (hok : kp.ok = true) (hk : HeapOK ν F h w) : TrOK F F w ν (kpNu kp hok h ν) (kp.ren h) := by
  have hF := famsOK_iff (Keep.ok_iff.1 hok).2.2.2.2.2
  intro b hb
  unfold Keep.ren
  rcases renOf_cases kp.blocks b with h0 | ⟨b', h0, hm⟩
  · rw [h0]
    simp only
    rcases renFs_cases (h := h) kp.fams b with h1 | ⟨f, hf, h1⟩
    · rw [h1]; trivial
    · have fin : ∀ k, renFs h kp.fams b = .ren (.m f.to k) → k < (f.ms h).length → kp.src h (.m f.to k) = some b → (match renFs h kp.fams b with
          | .drop => True
          | .ren b' => (b'.lt (kpNu kp hok h ν).nxt (kpNu kp hok h ν).cnt ∧ ((kpNu kp hok h ν).ph b' = true → ν.ph b = true)) ∧ ∀ y, (kpNu kp hok h ν).at_ b' = some y → ν.at_ b = some y
          | .frz s es => (ν.ph b = true ∧ es = []) ∨ ∃ r, ν.at_ b = some (r, s, es.length) ∧ F r ∧ RowsW (ri F w) w r 0 s es) := fun k hr hl hs => by
        rw [hr]
        refine ⟨⟨?_, fun hq => ?_⟩, fun y hy => ?_⟩
        · show k < kp.cnt h f.to
          unfold Keep.cnt
          rw [find_to_some hF hf]
          exact hl
        · simp only [kpNu, hs, Bool.false_or] at hq
          simpa using hq
        · rw [kpNu_at] at hy
          obtain ⟨_, a, h2, h3⟩ := hy
          rw [hs] at h2
          cases h2
          exact h3
      rcases h1 with ⟨a, j, rfl, h2, h3⟩ | ⟨B, k, g, rfl, h2, h3, h4, h5⟩
      · refine fin _ h3 ?_ ?_
        · rw [ms_len]
          have := (List.getElem?_eq_some_iff.1 h2).1
          omega
        · simp only [Keep.src, find_to_some hF hf]
          rw [if_neg (by omega), Nat.add_sub_cancel_left, h2]
          rfl
      · have hkl : k < (f.old h).length := by
          have h6 : k < ν.cnt B := hb
          rw [hk.cnt B] at h6
          simp only [famLen, h3] at h6
          rw [old_len h2 h3 h4]
          exact h6
        refine fin _ h5 (by rw [ms_len]; omega) ?_
        simp only [Keep.src, find_to_some hF hf]
        rw [if_pos hkl, h2]
        rfl
  · rw [h0]
    refine ⟨⟨blt_of ((Keep.ok_iff.1 hok).2.2.1 _ hm), fun hq => by rw [kpNu_ph hok hm] at hq; exact hq⟩, fun y hy => ?_⟩
    rw [kpNu_iff] at hy
    obtain ⟨a', ha', hy⟩ := hy
    have := nodupB_inj (f := fun p : Id × Nat => p.2) (nodupB_right (Keep.ok_iff.1 hok).2.1) ha' hm rfl
    simp at this
    exact this ▸ hy

theorem takeB_some {h : Hp} {s a : Nat} {es : List (List V)} (ht : takeB h s a = some es) : h.get (.p a) = some (.rows s true es) := by
  unfold takeB at ht
  split at ht
  · rename_i s' es' hg
    cases hb : s'.beq s with
    | false => rw [hb] at ht; simp at ht
    | true =>
      rw [hb] at ht
      simp at ht
      rw [← ht, ← beq_eq hb]
      exact hg
  · cases ht
/-- What is a member behind the round was a block, or a member. -/
theorem live_src {h : Hp} {B k : Nat} {f : Fk} (hf : kp.fams.find? (fun f => f.to.beq B) = some f) {es : List (List V)} (hm : memb (f.ms h) k = some es) : ∃ a, kp.src h (.m B k) = some a ∧ h.get a = some (.rows f.s true es) := by
  have hm' : (f.ms h)[k]? = some (some es) := by
    unfold memb at hm
    exact Option.join_eq_some_iff.1 hm
  simp only [Keep.src, hf]
  unfold Fk.ms at hm'
  by_cases hk : k < (f.old h).length
  · rw [if_pos hk]
    rw [List.getElem?_append_left hk] at hm'
    cases ho : f.of with
    | none => simp [Fk.old, ho] at hk
    | some B0 =>
      refine ⟨.m B0 k, rfl, ?_⟩
      simp only [Fk.old, ho] at hm' hk
      cases hg : getF h.fs B0 with
      | none => simp [hg] at hk
      | some g =>
        rw [hg] at hm' hk
        cases hs : g.s.beq f.s with
        | false => simp only [hs, cond_false] at hk; simp at hk
        | true =>
          simp only [hs, cond_true] at hm' hk
          have hmem : memb g.ms k = some es := by
            unfold memb
            rw [hm']; rfl
          simp only [Hp.get, hg, hmem, Option.map_some, beq_eq hs]
  · rw [if_neg hk]
    rw [List.getElem?_append_right (by omega), List.getElem?_map, Option.map_eq_some_iff] at hm'
    obtain ⟨a0, h1, h2⟩ := hm'
    exact ⟨.p a0, by rw [h1]; rfl, takeB_some h2⟩

theorem keep_heap {h : Hp} (hok : kp.ok = true) (hk : HeapOK ν F h w) : HeapOK (kpNu kp hok h ν) F ⟨nilBs kp.nils ++ keepBs (kp.ren h) kp.pu h kp.blocks, kp.nxt, keepFs h kp.fams⟩ w ∧ ∀ r, (kpNu kp hok h ν).own r → ν.own r := by
  obtain ⟨hn1, hn12, hlt, hnl, hsl, hfm⟩ := Keep.ok_iff.1 hok
  have hn2 := nodupB_right hn12
  have htr : TrOK F F w ν (kpNu kp hok h ν) (kp.ren h) := keep_tr hok hk
  have skip : ∀ {a : Id} {b : Nat}, (a, b) ∈ kp.blocks → getB (nilBs kp.nils) b = none := fun hm => nilBs_none fun q hq he =>
    nodupB_mem rfl hn12 _ (List.mem_map.2 ⟨q, hq, he⟩) (List.mem_map.2 ⟨_, hm, rfl⟩)
  have ownr : ∀ r, (kpNu kp hok h ν).own r → ν.own r := by
    rintro r ⟨b, s, n, hb⟩
    rw [kpNu_at] at hb
    obtain ⟨_, a', _, hb⟩ := hb
    exact ⟨a', s, n, hb⟩
  refine ⟨⟨?_, ?_, ?_, ?_, rfl, fun B => kp.cnt_eq h B⟩, ownr⟩
  · intro b r s n hat
    cases b with
    | m B k =>
      rw [kpNu_at] at hat
      obtain ⟨hl, a, hs, hat⟩ := hat
      simp only [Keep.live] at hl
      cases hf : kp.fams.find? fun f => f.to.beq B with
      | none => simp [hf] at hl
      | some f =>
        rw [hf] at hl
        obtain ⟨es, he⟩ := Option.isSome_iff_exists.1 hl
        obtain ⟨a', hs', hg⟩ := live_src hf he
        rw [hs] at hs'
        cases hs'
        refine ⟨.rows f.s true es, ?_, ?_⟩
        · simp only [Hp.get, keepFs_get, hf, Option.map_some, he]
        · obtain ⟨rfl, g2, c, el, g3, g4, g5⟩ := hk.blkR hg hat
          exact ⟨rfl, g2, c, el, g3, g4, g5⟩
    | p b =>
    rw [kpNu_iff] at hat
    obtain ⟨a', ha', hat⟩ := hat
    obtain ⟨o, g1, g2⟩ := hk.blk a' r s n hat
    have hg := keepBs_get (τ := kp.ren h) (pu := kp.pu) (h := h) hn2 ha' g1
    have hg' : ∀ o, getB (keepBs (kp.ren h) kp.pu h kp.blocks) b = some o → Hp.get ⟨nilBs kp.nils ++ keepBs (kp.ren h) kp.pu h kp.blocks, kp.nxt, keepFs h kp.fams⟩ (.p b) = some o := fun o ho => by
      simp only [Hp.get, getB_append, skip ha', ho]
    cases o with
    | lp q =>
      obtain ⟨rec, k1, k2⟩ := g2
      exact ⟨_, hg' _ hg, rec, k1, k2.map (rep_tr (fun _ h => h) htr)⟩
    | it x m seen =>
      obtain ⟨mr, k1, k2⟩ := g2
      exact ⟨_, hg' _ hg, mr, k1, rep_tr (fun _ h => h) htr _ _ k2⟩
    | mp es =>
      obtain ⟨ents, k1, k2⟩ := g2
      refine ⟨_, hg' _ hg, ents, by rw [List.length_map]; exact k1, by simp [k2.1], fun i kv hi => ?_⟩
      rw [List.getElem?_map, Option.map_eq_some_iff] at hi
      obtain ⟨kv0, hi0, rfl⟩ := hi
      obtain ⟨e, e1, e2, e3, e4⟩ := k2.2 i kv0 hi0
      exact ⟨e, e1, e2, rep_tr (fun _ h => h) htr _ _ e3, rep_tr (fun _ h => h) htr _ _ e4⟩
    | rows s' p es =>
    obtain ⟨rfl, g2, c, el, g3, g4, g5⟩ := g2
    cases p with
    | true => exact ⟨_, hg' _ hg, rfl, g2, c, el, g3, g4, g5⟩
    | false =>
      cases hpu : (kp.pu.any b.beq && es.all closedL) with
      | true =>
        simp only [keepO, hpu, cond_true] at hg
        refine ⟨_, hg' _ hg, rfl, g2, c, el, g3, g4, ?_⟩
        simp only [Bool.and_eq_true, List.all_eq_true] at hpu
        rw [rowsC_iff] at g5 ⊢
        intro i row hrow
        obtain ⟨k1, k2⟩ := g5 i row hrow
        refine ⟨k1, fun j v hj => ?_⟩
        obtain ⟨x, k3, k4, k5⟩ := k2 j v hj
        exact ⟨x, k3, k4, rep_ri v x (closedL_mem (hpu.2 row (List.mem_of_getElem? hrow)) (List.mem_of_getElem? hj)) k5⟩
      | false =>
      simp only [keepO, hpu, cond_false] at hg
      refine ⟨_, hg' _ hg, rfl, by simpa using g2, c, el, g3, g4, ?_⟩
      rw [rowsC_iff] at g5 ⊢
      intro i row hrow
      rw [List.getElem?_map, Option.map_eq_some_iff] at hrow
      obtain ⟨row0, hrow0, rfl⟩ := hrow
      obtain ⟨k1, k2⟩ := g5 i row0 hrow0
      refine ⟨by rw [trL_length]; exact k1, fun j v hj => ?_⟩
      rw [trL_get, Option.map_eq_some_iff] at hj
      obtain ⟨v0, hv0, rfl⟩ := hj
      obtain ⟨x, k3, k4, k5⟩ := k2 j v0 hv0
      exact ⟨x, k3, k4, rep_tr (fun _ h => h) htr v0 x k5⟩
  · intro b o hb
    cases b with
    | m B k =>
      simp only [Hp.get, keepFs_get] at hb
      cases hf : kp.fams.find? fun f => f.to.beq B with
      | none => simp [hf] at hb
      | some f =>
        rw [hf] at hb
        simp only [Option.map_some, Option.map_eq_some_iff] at hb
        obtain ⟨es, he, rfl⟩ := hb
        obtain ⟨a, hs, hg⟩ := live_src hf he
        have hl : kp.live h (.m B k) = true := by simp [Keep.live, hf, he]
        rcases hk.dom a _ hg with ⟨x, hx⟩ | ⟨hp, s, p, he'⟩
        · exact .inl ⟨x, (kpNu_at hok).2 ⟨hl, a, hs, hx⟩⟩
        · simp at he'
          refine .inr ⟨?_, f.s, true, by rw [he'.2.2]⟩
          simp only [kpNu, hs, Option.any_some, hp, Bool.or_true]
    | p b =>
    simp only [Hp.get, getB_append] at hb
    split at hb
    · rename_i o' ho
      obtain ⟨t, s, hm, he⟩ := nilBs_get ho
      simp at hb
      exact .inr ⟨(kpNu_nil hok hm).1, s, true, by rw [← hb]; exact he⟩
    · obtain ⟨a', o', h1, h2⟩ := keepBs_dom hb
      rcases hk.dom a' o' h2 with ⟨x, hx⟩ | ⟨hp, s, p, rfl⟩
      · exact .inl ⟨x, (kpNu_iff hok).2 ⟨a', h1, hx⟩⟩
      · have hg := keepBs_get (τ := kp.ren h) (pu := kp.pu) (h := h) hn2 h1 h2
        rw [hb] at hg
        simp at hg
        refine .inr ⟨by rw [kpNu_ph hok h1]; exact hp, ?_⟩
        rw [hg]
        cases p with
        | true => exact ⟨s, true, by simp [keepO]⟩
        | false => cases hq : kp.pu.any b.beq <;> exact ⟨s, _, by simp only [keepO, hq]; rfl⟩
  · intro b b' r s n s' n' h1 h2
    rw [kpNu_at] at h1 h2
    obtain ⟨_, a1, m1, h1⟩ := h1
    obtain ⟨_, a2, m2, h2⟩ := h2
    have := hk.inj a1 a2 r s n s' n' h1 h2
    subst this
    exact src_inj hok m1 m2
  · intro r hr
    exact ⟨(hk.frz r hr).1, fun ho => (hk.frz r hr).2 (ownr r ho)⟩

theorem nilTs_mem : ∀ {l : List (Tmp × Nat × Nat)} {t : Tmp} {v : V}, (t, v) ∈ nilTs l → ∃ b s, (t, b, s) ∈ l ∧ v = .sl (.p b) 0 0
  | [], t, v, h => by simp [nilTs] at h
  | (t', b, s) :: r, t, v, h => by
    simp only [nilTs, List.mem_cons, Prod.mk.injEq] at h
    rcases h with ⟨rfl, rfl⟩ | h
    · exact ⟨b, s, by simp, rfl⟩
    · obtain ⟨b', s', h1, h2⟩ := nilTs_mem h
      exact ⟨b', s', by simp [h1], h2⟩

theorem keep_sound' (hok : kp.ok = true) (hnil : ∀ p ∈ kp.nils, isNilV (st.tm.get p.1) = true) (hst : StOK D G N ν F st a w) : StOK D G N (kpNu kp hok st.h ν) F (kp.st st) a w ∧ ∀ r, (kpNu kp hok st.h ν).own r → ν.own r := by
  obtain ⟨hn1, hn12, hlt, hnl, hsl, hfm⟩ := Keep.ok_iff.1 hok
  obtain ⟨hheap, hown⟩ := keep_heap hok hst.heap
  refine ⟨⟨hheap, hst.size, hst.defers, ⟨fun t v ht => ?_, hst.slot.2⟩⟩, hown⟩
  have hm := mkT_get _ (by
    intro p hp
    simp only [List.mem_append, List.mem_filterMap, Option.map_eq_some_iff] at hp
    rcases hp with hp | ⟨t, ht, v, _, rfl⟩
    · obtain ⟨b, s, h1, _⟩ := nilTs_mem (t := p.1) (v := p.2) hp
      exact blt_of (hnl _ h1).2
    · exact blt_of (hsl t ht)) t v ht
  simp only [List.mem_append, List.mem_filterMap, Option.map_eq_some_iff, Prod.mk.injEq] at hm
  rcases hm with hm | ⟨t', _, v0, hv0, rfl, rfl⟩
  · obtain ⟨b, s, h1, rfl⟩ := nilTs_mem hm
    have hnv := hnil _ h1
    simp only [isNilV] at hnv
    split at hnv
    · rename_i heq
      obtain ⟨x, x1, x2⟩ := hst.slot.1 _ _ heq
      simp only [rep] at x2
      refine ⟨x, x1, ?_⟩
      simp only [rep]
      refine ⟨⟨blt_of (hnl _ h1).1, fun _ => ⟨trivial, trivial, x2⟩⟩, fun r s n hat => ?_⟩
      rw [(kpNu_nil hok h1).2] at hat; cases hat
    · cases hnv
  · obtain ⟨x, h1, h2⟩ := hst.slot.1 t' v0 hv0
    exact ⟨x, h1, rep_tr (fun _ h => h) (keep_tr hok hst.heap) v0 x h2⟩
theorem keep_at {st : St} : ∀ p ∈ (kp.at st).nils, isNilV (st.tm.get p.1) = true := fun p hp => by
  simp only [Keep.at, List.mem_filter] at hp
  exact hp.2

/-! results -/
def resF (a : Act) (r : ResultVar) : Sem Value := match r with
  | .tmp t => pure (a.tmps.getD t undef)
  | .cell b t => do loadVar t (← asAddr (a.tmps.getD b undef))

theorem res1_sound {P : Program} (hst : StOK D G N ν F st a w) {r : ResultVar} {k : V → Prop} (h : wRes1 P st r k) :
    ∃ x v, k v ∧ rep F w ν v x ∧ (resF a r).run P w = .ok x w := by
  cases r with
  | tmp t =>
    refine ⟨_, _, h, ?_, rfl⟩
    exact ev_rep (a := a) hst.slot (.tmp t)
  | cell b t =>
    simp only [wRes1] at h
    have hr := ev_rep (a := a) hst.slot (.tmp b)
    simp only [ev, Act.eval] at hr
    obtain ⟨row, off, p, r, o, hK, hy, hrow, hag⟩ := at_row hst.heap hr h
    obtain ⟨x, v, h1, h2, h3⟩ := load_row (P := P) (fp := blkOf ((st.tm.get b).getD .junk)) (fun v x hv => repO_rep hv) hrow hag hK
    refine ⟨x, v, h1, h2, ?_⟩
    have := h3 w (Agree.refl _)
    simp only [resF, hy]
    simp [asAddr, this]

theorem resL_sound {P : Program} (hst : StOK D G N ν F st a w) : ∀ (rs : List ResultVar) (k : List V → Prop), wResL P st rs k →
    ∃ xs vs, k vs ∧ repL F w ν vs xs ∧ (rs.mapM (resF a)).run P w = .ok xs w
  | [], k, h => ⟨[], [], h, by simp [repL], by simp⟩
  | r :: rs, k, h => by
    simp only [wResL] at h
    obtain ⟨x, v, h1, h2, h3⟩ := res1_sound (P := P) hst h
    obtain ⟨xs, vs, g1, g2, g3⟩ := resL_sound hst rs _ h1
    refine ⟨x :: xs, v :: vs, g1, ?_, ?_⟩
    · simp only [repL]; exact ⟨x, xs, rfl, h2, g2⟩
    · simp only [List.mapM_cons, Sem.run_bind, h3, Result.andThen_ok, g3]
      rfl

theorem res_sound {P : Program} {fn : Func} (hst : StOK D G N ν F st a w) {k : V → Prop} (h : wRes P fn.results st k) :
    ∃ x v, k v ∧ rep F w ν v x ∧ (results fn a.tmps).run P w = .ok x w := by
  unfold wRes at h
  obtain ⟨xs, vs, h1, h2, h3⟩ := resL_sound (P := P) hst _ _ h
  have hl := repL_length h2
  refine ⟨(if hh : xs.toArray.size = 1 then xs.toArray[0] else .tuple xs.toArray), oneOf vs, h1, ?_, ?_⟩
  · cases vs with
    | nil =>
      simp only [oneOf, rep]
      rw [dif_neg (by simp [hl])]
      exact ⟨_, rfl, h2⟩
    | cons v vs =>
      cases vs with
      | nil =>
        simp only [repL] at h2
        obtain ⟨x, ys, rfl, h4, rfl⟩ := h2
        simp only [oneOf]
        simpa using h4
      | cons u us =>
        simp only [oneOf, rep]
        rw [dif_neg (by simp [hl])]
        exact ⟨_, rfl, h2⟩
  · have hm : fn.results.mapM (resF a) =
        List.toArray <$> fn.results.toList.mapM (resF a) := by
      rw [← List.mapM_toArray]
    have hu : results fn a.tmps = (do let vs ← fn.results.mapM (resF a); pure (if h : vs.size = 1 then vs[0] else .tuple vs)) := rfl
    rw [hu]
    simp only [hm, Sem.run_bind, Sem.run_map, h3, Result.andThen_ok]
    rfl

/-- What is returned where nothing is the state's own any more. -/
theorem frz_sound {h : Hp} (hk : HeapOK ν F h w) {v : V} {x : Value} (hr : rep F w ν v x) :
    ∃ F', ri F' w (frzV h v) x ∧ (∀ r, F r → F' r) ∧ (∀ r, F' r → F r ∨ ν.own r) := by
  refine ⟨fun r => F r ∨ ν.own r, ?_, fun r h => .inl h, fun r h => h⟩
  have hcl : ∀ b b', frzT h b ≠ .ren b' := by
    intro b b'
    cases b with
    | m B k => simp [frzT]
    | p b =>
      simp only [frzT]
      split
      · simp
      · rename_i s es _
        cases es.all closedL <;> simp
      · simp
  have ht : TrOK F (fun r => F r ∨ ν.own r) w ν ⟨fun _ => none, 0, fun _ => 0, by simp, fun _ => false, by simp⟩ (frzT h) := by
    intro b hb
    cases b with
    | m B k => simp [frzT]
    | p b =>
    cases hg : h.get (.p b) with
    | none =>
      have hg' : getB h.bs b = none := hg
      simp [frzT, hg']
    | some o =>
      have hg' : getB h.bs b = some o := hg
      by_cases hph : ν.ph (.p b) = true
      · obtain ⟨s, p, rfl⟩ : ∃ s p, o = .rows s p [] := by
          rcases hk.dom _ o hg with ⟨x, hx⟩ | ⟨_, h⟩
          · have := ν.phx _ x hx; rw [hph] at this; cases this
          · exact h
        cases p <;> simp [frzT, hg', hph]
      obtain ⟨⟨r, s', n⟩, hat⟩ := hk.domP _ o hg (by simpa using hph)
      cases o with
      | mp es => simp [frzT, hg']
      | lp q => simp [frzT, hg']
      | it x n seen => simp [frzT, hg']
      | rows s p es =>
      obtain ⟨rfl, g2, _⟩ := hk.blkR hg hat
      have hrw := rowsW_own hk hg hat
      cases p with
      | true =>
        simp only [frzT, hg']
        refine .inr ⟨r, by rw [g2]; exact hat, .inr ⟨_, _, n, hat⟩, fun i row hrow => ?_⟩
        obtain ⟨k1, k2⟩ := hrw i row hrow
        refine ⟨k1, fun j v hj => ?_⟩
        obtain ⟨x, k3, k4, k5⟩ := k2 j v hj
        exact ⟨x, k3, k4, ri_mono (fun r h => .inl h) (fun _ _ _ => rfl) v x k5⟩
      | false =>
        cases hall : es.all closedL with
        | false => simp [frzT, hg', hall]
        | true =>
          simp only [frzT, hg', hall, cond_true]
          refine .inr ⟨r, by rw [g2]; exact hat, .inr ⟨_, _, n, hat⟩, fun i row hrow => ?_⟩
          obtain ⟨k1, k2⟩ := hrw i row hrow
          refine ⟨k1, fun j v hj => ?_⟩
          obtain ⟨x, k3, k4, k5⟩ := k2 j v hj
          rw [List.all_eq_true] at hall
          have hv : v.closed = true := closedL_mem (hall row (List.mem_of_getElem? hrow)) (List.mem_of_getElem? hj)
          exact ⟨x, k3, k4, ri_mono (fun r h => .inl h) (fun _ _ _ => rfl) v x (rep_ri v x hv k5)⟩
  exact rep_ri _ x (tr_closed hcl v) (rep_tr (fun r h => .inl h) ht v x hr)
end
end Go.Proofs.Ytmdimnmdoifkfaa.Clean
