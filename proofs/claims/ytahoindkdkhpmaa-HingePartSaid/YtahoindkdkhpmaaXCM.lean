/- A call that may write to what it is lent, at the caller's: sound. Nothing here speaks of the program. -/
import Derived.Test.YtahoindkdkhpmaaXCC
import Derived.Test.YtahoindkdkhpmaaXCMd
namespace Go.Proofs.Ytahoindkdkhpmaa.Clean
set_option linter.unusedSimpArgs false
set_option linter.unusedVariables false

theorem renOf_mem : ∀ {bs : List (Nat × Nat)} {a i : Nat}, nodupB (bs.map (·.1)) = true → (a, i) ∈ bs → renOf bs a = .ren i
  | [], a, i, _, h => by simp at h
  | (c, j) :: r, a, i, hn, h => by
    simp only [renOf, cond_beq]
    by_cases hc : c = a
    · subst hc
      rw [if_pos rfl]
      have := nodupB_inj (f := fun p : Nat × Nat => p.1) hn h (List.mem_cons_self) rfl
      simp at this
      rw [this]
    · rw [if_neg hc]
      refine renOf_mem ?_ ((List.mem_cons.1 h).resolve_left (fun he => hc (by simp at he; exact he.1.symm)))
      simp only [List.map_cons, nodupB, Bool.and_eq_true] at hn
      exact hn.2
theorem renOf_none {bs : List (Nat × Nat)} {a : Nat} (h : ∀ i, (a, i) ∉ bs) : renOf bs a = .drop := by
  rcases renOf_cases bs a with h' | ⟨i, _, hm⟩
  · exact h'
  · exact (h i hm).elim
theorem back1_mem : ∀ {bs : List (Nat × Nat)} {a i : Nat}, nodupB (bs.map (·.2)) = true → (a, i) ∈ bs → back1 bs i = .ren a
  | [], a, i, _, h => by simp at h
  | (c, j) :: r, a, i, hn, h => by
    simp only [back1, cond_beq]
    by_cases hc : j = i
    · subst hc
      rw [if_pos rfl]
      have := nodupB_inj (f := fun p : Nat × Nat => p.2) hn h (List.mem_cons_self) rfl
      simp at this
      rw [this]
    · rw [if_neg hc]
      refine back1_mem ?_ ((List.mem_cons.1 h).resolve_left (fun he => hc (by simp at he; exact he.2.symm)))
      simp only [List.map_cons, nodupB, Bool.and_eq_true] at hn
      exact hn.2
theorem back1_cases : ∀ (bs : List (Nat × Nat)) (i : Nat), back1 bs i = .drop ∨ ∃ a, back1 bs i = .ren a ∧ (a, i) ∈ bs
  | [], i => .inl rfl
  | (c, j) :: r, i => by
    simp only [back1, cond_beq]
    by_cases hc : j = i
    · subst hc; rw [if_pos rfl]; exact .inr ⟨c, rfl, by simp⟩
    · rw [if_neg hc]
      rcases back1_cases r i with h | ⟨a, h1, h2⟩
      · exact .inl h
      · exact .inr ⟨a, h1, by simp [h2]⟩
theorem backBs_get {τ : Nat → Tr} {i b : Nat} (hi : τ i = .ren b) (hinj : ∀ j, τ j = .ren b → j = i) : ∀ (l : List (Nat × O)), getB (backBs τ l) b = (getB l i).map (backO τ)
  | [] => rfl
  | (k, o) :: r => by
    have ih := backBs_get hi hinj r
    rw [getB_cons]
    by_cases hk : k = i
    · subst hk
      simp [backBs, hi, getB_cons]
    · rw [if_neg hk]
      simp only [backBs]
      split
      · rename_i b' hb'
        rw [getB_cons, if_neg (fun he : b' = b => hk (hinj k (by rw [← he]; exact hb'))), ih]
      · exact ih
theorem backBs_none {τ : Nat → Tr} {b : Nat} (h : ∀ j, τ j ≠ .ren b) : ∀ (l : List (Nat × O)), getB (backBs τ l) b = none
  | [] => rfl
  | (k, o) :: r => by
    have ih := backBs_none h r
    simp only [backBs]
    split
    · rename_i b' hb'
      rw [getB_cons, if_neg (fun he : b' = b => h k (by rw [← he]; exact hb')), ih]
    · exact ih
theorem getB_mem : ∀ {l : List (Nat × O)} {b : Nat} {o : O}, getB l b = some o → (b, o) ∈ l
  | [], b, o, h => by simp [getB] at h
  | (k, o') :: r, b, o, h => by
    rw [getB_cons] at h
    by_cases hk : k = b
    · rw [if_pos hk] at h; simp at h; subst hk; subst h; simp
    · rw [if_neg hk] at h; exact List.mem_cons_of_mem _ (getB_mem h)
theorem get_delAll : ∀ (l : List Nat) (h : Hp) (b : Nat), (delAll h l).get b = if b ∈ l then none else h.get b
  | [], h, b => by simp [delAll]
  | c :: r, h, b => by
    simp only [delAll]
    rw [get_delAll r, Hp.get_del]
    by_cases hr : b ∈ r
    · simp [hr]
    · by_cases hc : b = c
      · simp [hc]
      · simp [hr, hc]

/-- Whose block is it now? -/
def mergeNu (ν ν1 : Nu) (bs : List (Nat × Nat)) (n : Nat) (hle : n ≤ ν1.nxt) (hlt : ∀ p ∈ bs, p.2 < n) : Nu where
  at_ b := if b < ν.nxt then (match renOf bs b with | .ren i => ν1.at_ i | _ => ν.at_ b) else ν1.at_ (n + (b - ν.nxt))
  nxt := ν.nxt + (ν1.nxt - n)
  lt b x h := by
    by_cases hb : b < ν.nxt
    · omega
    · rw [if_neg hb] at h; have := ν1.lt _ _ h; omega
  ph b := if b < ν.nxt then (match renOf bs b with | .ren i => ν1.ph i | _ => ν.ph b) else ν1.ph (n + (b - ν.nxt))
  phx b x h := by
    by_cases hb : b < ν.nxt
    · rw [if_pos hb] at h ⊢
      split at h
      · exact ν1.phx _ _ h
      · exact ν.phx _ _ h
    · rw [if_neg hb] at h ⊢; exact ν1.phx _ _ h

/-- **A call in a larger memory.** -/
theorem K_frame {P : Program} {G : Nat → Option (List V)} {f : FuncId} {args : List V} {h : Hp} {kp : Keep} {k : V → Hp → Prop} (hkp : kp = lentOf h args) (hok : kp.ok = true) (hbs : bsOK h = true)
    (hb : K P G f (trL (renOf kp.blocks) args) (lentH h kp) (fun _ => true) (fun v h1 => k (v.tr (backT kp.blocks kp.nxt h.nxt)) (mergeH h kp h1))) : K P G f args h (fun b => kp.blocks.any fun p => p.1.beq b) k := by
  intro ν F w xs hh hG hl
  have hnils : kp.nils = [] := by rw [hkp]; rfl
  have hpu : kp.pu = [] := by rw [hkp]; rfl
  obtain ⟨hn1, hn12, hblt, _, _⟩ := Keep.ok_iff.1 hok
  have hn2 := nodupB_right hn12
  have hblt : ∀ p ∈ kp.blocks, p.2 < kp.nxt := fun p hp => blt_of (hblt p hp)
  obtain ⟨kh, ko⟩ := keep_heap hok hh
  rw [hnils, hpu] at kh
  have hl' := repL_tr (fun _ h => h) (keep_tr (F := F) (w := w) hok) _ _ hl
  have hin : ∀ b o, h.get b = some o → b < ν.nxt := fun b o ho => by
    have := List.all_eq_true.1 hbs _ (getB_mem ho)
    rw [hh.nxt]; exact blt_of this
  refine (hb _ F w xs (by simpa [nilBs, lentH] using kh) hG hl').mono fun e w' ⟨x, v, ν1, F1, h1, g1, g2, g4, g5, g6, _⟩ => ?_
  have hnx : (kpNu kp hok ν).nxt = kp.nxt := rfl
  have hle : kp.nxt ≤ ν1.nxt := g6.nxt
  have hfst : ∀ a i, (a, i) ∈ kp.blocks → a < ν.nxt := fun a i hm => by
    -- what is lent is there
    have : (h.get a).isSome = true := by
      rw [hkp] at hm
      simp only [lentOf] at hm
      have := (List.mem_zipIdx hm)
      have hm' : a ∈ (reach 200 h (refsL args) []).filter fun b => (h.get b).isSome := by
        rw [this.2.2]; exact List.getElem_mem _
      exact (List.mem_filter.1 hm').2
    obtain ⟨o, ho⟩ := Option.isSome_iff_exists.1 this
    exact hin a o ho
  let σ := backT kp.blocks kp.nxt h.nxt
  have σlo : ∀ i a, (a, i) ∈ kp.blocks → σ i = .ren a := fun i a hm => by
    have : Nat.blt i kp.nxt = true := by have := hblt _ hm; exact Nat.ble_eq_true_of_le this
    simp only [σ, backT, this, cond_true]
    exact back1_mem hn2 hm
  have σhi : ∀ i, kp.nxt ≤ i → σ i = .ren (ν.nxt + (i - kp.nxt)) := fun i hi => by
    have : Nat.blt i kp.nxt = false := by
      cases hq : Nat.blt i kp.nxt with
      | false => rfl
      | true => have := blt_of hq; omega
    simp only [σ, backT, this, cond_false]
    rw [← hh.nxt]
  have σcase : ∀ i b, σ i = .ren b → (i < kp.nxt ∧ (b, i) ∈ kp.blocks ∧ b < ν.nxt) ∨ (kp.nxt ≤ i ∧ b = ν.nxt + (i - kp.nxt)) := fun i b hs => by
    by_cases hi : i < kp.nxt
    · left
      have : Nat.blt i kp.nxt = true := Nat.ble_eq_true_of_le hi
      simp only [σ, backT, this, cond_true] at hs
      rcases back1_cases kp.blocks i with h0 | ⟨a, h0, hm⟩
      · rw [h0] at hs; cases hs
      · rw [h0] at hs; cases hs
        exact ⟨hi, hm, hfst _ _ hm⟩
    · right
      rw [σhi i (by omega)] at hs
      cases hs
      exact ⟨by omega, rfl⟩
  have σinj : ∀ i j b, σ i = .ren b → σ j = .ren b → j = i := fun i j b hi hj => by
    rcases σcase i b hi with ⟨_, m1, l1⟩ | ⟨l1, e1⟩ <;> rcases σcase j b hj with ⟨_, m2, l2⟩ | ⟨l2, e2⟩
    · have := nodupB_inj (f := fun p : Nat × Nat => p.1) hn1 m2 m1 rfl
      simpa using this
    · omega
    · omega
    · omega
  let ν2 := mergeNu ν ν1 kp.blocks kp.nxt hle hblt
  have at_lent : ∀ a i, (a, i) ∈ kp.blocks → ν2.at_ a = ν1.at_ i ∧ ν2.ph a = ν1.ph i := fun a i hm => by
    have := hfst a i hm
    simp only [ν2, mergeNu, if_pos this, renOf_mem hn1 hm, and_self]
  have at_new : ∀ i, kp.nxt ≤ i → ν2.at_ (ν.nxt + (i - kp.nxt)) = ν1.at_ i ∧ ν2.ph (ν.nxt + (i - kp.nxt)) = ν1.ph i := fun i hi => by
    have : ¬ ν.nxt + (i - kp.nxt) < ν.nxt := by omega
    simp only [ν2, mergeNu, if_neg this]
    rw [show kp.nxt + (ν.nxt + (i - kp.nxt) - ν.nxt) = i by omega]
    exact ⟨rfl, rfl⟩
  have at_σ : ∀ i b, σ i = .ren b → ν2.at_ b = ν1.at_ i ∧ ν2.ph b = ν1.ph i := fun i b hs => by
    rcases σcase i b hs with ⟨_, hm, _⟩ | ⟨hi, rfl⟩
    · exact at_lent b i hm
    · exact at_new i hi
  have at_old : ∀ b, b < ν.nxt → (∀ i, (b, i) ∉ kp.blocks) → ν2.at_ b = ν.at_ b ∧ ν2.ph b = ν.ph b := fun b hb hn => by
    simp only [ν2, mergeNu, if_pos hb, renOf_none hn, and_self]
  have src : ∀ b y, ν2.at_ b = some y → (∃ i, σ i = .ren b ∧ ν1.at_ i = some y) ∨ (b < ν.nxt ∧ (∀ i, (b, i) ∉ kp.blocks) ∧ ν.at_ b = some y) := fun b y hy => by
    by_cases hb : b < ν.nxt
    · rcases renOf_cases kp.blocks b with h0 | ⟨i, h0, hm⟩
      · right
        have hn : ∀ i, (b, i) ∉ kp.blocks := fun i hm => by rw [renOf_mem hn1 hm] at h0; cases h0
        exact ⟨hb, hn, by rw [← (at_old b hb hn).1]; exact hy⟩
      · exact .inl ⟨i, σlo i b hm, by rw [← (at_lent b i hm).1]; exact hy⟩
    · left
      have hlt := ν2.lt _ _ hy
      have e : ν.nxt + (kp.nxt + (b - ν.nxt) - kp.nxt) = b := by omega
      refine ⟨kp.nxt + (b - ν.nxt), by rw [σhi _ (by omega), e], ?_⟩
      have := (at_new (kp.nxt + (b - ν.nxt)) (by omega)).1
      rw [e] at this
      rw [← this]; exact hy
  have own0 : ∀ r, (kpNu kp hok ν).own r → ∃ a i s n, (a, i) ∈ kp.blocks ∧ ν.at_ a = some (r, s, n) := fun r ⟨i, s, n, hat⟩ => by
    rw [kpNu_iff] at hat
    obtain ⟨a, hm, ha⟩ := hat
    exact ⟨a, i, s, n, hm, ha⟩
  have notown : ∀ b r s n, ν.at_ b = some (r, s, n) → (∀ i, (b, i) ∉ kp.blocks) → ¬ (kpNu kp hok ν).own r := fun b r s n hat hn ho => by
    obtain ⟨a, i, s', n', hm, ha⟩ := own0 r ho
    exact hn i (hh.inj a b r s' n' s n ha hat ▸ hm)
  have own_lt : ∀ r, ν.own r → r < w.heap.size := fun r ⟨b, s, n, hat⟩ => by
    obtain ⟨_, _, _, _, c, el, z, _, _⟩ := hh.blk b r s n hat
    exact lt_of_some z
  have same : ∀ b r s n, ν.at_ b = some (r, s, n) → (∀ i, (b, i) ∉ kp.blocks) → w'.heap[r]? = w.heap[r]? := fun b r s n hat hn => g6.old r (own_lt r ⟨b, s, n, hat⟩) (notown b r s n hat hn)
  have evo : Evo ν F w ν2 F1 w' := by
    refine ⟨g6.os, g6.tape, g6.output, g6.size, fun r hr ho => g6.old r hr (fun h0 => ho (ko r h0)), g6.fmono, fun r hr => (g6.fnew r hr).imp id (fun h => h.imp (ko r) id), ?_, ?_, ?_, ?_, ?_⟩
    · rintro r ⟨b, s, n, hat⟩
      rcases src b _ hat with ⟨i, _, h0⟩ | ⟨_, _, h0⟩
      · exact (g6.onew r ⟨i, s, n, h0⟩).imp (ko r) id
      · exact .inl ⟨b, s, n, h0⟩
    · intro b y hb hat
      rcases src b _ hat with ⟨i, hs, h0⟩ | ⟨_, _, h0⟩
      · rcases σcase i b hs with ⟨hi, hm, _⟩ | ⟨hi, he⟩
        · have := g6.keep i y hi h0
          rw [kpNu_iff] at this
          obtain ⟨a, hm', ha⟩ := this
          have := nodupB_inj (f := fun p : Nat × Nat => p.2) hn2 hm hm' rfl
          simp at this
          rw [this]; exact ha
        · omega
      · exact h0
    · show ν.nxt ≤ ν.nxt + _; omega
    · intro b hb hp
      rcases renOf_cases kp.blocks b with h0 | ⟨i, h0, hm⟩
      · have hn : ∀ i, (b, i) ∉ kp.blocks := fun i hm => by rw [renOf_mem hn1 hm] at h0; cases h0
        rw [(at_old b hb hn).2] at hp; exact hp
      · rw [(at_lent b i hm).2] at hp
        have := g6.kph i (hblt _ hm) hp
        rw [kpNu_ph hok hm] at this; exact this
    · intro b r s n hat hat2 c el fr hc
      rcases src b _ hat2 with ⟨i, hs, h0⟩ | ⟨_, hn, h0⟩
      · rcases σcase i b hs with ⟨hi, hm, _⟩ | ⟨hi, he⟩
        · exact g6.len i r s n ((kpNu_iff hok).2 ⟨b, hm, hat⟩) h0 c el fr hc
        · have := ν.lt _ _ hat; omega
      · exact ⟨c, by rw [same b r s n hat hn]; exact hc, rfl⟩
  have tr : TrOK F1 F1 w' ν1 ν2 σ := by
    intro b hb
    cases hs : σ b with
    | drop => trivial
    | frz s es =>
      exfalso
      by_cases hi : b < kp.nxt
      · have : Nat.blt b kp.nxt = true := Nat.ble_eq_true_of_le hi
        simp only [σ, backT, this, cond_true] at hs
        rcases back1_cases kp.blocks b with h0 | ⟨a, h0, hm⟩ <;> rw [h0] at hs <;> cases hs
      · rw [σhi b (by omega)] at hs; cases hs
    | ren b' =>
      obtain ⟨e1, e2⟩ := at_σ b b' hs
      refine ⟨⟨?_, fun hp => by rw [e2] at hp; exact hp⟩, fun y hy => by rw [e1] at hy; exact hy⟩
      show b' < ν.nxt + (ν1.nxt - kp.nxt)
      rcases σcase b b' hs with ⟨_, _, h0⟩ | ⟨h0, rfl⟩ <;> omega
  have getA : ∀ i b, σ i = .ren b → (mergeH h kp h1).get b = (h1.get i).map (backO σ) ∨ ((h1.get i) = none) := fun i b hs => by
    have := backBs_get hs (fun j hj => σinj i j b hs hj) h1.bs
    cases hg : h1.get i with
    | none => exact .inr rfl
    | some o =>
      left
      simp only [Hp.get] at hg
      simp only [mergeH, Hp.get, getB_append]
      rw [this, hg]; rfl
  have getOld : ∀ b, b < ν.nxt → (∀ i, (b, i) ∉ kp.blocks) → (mergeH h kp h1).get b = h.get b := fun b hb hn => by
    have : getB (backBs σ h1.bs) b = none := backBs_none (fun j hj => by
      rcases σcase j b hj with ⟨_, hm, _⟩ | ⟨_, he⟩
      · exact hn j hm
      · omega) _
    simp only [mergeH, Hp.get, getB_append]
    rw [this]
    have := get_delAll (kp.blocks.map (·.1)) h b
    simp only [Hp.get] at this
    rw [this, if_neg]
    intro hm
    obtain ⟨⟨a, i⟩, hm', rfl⟩ := List.mem_map.1 hm
    exact hn i hm'
  have heap : HeapOK ν2 F1 (mergeH h kp h1) w' := by
    refine ⟨?_, ?_, ?_, ?_, ?_⟩
    · intro b r s n hat
      rcases src b _ hat with ⟨i, hs, h0⟩ | ⟨hb, hn, h0⟩
      · obtain ⟨p, es, z1, z2, c, el, z3, z4, z5⟩ := g4.blk i r s n h0
        have hget : (mergeH h kp h1).get b = some (backO σ (.rows s p es)) := by
          rcases getA i b hs with h | h
          · rw [h, z1]; rfl
          · rw [z1] at h; cases h
        cases p with
        | true => exact ⟨true, es, hget, z2, c, el, z3, z4, z5⟩
        | false =>
          refine ⟨false, es.map (trL σ), hget, by simpa using z2, c, el, z3, z4, ?_⟩
          rw [rowsC_iff] at z5 ⊢
          intro j row hrow
          rw [List.getElem?_map, Option.map_eq_some_iff] at hrow
          obtain ⟨row0, hrow0, rfl⟩ := hrow
          obtain ⟨k1, k2⟩ := z5 j row0 hrow0
          refine ⟨by rw [trL_length]; exact k1, fun l u hu => ?_⟩
          rw [trL_get, Option.map_eq_some_iff] at hu
          obtain ⟨v0, hv0, rfl⟩ := hu
          obtain ⟨y, k3, k4, k5⟩ := k2 l v0 hv0
          exact ⟨y, k3, k4, rep_tr (fun _ h => h) tr v0 y k5⟩
      · obtain ⟨p, es, z1, z2, c, el, z3, z4, z5⟩ := hh.blk b r s n h0
        exact ⟨p, es, by rw [getOld b hb hn]; exact z1, z2, c, el, by rw [same b r s n h0 hn]; exact z3, z4, rowsC_evo hh evo z5⟩
    · intro b o hb
      simp only [mergeH, Hp.get, getB_append] at hb
      split at hb
      · rename_i o' ho
        simp at hb
        subst hb
        -- out of the callee's
        obtain ⟨i, o1, hs, ho1, rfl⟩ : ∃ i o1, σ i = .ren b ∧ getB h1.bs i = some o1 ∧ o' = backO σ o1 := by
          refine Classical.byContradiction fun hn => ?_
          by_cases hex : ∃ i, σ i = .ren b
          · obtain ⟨i, hs⟩ := hex
            have := backBs_get hs (fun j hj => σinj i j b hs hj) h1.bs
            rw [show backBs (backT kp.blocks kp.nxt h.nxt) h1.bs = backBs σ h1.bs from rfl, this, Option.map_eq_some_iff] at ho
            obtain ⟨o1, h1', h2'⟩ := ho
            exact hn ⟨i, o1, hs, h1', h2'.symm⟩
          · have := backBs_none (τ := σ) (b := b) (fun j hj => hex ⟨j, hj⟩) h1.bs
            rw [show backBs (backT kp.blocks kp.nxt h.nxt) h1.bs = backBs σ h1.bs from rfl, this] at ho
            cases ho
        obtain ⟨e1, e2⟩ := at_σ i b hs
        rcases g4.dom i o1 ho1 with ⟨y, hy⟩ | ⟨hp, s, p, rfl⟩
        · exact .inl ⟨y, by rw [e1]; exact hy⟩
        · refine .inr ⟨by rw [e2]; exact hp, s, p, ?_⟩
          cases p <;> rfl
      · have hb' : (delAll h (kp.blocks.map (·.1))).get b = some o := hb
        rw [get_delAll] at hb'
        split at hb'
        · cases hb'
        · rename_i hnm
          have hn : ∀ i, (b, i) ∉ kp.blocks := fun i hm => hnm (List.mem_map.2 ⟨_, hm, rfl⟩)
          have hlt := hin b o hb'
          obtain ⟨e1, e2⟩ := at_old b hlt hn
          rcases hh.dom b o hb' with ⟨y, hy⟩ | ⟨hp, h0⟩
          · exact .inl ⟨y, by rw [e1]; exact hy⟩
          · exact .inr ⟨by rw [e2]; exact hp, h0⟩
    · intro b b' r s n s' n' h0 h0'
      have mix : ∀ i b' s n s' n', ν1.at_ i = some (r, s, n) → ν.at_ b' = some (r, s', n') → (∀ i, (b', i) ∉ kp.blocks) → False := fun i b' s n s' n' a1 a2 hn => by
        rcases g6.onew r ⟨i, s, n, a1⟩ with h2 | h2
        · exact notown b' r s' n' a2 hn h2
        · have := own_lt r ⟨b', s', n', a2⟩; omega
      rcases src b _ h0 with ⟨i, hs, a1⟩ | ⟨_, hn, a1⟩ <;> rcases src b' _ h0' with ⟨i', hs', a2⟩ | ⟨_, hn', a2⟩
      · have := g4.inj i i' r s n s' n' a1 a2
        subst this
        rw [hs] at hs'; cases hs'; rfl
      · exact (mix i b' s n s' n' a1 a2 hn').elim
      · exact (mix i' b s' n' s n a2 a1 hn).elim
      · exact hh.inj b b' r s n s' n' a1 a2
    · intro r hr
      refine ⟨(g4.frz r hr).1, ?_⟩
      rintro ⟨b, s, n, hat⟩
      rcases src b _ hat with ⟨i, hs, a1⟩ | ⟨_, hn, a1⟩
      · exact (g4.frz r hr).2 ⟨i, s, n, a1⟩
      · rcases g6.fnew r hr with h2 | h2 | h2
        · exact (hh.frz r h2).2 ⟨b, s, n, a1⟩
        · exact notown b r s n a1 hn h2
        · have := own_lt r ⟨b, s, n, a1⟩; omega
    · show ν.nxt + (ν1.nxt - kp.nxt) = h.nxt + (h1.nxt - kp.nxt)
      rw [hh.nxt, g4.nxt]
  refine ⟨x, v.tr σ, ν2, F1, mergeH h kp h1, g1, g2, heap, rep_tr (fun _ h => h) tr v x g5, evo, fun b y hy hb => ?_⟩
  have hn : ∀ i, (b, i) ∉ kp.blocks := fun i hm => by
    rw [List.any_eq_false] at hb
    have := hb _ hm
    simp at this
  obtain ⟨r, s, n⟩ := y
  exact ⟨same b r s n hy hn, by rw [(at_old b (ν.lt _ _ hy) hn).1]; exact hy⟩

/-- The contract of a function that may write to what it is lent: behind it the memory is 'post', for something. -/
def KM (P : Program) (G : Nat → Option (List V)) (f : FuncId) (args : List V) (h0 : Hp) (post : Hp → Us → Hp) (R : V → Us → Prop) : Prop := K P G f args h0 (fun _ => true) fun v h1 => ∃ es, h1 = post h0 es ∧ R v es
theorem KM.mono {P : Program} {G : Nat → Option (List V)} {f : FuncId} {args : List V} {h : Hp} {post : Hp → Us → Hp} {R R' : V → Us → Prop} (hk : KM P G f args h post R) (hr : ∀ v es, R v es → R' v es) : KM P G f args h post R' :=
  K.mono hk fun v h' ⟨es, h1, h2⟩ => ⟨es, h1, hr v es h2⟩
/-- Functions of mode 3 may write to what they are lent. -/
def callsF (P : Program) (G : Nat → Option (List V)) (kn : FuncId → Option V) (mode : FuncId → Nat) (fz : Tmp → Bool) (base : Nat) (post : FuncId → Hp → Us → Hp) (rt : FuncId → Us → V → (V → Prop) → Prop) : Calling :=
  ⟨kn, mode, fz, KB P G, K0G P G, fun f args h k => match mode f with
      | 3 => guardB ((lentOf h args).ok && bsOK h) (KM P G f (trL (renOf (lentOf h args).blocks) args) (lentH h (lentOf h args)) (post f) fun v us => rt f us v fun v =>
          k (v.tr (backT (lentOf h args).blocks (lentOf h args).nxt h.nxt)) (mergeH h (lentOf h args) (post f (lentH h (lentOf h args)) us)))
      | _ => K P G f args h (fun _ => true) k,
    fun f args h b => match mode f with | 3 => (lentOf h args).blocks.any fun p => p.1.beq b | _ => true, true, base, G⟩
theorem typedR_rep {P : Program} {t : Option TypeId} {v : V} {k : V → Prop} (h : typedR P t v k) : ∃ v', k v' ∧ ∀ {F : Nat → Prop} {w : World} {ν : Nu} {x : Value}, rep F w ν v x → rep F w ν v' x := by
  cases t with
  | none => exact ⟨v, h, fun h => h⟩
  | some t => exact typedT_rep h
theorem sameV_rep {v w : V} {k : V → Prop} (h : sameV v w (k w)) : ∃ v', k v' ∧ ∀ {F : Nat → Prop} {w : World} {ν : Nu} {x : Value}, rep F w ν v x → rep F w ν v' x := ⟨w, h.2, fun hx => by rw [← h.1]; exact hx⟩
theorem sameV_mk {v : V} {k : Prop} (h : k) : sameV v v k := ⟨rfl, h⟩
theorem callsF_ok {P : Program} {G : Nat → Option (List V)} {kn : FuncId → Option V} {mode : FuncId → Nat} {fz : Tmp → Bool} {base : Nat} {post : FuncId → Hp → Us → Hp} {rt : FuncId → Us → V → (V → Prop) → Prop} (hkn : ∀ g r, kn g = some r → K0G P G g [] fun v => v = r) (hrt : ∀ f us v k, rt f us v k → ∃ v', k v' ∧ ∀ {F : Nat → Prop} {w : World} {ν : Nu} {x : Value}, rep F w ν v x → rep F w ν v' x) : (callsF P G kn mode fz base post rt).ok P := by
  refine ⟨hkn, fun _ _ _ _ _ h => K_of_K0 h, fun _ _ _ _ _ h1 h2 => K_of_KB h1 h2, fun _ _ _ _ _ h => K_of_K0t h, fun _ _ _ _ h hr => h.mono hr, fun _ _ _ h => h, ?_⟩
  intro f args h R hc
  by_cases hm : mode f = 3
  · simp only [callsF, hm] at hc ⊢
    rw [guardB_iff, Bool.and_eq_true] at hc
    obtain ⟨⟨hok, hbs⟩, hc⟩ := hc
    refine K_frame rfl hok hbs ?_
    intro ν F w xs g1 g2 g3
    refine (hc ν F w xs g1 g2 g3).mono fun e w' ⟨x, v, ν', F', h', z1, ⟨es, z2, z3⟩, z4, z5, z6⟩ => ?_
    obtain ⟨v', hk, hrv⟩ := hrt _ _ _ _ z3
    exact ⟨x, v', ν', F', h', z1, by rw [z2]; exact hk, z4, hrv z5, z6⟩
  · simp only [callsF] at hc ⊢
    exact hc

/-- **A function that may write to what it is lent is proved by its body.** -/
theorem K_of_WK {P : Program} {C : Calling} {kps : Nat → Keep} {kp : Keep} (hC : C.ok P) (hm : P.follows .mixedOrders = true) {f : FuncId} {fn : Func} (hf : P.funcs[f]? = some fn) {args : List V} {h : Hp} {R : V → Hp → Prop}
    (hB : ∀ i, (kps i).base h.nxt = true) (hE : kp.base h.nxt = true) (hw : WK P C kps kp fn args h R) (hC0 : C.base = 0 := by rfl) : K P C.glob f args h (fun _ => true) R := by
  intro ν F w xs hheap hG hrl
  unfold WK at hw
  split at hw
  case h_2 => exact hw.elim
  case h_1 c hc =>
    simp only [guardB_iff, Bool.and_eq_true] at hw
    obtain ⟨⟨hn, hk⟩, hw⟩ := hw
    have hn := Nat.le_of_ble_eq_true hn
    have hk := Nat.le_of_ble_eq_true hk
    have hlen := repL_length hrl
    have hslot : SlotOK C.glob F w ν (start args) (xs.toArray ++ Array.replicate (fn.ntmps - xs.toArray.size) undef) := by
      refine ⟨fun t v ht => ?_, hG⟩
      obtain ⟨_, h2⟩ := start_get args 0 (by omega) t v ht
      obtain ⟨x, h3, h4⟩ := repL_get hrl (t - 0) v h2
      refine ⟨x, ?_, h4⟩
      simp only [Nat.sub_zero] at h3
      have hlt := (List.getElem?_eq_some_iff.1 h3).1
      rw [Array.getElem?_append_left (by simpa using hlt)]
      simpa using h3
    have hst : StOK C.glob fn.ntmps ν F ⟨start args, h⟩ { tmps := xs.toArray ++ Array.replicate (fn.ntmps - xs.toArray.size) undef, defers := [] } w := ⟨hheap, by simp; omega, rfl, hslot⟩
    refine calls_of_wp hf hc (wp_mono (W_sound hC hm hB (fun i => by rw [hC0]; exact Keep.all_zero _) c 0 _ _ ν F _ w hw hst (Bse.refl F w (by rw [hheap.nxt]; exact Nat.le_refl _))) ?_)
    have done : ∀ ν' F' st' a' w', StOK C.glob fn.ntmps ν' F' st' a' w' → Bse C.base h.nxt ν F w ν' F' w' → (wRes P fn.results st' fun v => guardB (kp.at st').ok (R (v.tr (renOf (kp.at st').blocks)) ((kp.at st').st st').h)) →
        a'.defers = [] ∧ ∃ v, (results fn a'.tmps).run P w' = .ok v w' ∧ ∃ x v' ν' F' h', Ending.returned v = Ending.returned x ∧ R v' h' ∧ HeapOK ν' F' h' w' ∧ rep F' w' ν' v' x ∧ Evo ν F w ν' F' w' ∧ ∀ b y, ν.at_ b = some y → (true : Bool) = false → w'.heap[y.1]? = w.heap[y.1]? ∧ ν'.at_ b = some y := by
      intro ν' F' st' a' w' h2 h3 h4
      obtain ⟨x, v, g1, g2, g3⟩ := res_sound h2 h4
      rw [guardB_iff] at g1
      obtain ⟨hok, g1⟩ := g1
      obtain ⟨kh, ko⟩ := keep_heap hok h2.heap
      have h3 := h3.own ko (Keep.base_nu (ν := ν') (Keep.base_at hE st') hok) (fun b y hb => by rw [hC0] at hb; simp at hb)
      refine ⟨h2.defers, x, g3, x, v.tr (renOf (kp.at st').blocks), kpNu (kp.at st') hok ν', F', _, rfl, g1, kh, rep_tr (fun _ h => h) (keep_tr hok) v x g2, ⟨h3.os, h3.tape, h3.output, h3.size, h3.old, h3.fmono, h3.fnew, h3.onew, fun b y hb hy => h3.keep b y (by rw [← hheap.nxt]; exact hb) hy, by rw [hheap.nxt]; exact h3.nxt, fun b hb hx => h3.kph b (by rw [← hheap.nxt]; exact hb) hx, fun b r s m _ hy => h3.len b r s m ?_ hy⟩, fun _ _ _ hh => by simp at hh⟩
      rw [← hheap.nxt]
      exact ν.lt _ _ (by assumption)
    rintro e a' w' ⟨ex, ν', F', st', h1, h2, h3, h4⟩
    cases e <;> cases ex <;> simp only [exOf] at h1
    case normal.norm => exact done ν' F' st' a' w' h2 h3 h4
    case ret.ret => exact done ν' F' st' a' w' h2 h3 h4
    case exit.exit i j => exact h4.elim
end Go.Proofs.Ytahoindkdkhpmaa.Clean
