/- Soundness: statements, loops, functions; and the rules that a proof goes by. Nothing here speaks of the program. -/
import Derived.Test.YtinccdbooeffbaaXCD
import Derived.Scope
namespace Go.Proofs.Ytinccdbooeffbaa.Clean
set_option linter.unusedSimpArgs false
set_option linter.unusedVariables false

/-- What a function has made of the world so far. -/
structure Bse (ν0 : Nu) (F0 : Nat → Prop) (w0 : World) (ν : Nu) (F : Nat → Prop) (w : World) : Prop where
  os : w.os = w0.os
  tape : w.tape = w0.tape
  output : w.output = w0.output
  size : w0.heap.size ≤ w.heap.size
  old : ∀ r, r < w0.heap.size → ¬ ν0.own r → w.heap[r]? = w0.heap[r]?
  fmono : ∀ r, F0 r → F r
  fnew : ∀ r, F r → F0 r ∨ ν0.own r ∨ w0.heap.size ≤ r
  onew : ∀ r, ν.own r → ν0.own r ∨ w0.heap.size ≤ r

theorem Bse.refl (ν : Nu) (F : Nat → Prop) (w : World) : Bse ν F w ν F w :=
  ⟨rfl, rfl, rfl, Nat.le_refl _, fun _ _ _ => rfl, fun _ h => h, fun _ h => .inl h, fun _ h => .inl h⟩
theorem Bse.evo {ν0 : Nu} {F0 : Nat → Prop} {w0 : World} {ν ν' : Nu} {F F' : Nat → Prop} {w w' : World} (h : Bse ν0 F0 w0 ν F w) (k : Evo ν F w ν' F' w') : Bse ν0 F0 w0 ν' F' w' where
  os := k.os.trans h.os
  tape := k.tape.trans h.tape
  output := k.output.trans h.output
  size := Nat.le_trans h.size k.size
  old r hr ho := by
    rw [k.old r (Nat.lt_of_lt_of_le hr h.size) (fun h' => (h.onew r h').elim ho (fun h'' => absurd hr (by omega)))]
    exact h.old r hr ho
  fmono r hr := k.fmono r (h.fmono r hr)
  fnew r hr := by
    rcases k.fnew r hr with h1 | h1 | h1
    · exact h.fnew r h1
    · exact (h.onew r h1).elim (fun h => .inr (.inl h)) (fun h => .inr (.inr h))
    · exact .inr (.inr (Nat.le_trans h.size h1))
  onew r hr := by
    rcases k.onew r hr with h1 | h1
    · exact h.onew r h1
    · exact .inr (Nat.le_trans h.size h1)
theorem Bse.own {ν0 : Nu} {F0 : Nat → Prop} {w0 : World} {ν ν' : Nu} {F : Nat → Prop} {w : World} (h : Bse ν0 F0 w0 ν F w) (k : ∀ r, ν'.own r → ν.own r) : Bse ν0 F0 w0 ν' F w :=
  { h with onew := fun r hr => h.onew r (k r hr) }

def exOf : Exit → Ex → Prop
  | .normal, .norm => True
  | .exit i, .exit j => i = j
  | .ret, .ret => True
  | _, _ => False

def lift (N : Nat) (ν0 : Nu) (F0 : Nat → Prop) (w0 : World) (Q : Post) (e : Exit) (a : Act) (w : World) : Prop :=
  ∃ ex ν F st, exOf e ex ∧ StOK N ν F st a w ∧ Bse ν0 F0 w0 ν F w ∧ Q ex st

/-- From the head of a loop. -/
def LoopFrom (P : Program) (c : Code) (Q : Exit → Act → World → Prop) (a : Act) (w : World) : Prop :=
  ∀ (b : Frame) (k : List Item) (cs : List Frame), ∃ e a' w', Q e a' w' ∧ Arrives P (lone (b.at a (.code c :: .inLoop c :: k)) cs w) b k cs e a' w'

theorem loopFrom_round {P : Program} {c : Code} {Q : Exit → Act → World → Prop} {a : Act} {w : World} (h : c.wp P (Exit.then (LoopFrom P c Q) Q) a w) : LoopFrom P c Q a w := by
  intro b k cs
  obtain ⟨e, a₁, w₁, hq, harr⟩ := h b (.inLoop c :: k) cs
  cases e with
  | normal =>
    obtain ⟨e₂, a₂, w₂, hq₂, harr₂⟩ := hq b k cs
    exact ⟨e₂, a₂, w₂, hq₂, .of_steps (Steps.trans harr (.one step_inLoop)) harr₂⟩
  | exit id => exact ⟨_, a₁, w₁, hq, .pass (x := .inLoop c) rfl (fun _ _ => .inl (by simp)) harr⟩
  | goto l => exact ⟨_, a₁, w₁, hq, .pass (x := .inLoop c) rfl (fun _ _ => .inl (by simp)) harr⟩
  | ret => exact ⟨_, a₁, w₁, hq, .pass (x := .inLoop c) rfl (fun _ _ => .inl (by simp)) harr⟩
  | panic ch => exact ⟨_, a₁, w₁, hq, .pass (x := .inLoop c) rfl (fun _ _ => .inl (by simp)) harr⟩
  | outgrown => exact ⟨_, a₁, w₁, hq, .pass (x := .inLoop c) rfl (fun _ _ => .inl (by simp)) harr⟩

theorem wp_loop_from {P : Program} {c : Code} {Q : Exit → Act → World → Prop} {a : Act} {w : World} (h : LoopFrom P c Q a w) : (Code.loop c).wp P Q a w := by
  intro b k cs
  obtain ⟨e, a', w', hq, harr⟩ := h b k cs
  exact ⟨e, a', w', hq, .of_steps (.one step_loop) harr⟩

section
variable {P : Program} {C : Calling} {N : Nat} {kps : Nat → Keep} {ν0 : Nu} {F0 : Nat → Prop} {w0 : World}

theorem W_sound (hC : C.ok P) (hm : P.follows .mixedOrders = true) : ∀ (c : Code) (cur : Nat) (Q : Post) (st : St) (ν : Nu) (F : Nat → Prop) (a : Act) (w : World),
    W P C N kps cur c Q st → StOK N ν F st a w → Bse ν0 F0 w0 ν F w → c.wp P (lift N ν0 F0 w0 Q) a w := by
  intro c
  induction c with
  | skip => intro cur Q st ν F a w h hst hb; exact wp_skip ⟨.norm, ν, F, st, trivial, hst, hb, h⟩
  | label l => intro cur Q st ν F a w h hst hb; exact wp_label ⟨.norm, ν, F, st, trivial, hst, hb, h⟩
  | exit id => intro cur Q st ν F a w h hst hb; exact wp_exit ⟨.exit id, ν, F, st, rfl, hst, hb, h⟩
  | ret => intro cur Q st ν F a w h hst hb; exact wp_ret ⟨.ret, ν, F, st, trivial, hst, hb, h⟩
  | region id ops draw =>
    intro cur Q st ν F a w h hst hb
    cases draw with
    | false =>
      simp only [W] at h
      refine wp_region ?_
      have := ops_sound (ops := ops) (Q := lift N ν0 F0 w0 Q) (ν0 := ν) (F0 := F) (w0 := w) hC (noAsk_keeps C) (fun ν' F' st' a' w' h1 h2 h3 => ⟨.norm, ν', F', st', trivial, h1, hb.evo h2.1, h3⟩) ops.size 0 ν F st a w (by omega) hst (EvoU.refl _ _ _ _) (by simpa using h)
      rw [List.range_eq_range']
      exact this
    | true =>
      simp only [W, guardB_iff] at h
      obtain ⟨hok, h⟩ := h
      refine wp_region_any hm ?_
      obtain ⟨hk, he⟩ := heap_same (w' := { w with drawn := w.drawn + 1 }) hst.heap rfl rfl rfl rfl
      have hst' : StOK N ν F st a { w with drawn := w.drawn + 1 } := ⟨hk, hst.size, hst.defers, hst.slot.evo hst.heap he⟩
      refine wpAny_of_S (S := SH ops []) _ _ _ _ (draw_sound (ν0 := ν) (F0 := F) (w0 := { w with drawn := w.drawn + 1 }) hC (noAsk_keeps C) hok (fun c a w h => ?_) (fun ν' F' st' a' w' h1 h2 h3 => ⟨.norm, ν', F', st', trivial, h1, (hb.evo he).evo h2.1, h3⟩)
        _ ν F st a _ ⟨by simp, fun j => ?_⟩ (fun j oj hj hl => ?_) hst' (EvoU.refl _ _ _ _) h)
      · obtain ⟨ex, _, _, _, h1, _⟩ := h
        cases ex <;> exact h1
      · have : (0 : Nat).testBit j = false := Nat.zero_testBit j
        rw [this]
        simp only [Array.getD_eq_getD_getElem?, Array.getElem?_replicate]
        split <;> rfl
      · exfalso
        simp only [Array.getD_eq_getD_getElem?, Array.getElem?_replicate] at hl
        split at hl <;> simp at hl
  | seq x y ihx ihy =>
    intro cur Q st ν F a w h hst hb
    simp only [W] at h
    refine wp_seq (wp_mono (ihx cur _ st ν F a w h hst hb) ?_)
    rintro e a' w' ⟨ex, ν', F', st', h1, h2, h3, h4⟩
    cases e <;> cases ex <;> simp only [exOf] at h1
    case normal.norm => exact ihy cur Q st' ν' F' a' w' h4 h2 h3
    case exit.exit i j => exact ⟨.exit j, ν', F', st', h1, h2, h3, h4⟩
    case ret.ret => exact ⟨.ret, ν', F', st', trivial, h2, h3, h4⟩
  | cond c x y ihx ihy =>
    intro cur Q st ν F a w h hst hb
    simp only [W, onBool_iff, ifB_iff] at h
    obtain ⟨t, ht, h1, h2⟩ := h
    have hr := ev_rep (a := a) hst.slot c
    rw [ht] at hr
    simp only [rep] at hr
    refine wp_cond_split hr (fun h => ?_) (fun h => ?_)
    · exact ihx cur Q st ν F a w (h1 h) hst hb
    · exact ihy cur Q st ν F a w (h2 h) hst hb
  | block id x ih =>
    intro cur Q st ν F a w h hst hb
    simp only [W] at h
    refine wp_block (wp_mono (ih id _ st ν F a w h hst hb) ?_)
    rintro e a' w' ⟨ex, ν', F', st', h1, h2, h3, h4⟩
    cases e <;> cases ex <;> simp only [exOf] at h1
    case normal.norm => exact ⟨.norm, ν', F', st', trivial, h2, h3, h4⟩
    case exit.exit i j =>
      subst h1
      simp only [Qblk] at h4
      simp only [Exit.inBlock]
      cases hbq : i.beq id with
      | true =>
        rw [hbq] at h4
        rw [if_pos (beq_eq hbq)]
        exact ⟨.norm, ν', F', st', trivial, h2, h3, h4⟩
      | false =>
        rw [hbq] at h4
        rw [if_neg (fun heq => by subst heq; simp at hbq)]
        exact ⟨.exit i, ν', F', st', rfl, h2, h3, h4⟩
    case ret.ret => exact ⟨.ret, ν', F', st', trivial, h2, h3, h4⟩
  | loop x ih =>
    intro cur Q st ν F a w h hst hb
    simp only [W, Keep.go, guardB_iff] at h
    obtain ⟨hok, h⟩ := h
    obtain ⟨ν1, hst1, ho1⟩ := keep_sound hok hst
    refine wp_loop_from ?_
    refine h.out (fun s => ∀ ν F a w, StOK N ν F s a w → Bse ν0 F0 w0 ν F w → LoopFrom P x (lift N ν0 F0 w0 Q) a w) ?_ ν1 F a w hst1 (hb.own ho1)
    intro s hs ν F a w hst hb
    refine loopFrom_round (wp_mono (ih cur _ s ν F a w hs hst hb) ?_)
    rintro e a' w' ⟨ex, ν', F', st', h1, h2, h3, h4⟩
    cases e <;> cases ex <;> simp only [exOf] at h1
    case normal.norm =>
      simp only [Qlp, Keep.go, guardB_iff] at h4
      obtain ⟨hok', h4⟩ := h4
      obtain ⟨ν2, hst2, ho2⟩ := keep_sound hok' h2
      exact h4 ν2 F' a' w' hst2 (h3.own ho2)
    case exit.exit i j => exact ⟨.exit j, ν', F', st', h1, h2, h3, h4⟩
    case ret.ret => exact ⟨.ret, ν', F', st', trivial, h2, h3, h4⟩
  | rangeFunc f ps x y ihx ihy => intro cur Q st ν F a w h; simp [W] at h
  | scope x ih =>
    intro cur Q st ν F a w h hst hb
    simp only [W] at h
    refine wp_scope_straight (wp_mono (ih cur Q st ν F a w h hst hb) ?_)
    rintro e a' w' ⟨ex, ν', F', st', h1, h2⟩
    cases e <;> first | exact ⟨ex, ν', F', st', h1, h2⟩ | (cases ex <;> exact h1.elim)
  | goto l => intro cur Q st ν F a w h; simp [W] at h
  | refuse s => intro cur Q st ν F a w h; simp [W] at h

def nu0 : Nu := ⟨fun _ => none, 0, by simp⟩

theorem start_get : ∀ (args : List V) (i : Nat), i + args.length ≤ 1000000 → ∀ t v, (mkT ((args.zipIdx i).map fun p => (p.2, p.1))).get t = some v → i ≤ t ∧ args[t - i]? = some v
  | [], i, _, t, v, h => by simp [mkT, T.get] at h
  | u :: args, i, hl, t, v, h => by
    simp only [List.zipIdx_cons, List.map, mkT] at h
    simp only [List.length_cons] at hl
    rw [get_set (by omega)] at h
    by_cases ht : t = i
    · subst ht; simp at h; subst h; simp
    · rw [if_neg ht] at h
      obtain ⟨h1, h2⟩ := start_get args (i + 1) (by omega) t v h
      refine ⟨by omega, ?_⟩
      rw [show t - i = (t - (i + 1)) + 1 by omega, List.getElem?_cons_succ]
      exact h2

/-- **A function is proved by its body.** -/
theorem K0_of_W0 (hC : C.ok P) (hm : P.follows .mixedOrders = true) {f : FuncId} {fn : Func} (hf : P.funcs[f]? = some fn) {args : List V} {R : V → Prop} (h : W0 P C kps fn args R) : K0 P f args R := by
  intro F w xs hF hxs
  unfold W0 at h
  split at h
  case h_2 => exact h.elim
  case h_1 c hc =>
    simp only [guardB_iff, Bool.and_eq_true] at h
    obtain ⟨⟨hn, hk⟩, h⟩ := h
    have hn := Nat.le_of_ble_eq_true hn
    have hk := Nat.le_of_ble_eq_true hk
    have hrl := riL_repL (ν := nu0) _ _ hxs
    have hlen := repL_length hrl
    have hheap : HeapOK nu0 F ⟨[], 0⟩ w := ⟨fun b r s n h => by simp [nu0] at h, fun b o h => by simp [Hp.get, getB] at h, fun b b' r s n s' n' h => by simp [nu0] at h,
      fun r hr => ⟨hF r hr, fun ⟨b, s, n, h⟩ => by simp [nu0] at h⟩, rfl⟩
    have hslot : SlotOK F w nu0 (start args) (xs.toArray ++ Array.replicate (fn.ntmps - xs.toArray.size) undef) := by
      intro t v ht
      obtain ⟨_, h2⟩ := start_get args 0 (by omega) t v ht
      obtain ⟨x, h3, h4⟩ := repL_get hrl (t - 0) v h2
      refine ⟨x, ?_, h4⟩
      simp only [Nat.sub_zero] at h3
      have hlt := (List.getElem?_eq_some_iff.1 h3).1
      rw [Array.getElem?_append_left (by simpa using hlt)]
      simpa using h3
    have hst : StOK fn.ntmps nu0 F ⟨start args, ⟨[], 0⟩⟩ { tmps := xs.toArray ++ Array.replicate (fn.ntmps - xs.toArray.size) undef, defers := [] } w := ⟨hheap, by simp; omega, rfl, hslot⟩
    have hno : ∀ r, ¬ nu0.own r := fun r ⟨b, s, n, h⟩ => by simp [nu0] at h
    refine calls_of_wp hf hc (wp_mono (W_sound hC hm c 0 _ _ nu0 F _ w h hst (Bse.refl nu0 F w)) ?_)
    have done : ∀ ν' F' st' a' w', StOK fn.ntmps ν' F' st' a' w' → Bse nu0 F w ν' F' w' → (wRes P fn.results st' fun v => R (frzV st'.h v)) →
        a'.defers = [] ∧ ∃ v, (results fn a'.tmps).run P w' = .ok v w' ∧ ∃ x v' F'', Ending.returned v = Ending.returned x ∧ R v' ∧ ri F'' w' v' x ∧ Go.RowKit.Below w.heap.size w w' ∧ (∀ r, F r → F'' r) ∧ (∀ r, F'' r → F r ∨ w.heap.size ≤ r) ∧ (∀ r, F'' r → r < w'.heap.size) := by
      intro ν' F' st' a' w' h2 h3 h4
      obtain ⟨x, v, g1, g2, g3⟩ := res_sound h2 h4
      obtain ⟨F'', q1, q2, q3⟩ := frz_sound h2.heap g2
      refine ⟨h2.defers, x, g3, x, _, F'', rfl, g1, q1, ⟨h3.os, h3.tape, h3.output, h3.size, fun r hr => h3.old r hr (hno r)⟩, fun r hr => q2 r (h3.fmono r hr), fun r hr => ?_, fun r hr => ?_⟩
      · rcases q3 r hr with h | h
        · rcases h3.fnew r h with h | h | h
          · exact .inl h
          · exact (hno r h).elim
          · exact .inr h
        · exact .inr ((h3.onew r h).resolve_left (hno r))
      · rcases q3 r hr with h | ⟨b, s, n, h⟩
        · exact (h2.heap.frz r h).1
        · obtain ⟨_, _, _, _, c', el, g, _, _⟩ := h2.heap.blk b r s n h
          exact lt_of_some g
    rintro e a' w' ⟨ex, ν', F', st', h1, h2, h3, h4⟩
    cases e <;> cases ex <;> simp only [exOf] at h1
    case normal.norm => exact done ν' F' st' a' w' h2 h3 h4
    case ret.ret => exact done ν' F' st' a' w' h2 h3 h4
    case exit.exit i j => exact h4.elim

theorem K0.mono {f : FuncId} {args : List V} {R R' : V → Prop} (h : K0 P f args R) (hr : ∀ v, R v → R' v) : K0 P f args R' :=
  fun F w xs hF hxs => (h F w xs hF hxs).mono fun e w' ⟨x, v, F', h1, h2, h3⟩ => ⟨x, v, F', h1, hr v h2, h3⟩
/-- The contract of a function whose result is known. -/
theorem K0.to {f : FuncId} {args : List V} {r : V} {R : V → Prop} (h : K0 P f args (fun v => v = r)) (hr : R r) : K0 P f args R := h.mono fun v hv => hv ▸ hr

/-- The contracts of a program: which functions are called with nothing of the state's own. -/
def callsOf (P : Program) (p : FuncId → Bool) : Calling := ⟨p, K0 P, fun f args h => K P f args h fun _ => true, fun _ _ _ _ => true, true⟩
theorem callsOf_ok (P : Program) (p : FuncId → Bool) : (callsOf P p).ok P := ⟨fun _ _ _ _ h hr => h.mono hr, fun _ _ _ h => h, fun _ _ _ _ h => h⟩

/-- A loop: a family of states, an invariant, a measure. -/
theorem Lp.of {kp : Keep} {B : Post → St → Prop} {Q : Post} {st : St} {σ : Type} (sh : σ → St) (I : σ → Prop) (μ : σ → Nat) (s0 : σ) (h0 : st = sh s0) (hI : I s0)
    (round : ∀ s, I s → ∀ J : St → Prop, (∀ s', I s' → μ s' < μ s → J (sh s')) → B (Qlp kp J Q) (sh s)) : Lp kp B Q st := by
  refine ⟨fun J hJ => ?_⟩
  subst h0
  have key : ∀ n s, μ s < n → I s → J (sh s) := by
    intro n
    induction n with
    | zero => intro s h; omega
    | succ n ih =>
      intro s hs hI
      exact hJ _ (round s hI J fun s' hI' hlt => ih s' (by omega) hI')
  exact key _ s0 (Nat.lt_succ_self _) hI
end
end Go.Proofs.Ytinccdbooeffbaa.Clean
