/- A run without unknowns: loops are unrolled, calls entered. Nothing here speaks of the program. -/
import Derived.Test.YtahoindkdkhpmaaXCL
namespace Go.Proofs.Ytahoindkdkhpmaa.Clean
set_option linter.unusedSimpArgs false
set_option linter.unusedVariables false

/-- Nothing below 'base' is touched. -/
def askX (base : Nat) : Ask := fun ρ h o => match o with
  | .box .. | .alloc _ | .buildSlice .. | .makeSlice .. => true
  | .store _ x _ => match ρ x with | .ptr b _ _ => Nat.ble base b | _ => false
  | .call c => match c.callee with
    | .builtin .append => match c.args.toList.map ρ with | .sl b _ _ :: _ => Nat.ble base b | .raw _ :: _ => true | _ => false
    | .builtin .copy => match c.args.toList.map ρ with | .sl b _ _ :: _ => Nat.ble base b | .lst _ _ :: _ => true | _ => false
    | .value f => match ρ f with | .fn (.func _) _ _ => Nat.ble base h.nxt | _ => false
    | _ => quietOp o
  | _ => quietOp o

noncomputable def QendX (P : Program) (fn : Func) (k : V → Hp → Prop) : Post := fun e st => match e with
  | .norm | .ret => wRes P fn.results st fun v => k v st.h
  | _ => False

/-- A call enters the function; what is said to be clean touches nothing that was there. -/
noncomputable def callX (P : Program) (glob : Nat → Option (List V)) (clean : FuncId → Bool) (known : FuncId → Option V) (W : Nat → Nat → Code → Post → St → Prop) (base : Nat) : Calling where
  kn := known
  mode _ := 2
  fz _ := false
  cb _ _ _ _ := False
  c0 _ _ _ := False
  c g vs h k := onSome P.funcs[g]? fun fn => onSome fn.body fun c => guardB (Nat.ble vs.length fn.ntmps && Nat.ble vs.length 1000)
    (W (bif clean g then h.nxt else base) fn.ntmps c (QendX P fn k) ⟨start vs, h⟩)
  t g _ h b := !Nat.blt b (bif clean g then h.nxt else base)
  strict := false
  base := 0
  glob := glob

def Qthen (X : St → Prop) (Q : Post) : Post := fun e s => match e with | .norm => X s | e => Q e s

noncomputable def WX (P : Program) (glob : Nat → Option (List V)) (clean : FuncId → Bool) (known : FuncId → Option V) : Nat → Nat → Nat → Code → Post → St → Prop
  | 0, _, _, _, _, _ => False
  | f + 1, base, N, c, Q, st => match c with
    | .skip => Q .norm st
    | .label _ => Q .norm st
    | .region _ ops draw => match draw with
      | false => wOps P (callX P glob clean known (WX P glob clean known f) base) (askX base) N ops.toList ops.toList st (Q .norm)
      | true => guardB (regionOK ops (prepAll ops.toList)) (wDraw P (callX P glob clean known (WX P glob clean known f) base) (askX base) N ops.toList (prepAll ops.toList) ops.size 0 [] st (Q .norm))
    | .seq a b => WX P glob clean known f base N a (Qthen (WX P glob clean known f base N b Q) Q) st
    | .cond c a b => onBool (ev glob st.tm c) fun t => ifB t (WX P glob clean known f base N a Q st) (WX P glob clean known f base N b Q st)
    | .block id a => WX P glob clean known f base N a (Qblk id Q) st
    | .loop a => WX P glob clean known f base N a (Qthen (WX P glob clean known f base N (.loop a) Q) Q) st
    | .scope a => WX P glob clean known f base N a Q st
    | .exit id => Q (.exit id) st
    | .ret => Q .ret st
    | _ => False

theorem askX_keeps (P : Program) (glob : Nat → Option (List V)) (clean : FuncId → Bool) (known : FuncId → Option V) (W : Nat → Nat → Code → Post → St → Prop) (base : Nat) : (askX base).keeps (callX P glob clean known W base) (fun b => Nat.blt b base) := by
  intro ρ h o b hx hb
  have hb := blt_of hb
  have ne : ∀ c, Nat.ble base c = true → c.beq b = false := fun c hc => by
    have := Nat.le_of_ble_eq_true hc
    cases hbq : c.beq b with
    | false => rfl
    | true => have := beq_eq hbq; omega
  cases o
  case store t x v =>
    simp only [askX] at hx
    simp only [touches]
    split at hx
    · rename_i b' i off hxx
      simp only [hxx]
      exact ne _ hx
    · cases hx
  case call c =>
    simp only [askX] at hx
    simp only [touches]
    split at hx
    · rename_i hc
      simp only [hc]
      split at hx
      · rename_i b' lo len r hxx
        simp only [hxx]
        exact ne _ hx
      · rename_i y r hxx
        simp only [hxx]
      · cases hx
    · rename_i hc
      simp only [hc]
      split at hx
      · rename_i b' lo len r hxx
        simp only [hxx]
        exact ne _ hx
      · rename_i s' es' r hxx
        simp only [hxx]
      · cases hx
    · rename_i f hc
      simp only [hc]
      split at hx
      · rename_i g first caps hxx
        simp only [hxx]
        have hle := Nat.le_of_ble_eq_true hx
        have ht : ∀ vs, (callX P glob clean known W base).t g vs h b = false := fun vs => by
          simp only [callX, Bool.not_eq_false']
          cases clean g
          · exact Nat.ble_eq_true_of_le hb
          · exact Nat.ble_eq_true_of_le (Nat.lt_of_lt_of_le hb hle)
        split
        · rfl
        · exact ht _
      · cases hx
    · rename_i h1 h2 h3
      split
      · rename_i hc; exact (h1 hc).elim
      · rename_i hc; exact (h2 hc).elim
      · rename_i f hc; exact (h3 f hc).elim
      · simp [hx]
  all_goals first | rfl | (simp only [askX, quietOp] at hx; simp [touches, quietOp] at hx ⊢) | (simp [touches, quietOp])

def liftX (G : Nat → Option (List V)) (N base : Nat) (ν0 : Nu) (F0 : Nat → Prop) (w0 : World) (Q : Post) (e : Exit) (a : Act) (w : World) : Prop :=
  ∃ ex ν F st, exOf e ex ∧ StOK G N ν F st a w ∧ EvoU (fun b => Nat.blt b base) ν0 F0 w0 ν F w ∧ Q ex st

theorem start_slot {G : Nat → Option (List V)} {ν : Nu} {F : Nat → Prop} {w : World} {vs : List V} {xs : List Value} (hG : GlobOK G F w) (hk : vs.length ≤ 1000) (hl : repL F w ν vs xs) (n : Nat) : SlotOK G F w ν (start vs) (xs.toArray ++ Array.replicate n undef) := by
  refine ⟨fun t v ht => ?_, hG⟩
  obtain ⟨_, h2⟩ := start_get vs 0 (by omega) t v ht
  obtain ⟨x, h3, h4⟩ := repL_get hl (t - 0) v h2
  refine ⟨x, ?_, h4⟩
  simp only [Nat.sub_zero] at h3
  have hlt := (List.getElem?_eq_some_iff.1 h3).1
  rw [Array.getElem?_append_left (by simpa using hlt)]
  simpa using h3

/-- What WX says of the machine. -/
def SoundX (P : Program) (G : Nat → Option (List V)) (W : Nat → Nat → Code → Post → St → Prop) : Prop :=
  ∀ (base N : Nat) (c : Code) (Q : Post) (st : St) (ν : Nu) (F : Nat → Prop) (a : Act) (w : World) (ν0 : Nu) (F0 : Nat → Prop) (w0 : World), W base N c Q st → StOK G N ν F st a w → EvoU (fun b => Nat.blt b base) ν0 F0 w0 ν F w →
    c.wp P (liftX G N base ν0 F0 w0 Q) a w ∧ ∀ x, c = .loop x → LoopFrom P x (liftX G N base ν0 F0 w0 Q) a w

/-- What is known of functions that are called with nothing. -/
def Knows (P : Program) (glob : Nat → Option (List V)) (known : FuncId → Option V) : Prop := ∀ g r, known g = some r → K0G P glob g [] fun v => v = r

theorem callX_ok {P : Program} {clean : FuncId → Bool} {glob : Nat → Option (List V)} {known : FuncId → Option V} (hkn : Knows P glob known) {W : Nat → Nat → Code → Post → St → Prop} (hW : SoundX P glob W) (base : Nat) : (callX P glob clean known W base).ok P := by
  refine ⟨fun g r h => hkn g r h, fun _ _ _ _ _ h => h.elim, fun _ _ _ _ _ _ h => h.elim, fun _ _ _ _ _ h => h.elim, fun _ _ _ _ h => h.elim, fun _ _ _ h => h.elim, ?_⟩
  intro g vs h R hc ν F w xs hh hG hl
  simp only [callX, onSome_iff, guardB_iff, Bool.and_eq_true] at hc
  obtain ⟨fn, hf, c, hb, ⟨hn, hk⟩, hc⟩ := hc
  have hn := Nat.le_of_ble_eq_true hn
  have hk := Nat.le_of_ble_eq_true hk
  have hlen := repL_length hl
  have hst : StOK glob fn.ntmps ν F ⟨start vs, h⟩ { tmps := xs.toArray ++ Array.replicate (fn.ntmps - xs.toArray.size) undef, defers := [] } w := ⟨hh, by simp; omega, rfl, start_slot hG hk hl _⟩
  refine calls_of_wp hf hb (wp_mono (hW _ _ _ _ _ ν F _ w ν F w hc hst (EvoU.refl _ _ _ _)).1 ?_)
  rintro e a' w' ⟨ex, ν', F', st', h1, h2, h3, h4⟩
  have done : (wRes P fn.results st' fun v => R v st'.h) → a'.defers = [] ∧ ∃ v, (results fn a'.tmps).run P w' = .ok v w' ∧ ∃ x v' ν' F' h', Ending.returned v = Ending.returned x ∧ R v' h' ∧ HeapOK ν' F' h' w' ∧ rep F' w' ν' v' x ∧ Evo ν F w ν' F' w' ∧
      ∀ b y, ν.at_ b = some y → (callX P glob clean known W base).t g vs h b = false → w'.heap[y.1]? = w.heap[y.1]? ∧ ν'.at_ b = some y := by
    intro h4
    obtain ⟨x, v, g1, g2, g3⟩ := res_sound h2 h4
    refine ⟨h2.defers, x, g3, x, v, ν', F', st'.h, rfl, g1, h2.heap, g2, h3.1, fun b y hy hb => h3.2 b y hy ?_⟩
    simpa [callX] using hb
  cases e <;> cases ex <;> simp only [exOf] at h1
  case normal.norm => exact done h4
  case ret.ret => exact done h4
  case exit.exit i j => exact h4.elim

theorem WX_sound {P : Program} (hm : P.follows .mixedOrders = true) (clean : FuncId → Bool) {glob : Nat → Option (List V)} {known : FuncId → Option V} (hkn : Knows P glob known) : ∀ f, SoundX P glob (WX P glob clean known f) := by
  intro f
  induction f with
  | zero => intro base N c Q st ν F a w ν0 F0 w0 h; exact h.elim
  | succ f ih =>
    intro base N c Q st ν F a w ν0 F0 w0 h hst hb
    have hC := callX_ok (clean := clean) hkn ih base
    have thn : ∀ (X : St → Prop) (Y : Act → World → Prop), (∀ ν F s a w, X s → StOK glob N ν F s a w → EvoU (fun b => Nat.blt b base) ν0 F0 w0 ν F w → Y a w) → ∀ e a w, liftX glob N base ν0 F0 w0 (Qthen X Q) e a w → Exit.then Y (liftX glob N base ν0 F0 w0 Q) e a w := by
      rintro X Y hXY e a w ⟨ex, ν, F, s, h1, h2, h3, h4⟩
      cases e <;> cases ex <;> simp only [exOf] at h1
      case normal.norm => exact hXY ν F s a w h4 h2 h3
      case exit.exit i j => exact ⟨.exit j, ν, F, s, h1, h2, h3, h4⟩
      case ret.ret => exact ⟨.ret, ν, F, s, trivial, h2, h3, h4⟩
    have loop : ∀ x, WX P glob clean known f base N x (Qthen (WX P glob clean known f base N (.loop x) Q) Q) st → LoopFrom P x (liftX glob N base ν0 F0 w0 Q) a w := fun x h =>
      loopFrom_round (wp_mono (ih base N x _ st ν F a w ν0 F0 w0 h hst hb).1 (thn _ _ fun ν F s a w hs h2 h3 => (ih base N (.loop x) Q s ν F a w ν0 F0 w0 hs h2 h3).2 x rfl))
    refine ⟨?_, fun x hx => by subst hx; exact loop x h⟩
    cases c with
    | skip => exact wp_skip ⟨.norm, ν, F, st, trivial, hst, hb, h⟩
    | label l => exact wp_label ⟨.norm, ν, F, st, trivial, hst, hb, h⟩
    | exit id => exact wp_exit ⟨.exit id, ν, F, st, rfl, hst, hb, h⟩
    | ret => exact wp_ret ⟨.ret, ν, F, st, trivial, hst, hb, h⟩
    | region id ops draw =>
      cases draw with
      | false =>
        simp only [WX] at h
        refine wp_region ?_
        have := ops_sound (ops := ops) (Q := liftX glob N base ν0 F0 w0 Q) (ν0 := ν) (F0 := F) (w0 := w) hC (askX_keeps P glob clean known _ base) (fun ν' F' st' a' w' h1 h2 h3 => ⟨.norm, ν', F', st', trivial, h1, hb.trans h2, h3⟩) ops.size 0 ν F st a w (by omega) hst (EvoU.refl _ _ _ _) (by simpa using h)
        rw [List.range_eq_range']
        exact this
      | true =>
        simp only [WX, guardB_iff] at h
        obtain ⟨hok, h⟩ := h
        refine wp_region_any hm ?_
        obtain ⟨hk, he⟩ := heap_same (w' := { w with drawn := w.drawn + 1 }) hst.heap rfl rfl rfl rfl
        have he' : EvoU (fun b => Nat.blt b base) ν F w ν F { w with drawn := w.drawn + 1 } := ⟨he, fun b y hy _ => ⟨rfl, hy⟩⟩
        have hst' : StOK glob N ν F st a { w with drawn := w.drawn + 1 } := ⟨hk, hst.size, hst.defers, hst.slot.evo hst.heap he⟩
        refine wpAny_of_S (S := SH ops []) _ _ _ _ (draw_sound (ν0 := ν) (F0 := F) (w0 := { w with drawn := w.drawn + 1 }) hC (askX_keeps P glob clean known _ base) hok (fun c a w h => ?_) (fun ν' F' st' a' w' h1 h2 h3 => ⟨.norm, ν', F', st', trivial, h1, (hb.trans he').trans h2, h3⟩)
          _ ν F st a _ ⟨by simp, fun j => ?_⟩ (fun j oj hj hl => ?_) hst' (EvoU.refl _ _ _ _) h)
        · obtain ⟨ex, _, _, _, h1, _⟩ := h
          cases ex <;> exact h1
        · have : (0 : Nat).testBit j = false := Nat.zero_testBit j
          rw [this]
          simp only [Array.getD_eq_getD_getElem?, Array.getElem?_replicate]
          split <;> rfl
        · exfalso
          simp only [Array.getD_eq_getD_getElem?, Array.getElem?_replicate] at hl
          split at hl <;> simp at hl
    | seq x y =>
      refine wp_seq (wp_mono (ih base N x _ st ν F a w ν0 F0 w0 h hst hb).1 (thn _ _ fun ν F s a w hs h2 h3 => (ih base N y Q s ν F a w ν0 F0 w0 hs h2 h3).1))
    | cond c x y =>
      simp only [WX, onBool_iff, ifB_iff] at h
      obtain ⟨t, ht, h1, h2⟩ := h
      have hr := ev_rep (a := a) hst.slot c
      rw [ht] at hr
      simp only [rep] at hr
      refine wp_cond_split hr (fun h => ?_) (fun h => ?_)
      · exact (ih base N x Q st ν F a w ν0 F0 w0 (h1 h) hst hb).1
      · exact (ih base N y Q st ν F a w ν0 F0 w0 (h2 h) hst hb).1
    | block id x =>
      refine wp_block (wp_mono (ih base N x _ st ν F a w ν0 F0 w0 h hst hb).1 ?_)
      rintro e a' w' ⟨ex, ν', F', st', h1, h2, h3, h4⟩
      cases e <;> cases ex <;> simp only [exOf] at h1
      case normal.norm => exact ⟨.norm, ν', F', st', trivial, h2, h3, h4⟩
      case exit.exit i j =>
        subst h1
        simp only [Qblk] at h4
        simp only [Exit.inBlock]
        cases hbq : i.beq id with
        | true =>
          rw [hbq] at h4
          rw [if_pos (beq_eq hbq)]
          exact ⟨.norm, ν', F', st', trivial, h2, h3, h4⟩
        | false =>
          rw [hbq] at h4
          rw [if_neg (fun heq => by subst heq; simp at hbq)]
          exact ⟨.exit i, ν', F', st', rfl, h2, h3, h4⟩
      case ret.ret => exact ⟨.ret, ν', F', st', trivial, h2, h3, h4⟩
    | loop x => exact wp_loop_from (loop x h)
    | rangeFunc f ps x y => exact h.elim
    | scope x =>
      refine wp_scope_straight (wp_mono (ih base N x Q st ν F a w ν0 F0 w0 h hst hb).1 ?_)
      rintro e a' w' ⟨ex, ν', F', st', h1, h2⟩
      cases e <;> first | exact ⟨ex, ν', F', st', h1, h2⟩ | (cases ex <;> exact h1.elim)
    | goto l => exact h.elim
    | refuse s => exact h.elim

/-- **A function that is called with nothing of the state's own, run.** -/
theorem K0_of_WX {P : Program} (hm : P.follows .mixedOrders = true) (clean : FuncId → Bool) {glob : Nat → Option (List V)} {known : FuncId → Option V} (hkn : Knows P glob known) (fuel : Nat) {f : FuncId} {fn : Func} (hf : P.funcs[f]? = some fn) {c : Code} (hc : fn.body = some c) {args : List V} {R : V → Prop}
    (hn : (Nat.ble args.length fn.ntmps && Nat.ble args.length 1000) = true) (h : WX P glob clean known fuel 0 fn.ntmps c (QendX P fn fun v h => R (frzV h v)) ⟨start args, ⟨[], 0⟩⟩) : K0G P glob f args R := by
  intro F w xs hF hG hxs
  simp only [Bool.and_eq_true] at hn
  obtain ⟨hn, hk⟩ := hn
  have hn := Nat.le_of_ble_eq_true hn
  have hk := Nat.le_of_ble_eq_true hk
  have hrl := riL_repL (ν := nu0) _ _ hxs
  have hlen := repL_length hrl
  have hheap : HeapOK nu0 F ⟨[], 0⟩ w := ⟨fun b r s n h => by simp [nu0] at h, fun b o h => by simp [Hp.get, getB] at h, fun b b' r s n s' n' h => by simp [nu0] at h,
    fun r hr => ⟨hF r hr, fun ⟨b, s, n, h⟩ => by simp [nu0] at h⟩, rfl⟩
  have hst : StOK glob fn.ntmps nu0 F ⟨start args, ⟨[], 0⟩⟩ { tmps := xs.toArray ++ Array.replicate (fn.ntmps - xs.toArray.size) undef, defers := [] } w := ⟨hheap, by simp; omega, rfl, start_slot hG hk hrl _⟩
  have hno : ∀ r, ¬ nu0.own r := fun r ⟨b, s, n, h⟩ => by simp [nu0] at h
  refine calls_of_wp hf hc (wp_mono (WX_sound hm clean hkn fuel 0 _ c _ _ nu0 F _ w nu0 F w h hst (EvoU.refl _ _ _ _)).1 ?_)
  rintro e a' w' ⟨ex, ν', F', st', h1, h2, h3, h4⟩
  have done : (wRes P fn.results st' fun v => R (frzV st'.h v)) →
      a'.defers = [] ∧ ∃ v, (results fn a'.tmps).run P w' = .ok v w' ∧ ∃ x v' F'', Ending.returned v = Ending.returned x ∧ R v' ∧ ri F'' w' v' x ∧ Go.RowKit.Below w.heap.size w w' ∧ (∀ r, F r → F'' r) ∧ (∀ r, F'' r → F r ∨ w.heap.size ≤ r) ∧ (∀ r, F'' r → r < w'.heap.size) := by
    intro h4
    obtain ⟨x, v, g1, g2, g3⟩ := res_sound h2 h4
    obtain ⟨F'', q1, q2, q3⟩ := frz_sound h2.heap g2
    have h3 := h3.1
    refine ⟨h2.defers, x, g3, x, _, F'', rfl, g1, q1, ⟨h3.os, h3.tape, h3.output, h3.size, fun r hr => h3.old r hr (hno r)⟩, fun r hr => q2 r (h3.fmono r hr), fun r hr => ?_, fun r hr => ?_⟩
    · rcases q3 r hr with h | h
      · rcases h3.fnew r h with h | h | h
        · exact .inl h
        · exact (hno r h).elim
        · exact .inr h
      · exact .inr ((h3.onew r h).resolve_left (hno r))
    · rcases q3 r hr with h | ⟨b, s, n, h⟩
      · exact (h2.heap.frz r h).1
      · obtain ⟨_, _, _, _, c', el, g, _, _⟩ := h2.heap.blk b r s n h
        exact lt_of_some g
  cases e <;> cases ex <;> simp only [exOf] at h1
  case normal.norm => exact done h4
  case ret.ret => exact done h4
  case exit.exit i j => exact h4.elim

/-- The function's run ends, and it returns r. -/
noncomputable def ranX (P : Program) (glob : Nat → Option (List V)) (clean : FuncId → Bool) (known : FuncId → Option V) (fuel : Nat) (fn : Func) (args : List V) (r : V) : Prop :=
  match fn.body with
  | some c => guardB (Nat.ble args.length fn.ntmps && Nat.ble args.length 1000) (WX P glob clean known fuel 0 fn.ntmps c (QendX P fn fun v h => frzV h v = r) ⟨start args, ⟨[], 0⟩⟩)
  | none => False
theorem K0_ran {P : Program} (hm : P.follows .mixedOrders = true) (clean : FuncId → Bool) {glob : Nat → Option (List V)} {known : FuncId → Option V} (hkn : Knows P glob known) (fuel : Nat) {f : FuncId} {fn : Func} (hf : P.funcs[f]? = some fn) {args : List V} {r : V} (h : ranX P glob clean known fuel fn args r = (r = r)) : K0G P glob f args fun v => v = r := by
  have h : ranX P glob clean known fuel fn args r := by rw [h]
  unfold ranX at h
  split at h
  · rename_i c hc
    rw [guardB_iff] at h
    exact K0_of_WX hm clean hkn fuel hf hc h.1 h.2
  · exact h.elim

theorem knows_none {P : Program} {glob : Nat → Option (List V)} : Knows P glob fun _ => none := fun g r h => by cases h
end Go.Proofs.Ytahoindkdkhpmaa.Clean
