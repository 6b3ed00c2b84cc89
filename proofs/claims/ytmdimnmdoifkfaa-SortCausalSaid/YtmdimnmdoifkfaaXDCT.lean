/- Soundness: regions in their order, renumbering, results. Nothing here speaks of the program. -/
import Derived.Test.YtmdimnmdoifkfaaXDCS
namespace Go.Proofs.Ytmdimnmdoifkfaa.Clean
set_option linter.unusedSimpArgs false
set_option linter.unusedVariables false

def SlotOK (G : Nat → Option (List V)) (F : Nat → Prop) (w : World) (ν : Nu) (tm : T V) (tmps : Array Value) : Prop := (∀ t v, tm.get t = some v → ∃ x, tmps[t]? = some x ∧ rep F w ν v x) ∧ GlobOK G F w

structure StOK (D : List Deferred) (G : Nat → Option (List V)) (N : Nat) (ν : Nu) (F : Nat → Prop) (st : St) (a : Act) (w : World) : Prop where
  heap : HeapOK ν F st.h w
  size : a.tmps.size = N
  defers : a.defers = D
  slot : SlotOK G F w ν st.tm a.tmps

section
variable {D : List Deferred} {G : Nat → Option (List V)} {F : Nat → Prop} {w : World} {ν : Nu} {h : Hp} {N : Nat} {st : St} {a : Act}

theorem SlotOK.evo {F' : Nat → Prop} {w' : World} {ν' : Nu} {tm : T V} {tmps : Array Value} (hs : SlotOK G F w ν tm tmps) (hk : HeapOK ν F h w) (e : Evo ν F w ν' F' w') : SlotOK G F' w' ν' tm tmps :=
  ⟨fun t v ht => let ⟨x, h1, h2⟩ := hs.1 t v ht; ⟨x, h1, rep_evo hk e v x h2⟩, fun g cs hg => hk.riEvo e (hs.2 g cs hg)⟩

theorem ev_rep {tm : T V} (hs : SlotOK G F w ν tm a.tmps) (x : Operand) : rep F w ν (ev G tm x) (a.eval x) := by
  cases x with
  | tmp t =>
    simp only [ev, Act.eval]
    cases ht : tm.get t with
    | none => simp [rep]
    | some v =>
      obtain ⟨x, h1, h2⟩ := hs.1 t v ht
      simp [h1]; exact h2
  | const v => exact rep_ofValue v
  | global g =>
    simp only [ev, Act.eval]
    cases hg : G g with
    | none => simp [rep]
    | some cs => simp only [rep]; exact hs.2 g cs hg
  | func f =>
    simp only [ev, Act.eval, rep]
    exact ⟨#[], #[], rfl, by simp [repL], by simp [repL]⟩

theorem get_set {tm : T V} {d : Nat} {v : V} (hd : d < 1000000) (t : Nat) : (T.setF (some v) 20 tm d).get t = if t = d then some v else tm.get t :=
  T.get_setF (some v) 20 tm d t (by have : (2 : Nat) ^ 20 = 1048576 := by decide
                                    omega)

/-- A slot is written. -/
theorem put_ok {tm : T V} {d : Option Tmp} {v : V} {x : Value} {k : T V → Prop} (hs : SlotOK G F w ν tm a.tmps) (hN : a.tmps.size = N) (hv : rep F w ν v x) (hp : putT N tm d v k) :
    ∃ tm', k tm' ∧ SlotOK G F w ν tm' (a.put d x).tmps ∧ (a.put d x).tmps.size = N ∧ (a.put d x).defers = a.defers := by
  cases d with
  | none => exact ⟨tm, hp, hs, hN, rfl⟩
  | some d =>
    simp only [putT, guardB_iff, Bool.and_eq_true] at hp
    obtain ⟨⟨hlt, hd⟩, hp⟩ := hp
    have hlt : d < N := Nat.le_of_ble_eq_true hlt
    have hd : d < 1000000 := Nat.le_of_ble_eq_true hd
    refine ⟨_, hp, ⟨fun t u ht => ?_, hs.2⟩, by simp [Act.put, hN], rfl⟩
    rw [get_set hd] at ht
    simp only [Act.put]
    by_cases htd : t = d
    · subst htd
      rw [if_pos rfl] at ht
      simp at ht
      subst ht
      exact ⟨x, by simp [hN, hlt], hv⟩
    · rw [if_neg htd] at ht
      obtain ⟨y, h1, h2⟩ := hs.1 t u ht
      exact ⟨y, by rw [Array.getElem?_setIfInBounds_ne (by omega)]; exact h1, h2⟩

/-- A slot is known better. -/
theorem put_same {tm : T V} {d : Tmp} {v : V} {x : Value} {k : T V → Prop} (hs : SlotOK G F w ν tm a.tmps) (hx : a.tmps[d]? = some x) (hv : rep F w ν v x) (hp : putT N tm (some d) v k) :
    ∃ tm', k tm' ∧ SlotOK G F w ν tm' a.tmps ∧ ∀ t, tm'.get t = if t = d then some v else tm.get t := by
  simp only [putT, guardB_iff, Bool.and_eq_true] at hp
  obtain ⟨⟨hlt, hd⟩, hp⟩ := hp
  have hd : d < 1000000 := Nat.le_of_ble_eq_true hd
  refine ⟨_, hp, ⟨fun t u ht => ?_, hs.2⟩, get_set hd⟩
  rw [get_set hd] at ht
  by_cases htd : t = d
  · subst htd
    rw [if_pos rfl] at ht
    simp at ht
    subst ht
    exact ⟨x, hx, hv⟩
  · rw [if_neg htd] at ht
    exact hs.1 t u ht

/-- What comes behind an operation. -/
def NX (D : List Deferred) (G : Nat → Option (List V)) (N : Nat) (ν : Nu) (F : Nat → Prop) (w : World) (tch : Id → Bool) (k : St → Prop) (a' : Act) (w' : World) : Prop :=
  ∃ ν' F' st', StOK D G N ν' F' st' a' w' ∧ Evo ν F w ν' F' w' ∧ k st' ∧ ∀ b y, ν.at_ b = some y → tch b = false → w'.heap[y.1]? = w.heap[y.1]? ∧ ν'.at_ b = some y

theorem heap_call0 {F' : Nat → Prop} {w' : World} (hk : HeapOK ν F h w) (hb : Go.RowKit.Below w.heap.size w w') (h1 : ∀ r, F r → F' r) (h2 : ∀ r, F' r → F r ∨ w.heap.size ≤ r) (h3 : ∀ r, F' r → r < w'.heap.size) :
    HeapOK ν F' h w' ∧ Evo ν F w ν F' w' := by
  have own_lt : ∀ r, ν.own r → r < w.heap.size := fun r ho => hk.own_lt ho
  have e : Evo ν F w ν F' w' := ⟨hb.os, hb.tape, hb.output, hb.size, fun r hr _ => hb.block r hr, h1, fun r hr => (h2 r hr).elim .inl (fun h => .inr (.inr h)), fun r hr => .inl hr, fun _ _ _ h => h, Nat.le_refl _, fun _ => Nat.le_refl _, fun _ _ h => h,
    fun b r s n hat _ c el fr hc => ⟨c, by rw [hb.block r (lt_of_some hc)]; exact hc, rfl⟩⟩
  refine ⟨⟨fun b r s n hat => ?_, hk.dom, hk.inj, fun r hr => ⟨h3 r hr, fun ho => ?_⟩, hk.nxt, hk.cnt⟩, e⟩
  · obtain ⟨o, g1, g2⟩ := hk.blk b r s n hat
    exact ⟨o, g1, obl_evo hk e (hb.block r (hk.at_lt hat)) g2⟩
  · rcases h2 r hr with h | h
    · exact (hk.frz r h).2 ho
    · have := own_lt r ho; omega

theorem run_sound {P : Program} {C : Calling} (hC : C.ok P) {o : Oper} {tm : T V} {Q : Exit → Act → World → Prop} {k : St → Prop} (hh : HeapOK ν F h w) (hN : a.tmps.size = N) (hd : a.defers = D) (hs : SlotOK C.glob F w ν tm a.tmps)
    (hw : wop P C (ev C.glob tm) h o.type o.op fun v h' => fzNew C h.nxt o v h' fun v h => putT N tm o.dst v fun tm => k ⟨tm, h⟩) : wpo P o a w (NX D C.glob N ν F w (touches C (ev C.glob tm) h o.op) k) Q := by
  rw [← hh.nxt] at hw
  have ho := op_sound (P := P) (C := C) hC (o := o) (ev_rep (a := a) hs) hh hs.2 hw
  refine ⟨fun c hc => by rw [hc] at hw; exact hw.elim, ?_⟩
  rcases ho with ⟨F1, x, w', ν', v, h', hr, hk, hh', hv, he, hst⟩ | ⟨g, vs, xs, hr, hl, hc⟩ | ⟨l, f, tmps, assign, body, hr, hround⟩
  · obtain ⟨ν', F', v, h', hk, hh', hv, he, hst⟩ := fz_new hk hh' hv he hst
    obtain ⟨tm', q1, q2, q3, q4⟩ := put_ok (d := o.dst) (hs.evo hh he) hN hv hk
    have : NX D C.glob N ν F w (touches C (ev C.glob tm) h o.op) k (a.put o.dst x) w' := ⟨ν', F', ⟨tm', h'⟩, ⟨hh', q3, q4.trans hd, q2⟩, he, q1, hst⟩
    rcases hr with hr | ⟨hr, rfl⟩
    · rw [hr]; exact this
    · rw [hr]; exact this
  · rw [hr]
    rcases hc with ⟨hcl, hc⟩ | ⟨t, htch, hc⟩
    · refine (hc F w xs (fun r hr => (hh.frz r hr).1) hs.2 (repL_riL _ _ hcl hl)).mono fun e w' he => ?_
      obtain ⟨x, v, F', rfl, hk, hv, hb, h1, h2, h3⟩ := he
      obtain ⟨hh', he⟩ := heap_call0 hh hb h1 h2 h3
      obtain ⟨v', hk, hrv⟩ := hk
      have hun : ∀ b y, ν.at_ b = some y → touches C (ev C.glob tm) h o.op b = false → w'.heap[y.1]? = w.heap[y.1]? ∧ ν.at_ b = some y := fun b y hy _ => by
        refine ⟨hb.block _ ?_, hy⟩
        exact hh.at_lt hy
      obtain ⟨ν', F', v', h', hk, hh', hv, he, hst⟩ := fz_new hk hh' (hrv (ri_rep (ν := ν) _ _ hv)) he hun
      obtain ⟨tm', q1, q2, q3, q4⟩ := put_ok (d := o.dst) (hs.evo hh he) hN hv hk
      exact ⟨ν', F', ⟨tm', h'⟩, ⟨hh', q3, q4.trans hd, q2⟩, he, q1, hst⟩
    · refine (hc ν F w xs hh hs.2 hl).mono fun e w' he => ?_
      obtain ⟨x, v, ν', F', h', rfl, hk, hh', hv, he, hun⟩ := he
      obtain ⟨ν', F', v', h', hk, hh', hv, he, hst⟩ := fz_new (tch := touches C (ev C.glob tm) h o.op) hk hh' hv he (fun b y hy ht => hun b y hy (htch b ht))
      obtain ⟨tm', q1, q2, q3, q4⟩ := put_ok (d := o.dst) (hs.evo hh he) hN hv hk
      exact ⟨ν', F', ⟨tm', h'⟩, ⟨hh', q3, q4.trans hd, q2⟩, he, q1, hst⟩
  · rw [hr]
    refine hround.mono fun e w' he => ?_
    obtain ⟨x, v, ν', F', h', rfl, hk, hh', hv, he, hun⟩ := he
    obtain ⟨ν', F', v', h', hk, hh', hv, he, hst⟩ := fz_new (tch := touches C (ev C.glob tm) h o.op) hk hh' hv he hun
    obtain ⟨tm', q1, q2, q3, q4⟩ := put_ok (d := o.dst) (hs.evo hh he) hN hv hk
    exact ⟨ν', F', ⟨tm', h'⟩, ⟨hh', q3, q4.trans hd, q2⟩, he, q1, hst⟩

theorem pass_sound {o : Oper} {tm : T V} {k : St → Prop} {tch : Id → Bool} (hh : HeapOK ν F h w) (hN : a.tmps.size = N) (hd : a.defers = D) (hs : SlotOK G F w ν tm a.tmps)
    (hw : putT N tm o.dst (.raw (.tuple #[])) fun tm => k ⟨tm, h⟩) : NX D G N ν F w tch k (a.put o.dst undef) w := by
  obtain ⟨tm', q1, q2, q3, q4⟩ := put_ok (d := o.dst) (x := undef) hs hN (by simp [rep, undef]) hw
  exact ⟨ν, F, ⟨tm', h⟩, ⟨hh, q3, q4.trans hd, q2⟩, Evo.refl ν F w, q1, fun b y hy _ => ⟨rfl, hy⟩⟩

theorem dstOf_eq {ops : Array Oper} {j : Nat} {d : Tmp} (h : dstOf ops.toList j = some d) : (ops[j]?).bind (·.dst) = some d := by
  simpa [dstOf] using h

theorem wanted_some {ops : Array Oper} {o : Oper} {j : Nat} {want b : Bool} {d : Tmp} (hg : o.guard = some (j, want)) (hd : dstOf ops.toList j = some d) (hx : a.tmps[d]? = some (.bool b)) :
    Region.wanted o (yielded ops a.tmps) = (b == want) := by
  unfold Region.wanted yielded
  rw [hg]
  simp [dstOf_eq hd, hx]

theorem wanted_tuple {ops : Array Oper} {o : Oper} {j : Nat} {want : Bool} {d : Tmp} {cs : Array Value} (hg : o.guard = some (j, want)) (hd : dstOf ops.toList j = some d) (hx : a.tmps[d]? = some (.tuple cs)) :
    Region.wanted o (yielded ops a.tmps) = false := by
  unfold Region.wanted yielded
  rw [hg]
  simp [dstOf_eq hd, hx]

/-- One operation, its guard and all. -/
theorem oper_sound {P : Program} {C : Calling} (hC : C.ok P) {ops : Array Oper} {i : Nat} {o : Oper} (hi : ops[i]? = some o) {Q : Exit → Act → World → Prop} {chk : (Operand → V) → Bool} {k : St → Prop} (hst : StOK D C.glob N ν F st a w)
    {tch : Id → Bool} (htch : ∀ ρ b, chk ρ = true → tch b = false → touches C ρ st.h o.op b = false) (hw : wOper P C N ops.toList chk o st k) : wpOp P ops Q i (NX D C.glob N ν F w tch k) a w := by
  have weak : ∀ {ρ : Operand → V}, chk ρ = true → ∀ a' w', NX D C.glob N ν F w (touches C ρ st.h o.op) k a' w' → NX D C.glob N ν F w tch k a' w' :=
    fun hc a' w' ⟨ν', F', st', h1, h2, h3, h4⟩ => ⟨ν', F', st', h1, h2, h3, fun b y hy hb => h4 b y hy (htch _ b hc hb)⟩
  unfold wpOp
  simp only [hi]
  unfold wOper at hw
  cases hg : o.guard with
  | none =>
    simp only [hg, guardB_iff] at hw
    have : Region.wanted o (yielded ops a.tmps) = true := by unfold Region.wanted; rw [hg]
    rw [if_pos this]
    exact (wpo_mono (weak hw.1) (run_sound hC hst.heap hst.size hst.defers hst.slot hw.2))
  | some gw =>
    obtain ⟨j, want⟩ := gw
    simp only [hg, onSome_iff, guardV_iff, ifB_iff] at hw
    obtain ⟨d, hd, v, hv, ⟨cs, rfl, hp⟩ | ⟨b, rfl, h1, h2⟩⟩ := hw
    · obtain ⟨x, hx, hr⟩ := hst.slot.1 d _ hv
      simp only [rep] at hr
      subst hr
      rw [wanted_tuple hg hd hx]
      exact pass_sound hst.heap hst.size hst.defers hst.slot hp
    obtain ⟨x, hx, hr⟩ := hst.slot.1 d _ hv
    simp only [rep] at hr
    subst hr
    rw [wanted_some hg hd hx]
    cases b
    · obtain ⟨tm', q1, q2, _⟩ := put_same hst.slot hx (by simp only [rep]) (h2 rfl)
      cases want
      · simp only [guardB_iff] at q1
        exact (wpo_mono (weak q1.1) (run_sound hC hst.heap hst.size hst.defers q2 q1.2))
      · exact pass_sound hst.heap hst.size hst.defers q2 q1
    · obtain ⟨tm', q1, q2, _⟩ := put_same hst.slot hx (by simp only [rep]) (h1 rfl)
      cases want
      · exact pass_sound hst.heap hst.size hst.defers q2 q1
      · simp only [guardB_iff] at q1
        exact (wpo_mono (weak q1.1) (run_sound hC hst.heap hst.size hst.defers q2 q1.2))

/-- How a world evolves, where the blocks of U stay as they are. -/
def EvoU (U : Id → Bool) (ν : Nu) (F : Nat → Prop) (w : World) (ν' : Nu) (F' : Nat → Prop) (w' : World) : Prop :=
  Evo ν F w ν' F' w' ∧ ∀ b y, ν.at_ b = some y → U b = true → w'.heap[y.1]? = w.heap[y.1]? ∧ ν'.at_ b = some y
theorem EvoU.refl (U : Id → Bool) (ν : Nu) (F : Nat → Prop) (w : World) : EvoU U ν F w ν F w := ⟨Evo.refl ν F w, fun _ _ h _ => ⟨rfl, h⟩⟩
theorem EvoU.trans {U : Id → Bool} {ν : Nu} {F : Nat → Prop} {w : World} {ν' : Nu} {F' : Nat → Prop} {w' : World} {ν'' : Nu} {F'' : Nat → Prop} {w'' : World} (h : EvoU U ν F w ν' F' w') (h' : EvoU U ν' F' w' ν'' F'' w'') : EvoU U ν F w ν'' F'' w'' :=
  ⟨h.1.trans h'.1, fun b y hy hb => ⟨(h'.2 b y (h.2 b y hy hb).2 hb).1.trans (h.2 b y hy hb).1, (h'.2 b y (h.2 b y hy hb).2 hb).2⟩⟩
/-- What is asked keeps the blocks of U. -/
def Ask.keeps (X : Ask) (C : Calling) (U : Id → Bool) : Prop := ∀ ρ h o b, X ρ h o = true → U b = true → touches C ρ h o b = false
theorem blt_of {a b : Nat} (h : Nat.blt a b = true) : a < b := Nat.le_of_ble_eq_true h

/-- The blocks with numbers below n. -/
def Id.low (n : Nat) : Id → Bool
  | .p a => Nat.blt a n
  | .m _ _ => false
theorem Id.low_ge {n : Nat} {c b : Id} (hc : c.ge n = true) (hb : b.low n = true) : c.beq b = false := by
  refine Id.beq_false ?_
  rintro rfl
  cases c with
  | p a =>
    have h1 := Nat.le_of_ble_eq_true hc
    have h2 : a < n := blt_of hb
    omega
  | m B k => cases hb
theorem askB_keeps (C : Calling) : (askB C).keeps C (fun b => b.low C.base) := by
  intro ρ h o b hx hb
  have ne : ∀ c : Id, c.ge C.base = true → c.beq b = false := fun c hc => Id.low_ge hc hb
  have mapc : ∀ m : Operand, (match ρ m with | .mp b => b.ge C.base | _ => false) = true → (match ρ m with | .mp b' => b'.beq b | _ => true) = false := fun m hm => by
    split at hm
    · exact ne _ hm
    · cases hm
  unfold askB at hx
  split at hx
  · rename_i h0
    simp only [h0] at hb
    cases b with
    | p a => have : a < 0 := blt_of hb; omega
    | m B k => cases hb
  · rename_i hne
    cases o
    case store t x v =>
      simp only [touches] at hx ⊢
      split at hx
      · exact ne _ hx
      · cases hx
    case next x s =>
      simp only [touches] at hx ⊢
      split at hx
      · exact ne _ hx
      · cases hx
    case mapUpdate t m x v => exact mapc m hx
    case insert t m x v => exact mapc m hx
    case mapEntry t m x => exact mapc m hx
    case entryStore t m x v => exact mapc m hx
    case call c =>
      simp only [touches] at hx ⊢
      split at hx
      · rename_i hc
        try simp only [hc]
        split at hx
        · rename_i b' lo len r hxx
          try simp only [hxx]
          exact ne _ hx
        · rename_i y r hxx
          try simp only [hxx]
        · rename_i s' es' r hxx
          try simp only [hxx]
        · cases hx
      · rename_i hc
        try simp only [hc]
        split at hx
        · rename_i b' lo len r hxx
          try simp only [hxx]
          exact ne _ hx
        · rename_i s' es' r hxx
          try simp only [hxx]
        · cases hx
      · rename_i f hc
        try simp only [hc]
        split at hx
        · rename_i g first caps hxx
          try simp only [hxx]
          split
          · rfl
          · rename_i hkv
            split at hx
            · rename_i r' h1 h2; exact (hkv _ h1 h2).elim
            · split at hx
              · rename_i hm
                have key : ∀ vs : List V, (refsL vs).all (·.ge C.base) = true → (refsL vs).any b.beq = false := fun vs hvs => by
                  rw [List.any_eq_false]
                  intro c hc hbc
                  rw [List.all_eq_true] at hvs
                  have := ne _ (hvs c hc)
                  rw [Id.beq_iff.1 hbc] at this
                  simp at this
                first | exact key _ hx | (rw [hm]; exact key _ hx)
              · first | rfl | (rename_i hm; rw [hm])
              · first | rfl | (rename_i hm; rw [hm])
              · cases hx
        · cases hx
      · rename_i h1 h2 h3
        first
          | (simp [hx]; done)
          | (split
             · rename_i hc; exact (h1 hc).elim
             · rename_i hc; exact (h2 hc).elim
             · rename_i f hc; exact (h3 f hc).elim
             · simp [hx])
    all_goals first | rfl | (simp only [quietOp] at hx; simp [touches, quietOp] at hx ⊢) | (simp [touches, quietOp])

/-- What a slot shows is kept for ever, if the slot says so. -/
theorem fz_old {C : Calling} {X : Ask} {U : Id → Bool} (hX : X.keeps C U) {o : Oper} {k : St → Prop} (hst : StOK D G N ν F st a w) (hf : fzOld C X o st k) :
    ∃ ν' F' st', StOK D G N ν' F' st' a w ∧ EvoU U ν F w ν' F' w ∧ k st' := by
  have stay : k st → ∃ ν' F' st', StOK D G N ν' F' st' a w ∧ EvoU U ν F w ν' F' w ∧ k st' := fun h => ⟨ν, F, st, hst, EvoU.refl _ _ _ _, h⟩
  unfold fzOld at hf
  split at hf
  · exact stay hf
  · rename_i d hd
    cases hc : C.fz d with
    | false => rw [hc] at hf; exact stay hf
    | true =>
      rw [hc] at hf
      simp only [cond_true] at hf
      split at hf
      · rename_i b lo len htm
        rw [guardB_iff, onRows_iff] at hf
        obtain ⟨hask, s, p, es, hb, hf⟩ := hf
        simp only [guardB_iff, Bool.and_eq_true] at hf
        obtain ⟨⟨hdn, hcl⟩, hf⟩ := hf
        obtain ⟨F', g1, g2, g3⟩ := heap_freeze hst.heap hb hcl
        have hs := hst.slot.evo hst.heap g2
        obtain ⟨x, h1, h2⟩ := hst.slot.1 d _ htm
        refine ⟨_, F', _, ⟨g1, hst.size, hst.defers, ⟨fun t v ht => ?_, hs.2⟩⟩, ⟨g2, fun b' y hy hu => ⟨rfl, ?_⟩⟩, hf⟩
        · rw [get_set (blt_of hdn)] at ht
          by_cases htd : t = d
          · rw [if_pos htd] at ht
            simp at ht
            subst ht; subst htd
            exact ⟨x, h1, g3 _ _ _ h2⟩
          · rw [if_neg htd] at ht
            exact hs.1 t v ht
        · have := hX _ _ _ b' hask hu
          simp only [touches] at this
          refine Nu.del_old (fun he => ?_) hy
          subst he
          simp at this
      · exact stay hf

theorem ops_sound {P : Program} {C : Calling} (hC : C.ok P) {X : Ask} {U : Id → Bool} (hX : X.keeps C U) {ops : Array Oper} {Q : Exit → Act → World → Prop} {k : St → Prop} {ν0 : Nu} {F0 : Nat → Prop} {w0 : World}
    (hQ : ∀ ν F st a w, StOK D C.glob N ν F st a w → EvoU U ν0 F0 w0 ν F w → k st → Q .normal a w) :
    ∀ (m i : Nat) (ν : Nu) (F : Nat → Prop) (st : St) (a : Act) (w : World), i + m = ops.size → StOK D C.glob N ν F st a w → EvoU U ν0 F0 w0 ν F w → wOps P C X N ops.toList (ops.toList.drop i) st k → wpOps P ops Q (List.range' i m) a w
  | 0, i, ν, F, st, a, w, hm, hst, he, hw => by
    rw [List.drop_eq_nil_of_le (by simp; omega)] at hw
    exact hQ ν F st a w hst he hw
  | m + 1, i, ν, F, st, a, w, hm, hst, he, hw => by
    have hlt : i < ops.toList.length := by simp; omega
    rw [List.drop_eq_getElem_cons hlt] at hw
    simp only [wOps] at hw
    rw [List.range'_succ]
    show wpOp P ops Q i _ a w
    have hi : ops[i]? = some ops.toList[i] := by simp at hlt; simp [hlt]
    refine wpOp_mono (fun a' w' hn => ?_) (oper_sound (tch := fun b => !U b) hC hi hst (fun ρ b hx hb => hX ρ _ _ b hx (by simpa using hb)) hw)
    obtain ⟨ν', F', st', g1, g2, g3, g4⟩ := hn
    obtain ⟨ν'', F'', st'', k1, k2, k3⟩ := fz_old hX g1 g3
    exact ops_sound hC hX hQ m (i + 1) ν'' F'' st'' a' w' (by omega) k1 ((he.trans ⟨g2, fun b y hy hb => g4 b y hy (by simp [hb])⟩).trans k2) k3
end

/-! renumbering -/
section
variable {F F' : Nat → Prop} {w : World} {ν ν' : Nu} {τ : Id → Tr}

def TrOK (F F' : Nat → Prop) (w : World) (ν ν' : Nu) (τ : Id → Tr) : Prop :=
  ∀ b, b.lt ν.nxt ν.cnt → match τ b with
    | .drop => True
    | .ren b' => (b'.lt ν'.nxt ν'.cnt ∧ (ν'.ph b' = true → ν.ph b = true)) ∧ ∀ y, ν'.at_ b' = some y → ν.at_ b = some y
    | .frz s es => (ν.ph b = true ∧ es = []) ∨ ∃ r, ν.at_ b = some (r, s, es.length) ∧ F' r ∧ RowsW (ri F' w) w r 0 s es

mutual
theorem rep_tr (hF : ∀ r, F r → F' r) (ht : TrOK F F' w ν ν' τ) : ∀ (v : V) (x : Value), rep F w ν v x → rep F' w ν' (v.tr τ) x
  | .raw v, x, h => by simp only [V.tr, rep] at h ⊢; exact h
  | .ptr b i off, x, h => by
    simp only [rep] at h
    have hb := ht b h.1.1
    simp only [V.tr]
    cases hτ : τ b with
    | drop => simp [rep]
    | ren b' =>
      simp only [hτ] at hb
      simp only [rep]
      refine ⟨⟨hb.1.1, ?_⟩, fun r s n hat => h.2 r s n (hb.2 _ hat)⟩
      cases hq : ν'.ph b' with
      | false => rfl
      | true => have := hb.1.2 hq; rw [h.1.2] at this; cases this
    | frz s es =>
      simp only [hτ] at hb
      rcases hb with ⟨hb, _⟩ | ⟨r, hat, hFr, hrows⟩
      · rw [h.1.2] at hb; cases hb
      simp only [rep, ri]
      refine ⟨r, i * s, h.2 r s _ hat, hFr, ?_⟩
      rw [riCells_iff]
      intro j v hj
      cases hi : es[i]? with
      | none => simp [List.getD, hi] at hj
      | some row =>
        simp [List.getD, hi] at hj
        obtain ⟨_, h2⟩ := hrows i row hi
        simpa using h2 j v hj
  | .sla b i off len, x, h => by
    simp only [rep] at h
    have hb := ht b h.1.1
    simp only [V.tr]
    cases hτ : τ b with
    | drop => simp [rep]
    | ren b' =>
      simp only [hτ] at hb
      simp only [rep]
      refine ⟨⟨hb.1.1, ?_⟩, fun r s n hat => h.2 r s n (hb.2 _ hat)⟩
      cases hq : ν'.ph b' with
      | false => rfl
      | true => have := hb.1.2 hq; rw [h.1.2] at this; cases this
    | frz s es => simp [rep]
  | .sl b lo len, x, h => by
    simp only [rep] at h
    have hb := ht b h.1.1
    simp only [V.tr]
    cases hτ : τ b with
    | drop => simp [rep]
    | ren b' =>
      simp only [hτ] at hb
      simp only [rep]
      exact ⟨⟨hb.1.1, fun hq => h.1.2 (hb.1.2 hq)⟩, fun r s n hat => h.2 r s n (hb.2 _ hat)⟩
    | frz s es =>
      simp only [hτ] at hb
      rcases hb with ⟨hb, rfl⟩ | ⟨r, hat, hFr, hrows⟩
      · obtain ⟨_, _, rfl⟩ := h.1.2 hb
        simp [rep, ri, sub]
      obtain ⟨h1, cap, h2, ⟨o', ho', rfl⟩, _⟩ := h.2 r s _ hat
      have hlen : (sub es lo len).length = len := by simp [sub]; omega
      simp only [rep, ri]
      rcases ho' with rfl | ⟨h0, _⟩
      rotate_left
      · exact .inr ⟨⟨r, o', none⟩, cap, by rw [hlen]; exact h2, by rw [hlen], .inl (List.eq_nil_of_length_eq_zero (by omega))⟩
      refine .inr ⟨⟨r, lo * s, none⟩, cap, by rw [hlen]; exact h2, by rw [hlen], .inr ⟨rfl, hFr, ?_⟩⟩
      rw [riRows_iff]
      have := hrows.sub lo len
      unfold RowsW at this
      simpa using this
  | .mp b, x, h => by
    simp only [rep] at h
    have hb := ht b h.1
    simp only [V.tr]
    cases hτ : τ b with
    | drop => simp [rep]
    | ren b' =>
      simp only [hτ] at hb
      simp only [rep]
      exact ⟨hb.1.1, fun r s n hat => h.2 r s n (hb.2 _ hat)⟩
    | frz s es => simp [rep]
  | .yl b, x, h => by
    simp only [rep] at h
    have hb := ht b h.1
    simp only [V.tr]
    cases hτ : τ b with
    | drop => simp [rep]
    | ren b' =>
      simp only [hτ] at hb
      simp only [rep]
      exact ⟨hb.1.1, fun r s n hat => h.2 r s n (hb.2 _ hat)⟩
    | frz s es => simp [rep]
  | .lst s es, x, h => by
    simp only [V.tr, rep] at h ⊢
    exact ri_mono hF (fun _ _ _ => rfl) _ _ h
  | .lsx s es, x, h => by
    simp only [V.tr, rep] at h ⊢
    exact ri_mono hF (fun _ _ _ => rfl) _ _ h
  | .adr cs off, x, h => by
    simp only [V.tr, rep] at h ⊢
    exact ri_mono hF (fun _ _ _ => rfl) _ _ h
  | .agg cs, x, h => by
    simp only [V.tr, rep] at h ⊢
    obtain ⟨vs, h1, h2⟩ := h
    exact ⟨vs, h1, repL_tr hF ht cs _ h2⟩
  | .tup cs, x, h => by
    simp only [V.tr, rep] at h ⊢
    obtain ⟨vs, h1, h2⟩ := h
    exact ⟨vs, h1, repL_tr hF ht cs _ h2⟩
  | .fn f a c, x, h => by
    simp only [V.tr, rep] at h ⊢
    obtain ⟨as, cs, h1, h2, h3⟩ := h
    exact ⟨as, cs, h1, repL_tr hF ht a _ h2, repL_tr hF ht c _ h3⟩
  | .junk, x, h => by simp [V.tr, rep]
theorem repL_tr (hF : ∀ r, F r → F' r) (ht : TrOK F F' w ν ν' τ) : ∀ (vs : List V) (xs : List Value), repL F w ν vs xs → repL F' w ν' (trL τ vs) xs
  | [], xs, h => by simp only [trL, repL] at h ⊢; exact h
  | v :: vs, xs, h => by
    simp only [trL, repL] at h ⊢
    obtain ⟨x, ys, h1, h2, h3⟩ := h
    exact ⟨x, ys, h1, rep_tr hF ht v x h2, repL_tr hF ht vs ys h3⟩
end

mutual
theorem tr_closed (hτ : ∀ b b', τ b ≠ .ren b') : ∀ (v : V), (v.tr τ).closed = true
  | .raw v => by simp [V.tr, V.closed]
  | .ptr b i off => by
    simp only [V.tr]
    cases h : τ b with
    | drop => simp [V.closed]
    | ren b' => exact (hτ b b' h).elim
    | frz s es => simp [V.closed]
  | .sla b i off len => by
    simp only [V.tr]
    cases h : τ b with
    | drop => simp [V.closed]
    | ren b' => exact (hτ b b' h).elim
    | frz s es => simp [V.closed]
  | .sl b lo len => by
    simp only [V.tr]
    cases h : τ b with
    | drop => simp [V.closed]
    | ren b' => exact (hτ b b' h).elim
    | frz s es => simp [V.closed]
  | .mp b => by
    simp only [V.tr]
    cases h : τ b with
    | drop => simp [V.closed]
    | ren b' => exact (hτ b b' h).elim
    | frz s es => simp [V.closed]
  | .yl b => by
    simp only [V.tr]
    cases h : τ b with
    | drop => simp [V.closed]
    | ren b' => exact (hτ b b' h).elim
    | frz s es => simp [V.closed]
  | .lst s es => by simp [V.tr, V.closed]
  | .lsx s es => by simp [V.tr, V.closed]
  | .adr cs off => by simp [V.tr, V.closed]
  | .agg cs => by simp only [V.tr, V.closed]; exact trL_closed hτ cs
  | .tup cs => by simp only [V.tr, V.closed]; exact trL_closed hτ cs
  | .fn f a c => by simp only [V.tr, V.closed, Bool.and_eq_true]; exact ⟨trL_closed hτ a, trL_closed hτ c⟩
  | .junk => by simp [V.tr, V.closed]
theorem trL_closed (hτ : ∀ b b', τ b ≠ .ren b') : ∀ (vs : List V), closedL (trL τ vs) = true
  | [] => by simp [trL, closedL]
  | v :: vs => by simp only [trL, closedL, Bool.and_eq_true]; exact ⟨tr_closed hτ v, trL_closed hτ vs⟩
end
end
end Go.Proofs.Ytmdimnmdoifkfaa.Clean
