/- Soundness, the quiet operations: what they ask of a state is enough for the machine. Nothing here speaks of the program. -/
import Derived.Test.YtdjibbbeegpjpaaXCW
namespace Go.Proofs.Ytdjibbbeegpjpaa.Clean
set_option linter.unusedSimpArgs false
set_option linter.unusedVariables false

/-! the words -/
theorem onSome_iff {α : Type} {o : Option α} {k : α → Prop} : onSome o k ↔ ∃ x, o = some x ∧ k x := by cases o <;> simp [onSome]
theorem guardB_iff {b : Bool} {p : Prop} : guardB b p ↔ b = true ∧ p := by cases b <;> simp [guardB]
theorem ifB_iff {b : Bool} {p q : Prop} : ifB b p q ↔ (b = true → p) ∧ (b = false → q) := by cases b <;> simp [ifB]
theorem onBool_iff {v : V} {k : Bool → Prop} : onBool v k ↔ ∃ b, v = .raw (.bool b) ∧ k b := by
  constructor
  · intro h; unfold onBool at h; split at h
    · exact ⟨_, rfl, h⟩
    · exact h.elim
  · rintro ⟨b, rfl, h⟩; exact h
theorem onIntK_iff {kk : IntKind} {v : V} {k : Int → Prop} : onIntK kk v k ↔ ∃ n, v = .raw (.int kk n) ∧ k n := by
  constructor
  · intro h; unfold onIntK at h; split at h
    · rw [guardB_iff] at h; simp at h; obtain ⟨rfl, h⟩ := h; exact ⟨_, rfl, h⟩
    · exact h.elim
  · rintro ⟨n, rfl, h⟩; simp [onIntK, guardB, h]
theorem onStr_iff {v : V} {k : ByteArray → Prop} : onStr v k ↔ ∃ b, v = .raw (.string b) ∧ k b := by
  constructor
  · intro h; unfold onStr at h; split at h
    · exact ⟨_, rfl, h⟩
    · exact h.elim
  · rintro ⟨b, rfl, h⟩; exact h
theorem onLst_iff {v : V} {k : Nat → List (List V) → Prop} : onLst v k ↔ (∃ s es, v = .lst s es ∧ k s es) ∨ (v = .raw (.slice none 0 0) ∧ k 0 []) := by
  constructor
  · intro h; unfold onLst at h; split at h
    · exact .inl ⟨_, _, rfl, h⟩
    · exact .inr ⟨rfl, h⟩
    · exact h.elim
  · rintro (⟨s, es, rfl, h⟩ | ⟨rfl, h⟩) <;> exact h
theorem onAgg_iff {v : V} {k : List V → Prop} : onAgg v k ↔ ∃ cs, v = .agg cs ∧ k cs := by
  constructor
  · intro h; unfold onAgg at h; split at h
    · exact ⟨_, rfl, h⟩
    · exact h.elim
  · rintro ⟨cs, rfl, h⟩; exact h
theorem onTup_iff {v : V} {k : List V → Prop} : onTup v k ↔ ∃ cs, v = .tup cs ∧ k cs := by
  constructor
  · intro h; unfold onTup at h; split at h
    · exact ⟨_, rfl, h⟩
    · exact h.elim
  · rintro ⟨cs, rfl, h⟩; exact h
theorem onNat_iff {n : Int} {k : Nat → Prop} : onNat n k ↔ ∃ m : Nat, n = m ∧ k m := by
  cases n with
  | ofNat m =>
    simp only [onNat]
    constructor
    · exact fun h => ⟨m, rfl, h⟩
    · rintro ⟨m', h1, h2⟩
      have : m = m' := Int.ofNat.inj h1
      exact this ▸ h2
  | negSucc m =>
    simp only [onNat, false_iff]
    rintro ⟨m', h1, _⟩
    exact absurd h1 (by simp [Int.negSucc_eq]; omega)
theorem beq_eq {a b : Nat} (h : a.beq b = true) : a = b := Nat.eq_of_beq_eq_true h

/-! operands -/
section
variable {F : Nat → Prop} {w w' : World} {ν : Nu} {h : Hp}

theorem repL_raw : ∀ (l : List Value), repL F w ν (l.map .raw) l
  | [] => by simp [repL]
  | x :: l => by simp only [List.map, repL]; exact ⟨x, l, rfl, by simp [rep], repL_raw l⟩
theorem rep_ofValue (v : Value) : rep F w ν (V.ofValue v) v := by
  cases v <;> simp only [V.ofValue, rep]
  case agg cs => exact ⟨cs, rfl, repL_raw _⟩
  case tuple cs => exact ⟨cs, rfl, repL_raw _⟩
theorem ri_ofValue (v : Value) : ri F w (V.ofValue v) v := by
  refine rep_ri (ν := ⟨fun _ => none, 0, by simp⟩) _ _ ?_ (rep_ofValue v)
  have hl : ∀ l : List Value, closedL (l.map .raw) = true := by
    intro l; induction l <;> simp_all [closedL, V.closed]
  cases v <;> simp [V.ofValue, V.closed, hl]

theorem repL_length : ∀ {vs : List V} {xs : List Value}, repL F w ν vs xs → xs.length = vs.length
  | [], xs, h => by simp only [repL] at h; simp [h]
  | v :: vs, xs, h => by simp only [repL] at h; obtain ⟨x, ys, rfl, _, h3⟩ := h; simp [repL_length h3]
theorem repL_get : ∀ {vs : List V} {xs : List Value}, repL F w ν vs xs → ∀ (i : Nat) v, vs[i]? = some v → ∃ x, xs[i]? = some x ∧ rep F w ν v x
  | [], xs, h, i, v, hi => by simp at hi
  | u :: vs, xs, h, i, v, hi => by
    simp only [repL] at h
    obtain ⟨x, ys, rfl, h2, h3⟩ := h
    cases i with
    | zero => simp at hi; subst hi; exact ⟨x, rfl, h2⟩
    | succ i => simp at hi; simpa using repL_get h3 i v hi
theorem repL_of : ∀ {vs : List V} {xs : List Value}, xs.length = vs.length → (∀ (i : Nat) v x, vs[i]? = some v → xs[i]? = some x → rep F w ν v x) → repL F w ν vs xs
  | [], xs, hl, _ => by simp only [repL]; exact List.eq_nil_of_length_eq_zero (by simpa using hl)
  | u :: vs, [], hl, _ => by simp at hl
  | u :: vs, x :: xs, hl, h => by
    simp only [repL]
    exact ⟨x, xs, rfl, h 0 u x rfl rfl, repL_of (by simpa using hl) (fun i v y hi hy => h (i + 1) v y (by simpa using hi) (by simpa using hy))⟩
theorem repL_sub {vs : List V} {xs : List Value} (h : repL F w ν vs xs) (o n : Nat) : repL F w ν (sub vs o n) (sub xs o n) := by
  have hl := repL_length h
  refine repL_of (by simp [sub, hl]) (fun i v x hi hx => ?_)
  simp only [sub, List.getElem?_take, List.getElem?_drop] at hi hx
  split at hi
  · rename_i hlt
    rw [if_pos hlt] at hx
    obtain ⟨y, hy, hr⟩ := repL_get h _ v hi
    rw [hx] at hy; simp at hy; exact hy ▸ hr
  · simp at hi
theorem repL_append : ∀ {vs us : List V} {xs ys : List Value}, repL F w ν vs xs → repL F w ν us ys → repL F w ν (vs ++ us) (xs ++ ys)
  | [], us, xs, ys, h, k => by simp only [repL] at h; subst h; simpa using k
  | v :: vs, us, xs, ys, h, k => by
    simp only [repL] at h
    obtain ⟨x, zs, rfl, h2, h3⟩ := h
    simp only [List.cons_append, repL]
    exact ⟨x, zs ++ ys, rfl, h2, repL_append h3 k⟩
theorem repL_map {α : Type} {f : α → V} {g : α → Value} (hfg : ∀ x, rep F w ν (f x) (g x)) : ∀ (l : List α), repL F w ν (l.map f) (l.map g)
  | [] => by simp [repL]
  | x :: l => by simp only [List.map, repL]; exact ⟨_, _, rfl, hfg x, repL_map hfg l⟩

/-- The cells of a value, and of what it stands for. -/
theorem rep_cells {v : V} {x : Value} (hr : rep F w ν v x) {cs : List V} (hc : v.cells = some cs) (hk : HeapOK ν F h w) (ho : allOne h cs = true) : repL F w ν cs x.cells.toList := by
  have one : ∀ {v : V} {x : Value}, rep F w ν v x → allOne h [v] = true → x.cells = #[x] := fun {v x} hr ho => by
    have ho' : V.one h v = true := by simpa [allOne] using ho
    cases v <;> simp only [rep, V.one] at hr ho' <;> (try cases ho')
    case raw u => subst hr; cases x <;> simp_all [Value.oneCell', Value.cells]
    case ptr b i off =>
      obtain ⟨o, hb⟩ := Option.isSome_iff_exists.1 ho'
      obtain ⟨⟨r, s, n⟩, hx⟩ := hk.dom b o hb
      rw [hr.2 r s n hx]; rfl
    case sl b lo len =>
      obtain ⟨o, hb⟩ := Option.isSome_iff_exists.1 ho'
      obtain ⟨⟨r, s, n⟩, hx⟩ := hk.dom b o hb
      obtain ⟨_, cap, _, hx', _⟩ := hr.2 r s n hx
      rw [hx']; rfl
    case lst s es =>
      simp only [ri] at hr
      rcases hr with ⟨_, hx⟩ | ⟨a, cap, _, hx, _⟩ <;> (rw [hx]; rfl)
    case adr cs off => simp only [ri] at hr; obtain ⟨b, o, hx, _⟩ := hr; rw [hx]; rfl
    case fn f a c => obtain ⟨as, cs, hx, _⟩ := hr; rw [hx]; rfl
  cases v <;> simp only [V.cells, Option.some.injEq, reduceCtorEq] at hc
  case agg cs' =>
    subst hc
    simp only [rep] at hr
    obtain ⟨vs, rfl, h2⟩ := hr
    exact h2
  all_goals
    subst hc
    rw [one hr ho]
    simp only [repL]
    exact ⟨x, [], rfl, hr, rfl⟩

theorem rep_one {v : V} {x : Value} (hk : HeapOK ν F h w) (hr : rep F w ν v x) (ho : V.one h v = true) : x.oneCell' = true := by
  cases v <;> simp only [rep, V.one] at hr ho <;> (try cases ho)
  case raw u => subst hr; exact ho
  case ptr b i off =>
    obtain ⟨o, hb⟩ := Option.isSome_iff_exists.1 ho
    obtain ⟨⟨r, s, n⟩, hx⟩ := hk.dom b o hb
    rw [hr.2 r s n hx]; rfl
  case sl b lo len =>
    obtain ⟨o, hb⟩ := Option.isSome_iff_exists.1 ho
    obtain ⟨⟨r, s, n⟩, hx⟩ := hk.dom b o hb
    obtain ⟨_, cap, _, hx', _⟩ := hr.2 r s n hx
    rw [hx']; rfl
  case lst s es =>
    simp only [ri] at hr
    rcases hr with ⟨_, hx⟩ | ⟨a, cap, _, hx, _⟩ <;> (rw [hx]; rfl)
  case adr cs off => simp only [ri] at hr; obtain ⟨b, o, hx, _⟩ := hr; rw [hx]; rfl
  case fn f a c => obtain ⟨as, cs, hx, _⟩ := hr; rw [hx]; rfl

def isAggD (d : TypeDesc) : Bool := match d with | .struct _ | .array _ _ => true | _ => false
def blkOf (x : V) : Option Nat := match x with | .ptr b _ _ => some b | _ => none

/-! what is read -/
/-- What must be the same for what reads block 'fp' of the state, or what is kept. -/
def Agree (F : Nat → Prop) (ν : Nu) (fp : Option Nat) (w w' : World) : Prop :=
  (∀ r, F r → w'.heap[r]? = w.heap[r]?) ∧ (∀ b r s n, fp = some b → ν.at_ b = some (r, s, n) → w'.heap[r]? = w.heap[r]?)
theorem Agree.refl (fp : Option Nat) : Agree F ν fp w w := ⟨fun _ _ => rfl, fun _ _ _ _ _ _ => rfl⟩

/-- In every world that agrees the operation yields one value, which stands for what k takes. -/
def QV (P : Program) (F : Nat → Prop) (ν : Nu) (w : World) (fp : Option Nat) (c : Sem Value) (k : V → Prop) : Prop :=
  ∃ x v, k v ∧ rep F w ν v x ∧ ∀ w', Agree F ν fp w w' → c.run P w' = .ok x w'

theorem QV.pure {P : Program} {fp : Option Nat} {c : Sem Value} {k : V → Prop} (x : Value) (v : V) (hk : k v) (hr : rep F w ν v x) (hc : ∀ w', c.run P w' = .ok x w') : QV P F ν w fp c k :=
  ⟨x, v, hk, hr, fun w' _ => hc w'⟩

theorem QV.raw {P : Program} {fp : Option Nat} {c : Sem Value} {k : V → Prop} {z : Value} (hk : k (.raw z)) (hc : ∀ w', c.run P w' = .ok z w') : QV P F ν w fp c k :=
  QV.pure z (.raw z) hk (by simp only [rep]) hc

/-- A row of cells that lies in the world from (r, o) on. -/
def RowAt (R : V → Value → Prop) (w : World) (r o : Nat) (row : List V) : Prop := ∀ j v, row[j]? = some v → ∃ x, w.cell? ⟨r, o + j, none⟩ = some x ∧ x.oneCell' = true ∧ R v x

theorem RowAt.sub {R : V → Value → Prop} {r o : Nat} {row : List V} (hr : RowAt R w r o row) (off n : Nat) : RowAt R w r (o + off) (sub row off n) := by
  intro j v hj
  simp only [Clean.sub, List.getElem?_take, List.getElem?_drop] at hj
  split at hj
  · obtain ⟨x, h1, h2⟩ := hr _ v hj
    exact ⟨x, by rw [Nat.add_assoc]; exact h1, h2⟩
  · simp at hj

theorem RowAt.list {w : World} {R : V → Value → Prop} {r : Nat} : ∀ {row : List V} {o : Nat}, RowAt R w r o row → ∃ xs : List Value, xs.length = row.length ∧ (∀ j x, xs[j]? = some x → w.cell? ⟨r, o + j, none⟩ = some x ∧ x.oneCell' = true) ∧ ∀ (j : Nat) (v : V) (x : Value), row[j]? = some v → xs[j]? = some x → R v x
  | [], o, _ => ⟨[], rfl, by simp, by simp⟩
  | v :: row, o, hr => by
    obtain ⟨x, h1, h1', h2⟩ := hr 0 v rfl
    obtain ⟨xs, g1, g2, g3⟩ := RowAt.list (w := w) (r := r) (row := row) (o := o + 1) (fun j u hj => by
      have := hr (j + 1) u (by simpa using hj)
      rwa [show o + (j + 1) = o + 1 + j by omega] at this)
    refine ⟨x :: xs, by simp [g1], fun j y hy => ?_, fun j u y hu hy => ?_⟩
    · cases j with
      | zero => simp at hy; subst hy; exact ⟨h1, h1'⟩
      | succ j => rw [show o + (j + 1) = o + 1 + j by omega]; exact g2 j y (by simpa using hy)
    · cases j with
      | zero => simp at hu hy; subst hu; subst hy; exact h2
      | succ j => exact g3 j u y (by simpa using hu) (by simpa using hy)

theorem add_lit (r o j : Nat) : (⟨r, o, none⟩ : Addr).add j = ⟨r, o + j, none⟩ := by unfold Addr.add; split <;> simp_all

theorem isAgg_run {P : Program} {t : TypeId} {d : TypeDesc} (hd : P.underlying t = some d) (w : World) :
    (isAgg t).run P w = .ok (isAggD d) w := by
  unfold isAgg
  rw [Sem.run_bind, run_underlying hd w]
  cases d <;> rfl

theorem typed_rep {d : TypeDesc} {p : Bool} {v : V} {k : V → Prop} (h : typed d p v k) : ∃ v', k v' ∧ ∀ {F : Nat → Prop} {w : World} {ν : Nu} {x : Value}, rep F w ν v x → rep F w ν v' x := by
  unfold typed at h
  split at h
  · rw [onIntK_iff] at h; obtain ⟨n, rfl, h⟩ := h; exact ⟨_, h, fun h => h⟩
  · rw [onBool_iff] at h; obtain ⟨n, rfl, h⟩ := h; exact ⟨_, h, fun h => h⟩
  · rw [onStr_iff] at h; obtain ⟨n, rfl, h⟩ := h; exact ⟨_, h, fun h => h⟩
  · split at h
    · rw [onLst_iff] at h
      rcases h with ⟨s, es, rfl, h⟩ | ⟨rfl, h⟩
      · exact ⟨_, h, fun h => h⟩
      · refine ⟨_, h, fun h => ?_⟩
        simp only [rep] at h
        subst h
        simp only [rep, ri]
        exact .inl ⟨trivial, trivial⟩
    · exact ⟨_, h, fun h => h⟩
  · rw [onAgg_iff] at h; obtain ⟨n, rfl, h⟩ := h; exact ⟨_, h, fun h => h⟩
  · rw [onAgg_iff] at h; obtain ⟨n, rfl, h⟩ := h; exact ⟨_, h, fun h => h⟩
  · rw [onTup_iff] at h; obtain ⟨n, rfl, h⟩ := h; exact ⟨_, h, fun h => h⟩
  · exact ⟨_, h, fun h => h⟩

theorem onTyped_rep {p : Bool} : ∀ {ds : List TypeDesc} {l : List V} {k : List V → Prop}, onTyped p ds l k →
    (l.take ds.length).length = ds.length ∧ ∃ cs, k cs ∧ ∀ {F : Nat → Prop} {w : World} {ν : Nu} {xs : List Value}, repL F w ν (l.take ds.length) xs → repL F w ν cs xs
  | [], l, k, h => by simp only [onTyped] at h; exact ⟨by simp, [], h, fun h => by simpa using h⟩
  | d :: ds, [], k, h => by simp [onTyped, onCons] at h
  | d :: ds, v :: r, k, h => by
    simp only [onTyped, onCons] at h
    obtain ⟨v', hk, hv⟩ := typed_rep h
    obtain ⟨h1, cs, h2, h3⟩ := onTyped_rep hk
    refine ⟨by simp only [List.length_cons, List.take_succ_cons]; rw [h1], v' :: cs, h2, fun hr => ?_⟩
    simp only [List.length_cons, List.take_succ_cons, repL] at hr ⊢
    obtain ⟨x, xs, rfl, g1, g2⟩ := hr
    exact ⟨x, xs, rfl, hv g1, h3 g2⟩

theorem isAggD_cases (d : TypeDesc) : (∃ fs, d = .struct fs) ∨ (∃ n e, d = .array n e) ∨ isAggD d = false := by
  cases d <;> simp [isAggD]

/-- A load from a row that lies there. -/
theorem load_row {P : Program} {t : TypeId} {row : List V} {off : Nat} {p : Bool} {k : V → Prop} {fp : Option Nat} {R : V → Value → Prop} {r o : Nat}
    (hR : ∀ v x, R v x → rep F w ν v x) (hrow : RowAt R w r o row) (hag : ∀ w', Agree F ν fp w w' → w'.heap[r]? = w.heap[r]?) (h : wLoad P t row off p k) :
    QV P F ν w fp (loadVar t ⟨r, o + off, none⟩) k := by
  unfold wLoad at h
  rw [onSome_iff] at h
  obtain ⟨d, hd, h⟩ := h
  have agg : ∀ (hda : (isAggD d) = true), onSome (P.info? t) (fun i => guardB ((kinds P 8 t).length.beq i.size) (onTyped p (kinds P 8 t) (row.drop off) fun cs => k (.agg cs))) →
      QV P F ν w fp (loadVar t ⟨r, o + off, none⟩) k := fun hda h => by
    rw [onSome_iff] at h
    obtain ⟨i, hi, h⟩ := h
    rw [guardB_iff] at h
    obtain ⟨hkl, h⟩ := h
    obtain ⟨hl, cs', hk, hcs⟩ := onTyped_rep h
    rw [beq_eq hkl] at hl hcs
    have hl : (sub row off i.size).length = i.size := hl
    obtain ⟨xs, g1, g2, g3⟩ := (hrow.sub off i.size).list
    refine ⟨.agg xs.toArray, _, hk, ?_, fun w' ha => ?_⟩
    · simp only [rep]
      exact ⟨_, rfl, hcs (repL_of (vs := sub row off i.size) (by simpa using g1) (fun j v x hv hx => hR v x (g3 j v x hv (by simpa using hx))))⟩
    · have hl' : (loadCells ⟨r, o + off, none⟩ i.size).run P w' = .ok xs.toArray w' := by
        rw [← hl, ← g1]
        exact run_loadCells_list (P := P) w' _ xs (fun j v hv => by
          rw [add_lit, cell_heap (a := ⟨r, o + off + j, none⟩) (hag w' ha)]; exact (g2 j v hv).1)
      simp [loadVar, isAgg_run hd, hda, sizeOf, typeInfo, hi, hl']
  rcases isAggD_cases d with ⟨fs, rfl⟩ | ⟨n, e, rfl⟩ | hda
  · exact agg rfl h
  · exact agg rfl h
  · have h' : onSome row[off]? fun v => typed d p v k := by
      cases d <;> first | exact h | simp [isAggD] at hda
    rw [onSome_iff] at h'
    obtain ⟨v, hv, h'⟩ := h'
    obtain ⟨x, h1, h2, h3⟩ := hrow off v hv
    obtain ⟨v', hv', hrv⟩ := typed_rep h'
    refine ⟨x, v', hv', hrv (hR v x h3), fun w' ha => ?_⟩
    have hc : w'.cell? ⟨r, o + off, none⟩ = some x := by rw [cell_heap (a := ⟨r, o + off, none⟩) (hag w' ha)]; exact h1
    simp [loadVar, isAgg_run hd, hda, hc]

/-- Where an address leads. -/
theorem at_row (hk : HeapOK ν F h w) {x : V} {y : Value} (hr : rep F w ν x y) {K : List V → Nat → Bool → Prop} (hA : wAt h x K) :
    ∃ row off p r o, K row off p ∧ y = .pointer (some ⟨r, o + off, none⟩) ∧ RowAt (repO F w ν p) w r o row ∧
      ∀ w', Agree F ν (blkOf x) w w' → w'.heap[r]? = w.heap[r]? := by
  unfold wAt at hA
  split at hA
  · rename_i b i off
    rw [onSome_iff] at hA
    obtain ⟨ob, hb, hA⟩ := hA
    cases ob with
    | rows s p es =>
    simp only [onSome_iff] at hA
    obtain ⟨row, hrow, hK⟩ := hA
    obtain ⟨⟨r, s', n⟩, hx⟩ := hk.dom b _ hb
    obtain ⟨p', es', g1, g2, c, el, g3, g4, g5⟩ := hk.blk b r s' n hx
    rw [hb] at g1
    simp at g1
    obtain ⟨rfl, rfl, rfl⟩ := g1
    simp only [rep] at hr
    have hy := hr.2 r _ n hx
    rw [rowsC_iff] at g5
    obtain ⟨g6, g7⟩ := g5 i row hrow
    refine ⟨row, off, p, r, i * s, hK, hy, fun j v hj => ?_, fun w' ha => ha.2 b r _ n rfl hx⟩
    obtain ⟨z, g8, g9⟩ := g7 j v hj
    exact ⟨z, by rw [cell_of_row w r _ c el (0, 0) g3]; simpa using g8, g9⟩
  · rename_i cs off
    simp only [rep, ri] at hr
    obtain ⟨r, o, hy, hF, hc⟩ := hr
    rw [riCells_iff] at hc
    refine ⟨cs, off, true, r, o, hA, hy, fun j v hj => ?_, fun w' ha => ha.1 r hF⟩
    simpa [repO] using hc j v hj
  · exact hA.elim

theorem q_load {P : Program} {ρV : V} {y : Value} {t : TypeId} {k : V → Prop} (hk : HeapOK ν F h w) (hr : rep F w ν ρV y) (hw : wAt h ρV fun row off p => wLoad P t row off p k) :
    QV P F ν w (blkOf ρV) (Instr.loadAt t y) k := by
  obtain ⟨row, off, p, r, o, hK, rfl, hrow, hag⟩ := at_row hk hr hw
  have := load_row (P := P) (F := F) (w := w) (ν := ν) (fun v x hv => repO_rep hv) hrow hag hK
  obtain ⟨x, v, h1, h2, h3⟩ := this
  exact ⟨x, v, h1, h2, fun w' ha => by simp [Instr.loadAt, Instr.sureAddr, h3 w' ha]⟩

theorem q_int {P : Program} {fp : Option Nat} {op : BinOp} {kk kk' : IntKind} {a b : Int} {xo yo : Operand} {t : TypeId} {k : V → Prop} (h : wInt op kk a kk' b k) :
    QV P F ν w fp (do eqGuard op t xo yo (.int kk a) (.int kk' b); binOp op t (.int kk a) (.int kk' b)) k := by
  have hg : ∀ w', (eqGuard op t xo yo (.int kk a) (.int kk' b)).run P w' = .ok () w' := fun w' => by
    unfold eqGuard; cases op <;> rfl
  have close : ∀ z, k (.raw z) → (∀ w', (binOp op t (.int kk a) (.int kk' b)).run P w' = .ok z w') → QV P F ν w fp (do eqGuard op t xo yo (.int kk a) (.int kk' b); binOp op t (.int kk a) (.int kk' b)) k :=
    fun z hz hrun => QV.pure z (.raw z) hz (by simp [rep]) (fun w' => by simp [hg, hrun])
  unfold wInt at h
  cases op <;> simp only [guardB_iff, beq_iff_eq] at h
  case shl => exact close _ h.2 (fun w' => by have := h.1; simp [binOp, Op.shift, Int.not_lt.2 this])
  case shr => exact close _ h.2 (fun w' => by have := h.1; simp [binOp, Op.shift, Int.not_lt.2 this])
  all_goals
    obtain ⟨rfl, h⟩ := h
    first
      | exact close _ h (fun w' => by simp [binOp, Op.intArith, Op.intCmp, Op.intBits])
      | exact close _ h.2 (fun w' => by have := h.1; simp [binOp, Op.intDiv, this])
      | exact h.elim

theorem q_bin {P : Program} {fp : Option Nat} {op : BinOp} {xo yo : Operand} {t : TypeId} {x y : V} {x' y' : Value} {k : V → Prop} (hx : rep F w ν x x') (hy : rep F w ν y y') (h : wBin P op t x y k) :
    QV P F ν w fp (do eqGuard op t xo yo x' y'; binOp op t x' y') k := by
  unfold wBin at h
  split at h
  · simp only [rep] at hx hy; subst hx; subst hy; exact q_int h
  · simp only [rep] at hx hy; subst hx; subst hy
    rename_i a b
    rw [onSome_iff] at h
    obtain ⟨d, hd, h⟩ := h
    have hg : ∀ w', (eqGuard op t xo yo (.bool a) (.bool b)).run P w' = .ok () w' := fun w' => by unfold eqGuard; cases op <;> rfl
    have he : ∀ w', (Op.equal t (.bool a) (.bool b)).run P w' = .ok (a == b) w' ∨ d ≠ .bool := fun w' => by
      by_cases hb : d = .bool
      · subst hb; left
        show (Op.equalIn (9999 + 1) t (.bool a) (.bool b)).run P w' = _
        rw [Op.equalIn]
        simp [run_underlying hd]
      · exact .inr hb
    split at h
    · exact QV.raw h (fun w' => by simp [hg, binOp, (he w').resolve_right (by simp)])
    · exact QV.raw h (fun w' => by simp [hg, binOp, (he w').resolve_right (by simp)])
    · exact h.elim
  · exact h.elim

theorem q_un {P : Program} {fp : Option Nat} {op : UnOp} {x : V} {x' : Value} {k : V → Prop} (hx : rep F w ν x x') (h : wUn op x k) : QV P F ν w fp (Op.unary op x') k := by
  unfold wUn at h
  split at h
  · simp only [rep] at hx; subst hx; exact QV.raw h (fun w' => by simp [Op.unary, Op.intArith])
  · simp only [rep] at hx; subst hx; exact QV.raw h (fun w' => by simp [Op.unary])
  · exact h.elim

theorem q_conv {P : Program} {fp : Option Nat} {src dst : TypeId} {x : V} {x' : Value} {k : V → Prop} {ds : TypeDesc} (hs : P.underlying src = some ds) (hx : rep F w ν x x') (h : wConv P dst x k) :
    QV P F ν w fp (convert src dst x') k := by
  unfold wConv at h
  rw [onSome_iff] at h
  obtain ⟨d, hd, h⟩ := h
  split at h
  · simp only [rep] at hx; subst hx
    exact QV.raw h (fun w' => by simp [convert, run_underlying hs, run_underlying hd, Conv.intToInt])
  · exact h.elim

theorem q_fieldAddr {P : Program} {fp : Option Nat} {s : TypeId} {x : V} {x' : Value} {f : Nat} {k : V → Prop} (hk : HeapOK ν F h w) (hx : rep F w ν x x') (hh : wFieldAddr P h s x f k) :
    QV P F ν w fp (Instr.fieldAt s x' f) k := by
  unfold wFieldAddr at hh
  try simp only [onSome_iff] at hh
  obtain ⟨d, hd, hh⟩ := hh
  split at hh
  · rename_i fs
    simp only [onSome_iff, guardB_iff] at hh
    obtain ⟨fd, hf, inf, hi, hz, hh⟩ := hh
    have hz' : inf.size ≠ 0 := fun h0 => by simp [h0] at hz
    split at hh
    · rename_i b i off
      try simp only [guardB_iff] at hh
      obtain ⟨o, hb⟩ := Option.isSome_iff_exists.1 hh.1
      obtain ⟨⟨r, s', n⟩, hat⟩ := hk.dom b o hb
      simp only [rep] at hx
      have hx' := hx.2 r s' n hat
      subst hx'
      refine QV.pure (.pointer (some ⟨r, i * s' + (off + fd.offset), none⟩)) _ hh.2 ?_ (fun w' => ?_)
      · simp only [rep]
        refine ⟨hx.1, fun r' s'' n' hat' => ?_⟩
        rw [hat] at hat'
        simp at hat'
        obtain ⟨rfl, rfl, rfl⟩ := hat'
        rfl
      · simp [Instr.fieldAt, run_underlying hd, hf, Instr.sureAddr, fieldPlace, sizeOf, typeInfo, hi, hz', add_lit, Nat.add_assoc]
    · rename_i cs off
      simp only [rep, ri] at hx
      obtain ⟨r, o, rfl, hF, hc⟩ := hx
      refine QV.pure (.pointer (some ⟨r, o + (off + fd.offset), none⟩)) _ hh ?_ (fun w' => ?_)
      · simp only [rep, ri]; exact ⟨r, o, rfl, hF, hc⟩
      · simp [Instr.fieldAt, run_underlying hd, hf, Instr.sureAddr, fieldPlace, sizeOf, typeInfo, hi, hz', add_lit, Nat.add_assoc]
    · exact hh.elim
  · exact hh.elim

/-- A part of a value of several cells. -/
theorem q_part {P : Program} {fp : Option Nat} {t : TypeId} {cs : List V} {vs : Array Value} {off : Nat} {p : Bool} {k : V → Prop} (hx : repL F w ν cs vs.toList) (hh : wLoad P t cs off p k) :
    QV P F ν w fp (part t vs off) k := by
  unfold wLoad at hh
  rw [onSome_iff] at hh
  obtain ⟨d, hd, hh⟩ := hh
  have agg : ∀ (hda : (isAggD d) = true), onSome (P.info? t) (fun i => guardB ((kinds P 8 t).length.beq i.size) (onTyped p (kinds P 8 t) (cs.drop off) fun cs => k (.agg cs))) →
      QV P F ν w fp (part t vs off) k := fun hda h => by
    rw [onSome_iff] at h
    obtain ⟨i, hi, h⟩ := h
    rw [guardB_iff] at h
    obtain ⟨hkl, h⟩ := h
    obtain ⟨hl, cs', hk, hcs⟩ := onTyped_rep h
    rw [beq_eq hkl] at hl hcs
    refine QV.pure (.agg (vs.extract off (off + i.size))) _ hk ?_ (fun w' => by simp [part, isAgg_run hd, hda, sizeOf, typeInfo, hi])
    simp only [rep]
    refine ⟨_, rfl, hcs ?_⟩
    have := repL_sub hx off i.size
    simpa [sub, Array.toList_extract, List.extract_eq_take_drop] using this
  rcases isAggD_cases d with ⟨fs, rfl⟩ | ⟨n, e, rfl⟩ | hda
  · exact agg rfl hh
  · exact agg rfl hh
  · have h' : onSome cs[off]? fun v => typed d p v k := by
      cases d <;> first | exact hh | simp [isAggD] at hda
    rw [onSome_iff] at h'
    obtain ⟨v, hv, h'⟩ := h'
    obtain ⟨x, h1, h2⟩ := repL_get hx off v hv
    have h1' : vs[off]? = some x := by simpa using h1
    obtain ⟨v', hv', hrv⟩ := typed_rep h'
    exact QV.pure x v' hv' (hrv h2) (fun w' => by simp [part, isAgg_run hd, hda, h1'])

theorem q_field {P : Program} {fp : Option Nat} {s : TypeId} {x : V} {x' : Value} {f : Nat} {k : V → Prop} (hx : rep F w ν x x') (hh : wField P s x f k) :
    QV P F ν w fp (Instr.field s x' f) k := by
  unfold wField at hh
  try simp only [onSome_iff] at hh
  obtain ⟨d, hd, hh⟩ := hh
  split at hh
  · try simp only [onSome_iff] at hh
    obtain ⟨fd, hf, hh⟩ := hh
    split at hh
    · simp only [rep] at hx
      obtain ⟨vs, rfl, hl⟩ := hx
      obtain ⟨y, v, h1, h2, h3⟩ := q_part (P := P) (fp := fp) hl hh
      exact ⟨y, v, h1, h2, fun w' ha => by simp [Instr.field, run_underlying hd, hf, asAgg, h3 w' ha]⟩
    · exact hh.elim
  · exact hh.elim

theorem q_indexAddr {P : Program} {fp : Option Nat} {t : TypeId} {x i : V} {x' i' : Value} {k : V → Prop} (hk : HeapOK ν F h w) (hx : rep F w ν x x') (hi : rep F w ν i i') (hh : wIndexAddr P h t x i k) :
    QV P F ν w fp (Instr.indexAt t x' i') k := by
  unfold wIndexAddr at hh
  split at hh
  · rename_i kk n
    simp only [rep] at hi
    subst hi
    simp only [onNat_iff, onSome_iff] at hh
    obtain ⟨m, rfl, d, hd, hh⟩ := hh
    split at hh
    · rename_i e
      try simp only [onSome_iff] at hh
      obtain ⟨inf, hinf, hh⟩ := hh
      split at hh
      · rename_i s es
        try simp only [onSome_iff] at hh
        obtain ⟨rfl, row, hrow, hh⟩ := hh
        have hlt : m < es.length := (List.getElem?_eq_some_iff.1 hrow).1
        simp only [rep, ri] at hx
        rcases hx with ⟨rfl, _⟩ | ⟨⟨r, o, sp⟩, cap, hcap, rfl, hr⟩
        · simp at hlt
        · obtain ⟨hsp, hF, hrows⟩ := hr.resolve_left (fun h0 => by rw [h0] at hlt; simp at hlt)
          simp only at hsp hF hrows
          subst hsp
          rw [riRows_iff] at hrows
          obtain ⟨g1, g2⟩ := hrows m row hrow
          refine QV.pure (.pointer (some ⟨r, o + m * inf.size + 0, none⟩)) _ hh ?_ (fun w' => ?_)
          · simp only [rep, ri]
            exact ⟨r, o + m * inf.size, rfl, hF, by rw [riCells_iff]; exact g2⟩
          · simp [Instr.indexAt, asIntOf, run_underlying hd, hlt, sizeOf, typeInfo, hinf, add_lit]
      · rename_i b lo len
        try simp only [onSome_iff] at hh
        obtain ⟨ob, hb, hh⟩ := hh
        cases ob with
        | rows s p es =>
        simp only [guardB_iff] at hh
        obtain ⟨hs, hlt, hh⟩ := hh
        have hs := beq_eq hs
        subst hs
        obtain ⟨⟨r, s', n'⟩, hat⟩ := hk.dom b _ hb
        simp only [rep] at hx
        obtain ⟨g1, cap, g2, rfl, _⟩ := hx.2 r s' n' hat
        obtain ⟨p', es', q1, _⟩ := hk.blk b r s' n' hat
        rw [hb] at q1
        simp at q1
        obtain ⟨rfl, rfl, rfl⟩ := q1
        refine QV.pure (.pointer (some ⟨r, (lo + m) * inf.size + 0, none⟩)) _ hh ?_ (fun w' => ?_)
        · simp only [rep]
          refine ⟨hx.1, fun r' s'' n'' hat' => ?_⟩
          rw [hat] at hat'
          simp at hat'
          obtain ⟨rfl, rfl, rfl⟩ := hat'
          rfl
        · simp [Instr.indexAt, asIntOf, run_underlying hd, hlt, sizeOf, typeInfo, hinf, add_lit, Nat.add_mul]
      · exact hh.elim
    · rename_i len e
      try simp only [onSome_iff] at hh
      obtain ⟨inf, hinf, hlt, hh⟩ := hh
      split at hh
      · rename_i b i off
        try simp only [guardB_iff] at hh
        obtain ⟨o, hb⟩ := Option.isSome_iff_exists.1 hh.1
        obtain ⟨⟨r, s', n'⟩, hat⟩ := hk.dom b o hb
        simp only [rep] at hx
        have hx' := hx.2 r s' n' hat
        subst hx'
        refine QV.pure (.pointer (some ⟨r, i * s' + (off + m * inf.size), none⟩)) _ hh.2 ?_ (fun w' => ?_)
        · simp only [rep]
          refine ⟨hx.1, fun r' s'' n'' hat' => ?_⟩
          rw [hat] at hat'
          simp at hat'
          obtain ⟨rfl, rfl, rfl⟩ := hat'
          rfl
        · simp [Instr.indexAt, asIntOf, run_underlying hd, hlt, sizeOf, typeInfo, hinf, add_lit, Instr.sureAddr, Nat.add_assoc]
      · rename_i cs off
        simp only [rep, ri] at hx
        obtain ⟨r, o, rfl, hF, hc⟩ := hx
        refine QV.pure (.pointer (some ⟨r, o + (off + m * inf.size), none⟩)) _ hh ?_ (fun w' => ?_)
        · simp only [rep, ri]; exact ⟨r, o, rfl, hF, hc⟩
        · simp [Instr.indexAt, asIntOf, run_underlying hd, hlt, sizeOf, typeInfo, hinf, add_lit, Instr.sureAddr, Nat.add_assoc]
      · exact hh.elim
    · exact hh.elim
  · exact hh.elim

theorem q_index {P : Program} {fp : Option Nat} {t : TypeId} {x i : V} {x' i' : Value} {k : V → Prop} (hx : rep F w ν x x') (hi : rep F w ν i i') (hh : wIndex P t x i k) :
    QV P F ν w fp (Instr.index t x' i') k := by
  unfold wIndex at hh
  split at hh
  · rename_i kk n
    simp only [rep] at hi
    subst hi
    simp only [onNat_iff, onSome_iff] at hh
    obtain ⟨m, rfl, d, hd, hh⟩ := hh
    split at hh
    · rename_i len e cs
      try simp only [onSome_iff] at hh
      obtain ⟨inf, hinf, hlt, hh⟩ := hh
      simp only [rep] at hx
      obtain ⟨vs, rfl, hl⟩ := hx
      obtain ⟨y, v, h1, h2, h3⟩ := q_part (P := P) (fp := fp) hl hh
      exact ⟨y, v, h1, h2, fun w' ha => by simp [Instr.index, asIntOf, run_underlying hd, hlt, sizeOf, typeInfo, hinf, h3 w' ha]⟩
    · rename_i s
      try simp only [onSome_iff] at hh
      obtain ⟨b, hb, hh⟩ := hh
      simp only [rep] at hx
      subst hx
      exact QV.raw hh (fun w' => by simp [Instr.index, asIntOf, run_underlying hd, hb])
    · exact hh.elim
  · exact hh.elim

theorem q_len {P : Program} {fp : Option Nat} {t : TypeId} {ts : List TypeId} {ty : TypeId} {x : V} {x' : Value} {k : V → Prop} (hk : HeapOK ν F h w) (hx : rep F w ν x x') (hh : wLen P h t x k) :
    QV P F ν w fp (Builtin.len_ (t :: ts).toArray ty #[x']) k := by
  unfold wLen at hh
  try simp only [onSome_iff] at hh
  obtain ⟨d, hd, hh⟩ := hh
  split at hh
  · simp only [rep] at hx; subst hx
    exact QV.raw hh (fun w' => by simp [Builtin.len_, run_underlying hd, goInt])
  · rename_i e s es
    simp only [rep, ri] at hx
    rcases hx with ⟨rfl, rfl⟩ | ⟨a, cap, _, rfl, _⟩
    · exact QV.raw (z := .int .i64 0) hh (fun w' => by simp [Builtin.len_, run_underlying hd, goInt])
    · exact QV.raw hh (fun w' => by simp [Builtin.len_, run_underlying hd, goInt])
  · rename_i e b lo len
    rw [guardB_iff] at hh
    obtain ⟨hlive, hh⟩ := hh
    obtain ⟨o, hb⟩ := Option.isSome_iff_exists.1 hlive
    obtain ⟨⟨r, s', n'⟩, hat⟩ := hk.dom b o hb
    simp only [rep] at hx
    obtain ⟨g1, cap, g2, rfl, _⟩ := hx.2 r s' n' hat
    exact QV.raw hh (fun w' => by simp [Builtin.len_, run_underlying hd, goInt])
  · simp only [rep] at hx; subst hx
    exact QV.raw hh (fun w' => by simp [Builtin.len_, run_underlying hd, goInt])
  · exact hh.elim
end
end Go.Proofs.Ytdjibbbeegpjpaa.Clean
