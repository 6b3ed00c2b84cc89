/- Values, memory and states without the machine's detail, and what they say of a world. Nothing here speaks of the program. -/
import Derived.Calls
import Derived.OrdersHeld
import Derived.Laws.Cells
import Derived.Laws.Append
import Derived.Below
namespace Go.Proofs.Ytmdimnmdoifkfaa.Clean

/-! trees keyed by numbers -/
inductive T (α : Type) where
  | e
  | n (v : Option α) (l r : T α)

/-! by the recursor, for the kernel's sake -/
noncomputable def T.get {α : Type} (t : T α) (k : Nat) : Option α :=
  T.rec (motive := fun _ => Nat → Option α) (fun _ => none) (fun v _ _ ihl ihr k => Nat.rec (motive := fun _ => Option α) v (fun k' _ => Bool.rec (motive := fun _ => Option α) (ihr (k' / 2)) (ihl (k' / 2)) (Nat.beq (k' % 2) 0)) k) t k
noncomputable def T.single {α : Type} (v : Option α) (f k : Nat) : T α :=
  Nat.rec (motive := fun _ => Nat → T α) (fun _ => .e) (fun _ ih k => Nat.rec (motive := fun _ => T α) (.n v .e .e) (fun k' _ => Bool.rec (motive := fun _ => T α) (.n none .e (ih (k' / 2))) (.n none (ih (k' / 2)) .e) (Nat.beq (k' % 2) 0)) k) f k
noncomputable def T.setF {α : Type} (v : Option α) (f : Nat) (t : T α) (k : Nat) : T α :=
  T.rec (motive := fun _ => Nat → T α) (fun k => T.single v f k) (fun x l r ihl ihr k => Nat.rec (motive := fun _ => T α) (.n v l r) (fun k' _ => Bool.rec (motive := fun _ => T α) (.n x l (ihr (k' / 2))) (.n x (ihl (k' / 2)) r) (Nat.beq (k' % 2) 0)) k) t k

theorem cond_beq {β : Type} (a b : Nat) (x y : β) : (bif a.beq b then x else y) = if a = b then x else y := by
  by_cases h : a = b
  · subst h; simp
  · have : a.beq b = false := by
      cases hb : a.beq b
      · rfl
      · exact absurd (Nat.eq_of_beq_eq_true hb) h
    simp [this, h]
theorem rec_beq {β : Type} (a b : Nat) (x y : β) : (Bool.rec y x (Nat.beq a b) : β) = if a = b then x else y := by
  rw [← cond_beq]
  cases Nat.beq a b <;> rfl

theorem T.get_e {α : Type} (k : Nat) : (T.e : T α).get k = none := rfl
theorem T.get_n {α : Type} (v : Option α) (l r : T α) (k : Nat) : (T.n v l r).get k = if k = 0 then v else if (k - 1) % 2 = 0 then l.get ((k - 1) / 2) else r.get ((k - 1) / 2) := by
  cases k with
  | zero => rfl
  | succ k =>
    rw [if_neg (by omega), Nat.add_sub_cancel]
    exact rec_beq (k % 2) 0 (l.get (k / 2)) (r.get (k / 2))
theorem T.single_zero {α : Type} (v : Option α) (f : Nat) : T.single v (f + 1) 0 = .n v .e .e := rfl
theorem T.single_succ {α : Type} (v : Option α) (f k : Nat) : T.single v (f + 1) (k + 1) = if k % 2 = 0 then .n none (T.single v f (k / 2)) .e else .n none .e (T.single v f (k / 2)) :=
  rec_beq (k % 2) 0 (T.n none (T.single v f (k / 2)) .e) (T.n none .e (T.single v f (k / 2)))
theorem T.setF_e {α : Type} (v : Option α) (f k : Nat) : T.setF v f .e k = T.single v f k := rfl
theorem T.setF_zero {α : Type} (v x : Option α) (f : Nat) (l r : T α) : T.setF v f (.n x l r) 0 = .n v l r := rfl
theorem T.setF_succ {α : Type} (v x : Option α) (f k : Nat) (l r : T α) : T.setF v f (.n x l r) (k + 1) = if k % 2 = 0 then .n x (T.setF v f l (k / 2)) r else .n x l (T.setF v f r (k / 2)) :=
  rec_beq (k % 2) 0 (T.n x (T.setF v f l (k / 2)) r) (T.n x l (T.setF v f r (k / 2)))

theorem T.get_single {α : Type} (v : Option α) : ∀ (f k j : Nat), k + 1 < 2 ^ f → (T.single v f k).get j = if j = k then v else none := by
  intro f
  induction f with
  | zero => intro k j hk; simp at hk
  | succ f ih =>
    intro k j hk
    cases k with
    | zero =>
      rw [T.single_zero, T.get_n]
      by_cases hj : j = 0
      · simp [hj]
      · simp [hj, T.get_e]
    | succ k =>
      have hl : k / 2 + 1 < 2 ^ f := by rw [Nat.pow_succ] at hk; omega
      rw [T.single_succ]
      by_cases hp : k % 2 = 0
      · rw [if_pos hp, T.get_n]
        by_cases hj : j = 0
        · subst hj; simp
        · rw [if_neg hj, ih _ _ hl]
          by_cases hq : (j - 1) % 2 = 0
          · rw [if_pos hq]
            by_cases he : j = k + 1
            · subst he; simp
            · rw [if_neg he, if_neg (by omega)]
          · rw [if_neg hq, if_neg (by intro he; subst he; omega)]; rfl
      · rw [if_neg hp, T.get_n]
        by_cases hj : j = 0
        · subst hj; simp
        · rw [if_neg hj, ih _ _ hl]
          by_cases hq : (j - 1) % 2 = 0
          · rw [if_pos hq, if_neg (by intro he; subst he; omega)]; rfl
          · rw [if_neg hq]
            by_cases he : j = k + 1
            · subst he; simp
            · rw [if_neg he, if_neg (by omega)]

theorem T.get_setF {α : Type} (v : Option α) (f : Nat) : ∀ (t : T α) (k j : Nat), k + 1 < 2 ^ f → (T.setF v f t k).get j = if j = k then v else t.get j := by
  intro t
  induction t with
  | e =>
    intro k j hk
    rw [T.setF_e, T.get_single v f k j hk]
    rfl
  | n x l r ihl ihr =>
    intro k j hk
    cases k with
    | zero =>
      rw [T.setF_zero, T.get_n, T.get_n]
      by_cases hj : j = 0
      · simp [hj]
      · simp [hj]
    | succ k =>
      have hl : k / 2 + 1 < 2 ^ f := by omega
      rw [T.setF_succ]
      by_cases hp : k % 2 = 0
      · rw [if_pos hp, T.get_n, T.get_n]
        by_cases hj : j = 0
        · subst hj; simp
        · rw [if_neg hj, if_neg hj, ihl _ _ hl]
          by_cases hq : (j - 1) % 2 = 0
          · rw [if_pos hq, if_pos hq]
            by_cases he : j = k + 1
            · subst he; simp
            · rw [if_neg he, if_neg (by omega)]
          · rw [if_neg hq, if_neg hq, if_neg (by intro he; subst he; omega)]
      · rw [if_neg hp, T.get_n, T.get_n]
        by_cases hj : j = 0
        · subst hj; simp
        · rw [if_neg hj, if_neg hj, ihr _ _ hl]
          by_cases hq : (j - 1) % 2 = 0
          · rw [if_pos hq, if_pos hq, if_neg (by intro he; subst he; omega)]
          · rw [if_neg hq, if_neg hq]
            by_cases he : j = k + 1
            · subst he; simp
            · rw [if_neg he, if_neg (by omega)]

noncomputable def T.map {α β : Type} (f : α → β) (t : T α) : T β :=
  T.rec (motive := fun _ => T β) .e (fun v _ _ l r => .n (v.map f) l r) t
theorem T.get_map {α β : Type} (f : α → β) : ∀ (t : T α) (k : Nat), (t.map f).get k = (t.get k).map f := by
  intro t
  induction t with
  | e => intro k; rfl
  | n v l r ihl ihr =>
    intro k
    show (T.n (v.map f) (l.map f) (r.map f)).get k = _
    rw [T.get_n, T.get_n]
    split
    · rfl
    · split
      · exact ihl _
      · exact ihr _

/-! blocks -/
/-- A block of the state: one with a number of its own, or a member of a family. -/
inductive Id where
  | p (n : Nat)
  | m (B k : Nat)
  deriving Inhabited, DecidableEq
instance (n : Nat) : OfNat Id n := ⟨.p n⟩
def Id.beq : Id → Id → Bool
  | .p a, .p b => a.beq b
  | .m A i, .m B k => A.beq B && i.beq k
  | _, _ => false
theorem Id.beq_iff {a b : Id} : a.beq b = true ↔ a = b := by
  cases a <;> cases b <;> simp [Id.beq]
@[simp] theorem Id.beq_self (a : Id) : a.beq a = true := Id.beq_iff.2 rfl
theorem Id.beq_false {a b : Id} (h : a ≠ b) : a.beq b = false := by
  cases hb : a.beq b with
  | false => rfl
  | true => exact (h (Id.beq_iff.1 hb)).elim
theorem Id.cond_beq {β : Type} (a b : Id) (x y : β) : (bif a.beq b then x else y) = if a = b then x else y := by
  by_cases h : a = b
  · subst h; simp
  · rw [Id.beq_false h, if_neg h]; rfl
/-- The number is given already. -/
def Id.lt : Id → Nat → (Nat → Nat) → Prop
  | .p a, n, _ => a < n
  | .m B k, _, c => k < c B
theorem Id.lt_le {b : Id} {m n : Nat} {c : Nat → Nat} (h : b.lt m c) (hl : m ≤ n) : b.lt n c := by
  cases b with
  | p a => exact Nat.lt_of_lt_of_le h hl
  | m B k => exact h
theorem Id.ne_new {b : Id} {n : Nat} {c : Nat → Nat} (h : b.lt n c) : b ≠ .p n := by
  rintro rfl
  exact absurd h (Nat.lt_irrefl n)
theorem Id.lt_new (n : Nat) (c : Nat → Nat) : (Id.p n).lt (n + 1) c := Nat.lt_succ_self n
/-- From n on; members have no number. -/
def Id.ge (n : Nat) : Id → Bool
  | .p a => Nat.ble n a
  | .m _ _ => true

/-! values -/
inductive V where
  | raw (v : Value)
  | ptr (b : Id) (i off : Nat)
  | sl (b : Id) (lo len : Nat)
  /-- a slice of an array: its cells, from off on, in row i of block b -/
  | sla (b : Id) (i off len : Nat)
  /-- a map -/
  | mp (b : Id)
  /-- what a loop over a function hands to it: block b is the loop's record -/
  | yl (b : Id)
  | lst (s : Nat) (es : List (List V))
  /-- as lst; there is no room behind it -/
  | lsx (s : Nat) (es : List (List V))
  | adr (cs : List V) (off : Nat)
  | agg (cs : List V)
  | tup (vs : List V)
  | fn (f : Fn) (first caps : List V)
  | junk
  deriving Inhabited

/-- Which block of the world a block of the state is, how many cells a row of it has, and how many rows are known. -/
structure Nu where
  at_ : Id → Option (Nat × Nat × Nat)
  nxt : Nat
  /-- how many members each family has had -/
  cnt : Nat → Nat
  lt : ∀ b x, at_ b = some x → b.lt nxt cnt
  /-- Blocks that are not there yet: a slice of such a one is nil. -/
  ph : Id → Bool
  phx : ∀ b x, at_ b = some x → ph b = false

section
variable (F : Nat → Prop) (w : World)
mutual
/-- What is kept for ever: it lies in blocks of F. -/
def ri : V → Value → Prop
  | .raw v, x => x = v
  | .ptr _ _ _, _ => False
  | .sl _ _ _, _ => False
  | .sla _ _ _ _, _ => False
  | .mp _, _ => False
  | .yl _, _ => False
  | .lst s es, x => (es = [] ∧ x = .slice none 0 0) ∨ ∃ (a : Addr) (cap : Nat), es.length ≤ cap ∧ x = .slice (some a) es.length cap ∧ (es = [] ∨ (a.spot = none ∧ F a.block ∧ riRows a.block s es a.off))
  | .lsx s es, x => (es = [] ∧ x = .slice none 0 0) ∨ ∃ (a : Addr), x = .slice (some a) es.length es.length ∧ (es = [] ∨ (a.spot = none ∧ F a.block ∧ riRows a.block s es a.off))
  | .adr cs off, x => ∃ b o : Nat, x = .pointer (some ⟨b, o + off, none⟩) ∧ F b ∧ riCells b cs o
  | .agg cs, x => ∃ vs : Array Value, x = .agg vs ∧ riL cs vs.toList
  | .tup cs, x => ∃ vs : Array Value, x = .tuple vs ∧ riL cs vs.toList
  | .fn f a c, x => ∃ as cs : Array Value, x = .func f as cs ∧ riL a as.toList ∧ riL c cs.toList
  | .junk, _ => True
def riL : List V → List Value → Prop
  | [], l => l = []
  | v :: vs, l => ∃ x xs, l = x :: xs ∧ ri v x ∧ riL vs xs
def riCells (b : Nat) : List V → Nat → Prop
  | [], _ => True
  | v :: vs, o => (∃ x, w.cell? ⟨b, o, none⟩ = some x ∧ x.oneCell' = true ∧ ri v x) ∧ riCells b vs (o + 1)
def riRows (b s : Nat) : List (List V) → Nat → Prop
  | [], _ => True
  | r :: rs, o => r.length = s ∧ riCells b r o ∧ riRows b s rs (o + s)
end

variable (ν : Nu)
mutual
def rep : V → Value → Prop
  | .mp b, x => b.lt ν.nxt ν.cnt ∧ ∀ r s n, ν.at_ b = some (r, s, n) → x = .map (some r)
  | .yl b, x => b.lt ν.nxt ν.cnt ∧ ∀ r s n, ν.at_ b = some (r, s, n) → x = .func (.yield r) #[] #[]
  | .ptr b i off, x => (b.lt ν.nxt ν.cnt ∧ ν.ph b = false) ∧ ∀ r s n, ν.at_ b = some (r, s, n) → x = .pointer (some ⟨r, i * s + off, none⟩)
  | .sla b i off len, x => (b.lt ν.nxt ν.cnt ∧ ν.ph b = false) ∧ ∀ r s n, ν.at_ b = some (r, s, n) → ∃ cap, len ≤ cap ∧ x = .slice (some ⟨r, i * s + off, none⟩) len cap
  | .sl b lo len, x => (b.lt ν.nxt ν.cnt ∧ (ν.ph b = true → lo = 0 ∧ len = 0 ∧ x = .slice none 0 0)) ∧ ∀ r s n, ν.at_ b = some (r, s, n) → lo + len ≤ n ∧ ∃ cap, len ≤ cap ∧ (∃ o, (o = lo * s ∨ (cap = 0 ∧ lo ≠ 0)) ∧ x = .slice (some ⟨r, o, none⟩) len cap) ∧
      ∃ c e fr, w.heap[r]? = some (.cells c e fr) ∧ (lo + cap) * s ≤ c.size
  | .agg cs, x => ∃ vs : Array Value, x = .agg vs ∧ repL cs vs.toList
  | .tup cs, x => ∃ vs : Array Value, x = .tuple vs ∧ repL cs vs.toList
  | .fn f a c, x => ∃ as cs : Array Value, x = .func f as cs ∧ repL a as.toList ∧ repL c cs.toList
  | .raw v, x => x = v
  | .lst s es, x => ri F w (.lst s es) x
  | .lsx s es, x => ri F w (.lsx s es) x
  | .adr cs off, x => ri F w (.adr cs off) x
  | .junk, _ => True
def repL : List V → List Value → Prop
  | [], l => l = []
  | v :: vs, l => ∃ x xs, l = x :: xs ∧ rep v x ∧ repL vs xs
end
end

/-! how what is kept stays -/
section
variable {F F' : Nat → Prop} {w w' : World}
mutual
theorem ri_mono (hF : ∀ b, F b → F' b) (hc : ∀ b o, F b → w'.cell? ⟨b, o, none⟩ = w.cell? ⟨b, o, none⟩) : ∀ (v : V) (x : Value), ri F w v x → ri F' w' v x
  | .raw v, x, h => by simp only [ri] at h ⊢; exact h
  | .ptr _ _ _, _, h => by simp only [ri] at h
  | .sl _ _ _, _, h => by simp only [ri] at h
  | .sla _ _ _ _, _, h => by simp only [ri] at h
  | .mp _, _, h => by simp only [ri] at h
  | .yl _, _, h => by simp only [ri] at h
  | .lst s es, x, h => by
    simp only [ri] at h ⊢
    rcases h with h | ⟨a, cap, h1, h2, h3⟩
    · exact .inl h
    · refine .inr ⟨a, cap, h1, h2, ?_⟩
      rcases h3 with h3 | ⟨h3, h4, h5⟩
      · exact .inl h3
      · exact .inr ⟨h3, hF _ h4, riRows_mono hF hc a.block s h4 es a.off h5⟩
  | .lsx s es, x, h => by
    simp only [ri] at h ⊢
    rcases h with h | ⟨a, h2, h3⟩
    · exact .inl h
    · refine .inr ⟨a, h2, ?_⟩
      rcases h3 with h3 | ⟨h3, h4, h5⟩
      · exact .inl h3
      · exact .inr ⟨h3, hF _ h4, riRows_mono hF hc a.block s h4 es a.off h5⟩
  | .adr cs off, x, h => by
    simp only [ri] at h ⊢
    obtain ⟨b, o, h1, h2, h3⟩ := h
    exact ⟨b, o, h1, hF _ h2, riCells_mono hF hc b h2 cs o h3⟩
  | .agg cs, x, h => by
    simp only [ri] at h ⊢
    obtain ⟨vs, h1, h2⟩ := h
    exact ⟨vs, h1, riL_mono hF hc cs _ h2⟩
  | .tup cs, x, h => by
    simp only [ri] at h ⊢
    obtain ⟨vs, h1, h2⟩ := h
    exact ⟨vs, h1, riL_mono hF hc cs _ h2⟩
  | .fn f a c, x, h => by
    simp only [ri] at h ⊢
    obtain ⟨as, cs, h1, h2, h3⟩ := h
    exact ⟨as, cs, h1, riL_mono hF hc a _ h2, riL_mono hF hc c _ h3⟩
  | .junk, _, _ => by simp only [ri]
theorem riL_mono (hF : ∀ b, F b → F' b) (hc : ∀ b o, F b → w'.cell? ⟨b, o, none⟩ = w.cell? ⟨b, o, none⟩) : ∀ (vs : List V) (xs : List Value), riL F w vs xs → riL F' w' vs xs
  | [], xs, h => by simp only [riL] at h ⊢; exact h
  | v :: vs, xs, h => by
    simp only [riL] at h ⊢
    obtain ⟨x, ys, h1, h2, h3⟩ := h
    exact ⟨x, ys, h1, ri_mono hF hc v x h2, riL_mono hF hc vs ys h3⟩
theorem riCells_mono (hF : ∀ b, F b → F' b) (hc : ∀ b o, F b → w'.cell? ⟨b, o, none⟩ = w.cell? ⟨b, o, none⟩) (b : Nat) (hb : F b) : ∀ (vs : List V) (o : Nat), riCells F w b vs o → riCells F' w' b vs o
  | [], o, h => by simp only [riCells]
  | v :: vs, o, h => by
    simp only [riCells] at h ⊢
    obtain ⟨⟨x, h1, h1', h2⟩, h3⟩ := h
    exact ⟨⟨x, by rw [hc b o hb]; exact h1, h1', ri_mono hF hc v x h2⟩, riCells_mono hF hc b hb vs _ h3⟩
theorem riRows_mono (hF : ∀ b, F b → F' b) (hc : ∀ b o, F b → w'.cell? ⟨b, o, none⟩ = w.cell? ⟨b, o, none⟩) (b s : Nat) (hb : F b) : ∀ (es : List (List V)) (o : Nat), riRows F w b s es o → riRows F' w' b s es o
  | [], o, h => by simp only [riRows]
  | r :: rs, o, h => by
    simp only [riRows] at h ⊢
    exact ⟨h.1, riCells_mono hF hc b hb r o h.2.1, riRows_mono hF hc b s hb rs _ h.2.2⟩
end
end

/-! values without blocks of the state -/
mutual
def V.closed : V → Bool
  | .ptr _ _ _ | .sl _ _ _ | .sla _ _ _ _ | .mp _ | .yl _ => false
  | .agg cs | .tup cs => closedL cs
  | .fn _ a c => closedL a && closedL c
  | .raw _ | .lst _ _ | .lsx _ _ | .adr _ _ | .junk => true
def closedL : List V → Bool
  | [] => true
  | v :: vs => v.closed && closedL vs
end

section
variable {F : Nat → Prop} {w : World} {ν : Nu}
mutual
theorem rep_ri : ∀ (v : V) (x : Value), v.closed = true → rep F w ν v x → ri F w v x
  | .raw v, x, _, h => by simp only [rep, ri] at h ⊢; exact h
  | .ptr _ _ _, _, hc, _ => by simp [V.closed] at hc
  | .sl _ _ _, _, hc, _ => by simp [V.closed] at hc
  | .sla _ _ _ _, _, hc, _ => by simp [V.closed] at hc
  | .mp _, _, hc, _ => by simp [V.closed] at hc
  | .yl _, _, hc, _ => by simp [V.closed] at hc
  | .lst s es, x, _, h => by simp only [rep] at h; exact h
  | .lsx s es, x, _, h => by simp only [rep] at h; exact h
  | .adr cs off, x, _, h => by simp only [rep] at h; exact h
  | .agg cs, x, hc, h => by
    simp only [rep, ri, V.closed] at h hc ⊢
    obtain ⟨vs, h1, h2⟩ := h
    exact ⟨vs, h1, repL_riL cs _ hc h2⟩
  | .tup cs, x, hc, h => by
    simp only [rep, ri, V.closed] at h hc ⊢
    obtain ⟨vs, h1, h2⟩ := h
    exact ⟨vs, h1, repL_riL cs _ hc h2⟩
  | .fn f a c, x, hc, h => by
    simp only [rep, ri, V.closed, Bool.and_eq_true] at h hc ⊢
    obtain ⟨as, cs, h1, h2, h3⟩ := h
    exact ⟨as, cs, h1, repL_riL a _ hc.1 h2, repL_riL c _ hc.2 h3⟩
  | .junk, _, _, _ => by simp only [ri]
theorem repL_riL : ∀ (vs : List V) (xs : List Value), closedL vs = true → repL F w ν vs xs → riL F w vs xs
  | [], xs, _, h => by simp only [repL, riL] at h ⊢; exact h
  | v :: vs, xs, hc, h => by
    simp only [repL, riL, closedL, Bool.and_eq_true] at h hc ⊢
    obtain ⟨x, ys, h1, h2, h3⟩ := h
    exact ⟨x, ys, h1, rep_ri v x hc.1 h2, repL_riL vs ys hc.2 h3⟩
end
mutual
theorem ri_rep : ∀ (v : V) (x : Value), ri F w v x → rep F w ν v x
  | .raw v, x, h => by simp only [rep, ri] at h ⊢; exact h
  | .ptr _ _ _, _, h => by simp only [ri] at h
  | .sl _ _ _, _, h => by simp only [ri] at h
  | .sla _ _ _ _, _, h => by simp only [ri] at h
  | .mp _, _, h => by simp only [ri] at h
  | .yl _, _, h => by simp only [ri] at h
  | .lst s es, x, h => by simp only [rep]; exact h
  | .lsx s es, x, h => by simp only [rep]; exact h
  | .adr cs off, x, h => by simp only [rep]; exact h
  | .agg cs, x, h => by
    simp only [rep, ri] at h ⊢
    obtain ⟨vs, h1, h2⟩ := h
    exact ⟨vs, h1, riL_repL cs _ h2⟩
  | .tup cs, x, h => by
    simp only [rep, ri] at h ⊢
    obtain ⟨vs, h1, h2⟩ := h
    exact ⟨vs, h1, riL_repL cs _ h2⟩
  | .fn f a c, x, h => by
    simp only [rep, ri] at h ⊢
    obtain ⟨as, cs, h1, h2, h3⟩ := h
    exact ⟨as, cs, h1, riL_repL a _ h2, riL_repL c _ h3⟩
  | .junk, _, _ => by simp only [rep]
theorem riL_repL : ∀ (vs : List V) (xs : List Value), riL F w vs xs → repL F w ν vs xs
  | [], xs, h => by simp only [repL, riL] at h ⊢; exact h
  | v :: vs, xs, h => by
    simp only [repL, riL] at h ⊢
    obtain ⟨x, ys, h1, h2, h3⟩ := h
    exact ⟨x, ys, h1, ri_rep v x h2, riL_repL vs ys h3⟩
end
end

/-! memory -/
/-- The record of a loop over a function: the slots as they were when it began. -/
structure Lr where
  state : LoopState
  pending : Option Code
  tm : T V
  N : Nat
  ps : Array Tmp
  assign : Code
  body : Code
  /-- the function that it stands in -/
  fid : Nat
instance : Inhabited Lr := ⟨⟨.ready, none, .e, 0, #[], .skip, .skip, 0⟩⟩
inductive O where
  | rows (s : Nat) (pure : Bool) (es : List (List V))
  /-- a map: its keys and what it has for them, in the order in which they came; none ever goes -/
  | mp (es : List (V × V))
  | lp (q : Lr)
  /-- a walk through map x, which held n entries when it began; those of seen have come -/
  | it (x : V) (n : Nat) (seen : List Nat)
  deriving Inhabited

/-- The members of a family: the cells of a row, and the rows of each that is there. -/
structure Fam where
  s : Nat
  ms : List (Option (List (List V)))
  deriving Inhabited
def memb (ms : List (Option (List (List V)))) (k : Nat) : Option (List (List V)) := (ms[k]?).join

structure Hp where
  bs : List (Nat × O)
  nxt : Nat
  fs : List (Nat × Fam)
  deriving Inhabited

def getB : List (Nat × O) → Nat → Option O
  | [], _ => none
  | (k, o) :: r, b => bif k.beq b then some o else getB r b
def delB : List (Nat × O) → Nat → List (Nat × O)
  | [], _ => []
  | (k, o) :: r, b => bif k.beq b then delB r b else (k, o) :: delB r b

def getF : List (Nat × Fam) → Nat → Option Fam
  | [], _ => none
  | (k, f) :: r, b => bif k.beq b then some f else getF r b
def setF : List (Nat × Fam) → Nat → Nat → Option (List (List V)) → List (Nat × Fam)
  | [], _, _, _ => []
  | (K, f) :: r, B, k, x => bif K.beq B then (K, ⟨f.s, f.ms.set k x⟩) :: r else (K, f) :: setF r B k x

def Hp.get (h : Hp) (b : Id) : Option O :=
  match b with
  | .p n => getB h.bs n
  | .m B k => match getF h.fs B with
    | some f => (memb f.ms k).map (.rows f.s true)
    | none => none
def Hp.add (h : Hp) (o : O) : Hp := ⟨(h.nxt, o) :: h.bs, h.nxt + 1, h.fs⟩
def Hp.del (h : Hp) (b : Id) : Hp :=
  match b with
  | .p n => ⟨delB h.bs n, h.nxt, h.fs⟩
  | .m B k => ⟨h.bs, h.nxt, setF h.fs B k none⟩
/-- A member takes rows alone. -/
def Hp.put (h : Hp) (b : Id) (o : O) : Hp :=
  match b, o with
  | .p n, o => ⟨(n, o) :: delB h.bs n, h.nxt, h.fs⟩
  | .m B k, .rows _ _ es => ⟨h.bs, h.nxt, setF h.fs B k (some es)⟩
  | _, _ => h
/-- May the block be written so? -/
def putOK (b : Id) (p : Bool) : Bool := match b with | .p _ => true | .m _ _ => p

theorem getF_cons (k : Nat) (f : Fam) (r : List (Nat × Fam)) (b : Nat) : getF ((k, f) :: r) b = if k = b then some f else getF r b := by rw [getF, cond_beq]
theorem setF_cons (K : Nat) (f : Fam) (r : List (Nat × Fam)) (B k : Nat) (x : Option (List (List V))) : setF ((K, f) :: r) B k x = if K = B then (K, ⟨f.s, f.ms.set k x⟩) :: r else (K, f) :: setF r B k x := by rw [setF, cond_beq]
theorem getF_setF (B k : Nat) (x : Option (List (List V))) (B' : Nat) : ∀ (l : List (Nat × Fam)), getF (setF l B k x) B' = if B' = B then (getF l B).map (fun f => ⟨f.s, f.ms.set k x⟩) else getF l B'
  | [] => by simp [setF, getF]
  | (K, f) :: r => by
    rw [setF_cons]
    by_cases hK : K = B
    · subst hK
      rw [if_pos rfl, getF_cons, getF_cons, getF_cons, if_pos rfl]
      by_cases hB : B' = K
      · subst hB; simp
      · rw [if_neg hB, if_neg (by omega), if_neg (by omega)]
    · rw [if_neg hK, getF_cons, getF_cons, getF_cons, getF_setF B k x B' r, if_neg hK]
      by_cases hB : B' = B
      · subst hB; rw [if_pos rfl, if_neg hK]; simp
      · rw [if_neg hB]; simp [hB]
theorem memb_set (ms : List (Option (List (List V)))) (k : Nat) (x : Option (List (List V))) (j : Nat) (hk : k < ms.length) : memb (ms.set k x) j = if j = k then x else memb ms j := by
  unfold memb
  rw [List.getElem?_set]
  by_cases h : k = j
  · subst h; simp [hk]
  · rw [if_neg h, if_neg (by omega)]
theorem memb_lt {ms : List (Option (List (List V)))} {k : Nat} {es : List (List V)} (h : memb ms k = some es) : k < ms.length := by
  unfold memb at h
  rw [Option.join_eq_some_iff] at h
  exact (List.getElem?_eq_some_iff.1 h).1

theorem getB_cons (k : Nat) (o : O) (r : List (Nat × O)) (b : Nat) : getB ((k, o) :: r) b = if k = b then some o else getB r b := by rw [getB, cond_beq]
theorem delB_cons (k : Nat) (o : O) (r : List (Nat × O)) (b : Nat) : delB ((k, o) :: r) b = if k = b then delB r b else (k, o) :: delB r b := by rw [delB, cond_beq]
theorem getB_delB (b j : Nat) : ∀ (l : List (Nat × O)), getB (delB l b) j = if j = b then none else getB l j
  | [] => by simp [delB, getB]
  | (k, o) :: r => by
    rw [delB_cons, getB_cons]
    by_cases hk : k = b
    · rw [if_pos hk, getB_delB b j r]
      by_cases hj : j = b
      · simp [hj]
      · rw [if_neg hj, if_neg hj, if_neg (by omega)]
    · rw [if_neg hk, getB_cons, getB_delB b j r]
      by_cases hj : j = b
      · subst hj; simp [hk]
      · rw [if_neg hj, if_neg hj]

def cellsC (R : V → Value → Prop) (c : Array Value) : List V → Nat → Prop
  | [], _ => True
  | v :: vs, o => (∃ x, c[o]? = some x ∧ x.oneCell' = true ∧ R v x) ∧ cellsC R c vs (o + 1)
def rowsC (R : V → Value → Prop) (c : Array Value) (s : Nat) : List (List V) → Nat → Prop
  | [], _ => True
  | r :: rs, o => r.length = s ∧ cellsC R c r o ∧ rowsC R c s rs (o + s)

theorem cellsC_iff {R : V → Value → Prop} {c : Array Value} : ∀ {vs : List V} {o : Nat}, cellsC R c vs o ↔ ∀ j v, vs[j]? = some v → ∃ x, c[o + j]? = some x ∧ x.oneCell' = true ∧ R v x
  | [], o => by simp [cellsC]
  | v :: vs, o => by
    rw [cellsC, cellsC_iff]
    constructor
    · rintro ⟨h1, h2⟩ j u hj
      cases j with
      | zero => simp at hj; subst hj; exact h1
      | succ j => simp at hj; have := h2 j u hj; rwa [show o + 1 + j = o + (j + 1) by omega] at this
    · intro h
      refine ⟨h 0 v rfl, fun j u hj => ?_⟩
      have := h (j + 1) u (by simpa using hj)
      rwa [show o + (j + 1) = o + 1 + j by omega] at this

theorem rowsC_iff {R : V → Value → Prop} {c : Array Value} {s : Nat} : ∀ {es : List (List V)} {o : Nat}, rowsC R c s es o ↔
    ∀ i r, es[i]? = some r → r.length = s ∧ ∀ j v, r[j]? = some v → ∃ x, c[o + i * s + j]? = some x ∧ x.oneCell' = true ∧ R v x
  | [], o => by simp [rowsC]
  | r :: rs, o => by
    rw [rowsC, rowsC_iff, cellsC_iff]
    constructor
    · rintro ⟨h0, h1, h2⟩ i u hi
      cases i with
      | zero => simp at hi; subst hi; simpa using ⟨h0, h1⟩
      | succ i =>
        simp at hi
        have := h2 i u hi
        rwa [show o + s + i * s = o + (i + 1) * s by rw [Nat.add_mul]; omega] at this
    · intro h
      have h0 := h 0 r rfl
      refine ⟨h0.1, by simpa using h0.2, fun i u hi => ?_⟩
      have := h (i + 1) u (by simpa using hi)
      rwa [show o + (i + 1) * s = o + s + i * s by rw [Nat.add_mul]; omega] at this

section
variable {F : Nat → Prop} {w : World}
theorem riCells_iff {b : Nat} : ∀ {vs : List V} {o : Nat}, riCells F w b vs o ↔ ∀ j v, vs[j]? = some v → ∃ x, w.cell? ⟨b, o + j, none⟩ = some x ∧ x.oneCell' = true ∧ ri F w v x
  | [], o => by simp [riCells]
  | v :: vs, o => by
    rw [riCells, riCells_iff]
    constructor
    · rintro ⟨h1, h2⟩ j u hj
      cases j with
      | zero => simp at hj; subst hj; exact h1
      | succ j => simp at hj; have := h2 j u hj; rwa [show o + 1 + j = o + (j + 1) by omega] at this
    · intro h
      refine ⟨h 0 v rfl, fun j u hj => ?_⟩
      have := h (j + 1) u (by simpa using hj)
      rwa [show o + (j + 1) = o + 1 + j by omega] at this
theorem riRows_iff {b s : Nat} : ∀ {es : List (List V)} {o : Nat}, riRows F w b s es o ↔
    ∀ i r, es[i]? = some r → r.length = s ∧ ∀ j v, r[j]? = some v → ∃ x, w.cell? ⟨b, o + i * s + j, none⟩ = some x ∧ x.oneCell' = true ∧ ri F w v x
  | [], o => by simp [riRows]
  | r :: rs, o => by
    rw [riRows, riRows_iff, riCells_iff]
    constructor
    · rintro ⟨h0, h1, h2⟩ i u hi
      cases i with
      | zero => simp at hi; subst hi; simpa using ⟨h0, h1⟩
      | succ i =>
        simp at hi
        have := h2 i u hi
        rwa [show o + s + i * s = o + (i + 1) * s by rw [Nat.add_mul]; omega] at this
    · intro h
      have h0 := h 0 r rfl
      refine ⟨h0.1, by simpa using h0.2, fun i u hi => ?_⟩
      have := h (i + 1) u (by simpa using hi)
      rwa [show o + (i + 1) * s = o + s + i * s by rw [Nat.add_mul]; omega] at this
end

def Nu.own (ν : Nu) (r : Nat) : Prop := ∃ b s n, ν.at_ b = some (r, s, n)

/-- What an operation or a call makes of the world: it writes only to what is the state's own. -/
structure Evo (ν : Nu) (F : Nat → Prop) (w : World) (ν' : Nu) (F' : Nat → Prop) (w' : World) : Prop where
  os : w'.os = w.os
  tape : w'.tape = w.tape
  output : w'.output = w.output
  size : w.heap.size ≤ w'.heap.size
  old : ∀ r, r < w.heap.size → ¬ ν.own r → w'.heap[r]? = w.heap[r]?
  fmono : ∀ r, F r → F' r
  fnew : ∀ r, F' r → F r ∨ ν.own r ∨ w.heap.size ≤ r
  onew : ∀ r, ν'.own r → ν.own r ∨ w.heap.size ≤ r
  keep : ∀ b x, b.lt ν.nxt ν.cnt → ν'.at_ b = some x → ν.at_ b = some x
  nxt : ν.nxt ≤ ν'.nxt
  cnt : ∀ B, ν.cnt B ≤ ν'.cnt B
  kph : ∀ b, b.lt ν.nxt ν.cnt → ν'.ph b = true → ν.ph b = true
  len : ∀ b r s n, ν.at_ b = some (r, s, n) → ν'.at_ b = some (r, s, n) → ∀ c e fr, w.heap[r]? = some (.cells c e fr) → ∃ c', w'.heap[r]? = some (.cells c' e fr) ∧ c'.size = c.size

theorem Evo.refl (ν : Nu) (F : Nat → Prop) (w : World) : Evo ν F w ν F w :=
  ⟨rfl, rfl, rfl, Nat.le_refl _, fun _ _ _ => rfl, fun _ h => h, fun _ h => .inl h, fun _ h => .inl h, fun _ _ _ h => h, Nat.le_refl _, fun _ => Nat.le_refl _, fun _ _ h => h, fun _ _ _ _ _ _ c _ _ h => ⟨c, h, rfl⟩⟩
theorem Evo.lt {ν : Nu} {F : Nat → Prop} {w : World} {ν' : Nu} {F' : Nat → Prop} {w' : World} (e : Evo ν F w ν' F' w') {b : Id} (h : b.lt ν.nxt ν.cnt) : b.lt ν'.nxt ν'.cnt := by
  cases b with
  | p a => exact Nat.lt_of_lt_of_le h e.nxt
  | m B k => exact Nat.lt_of_lt_of_le h (e.cnt B)

theorem Evo.trans {ν : Nu} {F : Nat → Prop} {w : World} {ν' : Nu} {F' : Nat → Prop} {w' : World} {ν'' : Nu} {F'' : Nat → Prop} {w'' : World}
    (h : Evo ν F w ν' F' w') (k : Evo ν' F' w' ν'' F'' w'') : Evo ν F w ν'' F'' w'' where
  os := k.os.trans h.os
  tape := k.tape.trans h.tape
  output := k.output.trans h.output
  size := Nat.le_trans h.size k.size
  old r hr ho := by
    rw [k.old r (Nat.lt_of_lt_of_le hr h.size) (fun h' => (h.onew r h').elim ho (fun h'' => absurd hr (by omega)))]
    exact h.old r hr ho
  fmono r hr := k.fmono r (h.fmono r hr)
  fnew r hr := by
    rcases k.fnew r hr with h1 | h1 | h1
    · exact h.fnew r h1
    · exact (h.onew r h1).elim (fun h => .inr (.inl h)) (fun h => .inr (.inr h))
    · exact .inr (.inr (Nat.le_trans h.size h1))
  onew r hr := by
    rcases k.onew r hr with h1 | h1
    · exact h.onew r h1
    · exact .inr (Nat.le_trans h.size h1)
  keep b x hb hx := h.keep b x hb (k.keep b x (h.lt hb) hx)
  nxt := Nat.le_trans h.nxt k.nxt
  cnt B := Nat.le_trans (h.cnt B) (k.cnt B)
  kph b hb hx := h.kph b hb (k.kph b (h.lt hb) hx)
  len b r s n hb hb'' c e fr hc := by
    have hb' := k.keep b _ (h.lt (ν.lt b _ hb)) hb''
    obtain ⟨c', hc', hs'⟩ := h.len b r s n hb hb' c e fr hc
    obtain ⟨c'', hc'', hs''⟩ := k.len b r s n hb' hb'' c' e fr hc'
    exact ⟨c'', hc'', hs''.trans hs'⟩

def repO (F : Nat → Prop) (w : World) (ν : Nu) (p : Bool) : V → Value → Prop := if p then ri F w else rep F w ν

/-- A map's entries: none has ever gone, so that each was born at its index. -/
def entsOK (R : V → Value → Prop) (es : List (V × V)) (ents : Array MapEntry) : Prop :=
  ents.size = es.length ∧ ∀ (i : Nat) (kv : V × V), es[i]? = some kv → ∃ e : MapEntry, ents[i]? = some e ∧ e.born = i ∧ R kv.1 e.key ∧ R kv.2 e.val

/-- The record is as it is said to be. -/
structure lrOK (R : V → Value → Prop) (q : Lr) (rec : Loop) : Prop where
  state : rec.state = q.state
  pending : rec.pending = q.pending
  size : rec.tmps.size = q.N
  ps : rec.params = q.ps
  assign : rec.assign = q.assign
  body : rec.body = q.body
  slot : ∀ t v, q.tm.get t = some v → ∃ x, rec.tmps[t]? = some x ∧ R v x

theorem lrOK.mono {R R' : V → Value → Prop} {q : Lr} {rec : Loop} (h : lrOK R q rec) (hr : ∀ v x, R v x → R' v x) : lrOK R' q rec :=
  { h with slot := fun t v ht => let ⟨x, h1, h2⟩ := h.slot t v ht; ⟨x, h1, hr v x h2⟩ }
/-- The record, where other words are used of what its slots hold. -/
noncomputable def Lr.mapV (f : V → V) (q : Lr) : Lr := { q with tm := q.tm.map f }
theorem lrOK.map {R R' : V → Value → Prop} {q : Lr} {rec : Loop} {f : V → V} (h : lrOK R q rec) (hr : ∀ v x, R v x → R' (f v) x) : lrOK R' (q.mapV f) rec :=
  ⟨h.state, h.pending, h.size, h.ps, h.assign, h.body, fun t v ht => by
    have ht : (q.tm.map f).get t = some v := ht
    rw [T.get_map, Option.map_eq_some_iff] at ht
    obtain ⟨v0, h0, rfl⟩ := ht
    obtain ⟨x, h1, h2⟩ := h.slot t v0 h0
    exact ⟨x, h1, hr v0 x h2⟩⟩
/-- What lies in a block. -/
def Obl (F : Nat → Prop) (w : World) (ν : Nu) (r s n : Nat) : O → Prop
  | .rows s' p es => s' = s ∧ es.length = n ∧ ∃ c e, w.heap[r]? = some (.cells c e (0, 0)) ∧ n * s ≤ c.size ∧ rowsC (repO F w ν p) c s es 0
  | .mp es => ∃ ents, w.heap[r]? = some (.map ents es.length) ∧ entsOK (rep F w ν) es ents
  | .lp q => ∃ rec : Loop, w.heap[r]? = some (.loop rec) ∧ lrOK (rep F w ν) q rec
  | .it x n seen => ∃ mr, w.heap[r]? = some (.mapIter mr n seen.toArray n) ∧ rep F w ν x (.map mr)

def famLen (fs : List (Nat × Fam)) (B : Nat) : Nat := match getF fs B with | some f => f.ms.length | none => 0
structure HeapOK (ν : Nu) (F : Nat → Prop) (h : Hp) (w : World) : Prop where
  blk : ∀ b r s n, ν.at_ b = some (r, s, n) → ∃ o, h.get b = some o ∧ Obl F w ν r s n o
  dom : ∀ b o, h.get b = some o → (∃ x, ν.at_ b = some x) ∨ (ν.ph b = true ∧ ∃ s p, o = .rows s p [])
  inj : ∀ b b' r s n s' n', ν.at_ b = some (r, s, n) → ν.at_ b' = some (r, s', n') → b = b'
  frz : ∀ r, F r → r < w.heap.size ∧ ¬ ν.own r
  nxt : ν.nxt = h.nxt
  cnt : ∀ B, ν.cnt B = famLen h.fs B

theorem lt_of_some {α : Type} {a : Array α} {i : Nat} {x : α} (h : a[i]? = some x) : i < a.size := (Array.getElem?_eq_some_iff.1 h).1
theorem HeapOK.domP {ν : Nu} {F : Nat → Prop} {h : Hp} {w : World} (k : HeapOK ν F h w) (b : Id) (o : O) (hb : h.get b = some o) (hp : ν.ph b = false) : ∃ x, ν.at_ b = some x := by
  rcases k.dom b o hb with h | ⟨h, _⟩
  · exact h
  · rw [hp] at h; cases h
theorem HeapOK.blkR {ν : Nu} {F : Nat → Prop} {h : Hp} {w : World} (k : HeapOK ν F h w) {b : Id} {r s n s' : Nat} {p : Bool} {es : List (List V)} (hb : h.get b = some (.rows s p es)) (hat : ν.at_ b = some (r, s', n)) :
    s = s' ∧ es.length = n ∧ ∃ c e, w.heap[r]? = some (.cells c e (0, 0)) ∧ n * s ≤ c.size ∧ rowsC (repO F w ν p) c s es 0 := by
  obtain ⟨o, g1, g2⟩ := k.blk b r s' n hat
  rw [hb] at g1
  simp at g1
  subst g1
  obtain ⟨rfl, g3⟩ := g2
  exact ⟨rfl, g3⟩
theorem HeapOK.blkM {ν : Nu} {F : Nat → Prop} {h : Hp} {w : World} (k : HeapOK ν F h w) {b : Id} {es : List (V × V)} (hb : h.get b = some (.mp es)) :
    ∃ r s n ents, ν.at_ b = some (r, s, n) ∧ w.heap[r]? = some (.map ents es.length) ∧ entsOK (rep F w ν) es ents := by
  rcases k.dom b _ hb with ⟨⟨r, s, n⟩, hat⟩ | ⟨_, _, _, h⟩
  · obtain ⟨o, g1, g2⟩ := k.blk b r s n hat
    rw [hb] at g1
    simp at g1
    subst g1
    obtain ⟨ents, g3⟩ := g2
    exact ⟨r, s, n, ents, hat, g3⟩
  · cases h
theorem HeapOK.at_lt {ν : Nu} {F : Nat → Prop} {h : Hp} {w : World} (k : HeapOK ν F h w) {b : Id} {r s n : Nat} (hat : ν.at_ b = some (r, s, n)) : r < w.heap.size := by
  obtain ⟨o, _, g⟩ := k.blk b r s n hat
  cases o with
  | rows s' p es => obtain ⟨_, _, c, e, g, _⟩ := g; exact lt_of_some g
  | mp es => obtain ⟨ents, g, _⟩ := g; exact lt_of_some g
  | lp q => obtain ⟨rec, g, _⟩ := g; exact lt_of_some g
  | it x n seen => obtain ⟨mr, g, _⟩ := g; exact lt_of_some g
theorem HeapOK.own_lt {ν : Nu} {F : Nat → Prop} {h : Hp} {w : World} (k : HeapOK ν F h w) {r : Nat} (ho : ν.own r) : r < w.heap.size := by
  obtain ⟨b, s, n, hat⟩ := ho
  exact k.at_lt hat
theorem cell_heap {w w' : World} {a : Addr} (h : w'.heap[a.block]? = w.heap[a.block]?) : w'.cell? a = w.cell? a := by simp only [World.cell?, h]

section
variable {ν : Nu} {F : Nat → Prop} {w : World} {ν' : Nu} {F' : Nat → Prop} {w' : World} {h : Hp}
theorem HeapOK.riEvo (k : HeapOK ν F h w) (e : Evo ν F w ν' F' w') {v : V} {x : Value} (hr : ri F w v x) : ri F' w' v x :=
  ri_mono e.fmono (fun b o hb => cell_heap (a := ⟨b, o, none⟩) (e.old b (k.frz b hb).1 (k.frz b hb).2)) v x hr
theorem HeapOK.riLEvo (k : HeapOK ν F h w) (e : Evo ν F w ν' F' w') {vs : List V} {xs : List Value} (hr : riL F w vs xs) : riL F' w' vs xs :=
  riL_mono e.fmono (fun b o hb => cell_heap (a := ⟨b, o, none⟩) (e.old b (k.frz b hb).1 (k.frz b hb).2)) vs xs hr
/-- As far as what is known of values goes. -/
structure EvoW (ν : Nu) (F : Nat → Prop) (w : World) (ν' : Nu) (F' : Nat → Prop) (w' : World) : Prop where
  lt : ∀ {b : Id}, b.lt ν.nxt ν.cnt → b.lt ν'.nxt ν'.cnt
  keep : ∀ b x, b.lt ν.nxt ν.cnt → ν'.at_ b = some x → ν.at_ b = some x
  kph : ∀ b, b.lt ν.nxt ν.cnt → ν'.ph b = true → ν.ph b = true
  len : ∀ b r s n, ν.at_ b = some (r, s, n) → ∀ c e fr, ν'.at_ b = some (r, s, n) → w.heap[r]? = some (.cells c e fr) → ∃ c', w'.heap[r]? = some (.cells c' e fr) ∧ c'.size = c.size
  ri : ∀ (v : V) (x : Value), Go.Proofs.Ytmdimnmdoifkfaa.Clean.ri F w v x → Go.Proofs.Ytmdimnmdoifkfaa.Clean.ri F' w' v x
theorem Evo.toW (k : HeapOK ν F h w) (e : Evo ν F w ν' F' w') : EvoW ν F w ν' F' w' :=
  ⟨e.lt, e.keep, e.kph, fun b r s n h1 c el fr h2 => e.len b r s n h1 h2 c el fr, fun _ _ hr => k.riEvo e hr⟩
mutual
theorem rep_evoW (e : EvoW ν F w ν' F' w') : ∀ (v : V) (x : Value), rep F w ν v x → rep F' w' ν' v x
  | .raw v, x, h => by simp only [rep] at h ⊢; exact h
  | .ptr b i off, x, hr => by
    simp only [rep] at hr ⊢
    refine ⟨⟨e.lt hr.1.1, ?_⟩, fun r s n hb => hr.2 r s n (e.keep b _ hr.1.1 hb)⟩
    cases hq : ν'.ph b with
    | false => rfl
    | true => have := e.kph b hr.1.1 hq; rw [hr.1.2] at this; cases this
  | .sla b i off len, x, hr => by
    simp only [rep] at hr ⊢
    refine ⟨⟨e.lt hr.1.1, ?_⟩, fun r s n hb => hr.2 r s n (e.keep b _ hr.1.1 hb)⟩
    cases hq : ν'.ph b with
    | false => rfl
    | true => have := e.kph b hr.1.1 hq; rw [hr.1.2] at this; cases this
  | .sl b lo len, x, hr => by
    simp only [rep] at hr ⊢
    refine ⟨⟨e.lt hr.1.1, fun hq => hr.1.2 (e.kph b hr.1.1 hq)⟩, fun r s n hb => ?_⟩
    have hb0 := e.keep b _ hr.1.1 hb
    obtain ⟨h1, cap, h2, h3, c, el, fr, h4, h5⟩ := hr.2 r s n hb0
    obtain ⟨c', h6, h7⟩ := e.len b r s n hb0 c el fr hb h4
    exact ⟨h1, cap, h2, h3, c', el, fr, h6, by rw [h7]; exact h5⟩
  | .mp b, x, hr => by
    simp only [rep] at hr ⊢
    exact ⟨e.lt hr.1, fun r s n hb => hr.2 r s n (e.keep b _ hr.1 hb)⟩
  | .yl b, x, hr => by
    simp only [rep] at hr ⊢
    exact ⟨e.lt hr.1, fun r s n hb => hr.2 r s n (e.keep b _ hr.1 hb)⟩
  | .lst s es, x, hr => by simp only [rep] at hr ⊢; exact e.ri _ _ hr
  | .lsx s es, x, hr => by simp only [rep] at hr ⊢; exact e.ri _ _ hr
  | .adr cs off, x, hr => by simp only [rep] at hr ⊢; exact e.ri _ _ hr
  | .agg cs, x, hr => by
    simp only [rep] at hr ⊢
    obtain ⟨vs, h1, h2⟩ := hr
    exact ⟨vs, h1, repL_evoW e cs _ h2⟩
  | .tup cs, x, hr => by
    simp only [rep] at hr ⊢
    obtain ⟨vs, h1, h2⟩ := hr
    exact ⟨vs, h1, repL_evoW e cs _ h2⟩
  | .fn f a c, x, hr => by
    simp only [rep] at hr ⊢
    obtain ⟨as, cs, h1, h2, h3⟩ := hr
    exact ⟨as, cs, h1, repL_evoW e a _ h2, repL_evoW e c _ h3⟩
  | .junk, _, _ => by simp only [rep]
theorem repL_evoW (e : EvoW ν F w ν' F' w') : ∀ (vs : List V) (xs : List Value), repL F w ν vs xs → repL F' w' ν' vs xs
  | [], xs, hr => by simp only [repL] at hr ⊢; exact hr
  | v :: vs, xs, hr => by
    simp only [repL] at hr ⊢
    obtain ⟨x, ys, h1, h2, h3⟩ := hr
    exact ⟨x, ys, h1, rep_evoW e v x h2, repL_evoW e vs ys h3⟩
end
theorem rep_evo (k : HeapOK ν F h w) (e : Evo ν F w ν' F' w') (v : V) (x : Value) (hr : rep F w ν v x) : rep F' w' ν' v x := rep_evoW (e.toW k) v x hr
theorem repL_evo (k : HeapOK ν F h w) (e : Evo ν F w ν' F' w') (vs : List V) (xs : List Value) (hr : repL F w ν vs xs) : repL F' w' ν' vs xs := repL_evoW (e.toW k) vs xs hr
theorem repO_evoW (e : EvoW ν F w ν' F' w') {p : Bool} {v : V} {x : Value} (hr : repO F w ν p v x) : repO F' w' ν' p v x := by
  unfold repO at *
  cases p
  · exact rep_evoW e v x hr
  · exact e.ri _ _ hr
theorem repO_evo (k : HeapOK ν F h w) (e : Evo ν F w ν' F' w') {p : Bool} {v : V} {x : Value} (hr : repO F w ν p v x) : repO F' w' ν' p v x := by
  unfold repO at *
  cases p
  · exact rep_evo k e v x hr
  · exact k.riEvo e hr
theorem repO_rep {p : Bool} {v : V} {x : Value} (hr : repO F w ν p v x) : rep F w ν v x := by
  unfold repO at *
  cases p
  · exact hr
  · exact ri_rep v x hr
theorem repO_and {p q : Bool} {v : V} {x : Value} (hr : repO F w ν p v x) : repO F w ν (p && q) v x := by
  cases q
  · rw [Bool.and_false]; exact repO_rep hr
  · rw [Bool.and_true]; exact hr
theorem repO_of {p : Bool} {v : V} {x : Value} (hr : rep F w ν v x) (hc : p = true → v.closed = true) : repO F w ν p v x := by
  unfold repO
  cases p
  · exact hr
  · exact rep_ri v x (hc rfl) hr
end
end Go.Proofs.Ytmdimnmdoifkfaa.Clean
