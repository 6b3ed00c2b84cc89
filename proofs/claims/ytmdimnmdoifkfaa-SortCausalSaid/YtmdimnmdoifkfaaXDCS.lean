/- Soundness: operations, whole. Nothing here speaks of the program. -/
import Derived.Test.YtmdimnmdoifkfaaXDCN
import Derived.Test.YtmdimnmdoifkfaaXDCF
import Derived.Laws.Externs
import Derived.KernelRfl
namespace Go.Proofs.Ytmdimnmdoifkfaa.Clean
set_option linter.unusedSimpArgs false
set_option linter.unusedVariables false

/-- The program's variables that are known hold what they are known to hold. -/
def GlobOK (G : Nat → Option (List V)) (F : Nat → Prop) (w : World) : Prop := ∀ g cs, G g = some cs → ri F w (.adr cs 0) (.pointer (some ⟨g, 0, none⟩))

/-- The contract of a function that is called with nothing of the state's own: it returns something that R takes, and nothing that was there has changed. -/
def K0G (P : Program) (G : Nat → Option (List V)) (f : FuncId) (args : List V) (R : V → Prop) : Prop :=
  ∀ (F : Nat → Prop) (w : World) (xs : List Value), (∀ r, F r → r < w.heap.size) → GlobOK G F w → riL F w args xs →
    Calls P f xs.toArray w fun e w' => ∃ x v F', e = .returned x ∧ R v ∧ ri F' w' v x ∧ Go.RowKit.Below w.heap.size w w' ∧ (∀ r, F r → F' r) ∧ (∀ r, F' r → F r ∨ w.heap.size ≤ r) ∧ (∀ r, F' r → r < w'.heap.size)
/-- Where no variable of the program is read. -/
abbrev K0 (P : Program) (f : FuncId) (args : List V) (R : V → Prop) : Prop := K0G P (fun _ => none) f args R

/-- The contract of a function that may write to the state's own. -/
def K (P : Program) (G : Nat → Option (List V)) (f : FuncId) (args : List V) (h : Hp) (t : Id → Bool) (R : V → Hp → Prop) : Prop :=
  ∀ (ν : Nu) (F : Nat → Prop) (w : World) (xs : List Value), HeapOK ν F h w → GlobOK G F w → repL F w ν args xs →
    Calls P f xs.toArray w fun e w' => ∃ x v ν' F' h', e = .returned x ∧ R v h' ∧ HeapOK ν' F' h' w' ∧ rep F' w' ν' v x ∧ Evo ν F w ν' F' w' ∧ ∀ b y, ν.at_ b = some y → t b = false → w'.heap[y.1]? = w.heap[y.1]? ∧ ν'.at_ b = some y

/-- What a round of the loop whose record is b makes of memory. -/
def Ky (P : Program) (G : Nat → Option (List V)) (b : Id) (args : List V) (h : Hp) (t : Id → Bool) (R : V → Hp → Prop) : Prop :=
  ∀ (ν : Nu) (F : Nat → Prop) (w : World) (xs : List Value), HeapOK ν F h w → GlobOK G F w → repL F w ν args xs →
    ∃ l s n f tmps assign body, ν.at_ b = some (l, s, n) ∧ (Instr.yield l xs.toArray).run P w = .ok (.round l f tmps assign body) w ∧
      RoundIn (Frm none) 0 P l f tmps assign body w fun e w' => ∃ x v ν' F' h', e = .returned x ∧ R v h' ∧ HeapOK ν' F' h' w' ∧ rep F' w' ν' v x ∧ Evo ν F w ν' F' w' ∧ ∀ b y, ν.at_ b = some y → t b = false → w'.heap[y.1]? = w.heap[y.1]? ∧ ν'.at_ b = some y

/-- The contracts that a state is asked are those of the program. -/
structure Calling.ok (P : Program) (C : Calling) : Prop where
  kn : ∀ g r, C.kn g = some r → K0G P C.glob g [] fun v => v = r
  cf : ∀ f ty args h (k : V → Hp → Prop), C.c0 f (trL (handT h (refsL args)) args) (fun v => typedT P true ty v fun v => k v (delAll h (refsL args))) → K P C.glob f args h (fun b => (refsL args).any b.beq) k
  cb : ∀ f ty args h (k : V → Hp → Prop), (lentOf h args).ok = true → C.cb f (trL (renOf (lentOf h args).blocks) args) ⟨keepBs (renOf (lentOf h args).blocks) [] h (lentOf h args).blocks, (lentOf h args).nxt, []⟩ (fun v => thawT P ty v h k) → K P C.glob f args h (fun _ => false) k
  ct : ∀ f ty args h (k : V → Hp → Prop), C.c0 f (trL (handT h (refsL args)) args) (fun v => typedT P true ty v fun v => v.blur fun v => k v h) → K P C.glob f args h (fun _ => false) k
  mono : ∀ f args (R R' : V → Prop), C.c0 f args R → (∀ v, R v → R' v) → C.c0 f args R'
  c0 : ∀ f args R, C.c0 f args R → K0G P C.glob f args R
  c : ∀ f args h R, C.c f args h R → K P C.glob f args h (C.t f args h) R
  y : ∀ b args h R, C.y b args h R → Ky P C.glob b args h C.ty R

theorem K0G.mono' {P : Program} {G : Nat → Option (List V)} {f : FuncId} {args : List V} {R R' : V → Prop} (h : K0G P G f args R) (hr : ∀ v, R v → R' v) : K0G P G f args R' :=
  fun F w xs hF hG hxs => (h F w xs hF hG hxs).mono fun e w' ⟨x, v, F', h1, h2, h3⟩ => ⟨x, v, F', h1, hr v h2, h3⟩

section
variable {F : Nat → Prop} {w : World} {ν : Nu} {h : Hp}

/-- A quiet operation: in every world that agrees it yields one value. -/
def QN (P : Program) (F : Nat → Prop) (ν : Nu) (w : World) (fp : Option Id) (c : Sem Next) (k : V → Prop) : Prop :=
  ∃ x v, k v ∧ rep F w ν v x ∧ ∀ w', Agree F ν fp w w' → c.run P w' = .ok (.value x) w'

theorem QV.next {P : Program} {fp : Option Id} {c : Sem Value} {k : V → Prop} (hq : QV P F ν w fp c k) : QN P F ν w fp (c >>= fun y => Pure.pure (Next.value y)) k := by
  obtain ⟨x, v, h1, h2, h3⟩ := hq
  exact ⟨x, v, h1, h2, fun w' ha => by simp [h3 w' ha]⟩
theorem QN.mk {P : Program} {fp : Option Id} {c : Sem Next} {k : V → Prop} (x : Value) (v : V) (hk : k v) (hr : rep F w ν v x) (hc : ∀ w', c.run P w' = .ok (.value x) w') : QN P F ν w fp c k :=
  ⟨x, v, hk, hr, fun w' _ => hc w'⟩

theorem repL_map' {ρV : Operand → V} {ρ : Operand → Value} (hρ : ∀ x, rep F w ν (ρV x) (ρ x)) (l : Array Operand) : repL F w ν (l.toList.map ρV) (l.map ρ).toList := by
  rw [Array.toList_map]; exact repL_map hρ _

theorem q_sound {P : Program} {C : Calling} {o : Oper} {ρV : Operand → V} {ρ : Operand → Value} (hρ : ∀ x, rep F w ν (ρV x) (ρ x)) (hk : HeapOK ν F h w) {k : V → Hp → Prop} (hq : quietOp o.op = true) (hh : wop P C ρV h o.type o.op k) :
    QN P F ν w (readsB ρV o.op) (execOp ρ o) (fun v => k v h) := by
  obtain ⟨dst, op, type, pos, after, guard⟩ := o
  cases op <;> simp only [quietOp, Bool.false_eq_true] at hq <;> simp only [wop] at hh <;> simp only [execOp, readsB]
  case move x => exact QN.mk _ _ hh (hρ x) (fun w' => by simp)
  case assign x => exact QN.mk _ _ hh (hρ x) (fun w' => by simp)
  case pick c a b =>
    rw [onBool_iff] at hh
    obtain ⟨t, ht, hh⟩ := hh
    have hc := hρ c
    rw [ht] at hc
    simp only [rep] at hc
    refine QN.mk (if t then ρ a else ρ b) _ hh ?_ (fun w' => by simp [hc, asBool])
    cases t
    · exact hρ b
    · exact hρ a
  case load t x => exact (q_load hk (hρ x) hh).next
  case lookup t x i ok => exact (q_lookup hk (hρ x) (hρ i) hh).next
  case build t parts => exact (q_build hρ hk hh).next
  case slice t x lo hi mx => exact (q_slice hρ hk (hρ x) hh).next
  case nilCheck x =>
    split at hh
    · rename_i b i off hx
      rw [guardB_iff] at hh
      obtain ⟨ob, hb⟩ := has_iff.1 hh.1
      have hr := hρ x
      rw [hx] at hr
      have hr' := hr
      simp only [rep] at hr
      obtain ⟨⟨r, s, n⟩, hat⟩ := hk.domP b ob hb hr.1.2
      refine QN.mk (.pointer (some ⟨r, i * s + off, none⟩)) _ hh.2 ?_ (fun w' => by rw [hr.2 r s n hat]; simp)
      rw [← hr.2 r s n hat]; exact hr'
    · rename_i cs off hx
      have hr := hρ x
      rw [hx] at hr
      have hr' := hr
      simp only [rep, ri] at hr
      obtain ⟨b, o, hxx, _⟩ := hr
      refine QN.mk (ρ x) _ hh hr' (fun w' => by rw [hxx]; simp)
    · exact hh.elim
  case binOp op t x y yt =>
    split at hh
    · rename_i hy
      have := hρ y
      rw [hy] at this
      simp only [rep] at this
      rw [this]
      exact (q_isNil (op := .eql) (fn := false) (yo := y) hk (hρ x) (.inl rfl) (by simpa using hh)).next
    · rename_i hy
      have := hρ y
      rw [hy] at this
      simp only [rep] at this
      rw [this]
      exact (q_isNil (op := .neq) (fn := false) (yo := y) hk (hρ x) (.inr rfl) hh).next
    · rename_i hy
      have := hρ y
      rw [hy] at this
      simp only [rep] at this
      rw [this]
      exact (q_isNil (op := .eql) (fn := true) (yo := y) hk (hρ x) (.inl rfl) (by simpa using hh)).next
    · rename_i hy
      have := hρ y
      rw [hy] at this
      simp only [rep] at this
      rw [this]
      exact (q_isNil (op := .neq) (fn := true) (yo := y) hk (hρ x) (.inr rfl) hh).next
    · exact (q_bin (hρ x) (hρ y) hh).next
  case unOp op t x => exact (q_un (hρ x) hh).next
  case convert src dst x =>
    rw [onSome_iff] at hh
    obtain ⟨ds, hs, hh⟩ := hh
    exact (q_conv hk hs (hρ x) hh).next
  case makeFunc f a c =>
    refine QN.mk (.func f (a.map ρ) (c.map ρ)) _ hh ?_ (fun w' => by simp [Instr.makeFunc])
    simp only [rep]
    exact ⟨_, _, rfl, repL_map' hρ a, repL_map' hρ c⟩
  case fieldAddr s x f => exact (q_fieldAddr hk (hρ x) hh).next
  case field s x f => exact (q_field (hρ x) hh).next
  case indexAddr t x i => exact (q_indexAddr hk (hρ x) (hρ i) hh).next
  case index t x i => exact (q_index (hρ x) (hρ i) hh).next
  case extract x i =>
    split at hh
    · rename_i vs hx
      simp only [onSome_iff] at hh
      obtain ⟨v, hv, hh⟩ := hh
      have hr := hρ x
      rw [hx] at hr
      simp only [rep] at hr
      obtain ⟨xs, hxx, hl⟩ := hr
      obtain ⟨y, h1, h2⟩ := repL_get hl i v hv
      have h1' : xs[i]? = some y := by simpa using h1
      exact QN.mk y v hh h2 (fun w' => by rw [hxx]; simp [Instr.extract, h1'])
    · exact hh.elim
  case call c =>
    obtain ⟨callee, args, argTypes⟩ := c
    cases callee with
    | value f => simp at hq
    | invoke r m => simp at hq
    | builtin b =>
      cases b <;> simp at hq <;> simp only [wCall] at hh
      case len =>
        split at hh
        · rename_i t ts x hts hx
          have hat : argTypes = (t :: ts).toArray := by rw [← hts]
          have har : args = #[x] := by rw [← Array.toArray_toList (xs := args), hx]
          subst hat; subst har
          obtain ⟨y, v, h1, h2, h3⟩ := q_len (P := P) (fp := mapOf (ρV x)) (ts := ts) (ty := type) hk (hρ x) (fun b hb => by rw [hb]; rfl) hh
          have hfp : (match (Callee.builtin Builtin.len : Callee), (#[x] : Array Operand).toList.map ρV with | .builtin .len, .mp b :: _ => some b | _, _ => (none : Option Id)) = mapOf (ρV x) := by
            simp only [List.map]
            cases ρV x <;> rfl
          exact ⟨y, v, h1, h2, fun w' ha => by have h3' := h3 w' (by rw [← hfp]; exact ha); simp [resolve, invoke, builtin]; first | (rw [h3']; rfl) | (simp at h3'; rw [h3']; rfl)⟩
        · exact hh.elim
      case cap =>
        split at hh
        · rename_i t ts x hts hx
          have hat : argTypes = (t :: ts).toArray := by rw [← hts]
          have har : args = #[x] := by rw [← Array.toArray_toList (xs := args), hx]
          subst hat; subst har
          obtain ⟨y, v, h1, h2, h3⟩ := q_cap (P := P) (fp := none) (ts := ts) (ty := type) (hρ x) hh
          exact ⟨y, v, h1, h2, fun w' ha => by have h3' := h3 w' ha; simp [resolve, invoke, builtin]; first | (rw [h3']; rfl) | (simp at h3'; rw [h3']; rfl)⟩
        · exact hh.elim
      case min =>
        split at hh
        · rename_i kk a kk' b hx
          have hl : args.toList.length = 2 := by have := congrArg List.length hx; simpa using this
          obtain ⟨l⟩ := args
          match l, hl with
          | [x, y], _ =>
            simp at hx
            have h1 := hρ x
            have h2 := hρ y
            rw [hx.1] at h1; rw [hx.2] at h2
            simp only [rep] at h1 h2
            exact QN.mk _ _ hh (by simp only [rep]; rfl) (fun w' => by simp [resolve, invoke, builtin, Builtin.min_, Builtin.min2, h1, h2])
        · rename_i kk a k1 b k2 c hx
          have hl : args.toList.length = 3 := by have := congrArg List.length hx; simpa using this
          obtain ⟨l⟩ := args
          match l, hl with
          | [x, y, z], _ =>
            simp at hx
            have h1 := hρ x
            have h2 := hρ y
            have h3 := hρ z
            rw [hx.1] at h1; rw [hx.2.1] at h2; rw [hx.2.2] at h3
            simp only [rep] at h1 h2 h3
            exact QN.mk _ _ hh (by simp only [rep]; rfl) (fun w' => by simp [resolve, invoke, builtin, Builtin.min_, Builtin.min2, h1, h2, h3])
        · exact hh.elim
      case max =>
        split at hh
        · rename_i kk a kk' b hx
          have hl : args.toList.length = 2 := by have := congrArg List.length hx; simpa using this
          obtain ⟨l⟩ := args
          match l, hl with
          | [x, y], _ =>
            simp at hx
            have h1 := hρ x
            have h2 := hρ y
            rw [hx.1] at h1; rw [hx.2] at h2
            simp only [rep] at h1 h2
            exact QN.mk _ _ hh (by simp only [rep]; rfl) (fun w' => by simp [resolve, invoke, builtin, Builtin.max_, Builtin.max2, h1, h2])
        · rename_i kk a k1 b k2 c hx
          have hl : args.toList.length = 3 := by have := congrArg List.length hx; simpa using this
          obtain ⟨l⟩ := args
          match l, hl with
          | [x, y, z], _ =>
            simp at hx
            have h1 := hρ x
            have h2 := hρ y
            have h3 := hρ z
            rw [hx.1] at h1; rw [hx.2.1] at h2; rw [hx.2.2] at h3
            simp only [rep] at h1 h2 h3
            exact QN.mk _ _ hh (by simp only [rep]; rfl) (fun w' => by simp [resolve, invoke, builtin, Builtin.max_, Builtin.max2, h1, h2, h3])
        · exact hh.elim

/-- What one operation makes of state and world, or which call it is. -/
def Outc (P : Program) (C : Calling) (F : Nat → Prop) (ν : Nu) (w : World) (h : Hp) (tch : Id → Bool) (r : Result Next) (k : V → Hp → Prop) : Prop :=
  (∃ F' x w' ν' v h', (r = .ok (.value x) w' ∨ (r = .ok .skip w' ∧ x = undef)) ∧ k v h' ∧ HeapOK ν' F' h' w' ∧ rep F' w' ν' v x ∧ Evo ν F w ν' F' w' ∧
    ∀ b y, ν.at_ b = some y → tch b = false → w'.heap[y.1]? = w.heap[y.1]? ∧ ν'.at_ b = some y) ∨
  (∃ g vs xs, r = .ok (.enter g xs.toArray) w ∧ repL F w ν vs xs ∧ ((closedL vs = true ∧ K0G P C.glob g vs (fun v => ∃ v', k v' h ∧ ∀ {F : Nat → Prop} {w : World} {ν : Nu} {x : Value}, rep F w ν v x → rep F w ν v' x)) ∨ ∃ t, (∀ b, tch b = false → t b = false) ∧ K P C.glob g vs h t k)) ∨
  (∃ l f tmps assign body, r = .ok (.round l f tmps assign body) w ∧ RoundIn (Frm none) 0 P l f tmps assign body w fun e w' => ∃ x v ν' F' h', e = .returned x ∧ k v h' ∧ HeapOK ν' F' h' w' ∧ rep F' w' ν' v x ∧ Evo ν F w ν' F' w' ∧ ∀ b y, ν.at_ b = some y → tch b = false → w'.heap[y.1]? = w.heap[y.1]? ∧ ν'.at_ b = some y)

theorem EV.outc {P : Program} {C : Calling} {tch : Id → Bool} {c : Sem Value} {k : V → Hp → Prop} (he : EV P F ν w tch c k) : Outc P C F ν w h tch ((c >>= fun y => Pure.pure (Next.value y) : Sem Next).run P w) k := by
  obtain ⟨x, w', ν', v, h', h1, h2, h3, h4, h5, h6⟩ := he
  exact .inl ⟨F, x, w', ν', v, h', .inl (by simp [h1]), h2, h3, h4, h5, h6⟩
theorem EVF.outc {P : Program} {C : Calling} {tch : Id → Bool} {c : Sem Value} {k : V → Hp → Prop} (he : EVF P F ν w tch c k) : Outc P C F ν w h tch ((c >>= fun y => Pure.pure (Next.value y) : Sem Next).run P w) k := by
  obtain ⟨F', x, w', ν', v, h', h1, h2, h3, h4, h5, h6⟩ := he
  exact .inl ⟨F', x, w', ν', v, h', .inl (by simp [h1]), h2, h3, h4, h5, h6⟩

theorem QN.outc {P : Program} {C : Calling} {tch : Id → Bool} {fp : Option Id} {c : Sem Next} {k : V → Hp → Prop} (hk : HeapOK ν F h w) (hq : QN P F ν w fp c (fun v => k v h)) : Outc P C F ν w h tch (c.run P w) k := by
  obtain ⟨x, v, h1, h2, h3⟩ := hq
  exact .inl ⟨F, x, w, ν, v, h, .inl (h3 w (Agree.refl fp)), h1, hk, h2, Evo.refl ν F w, fun _ _ hb _ => ⟨rfl, hb⟩⟩

theorem subE_some : (Extern.allRows.lookup "math/bits.Sub64").isSome = true := by kernel_rfl
theorem addE_some : (Extern.allRows.lookup "math/bits.Add64").isSome = true := by kernel_rfl
def subE : Array Value → Sem Value := (Extern.allRows.lookup "math/bits.Sub64").get subE_some
def addE : Array Value → Sem Value := (Extern.allRows.lookup "math/bits.Add64").get addE_some
theorem run_subE0 {P : Program} (x y : Nat) (w : World) : (subE #[.int .u64 x, .int .u64 y, .int .u64 0]).run P w =
    .ok (.tuple #[.int .u64 (((x + 18446744073709551616 - y - 0) % 18446744073709551616 : Nat) : Int), .int .u64 ((if x < y + 0 then 1 else 0 : Nat) : Int)]) w := by kernel_rfl
theorem run_subE1 {P : Program} (x y : Nat) (w : World) : (subE #[.int .u64 x, .int .u64 y, .int .u64 1]).run P w =
    .ok (.tuple #[.int .u64 (((x + 18446744073709551616 - y - 1) % 18446744073709551616 : Nat) : Int), .int .u64 ((if x < y + 1 then 1 else 0 : Nat) : Int)]) w := by kernel_rfl
theorem run_addE0 {P : Program} (x y : Nat) (w : World) : (addE #[.int .u64 x, .int .u64 y, .int .u64 0]).run P w =
    .ok (.tuple #[.int .u64 (((x + y + 0) % 18446744073709551616 : Nat) : Int), .int .u64 (((x + y + 0) / 18446744073709551616 : Nat) : Int)]) w := by kernel_rfl
theorem run_addE1 {P : Program} (x y : Nat) (w : World) : (addE #[.int .u64 x, .int .u64 y, .int .u64 1]).run P w =
    .ok (.tuple #[.int .u64 (((x + y + 1) % 18446744073709551616 : Nat) : Int), .int .u64 (((x + y + 1) / 18446744073709551616 : Nat) : Int)]) w := by kernel_rfl
theorem run_subE {P : Program} (x y b : Nat) (hb : b ≤ 1) (w : World) : (subE #[.int .u64 x, .int .u64 y, .int .u64 b]).run P w =
    .ok (.tuple #[.int .u64 (((x + 18446744073709551616 - y - b) % 18446744073709551616 : Nat) : Int), .int .u64 ((if x < y + b then 1 else 0 : Nat) : Int)]) w := by
  have : b = 0 ∨ b = 1 := by omega
  rcases this with h | h <;> subst h
  · exact run_subE0 x y w
  · exact run_subE1 x y w
theorem run_addE {P : Program} (x y b : Nat) (hb : b ≤ 1) (w : World) : (addE #[.int .u64 x, .int .u64 y, .int .u64 b]).run P w =
    .ok (.tuple #[.int .u64 (((x + y + b) % 18446744073709551616 : Nat) : Int), .int .u64 (((x + y + b) / 18446744073709551616 : Nat) : Int)]) w := by
  have : b = 0 ∨ b = 1 := by omega
  rcases this with h | h <;> subst h
  · exact run_addE0 x y w
  · exact run_addE1 x y w
theorem ext_find {fn : Func} {n : String} {e : Array Value → Sem Value} (hn : fn.name = n) (h1 : Extern.allGenericRows.lookup n = none) (h2 : Extern.allTypedRows.lookup n = none) (h3 : Extern.allRows.lookup n = some e) : Extern.find fn = some e := by
  subst hn
  simp [Extern.find, h1, h2, h3]
theorem ext_next {fn : Func} {n : String} (hn : fn.name = n) (ho : fn.origin = "") (h1 : Extern.allNextRows.lookup n = none) : Extern.findNext fn = none := by
  subst hn
  have h2 : Extern.allNextRows.lookup "" = none := by kernel_rfl
  simp [Extern.findNext, ho, h1, h2]

theorem ext_sound {P : Program} {g : FuncId} {fn : Func} (hf : P.funcs[g]? = some fn) (hb : fn.body = none) (horg : fn.origin = "") {vs : List V} {xs : List Value} (hl : repL F w ν vs xs) {k : V → Prop} (hh : wExt fn.name vs k) :
    ∃ x v, k v ∧ rep F w ν v x ∧ ∀ w' : World, (callFunc g xs.toArray).run P w' = .ok (.value x) w' := by
  unfold wExt at hh
  split at hh
  · rename_i x y c
    simp only [repL] at hl
    obtain ⟨x', l1, rfl, hx, y', l2, rfl, hy, c', l3, rfl, hc, rfl⟩ := hl
    simp only [rep] at hx hy hc
    subst hx; subst hy; subst hc
    simp only [onNat_iff, need_iff] at hh
    obtain ⟨x, rfl, y, rfl, c, rfl, hc, hh⟩ := hh
    have two : ∀ (a b : Value), rep F w ν (.tup [.raw a, .raw b]) (.tuple #[a, b]) := fun a b => by simp only [rep]; exact ⟨_, rfl, repL_raw (w := w) (F := F) (ν := ν) [a, b]⟩
    split at hh
    · rename_i h0
      simp only [onSub] at hh
      have hn : fn.name = "math/bits.Sub64" := eq_of_beq h0
      refine ⟨_, _, hh, two _ _, fun w' => ?_⟩
      rw [run_callFunc_extern hf (by rw [hn]; kernel_rfl) (by simp [hb]) (ext_next hn horg (by kernel_rfl)) (ext_find (e := subE) hn (by kernel_rfl) (by kernel_rfl) (by kernel_rfl)), run_subE x y c hc]
      rfl
    · rename_i h1 h0
      simp only [onAdd] at hh
      have hn : fn.name = "math/bits.Add64" := by first | exact eq_of_beq h0 | exact eq_of_beq h1
      refine ⟨_, _, hh, two _ _, fun w' => ?_⟩
      rw [run_callFunc_extern hf (by rw [hn]; kernel_rfl) (by simp [hb]) (ext_next hn horg (by kernel_rfl)) (ext_find (e := addE) hn (by kernel_rfl) (by kernel_rfl) (by kernel_rfl)), run_addE x y c hc]
      rfl
    · exact hh.elim
  · exact hh.elim

theorem op_sound {P : Program} {C : Calling} (hC : C.ok P) {o : Oper} {ρV : Operand → V} {ρ : Operand → Value} (hρ : ∀ x, rep F w ν (ρV x) (ρ x)) (hk : HeapOK ν F h w) (hg : GlobOK C.glob F w) {k : V → Hp → Prop} (hh : wop P C ρV h o.type o.op k) :
    Outc P C F ν w h (touches C ρV h o.op) ((execOp ρ o).run P w) k := by
  by_cases hq : quietOp o.op = true
  · exact (q_sound (P := P) (C := C) hρ hk hq hh).outc hk
  · obtain ⟨dst, op, type, pos, after, guard⟩ := o
    cases op <;> simp only [quietOp, not_true_eq_false, Bool.false_eq_true, not_false_eq_true] at hq <;> simp only [wop] at hh <;> simp only [execOp]
    case box t x => exact (e_box hk (hρ x) hh).outc
    case alloc t => exact (e_alloc hk hh).outc
    case buildSlice t len parts => exact (e_buildSlice hρ hk hh).outc
    case makeSlice t l c => exact (e_makeSlice hk (hρ l) (hρ c) hh).outc
    case store t x v =>
      obtain ⟨w', h', h1, h2, h3, h4, h5⟩ := e_store (P := P) (tch := touches C ρV h (.store t x v)) hk (hρ x) (hρ v) (by
        intro b i off hx b' htc
        simp only [touches, hx] at htc
        intro hne; subst hne; simp at htc) hh
      exact .inl ⟨F, undef, w', ν, .junk, h', .inr ⟨by simp [h1], rfl⟩, h2, h3, by simp only [rep], h4, fun b y hb htc => ⟨h5 b y hb htc, hb⟩⟩
    case makeMap t r => exact (e_makeMap hk (fun v hv => by
        cases r with
        | none => simp at hv
        | some x => simp at hv; exact ⟨ρ x, rfl, hv ▸ hρ x⟩) (fun hn => by cases r with | none => rfl | some x => simp at hn) hh).outc
    case mapUpdate t m x v =>
      obtain ⟨w', h', h1, h2, h3, h4, h5⟩ := e_mapUpdate (P := P) (tch := touches C ρV h (.mapUpdate t m x v)) hk (hρ m) (hρ x) (hρ v) (by
        intro b hx b' htc
        simp only [touches, hx] at htc
        intro hne; subst hne; simp at htc) hh
      exact .inl ⟨F, undef, w', ν, .junk, h', .inr ⟨by simp [h1], rfl⟩, h2, h3, by simp only [rep], h4, fun b y hb htc => ⟨h5 b y hb htc, hb⟩⟩
    case insert t m x v =>
      obtain ⟨w', h', h1, h2, h3, h4, h5⟩ := e_mapUpdate (P := P) (tch := touches C ρV h (.insert t m x v)) hk (hρ m) (hρ x) (hρ v) (by
        intro b hx b' htc
        simp only [touches, hx] at htc
        intro hne; subst hne; simp at htc) hh
      exact .inl ⟨F, undef, w', ν, .junk, h', .inr ⟨by simp [h1], rfl⟩, h2, h3, by simp only [rep], h4, fun b y hb htc => ⟨h5 b y hb htc, hb⟩⟩
    case mapEntry t m x =>
      exact (e_mapEntry (P := P) (tch := touches C ρV h (.mapEntry t m x)) hk (hρ m) (hρ x) (by
        intro b hx b' htc
        simp only [touches, hx] at htc
        intro hne; subst hne; simp at htc) hh).outc
    case entryStore t m x v =>
      obtain ⟨w', h', h1, h2, h3, h4, h5⟩ := e_entryStore (P := P) (t := t) (tch := touches C ρV h (.entryStore t m x v)) hk (hρ m) (hρ x) (hρ v) (by
        intro b hx b' htc
        simp only [touches, hx] at htc
        intro hne; subst hne; simp at htc) hh
      exact .inl ⟨F, undef, w', ν, .junk, h', .inr ⟨by simp [h1], rfl⟩, h2, h3, by simp only [rep], h4, fun b y hb htc => ⟨h5 b y hb htc, hb⟩⟩
    case range t x => exact (e_range hk (hρ x) hh).outc
    case next x s =>
      split at hh
      · exact (e_next (P := P) (ty := type) (tch := touches C ρV h (.next x false)) hk (hρ x) (by
          intro b i off hx b' htc
          simp only [touches, hx] at htc
          intro hne; subst hne; simp at htc) hh).outc
      · exact hh.elim
    case entry x => exact (e_entry hk (hρ x) hh).outc
    case call c =>
      obtain ⟨callee, args, argTypes⟩ := c
      cases callee with
      | invoke r m => simp only [wCall] at hh
      | builtin b =>
        cases b <;> simp only [wCall] at hh <;> simp only [quietOp, not_true_eq_false] at hq
        case append =>
          split at hh
          · rename_i t tx x y hts hx
            rw [onSome_iff] at hh
            obtain ⟨d, hd, hh⟩ := hh
            have hat : argTypes = #[t, tx] := by rw [← Array.toArray_toList (xs := argTypes), hts]
            have har : args = #[x, y] := by rw [← Array.toArray_toList (xs := args), hx]
            subst hat; subst har
            split at hh
            rotate_left
            · rename_i kx
              have he := e_appendZ (P := P) (ty := type) (tch := touches C ρV h (.call { callee := .builtin .append, args := #[x, y], argTypes := #[t, tx] })) hk hd (hρ x) (hρ y) hh
              have := he.outc (P := P) (C := C) (h := h)
              simpa [resolve, invoke, builtin] using this
            · exact hh.elim
            · rename_i e'
              have he := e_append (P := P) (ty := type) (tch := touches C ρV h (.call { callee := .builtin .append, args := #[x, y], argTypes := #[t, tx] })) hk hd (hρ x) (hρ y) (by
                intro b lo len hx b' htc
                simp only [touches, List.map, hx] at htc
                intro hne; subst hne; simp at htc) hh
              have := he.outc (P := P) (C := C) (h := h)
              simpa [resolve, invoke, builtin] using this
          · exact hh.elim
        case copy =>
          split at hh
          · rename_i t ts x y hts hx
            have hat : argTypes = (t :: ts).toArray := by rw [← Array.toArray_toList (xs := argTypes), hts]
            have har : args = #[x, y] := by rw [← Array.toArray_toList (xs := args), hx]
            subst hat; subst har
            have he := e_copy (P := P) (ts := ts) (ty := type) (tch := touches C ρV h (.call { callee := .builtin .copy, args := #[x, y], argTypes := (t :: ts).toArray })) hk (hρ x) (hρ y) (by
              intro b lo len hx b' htc
              simp only [touches, List.map, hx] at htc
              intro hne; subst hne; simp at htc) hh
            have := he.outc (P := P) (C := C) (h := h)
            simpa [resolve, invoke, builtin] using this
          · exact hh.elim
      | value f =>
        simp only [wCall] at hh
        split at hh
        · rename_i g first caps hf
          rw [onSome_iff] at hh
          obtain ⟨fn, hfn, hh⟩ := hh
          have hr := hρ f
          rw [hf] at hr
          simp only [rep] at hr
          obtain ⟨as, cs, hfx, ha, hc⟩ := hr
          have hargs : repL F w ν (first ++ args.toList.map ρV ++ caps) (as.toList ++ args.toList.map ρ ++ cs.toList) := repL_append (repL_append ha (repL_map hρ _)) hc
          split at hh
          · rename_i body hbody
            rw [guardB_iff] at hh
            obtain ⟨hname, hh⟩ := hh
            have hname' : (fn.name == "runtime.NumGoroutine") = false := by simpa using hname
            have hname'' : ¬ fn.name = "runtime.NumGoroutine" := by simpa using hname
            refine .inr (.inl ⟨g, first ++ args.toList.map ρV ++ caps, as.toList ++ args.toList.map ρ ++ cs.toList, ?_, hargs, ?_⟩)
            · simp [resolve, hfx, Deferred.ofValue, invoke, callFunc, hfn, hbody, hname', hname'']
            · split at hh
              · rename_i r hkn hvs
                rw [hvs]
                refine .inl ⟨rfl, (hC.kn g r hkn).mono' fun v hv => ⟨r, hh, fun hr => hv ▸ hr⟩⟩
              · rename_i hkv
                split at hh
                · rename_i hm0
                  split at hh
                  · rename_i hcl
                    exact .inl ⟨hcl, hC.c0 _ _ _ (hC.mono _ _ _ _ hh fun v hv => typedT_rep hv)⟩
                  · refine .inr ⟨_, fun b hb => ?_, hC.cf _ _ _ _ _ hh⟩
                    simp only [touches, hf] at hb
                    first | exact hb | (rw [hm0] at hb; exact hb)
                · try simp only [guardB_iff] at hh
                  exact .inr ⟨_, fun _ _ => rfl, hC.cb _ _ _ _ _ hh.1 hh.2⟩
                · exact .inr ⟨_, fun _ _ => rfl, hC.ct _ _ _ _ _ hh⟩
                · rename_i hm0 hm1
                  refine .inr ⟨_, fun b hb => ?_, hC.c _ _ _ _ hh⟩
                  simp only [touches, hf] at hb
                  exact hb
          · rename_i hbody
            rw [guardB_iff] at hh
            obtain ⟨x, v, h1, h2, h3⟩ := ext_sound (P := P) hfn hbody (eq_of_beq hh.1) hargs hh.2
            refine .inl ⟨F, x, w, ν, v, h, .inl ?_, h1, hk, h2, Evo.refl ν F w, fun _ _ hb _ => ⟨rfl, hb⟩⟩
            have := h3 w
            have hea : (as.toList ++ args.toList.map ρ ++ cs.toList).toArray = as ++ args.map ρ ++ cs := by simp
            rw [hea] at this
            simpa [resolve, hfx, Deferred.ofValue, invoke] using this
        · rename_i b hf
          have hr := hρ f
          rw [hf] at hr
          have hG : GlobOK C.glob F w := hg
          obtain ⟨l, s, n, g, tmps, assign, body, hat, hrun, hround⟩ := hC.y _ _ _ _ hh ν F w (args.toList.map ρ) hk hG (repL_map hρ _)
          simp only [rep] at hr
          have hfx := hr.2 l s n hat
          refine .inr (.inr ⟨l, g, tmps, assign, body, ?_, hround.mono ?_⟩)
          · have : (args.toList.map ρ).toArray = args.map ρ := by rw [← Array.toList_map, Array.toArray_toList]
            rw [this] at hrun
            simpa [resolve, hfx, Deferred.ofValue, invoke] using hrun
          · rintro e w' ⟨x, v, ν', F', h', q1, q2, q3, q4, q5, q6⟩
            exact ⟨x, v, ν', F', h', q1, q2, q3, q4, q5, fun b' y hy hb => q6 b' y hy (by simpa [touches, hf] using hb)⟩
        · exact hh.elim
end
end Go.Proofs.Ytmdimnmdoifkfaa.Clean
