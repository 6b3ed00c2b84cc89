/- Functions that may write to what they are lent: the memory behind them and how the result is opened may hang on the arguments. Nothing here speaks of the program. -/
import Derived.Test.YtmdimnmdoifkfaaXDCRU
namespace Go.Proofs.Ytmdimnmdoifkfaa.Clean
set_option linter.unusedVariables false

def forceN (n : Nat) (k : Nat → Prop) : Prop := match n with
  | 0 => k 0
  | m + 1 => k (m + 1)
def forceV (v : V) (k : V → Prop) : Prop := match v with
  | .raw x => k (.raw x)
  | .ptr b i o => k (.ptr b i o)
  | .sl b lo n => k (.sl b lo n)
  | .lst s es => k (.lst s es)
  | v => k v
def forceRow : List V → (List V → Prop) → Prop
  | [], k => k []
  | v :: r, k => forceV v fun v => forceRow r fun r => k (v :: r)
def forceArg (v : V) (k : V → Prop) : Prop := match v with
  | .agg cs => forceRow cs fun cs => k (.agg cs)
  | .fn f a c => forceRow a fun a => forceRow c fun c => k (.fn f a c)
  | v => forceV v k
def forceArgs : List V → (List V → Prop) → Prop
  | [], k => k []
  | v :: r, k => forceArg v fun v => forceArgs r fun r => k (v :: r)
def forceRows : List (List V) → (List (List V) → Prop) → Prop
  | [], k => k []
  | v :: r, k => forceRow v fun v => forceRows r fun r => k (v :: r)
def forceO (o : O) (k : O → Prop) : Prop := match o with
  | .rows s true es => k (.rows s true es)
  | .rows s false es => forceRows es fun es => k (.rows s false es)
  | .mp es => k (.mp es)
  | .lp q => k (.lp q)
  | .it x n l => k (.it x n l)
def forceBs : List (Nat × O) → (List (Nat × O) → Prop) → Prop
  | [], k => k []
  | (a, o) :: r, k => forceN a fun a => forceO o fun o => forceBs r fun r => k ((a, o) :: r)
/-- The memory, looked at block by block before it is gone on with. -/
def forceH (h : Hp) (k : Hp → Prop) : Prop := match h with
  | ⟨bs, n, fs⟩ => forceBs bs fun bs => forceN n fun n => k ⟨bs, n, fs⟩
def forceIds : List Id → (List Id → Prop) → Prop
  | [], k => k []
  | .p n :: r, k => forceN n fun n => forceIds r fun r => k (.p n :: r)
  | .m B j :: r, k => forceIds r fun r => k (.m B j :: r)
def keepOf (bs : List Id) : Keep := ⟨[], bs.zipIdx, bs.length, [], [], []⟩
def lentIds (h : Hp) (vs : List V) : List Id := (reach 200 h (refsL vs) []).filter fun b => h.has b
theorem forceN_eq (n : Nat) (k : Nat → Prop) : forceN n k = k n := by cases n <;> rfl
theorem forceV_eq (v : V) (k : V → Prop) : forceV v k = k v := by cases v <;> rfl
theorem forceRow_eq : ∀ (l : List V) (k : List V → Prop), forceRow l k = k l
  | [], k => rfl
  | v :: r, k => by rw [forceRow, forceV_eq, forceRow_eq]
theorem forceArg_eq (v : V) (k : V → Prop) : forceArg v k = k v := by
  cases v <;> first | exact forceRow_eq _ _ | (show forceRow _ _ = _; rw [forceRow_eq, forceRow_eq]) | rfl
theorem forceArgs_eq : ∀ (l : List V) (k : List V → Prop), forceArgs l k = k l
  | [], k => rfl
  | v :: r, k => by rw [forceArgs, forceArg_eq, forceArgs_eq]
theorem forceRows_eq : ∀ (l : List (List V)) (k : List (List V) → Prop), forceRows l k = k l
  | [], k => rfl
  | v :: r, k => by rw [forceRows, forceRow_eq, forceRows_eq]
theorem forceO_eq (o : O) (k : O → Prop) : forceO o k = k o := by
  cases o with
  | rows s p es => cases p with
    | true => rfl
    | false => exact forceRows_eq es _
  | mp es => rfl
  | lp q => rfl
  | it x n l => rfl
theorem forceBs_eq : ∀ (l : List (Nat × O)) (k : List (Nat × O) → Prop), forceBs l k = k l
  | [], k => rfl
  | (a, o) :: r, k => by rw [forceBs, forceN_eq, forceO_eq, forceBs_eq]
theorem forceH_eq (h : Hp) (k : Hp → Prop) : forceH h k = k h := by
  obtain ⟨bs, n, fs⟩ := h
  show forceBs bs _ = _
  rw [forceBs_eq, forceN_eq]
theorem forceIds_eq : ∀ (l : List Id) (k : List Id → Prop), forceIds l k = k l
  | [], k => rfl
  | .p n :: r, k => by rw [forceIds, forceN_eq, forceIds_eq]
  | .m B j :: r, k => by rw [forceIds, forceIds_eq]
theorem lent_eq (h : Hp) (vs : List V) : lentOf h vs = keepOf (lentIds h vs) := rfl
/-- As callsF; post and rt are told the arguments. -/
def callsG (P : Program) (G : Nat → Option (List V)) (mode : FuncId → Nat) (post : FuncId → List V → Hp → Us → Hp) (rt : FuncId → List V → Us → V → (V → Prop) → Prop) : Calling :=
  ⟨fun _ => none, mode, fun _ => false, KB P G, K0G P G, fun f args h k => match mode f with
      | 3 => forceArgs args fun args => forceIds (lentIds h args) fun ids => guardB ((keepOf ids).ok && bsOK h) (forceH (lentH h (keepOf ids)) fun h0 => KM P G f (trL (renOf (keepOf ids).blocks) args) h0 (post f args) fun v us => guardB (mfit h (post f args h0 us) (keepOf ids).blocks) <| rt f args us v fun v =>
          forceH (mergeH h (keepOf ids) (post f args h0 us)) fun h' => forceV (v.tr (backT (keepOf ids).blocks (keepOf ids).nxt h.nxt)) fun v => k v h')
      | _ => K P G f args h (fun _ => true) k,
    fun f args h b => match mode f with | 3 => (lentOf h args).blocks.any fun p => p.1.beq b | _ => true, true, 0, G, fun _ _ _ _ => False, fun _ => true⟩
theorem callsG_ok {P : Program} {G : Nat → Option (List V)} {mode : FuncId → Nat} {post : FuncId → List V → Hp → Us → Hp} {rt : FuncId → List V → Us → V → (V → Prop) → Prop} (hrt : ∀ f args us v k, rt f args us v k → ∃ v', k v' ∧ ∀ {F : Nat → Prop} {w : World} {ν : Nu} {x : Value}, rep F w ν v x → rep F w ν v' x) : (callsG P G mode post rt).ok P := by
  refine ⟨(fun _ _ h => by cases h), fun _ _ _ _ _ h => K_of_K0 h, fun _ _ _ _ _ h1 h2 => K_of_KB h1 h2, fun _ _ _ _ _ h => K_of_K0t h, fun _ _ _ _ h hr => h.mono hr, fun _ _ _ h => h, ?_, fun _ _ _ _ h => h.elim⟩
  intro f args h R hc
  by_cases hm : mode f = 3
  · simp only [callsG, hm] at hc ⊢
    rw [forceArgs_eq, forceIds_eq, ← lent_eq, guardB_iff, Bool.and_eq_true, forceH_eq] at hc
    obtain ⟨⟨hok, hbs⟩, hc⟩ := hc
    refine K_frame rfl hok hbs ?_
    intro ν F w xs g1 g2 g3
    refine (hc ν F w xs g1 g2 g3).mono fun e w' ⟨x, v, ν', F', h', z1, ⟨es, z2, z3⟩, z4, z5, z6⟩ => ?_
    have z3 := guardB_iff.1 z3
    obtain ⟨v', hk, hrv⟩ := hrt _ _ _ _ _ z3.2
    rw [forceH_eq, forceV_eq] at hk
    exact ⟨x, v', ν', F', h', z1, by rw [z2]; exact ⟨z3.1, hk⟩, z4, hrv z5, z6⟩
  · simp only [callsG] at hc ⊢
    exact hc
noncomputable def cfgG (P : Program) (glob : Nat → Option (List V)) (mode : FuncId → Nat) (post : FuncId → List V → Hp → Us → Hp) (rt : FuncId → List V → Us → V → (V → Prop) → Prop) (enter : FuncId → Bool) (kps : FuncId → Nat → Option (List Tmp)) : Cfg where
  C0 := callsG P glob mode post rt
  enter := enter
  clean := fun _ => true
  kps := kps
theorem cfgG_ok {P : Program} {glob : Nat → Option (List V)} {mode : FuncId → Nat} {post : FuncId → List V → Hp → Us → Hp} {rt : FuncId → List V → Us → V → (V → Prop) → Prop} {enter : FuncId → Bool} {kps : FuncId → Nat → Option (List Tmp)} (hrt : ∀ f args us v k, rt f args us v k → ∃ v', k v' ∧ ∀ {F : Nat → Prop} {w : World} {ν : Nu} {x : Value}, rep F w ν v x → rep F w ν v' x) : (cfgG P glob mode post rt enter kps).ok P :=
  ⟨callsG_ok hrt, knowsY_none⟩
theorem KM_of_WYKq {P : Program} (hm : P.follows .mixedOrders = true) {cfg : Cfg} (hcf : cfg.ok P) (fuel : Nat) {f : FuncId} {fn : Func} (hf : P.funcs[f]? = some fn) {args : List V} {h : Hp} {post : Hp → Us → Hp} {Q : V → Us → Prop} {p : (V → Hp → Prop) → Prop} (he : ∀ R, p R = WYK P cfg fuel f fn args h R) (hw : ∀ R : V → Hp → Prop, (∀ v us, Q v us → R v (post h us)) → p R) : KM P cfg.glob f args h post Q :=
  KM_of_WYKp hm hcf fuel hf fun R hR => he R ▸ hw R hR
end Go.Proofs.Ytmdimnmdoifkfaa.Clean
