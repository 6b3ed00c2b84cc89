/- A part of the proof. -/
import Derived.Test.YtmddjopahcbefaaProg
import Derived.Test.YtmddjopahcbefaaXS3G1
import Derived.Test.YtmddjopahcbefaaXS3G7
import Derived.Test.YtmddjopahcbefaaXS3G8
namespace Go.Proofs.Ytmddjopahcbefaa.Clean
noncomputable def WY0 (P : Program) (cfg : Cfg) (fuel : Nat) (f : FuncId) (fn : Func) (args : List V) (R : V → Prop) : Prop :=
  match fn.body with
  | some c => guardB (Nat.ble args.length fn.ntmps && Nat.ble args.length 1000) (WY P cfg fuel ⟨⟨0, []⟩, 0, none, fn.ntmps, f, 0⟩ c (QendX P fn fun v h => R (frzW h v)) ⟨start args, ⟨[], 0, []⟩⟩)
  | none => False
theorem K0_of_WY0 {P : Program} (hm : P.follows .mixedOrders = true) {cfg : Cfg} (hcf : cfg.ok P) (fuel : Nat) {f : FuncId} {fn : Func} (hf : P.funcs[f]? = some fn) {args : List V} {R : V → Prop} (h : WY0 P cfg fuel f fn args R) : K0G P cfg.glob f args R := by
  unfold WY0 at h
  split at h
  · rename_i c hc
    rw [guardB_iff] at h
    exact K0_of_WY hm hcf fuel hf hc h.1 h.2
  · exact h.elim
theorem La.of {nb : Nat} {slots : List Tmp} {B : Post → St → Prop} {Q : Post} {st : St} {σ : Type} (sh : σ → St) (I : σ → Prop) (μ : σ → Nat) (s0 : σ) (h0 : st = sh s0) (hI : I s0)
    (round : ∀ s, I s → ∀ J : St → Prop, (∀ s', I s' → μ s' < μ s → J (sh s')) → B (Qla nb slots J Q) (sh s)) : La nb slots B Q st := by
  refine ⟨fun J hJ => ?_⟩
  subst h0
  have key : ∀ n s, μ s < n → I s → J (sh s) := by
    intro n
    induction n with
    | zero => intro s h; omega
    | succ n ih =>
      intro s hs hI
      exact hJ _ (round s hI J fun s' hI' hlt => ih s' (by omega) hI')
  exact key _ s0 (Nat.lt_succ_self _) hI
def inN : List Nat → Nat → Bool
  | [], _ => false
  | a :: r, x => Nat.beq a x || inN r x
def slotsOf : List (Nat × Nat × List Tmp) → FuncId → Nat → Option (List Tmp)
  | [], _, _ => none
  | (f, c, l) :: r, g, d => bif Nat.beq f g && Nat.beq c d then some l else slotsOf r g d
end Go.Proofs.Ytmddjopahcbefaa.Clean
namespace Go.Proofs.Ytmddjopahcbefaa.Clean
abbrev Us := List (List (List V))
def back1 : List (Id × Nat) → Nat → Tr
  | [], _ => .drop
  | (a, b) :: r, i => bif b.beq i then .ren a else back1 r i
def backT (bs : List (Id × Nat)) (n m : Nat) : Id → Tr
  | .p i => bif Nat.blt i n then back1 bs i else .ren (.p (m + (i - n)))
  | .m _ _ => .drop
noncomputable def backO (τ : Id → Tr) : O → O
  | .rows s true es => .rows s true es
  | .rows s false es => .rows s false (es.map (trL τ))
  | .mp es => .mp (es.map fun kv => (kv.1.tr τ, kv.2.tr τ))
  | .lp q => .lp (q.mapV (V.tr τ))
  | .it x n seen => .it (x.tr τ) n seen
noncomputable def backBs (τ : Id → Tr) : List (Nat × O) → List (Nat × O)
  | [] => []
  | (i, o) :: r => match τ (.p i) with
    | .ren (.p b) => (b, backO τ o) :: backBs τ r
    | _ => backBs τ r
def pureOf : Option O → Option (List (List V))
  | some (.rows _ true es) => some es
  | _ => none
def mergeFs (h1 : Hp) : List (Id × Nat) → List (Nat × Fam) → List (Nat × Fam)
  | [], fs => fs
  | (.m B k, i) :: r, fs => setF (mergeFs h1 r fs) B k (pureOf (getB h1.bs i))
  | (.p _, _) :: r, fs => mergeFs h1 r fs
def mfit (h : Hp) (h1 : Hp) (bs : List (Id × Nat)) : Bool := h1.fs.isEmpty && bs.all fun p => match p.1 with
  | .p _ => true
  | .m B _ => match getF h.fs B with
    | some f => match getB h1.bs p.2 with
      | some (.rows s true _) => s.beq f.s
      | some _ => false
      | none => true
    | none => false
noncomputable def mergeH (h : Hp) (kp : Keep) (h1 : Hp) : Hp := ⟨backBs (backT kp.blocks kp.nxt h.nxt) h1.bs ++ (delAll h (kp.blocks.map (·.1))).bs, h.nxt + (h1.nxt - kp.nxt), mergeFs h1 kp.blocks h.fs⟩
noncomputable def lentH (h : Hp) (kp : Keep) : Hp := ⟨keepBs (renOf kp.blocks) [] h kp.blocks, kp.nxt, []⟩
def bsOK (h : Hp) : Bool := h.bs.all fun p => Nat.blt p.1 h.nxt
def typedR (P : Program) (t : Option TypeId) (v : V) (k : V → Prop) : Prop := match t with | some t => typedT P false t v k | none => k v
end Go.Proofs.Ytmddjopahcbefaa.Clean
namespace Go.Proofs.Ytmddjopahcbefaa.Clean
set_option linter.unusedSimpArgs false
set_option linter.unusedVariables false
theorem renOf_mem : ∀ {bs : List (Id × Nat)} {a : Id} {i : Nat}, nodupI (bs.map (·.1)) = true → (a, i) ∈ bs → renOf bs a = .ren (.p i)
  | [], a, i, _, h => by simp at h
  | (c, j) :: r, a, i, hn, h => by
    simp only [renOf, Id.cond_beq]
    by_cases hc : c = a
    · subst hc
      rw [if_pos rfl]
      have := nodupI_inj (f := fun p : Id × Nat => p.1) hn h (List.mem_cons_self) rfl
      simp at this
      rw [this]
    · rw [if_neg hc]
      refine renOf_mem ?_ ((List.mem_cons.1 h).resolve_left (fun he => hc (by simp at he; exact he.1.symm)))
      simp only [List.map_cons, nodupI, Bool.and_eq_true] at hn
      exact hn.2
theorem renOf_none {bs : List (Id × Nat)} {a : Id} (h : ∀ i, (a, i) ∉ bs) : renOf bs a = .drop := by
  rcases renOf_cases bs a with h' | ⟨i, _, hm⟩
  · exact h'
  · exact (h i hm).elim
theorem back1_mem : ∀ {bs : List (Id × Nat)} {a : Id} {i : Nat}, nodupB (bs.map (·.2)) = true → (a, i) ∈ bs → back1 bs i = .ren a
  | [], a, i, _, h => by simp at h
  | (c, j) :: r, a, i, hn, h => by
    simp only [back1, cond_beq]
    by_cases hc : j = i
    · subst hc
      rw [if_pos rfl]
      have := nodupB_inj (f := fun p : Id × Nat => p.2) hn h (List.mem_cons_self) rfl
      simp at this
      rw [this]
    · rw [if_neg hc]
      refine back1_mem ?_ ((List.mem_cons.1 h).resolve_left (fun he => hc (by simp at he; exact he.2.symm)))
      simp only [List.map_cons, nodupB, Bool.and_eq_true] at hn
      exact hn.2
theorem back1_cases : ∀ (bs : List (Id × Nat)) (i : Nat), back1 bs i = .drop ∨ ∃ a, back1 bs i = .ren a ∧ (a, i) ∈ bs
  | [], i => .inl rfl
  | (c, j) :: r, i => by
    simp only [back1, cond_beq]
    by_cases hc : j = i
    · subst hc; rw [if_pos rfl]; exact .inr ⟨c, rfl, by simp⟩
    · rw [if_neg hc]
      rcases back1_cases r i with h | ⟨a, h1, h2⟩
      · exact .inl h
      · exact .inr ⟨a, h1, by simp [h2]⟩
theorem backBs_get {τ : Id → Tr} {i b : Nat} (hi : τ (.p i) = .ren (.p b)) (hinj : ∀ j, τ (.p j) = .ren (.p b) → j = i) : ∀ (l : List (Nat × O)), getB (backBs τ l) b = (getB l i).map (backO τ)
  | [] => rfl
  | (k, o) :: r => by
    have ih := backBs_get hi hinj r
    rw [getB_cons]
    by_cases hk : k = i
    · subst hk
      simp [backBs, hi, getB_cons]
    · rw [if_neg hk]
      simp only [backBs]
      split
      · rename_i b' hb'
        rw [getB_cons, if_neg (fun he : b' = b => hk (hinj k (by rw [← he]; exact hb'))), ih]
      · exact ih
theorem backBs_none {τ : Id → Tr} {b : Nat} (h : ∀ j, τ (.p j) ≠ .ren (.p b)) : ∀ (l : List (Nat × O)), getB (backBs τ l) b = none
  | [] => rfl
  | (k, o) :: r => by
    have ih := backBs_none h r
    simp only [backBs]
    split
    · rename_i b' hb'
      rw [getB_cons, if_neg (fun he : b' = b => h k (by rw [← he]; exact hb')), ih]
    · exact ih
theorem getB_memM : ∀ {l : List (Nat × O)} {b : Nat} {o : O}, getB l b = some o → (b, o) ∈ l
  | [], b, o, h => by simp [getB] at h
  | (k, o') :: r, b, o, h => by
    rw [getB_cons] at h
    by_cases hk : k = b
    · rw [if_pos hk] at h; simp at h; subst hk; subst h; simp
    · rw [if_neg hk] at h; exact List.mem_cons_of_mem _ (getB_memM h)
theorem get_delAll : ∀ (l : List Id) (h : Hp) (b : Id), (delAll h l).get b = if b ∈ l then none else h.get b
  | [], h, b => by simp [delAll]
  | c :: r, h, b => by
    simp only [delAll]
    rw [get_delAll r, Hp.get_del]
    by_cases hr : b ∈ r
    · simp [hr]
    · by_cases hc : b = c
      · simp [hc]
      · simp [hr, hc]
def getM (fs : List (Nat × Fam)) (B k : Nat) : Option (Nat × List (List V)) := match getF fs B with | some f => (memb f.ms k).map fun es => (f.s, es) | none => none
theorem get_getM {h : Hp} {B k : Nat} : h.get (.m B k) = (getM h.fs B k).map fun p => .rows p.1 true p.2 := by
  simp only [Hp.get, getM]
  cases getF h.fs B with
  | none => rfl
  | some f => simp only; cases memb f.ms k <;> rfl
theorem getM_setF {fs : List (Nat × Fam)} {B k : Nat} {x : Option (List (List V))} {B' k' : Nat} (hk : k < famLen fs B) : getM (setF fs B k x) B' k' = if B' = B ∧ k' = k then (match getF fs B with | some f => x.map fun es => (f.s, es) | none => none) else getM fs B' k' := by
  unfold getM
  rw [getF_setF]
  by_cases hB : B' = B
  · subst hB
    rw [if_pos rfl]
    cases hf : getF fs B' with
    | none => simp
    | some f =>
      have hk : k < f.ms.length := by simpa [famLen, hf] using hk
      simp only [Option.map_some, memb_set _ _ _ _ hk, true_and]
      by_cases hkk : k' = k
      · simp [hkk]
      · simp [hkk]
  · simp [hB]
theorem mergeFs_len {h1 : Hp} : ∀ (bs : List (Id × Nat)) (fs : List (Nat × Fam)) (B : Nat), famLen (mergeFs h1 bs fs) B = famLen fs B
  | [], fs, B => rfl
  | (.m _ _, i) :: r, fs, B => by simp only [mergeFs]; rw [setF_cnt]; exact mergeFs_len r fs B
  | (.p _, _) :: r, fs, B => by simp only [mergeFs]; exact mergeFs_len r fs B
theorem mergeFs_s {h1 : Hp} : ∀ (bs : List (Id × Nat)) (fs : List (Nat × Fam)) (B : Nat), (getF (mergeFs h1 bs fs) B).map (·.s) = (getF fs B).map (·.s)
  | [], fs, B => rfl
  | (.m B0 k, i) :: r, fs, B => by
    simp only [mergeFs]
    rw [getF_setF, ← mergeFs_s r fs B]
    by_cases hB : B = B0
    · subst hB
      rw [if_pos rfl]
      cases getF (mergeFs h1 r fs) B <;> rfl
    · rw [if_neg hB]
  | (.p _, _) :: r, fs, B => by simp only [mergeFs]; exact mergeFs_s r fs B
theorem mergeFs_get {h1 : Hp} {fs : List (Nat × Fam)} : ∀ {bs : List (Id × Nat)}, nodupI (bs.map (·.1)) = true → (∀ B k i, (Id.m B k, i) ∈ bs → k < famLen fs B) → ∀ (B k : Nat),
    (∀ i, (Id.m B k, i) ∈ bs → getM (mergeFs h1 bs fs) B k = match getF fs B with | some f => (pureOf (getB h1.bs i)).map fun es => (f.s, es) | none => none) ∧
    ((∀ i, (Id.m B k, i) ∉ bs) → getM (mergeFs h1 bs fs) B k = getM fs B k)
  | [], _, _, B, k => ⟨fun i hm => by simp at hm, fun _ => rfl⟩
  | (.p a, j) :: r, hn, hl, B, k => by
    simp only [List.map_cons, nodupI, Bool.and_eq_true] at hn
    obtain ⟨ih1, ih2⟩ := mergeFs_get (h1 := h1) (fs := fs) (bs := r) hn.2 (fun B k i hm => hl B k i (by simp [hm])) B k
    simp only [mergeFs]
    exact ⟨fun i hm => ih1 i (by simpa using hm), fun hn => ih2 fun i hm => hn i (by simp [hm])⟩
  | (.m B0 k0, j) :: r, hn, hl, B, k => by
    have hn0 := hn
    simp only [List.map_cons, nodupI, Bool.and_eq_true, Bool.not_eq_true', List.any_eq_false, List.mem_map, forall_exists_index, and_imp, forall_apply_eq_imp_iff₂] at hn
    obtain ⟨ih1, ih2⟩ := mergeFs_get (h1 := h1) (fs := fs) (bs := r) hn.2 (fun B k i hm => hl B k i (by simp [hm])) B k
    have hlen : k0 < famLen (mergeFs h1 r fs) B0 := by rw [mergeFs_len]; exact hl B0 k0 j (by simp)
    simp only [mergeFs]
    rw [getM_setF hlen]
    by_cases he : B = B0 ∧ k = k0
    · obtain ⟨rfl, rfl⟩ := he
      rw [if_pos ⟨rfl, rfl⟩]
      refine ⟨fun i hm => ?_, fun hno => (hno j (by simp)).elim⟩
      have hij : i = j := by
        simp only [List.mem_cons, Prod.mk.injEq, true_and] at hm
        rcases hm with hm | hm
        · exact hm
        · have := hn.1 _ hm
          simp at this
      subst hij
      have hs := mergeFs_s (h1 := h1) r fs B
      cases hg : getF fs B with
      | none =>
        rw [hg] at hs
        cases hg' : getF (mergeFs h1 r fs) B with
        | none => rfl
        | some f => rw [hg'] at hs; simp at hs
      | some f =>
        rw [hg] at hs
        cases hg' : getF (mergeFs h1 r fs) B with
        | none => rw [hg'] at hs; simp at hs
        | some f' => rw [hg'] at hs; simp at hs; simp only [hs]
    · rw [if_neg he]
      refine ⟨fun i hm => ih1 i ?_, fun hno => ih2 fun i hm => hno i (by simp [hm])⟩
      simp only [List.mem_cons, Prod.mk.injEq, Id.m.injEq] at hm
      exact hm.resolve_left fun h => he h.1
def mergeNu (ν ν1 : Nu) (bs : List (Id × Nat)) (n : Nat) (hle : n ≤ ν1.nxt) (hin : ∀ p ∈ bs, p.1.lt ν.nxt ν.cnt) (hz : ∀ B, ν1.cnt B = 0) : Nu where
  at_ b := match b with
    | .p a => if a < ν.nxt then (match renOf bs (.p a) with | .ren i => ν1.at_ i | _ => ν.at_ (.p a)) else ν1.at_ (.p (n + (a - ν.nxt)))
    | .m B k => match renOf bs (.m B k) with | .ren i => ν1.at_ i | _ => ν.at_ (.m B k)
  nxt := ν.nxt + (ν1.nxt - n)
  cnt := ν.cnt
  lt b x h := by
    cases b with
    | p a =>
      show a < ν.nxt + (ν1.nxt - n)
      by_cases hb : a < ν.nxt
      · omega
      · simp only [hb, if_false] at h
        have : n + (a - ν.nxt) < ν1.nxt := ν1.lt _ _ h
        omega
    | m B k =>
      show k < ν.cnt B
      simp only at h
      rcases renOf_cases bs (.m B k) with h0 | ⟨i, h0, hm⟩
      · rw [h0] at h
        exact ν.lt _ _ h
      · exact hin _ hm
  ph b := match b with
    | .p a => if a < ν.nxt then (match renOf bs (.p a) with | .ren i => ν1.ph i | _ => ν.ph (.p a)) else ν1.ph (.p (n + (a - ν.nxt)))
    | .m B k => match renOf bs (.m B k) with | .ren i => ν1.ph i | _ => ν.ph (.m B k)
  phx b x h := by
    cases b with
    | p a =>
      simp only at h ⊢
      by_cases hb : a < ν.nxt
      · rw [if_pos hb] at h ⊢
        split at h
        · exact ν1.phx _ _ h
        · exact ν.phx _ _ h
      · rw [if_neg hb] at h ⊢; exact ν1.phx _ _ h
    | m B k =>
      simp only at h ⊢
      split at h
      · exact ν1.phx _ _ h
      · exact ν.phx _ _ h
theorem obl_back {F : Nat → Prop} {w : World} {ν1 ν2 : Nu} {τ : Id → Tr} (tr : TrOK F F w ν1 ν2 τ) {r s n : Nat} {o : O} (ho : Obl F w ν1 r s n o) : Obl F w ν2 r s n (backO τ o) := by
  cases o with
  | lp q =>
    obtain ⟨rec, k1, k2⟩ := ho
    exact ⟨rec, k1, k2.map (rep_tr (fun _ h => h) tr)⟩
  | it x m seen =>
    obtain ⟨mr, k1, k2⟩ := ho
    exact ⟨mr, k1, rep_tr (fun _ h => h) tr _ _ k2⟩
  | mp es =>
    obtain ⟨ents, k1, k2, k3⟩ := ho
    refine ⟨ents, by rw [List.length_map]; exact k1, by simp [k2], fun i kv hi => ?_⟩
    rw [List.getElem?_map, Option.map_eq_some_iff] at hi
    obtain ⟨kv0, hi0, rfl⟩ := hi
    obtain ⟨e, e1, e2, e3, e4⟩ := k3 i kv0 hi0
    exact ⟨e, e1, e2, rep_tr (fun _ h => h) tr _ _ e3, rep_tr (fun _ h => h) tr _ _ e4⟩
  | rows s' p es =>
    obtain ⟨rfl, z2, c, el, z3, z4, z5⟩ := ho
    cases p with
    | true => exact ⟨rfl, z2, c, el, z3, z4, z5⟩
    | false =>
      refine ⟨rfl, by simpa using z2, c, el, z3, z4, ?_⟩
      rw [rowsC_iff] at z5 ⊢
      intro j row hrow
      rw [List.getElem?_map, Option.map_eq_some_iff] at hrow
      obtain ⟨row0, hrow0, rfl⟩ := hrow
      obtain ⟨k1, k2⟩ := z5 j row0 hrow0
      refine ⟨by rw [trL_length]; exact k1, fun l u hu => ?_⟩
      rw [trL_get, Option.map_eq_some_iff] at hu
      obtain ⟨v0, hv0, rfl⟩ := hu
      obtain ⟨y, k3, k4, k5⟩ := k2 l v0 hv0
      exact ⟨y, k3, k4, rep_tr (fun _ h => h) tr v0 y k5⟩
theorem K_frame {P : Program} {G : Nat → Option (List V)} {f : FuncId} {args : List V} {h : Hp} {kp : Keep} {k : V → Hp → Prop} (hkp : kp = lentOf h args) (hok : kp.ok = true) (hbs : bsOK h = true)
    (hb : K P G f (trL (renOf kp.blocks) args) (lentH h kp) (fun _ => true) (fun v h1 => mfit h h1 kp.blocks = true ∧ k (v.tr (backT kp.blocks kp.nxt h.nxt)) (mergeH h kp h1))) : K P G f args h (fun b => kp.blocks.any fun p => p.1.beq b) k := by
  intro ν F w xs hh hG hl
  have hnils : kp.nils = [] := by rw [hkp]; rfl
  have hpu : kp.pu = [] := by rw [hkp]; rfl
  have hfm : kp.fams = [] := by rw [hkp]; rfl
  obtain ⟨hn1, hn12, hblt, _, _, _⟩ := Keep.ok_iff.1 hok
  have hn2 := nodupB_right hn12
  have hblt : ∀ p ∈ kp.blocks, p.2 < kp.nxt := fun p hp => blt_of (hblt p hp)
  obtain ⟨kh, ko⟩ := keep_heap hok hh
  rw [hnils, hpu, hfm, ren_nofams hfm] at kh
  have hl' := repL_tr (fun _ h => h) (keep_tr hok hh) _ _ hl
  rw [ren_nofams hfm] at hl'
  have hin : ∀ b o, h.get b = some o → b.lt ν.nxt ν.cnt := fun b o ho => by
    cases b with
    | p b =>
      have := List.all_eq_true.1 hbs _ (getB_memM ho)
      show b < ν.nxt
      rw [hh.nxt]; exact blt_of this
    | m B k =>
      obtain ⟨f, es, h1, h2, _⟩ := Hp.get_m ho
      show k < ν.cnt B
      rw [hh.cnt B]
      simp only [famLen, h1]
      exact memb_lt h2
  refine (hb _ F w xs (by simpa [nilBs, lentH, keepFs] using kh) hG hl').mono fun e w' ⟨x, v, ν1, F1, h1, g1, ⟨gfit0, g2⟩, g4, g5, g6, _⟩ => ?_
  have hnx : (kpNu kp hok h ν).nxt = kp.nxt := rfl
  have hz0 : ∀ B, (kpNu kp hok h ν).cnt B = 0 := fun B => by
    show kp.cnt h B = 0
    simp [Keep.cnt, hfm]
  have gfit1 := (Bool.and_eq_true _ _ ▸ gfit0 : h1.fs.isEmpty = true ∧ _)
  have gfit := gfit1.2
  have hz : ∀ B, ν1.cnt B = 0 := cnt_none g4 gfit1.1
  have hle : kp.nxt ≤ ν1.nxt := g6.nxt
  have hp1 : ∀ {b : Id} {y}, ν1.at_ b = some y → ∃ i, b = .p i := fun {b y} hy => by
    have := ν1.lt _ _ hy
    cases b with
    | p i => exact ⟨i, rfl⟩
    | m B k =>
      have : k < ν1.cnt B := this
      rw [hz B] at this
      omega
  have hhas : ∀ a i, (a, i) ∈ kp.blocks → h.has a = true := fun a i hm => by
    rw [hkp] at hm
    simp only [lentOf] at hm
    have := (List.mem_zipIdx hm)
    have hm' : a ∈ (reach 200 h (refsL args) []).filter fun b => h.has b := by
      rw [this.2.2]; exact List.getElem_mem _
    exact (List.mem_filter.1 hm').2
  have hfst : ∀ a i, (a, i) ∈ kp.blocks → a.lt ν.nxt ν.cnt := fun a i hm => by
    obtain ⟨o, ho⟩ := has_iff.1 (hhas a i hm)
    exact hin a o ho
  let σ := backT kp.blocks kp.nxt h.nxt
  have σlo : ∀ i a, (a, i) ∈ kp.blocks → σ (.p i) = .ren a := fun i a hm => by
    have : Nat.blt i kp.nxt = true := by have := hblt _ hm; exact Nat.ble_eq_true_of_le this
    simp only [σ, backT, this, cond_true]
    exact back1_mem hn2 hm
  have σhi : ∀ i, kp.nxt ≤ i → σ (.p i) = .ren (.p (ν.nxt + (i - kp.nxt))) := fun i hi => by
    have : Nat.blt i kp.nxt = false := by
      cases hq : Nat.blt i kp.nxt with
      | false => rfl
      | true => have := blt_of hq; omega
    simp only [σ, backT, this, cond_false]
    rw [← hh.nxt]
  have σcase : ∀ j b, σ j = .ren b → ∃ i, j = .p i ∧ ((i < kp.nxt ∧ (b, i) ∈ kp.blocks ∧ b.lt ν.nxt ν.cnt) ∨ (kp.nxt ≤ i ∧ b = .p (ν.nxt + (i - kp.nxt)))) := fun j b hs => by
    cases j with
    | m B k => simp only [σ, backT] at hs; cases hs
    | p i =>
    refine ⟨i, rfl, ?_⟩
    by_cases hi : i < kp.nxt
    · left
      have : Nat.blt i kp.nxt = true := Nat.ble_eq_true_of_le hi
      simp only [σ, backT, this, cond_true] at hs
      rcases back1_cases kp.blocks i with h0 | ⟨a, h0, hm⟩
      · rw [h0] at hs; cases hs
      · rw [h0] at hs; cases hs
        exact ⟨hi, hm, hfst _ _ hm⟩
    · right
      rw [σhi i (by omega)] at hs
      cases hs
      exact ⟨by omega, rfl⟩
  have nlt : ∀ {n : Nat}, ν.nxt ≤ n → ¬ (Id.p n).lt ν.nxt ν.cnt := fun {n} hn hl => by
    have : n < ν.nxt := hl
    omega
  have σinj : ∀ i j b, σ i = .ren b → σ j = .ren b → j = i := fun i j b hi hj => by
    obtain ⟨i0, rfl, ci⟩ := σcase i b hi
    obtain ⟨j0, rfl, cj⟩ := σcase j b hj
    rcases ci with ⟨_, m1, l1⟩ | ⟨l1, e1⟩ <;> rcases cj with ⟨_, m2, l2⟩ | ⟨l2, e2⟩
    · have := nodupI_inj (f := fun p : Id × Nat => p.1) hn1 m2 m1 rfl
      simpa using this
    · rw [e2] at l1; exact (nlt (by omega) l1).elim
    · rw [e1] at l2; exact (nlt (by omega) l2).elim
    · rw [e1] at e2; simp at e2; rw [show j0 = i0 by omega]
  let ν2 := mergeNu ν ν1 kp.blocks kp.nxt hle (fun p hp => hfst p.1 p.2 hp) hz
  have at_lent : ∀ a i, (a, i) ∈ kp.blocks → ν2.at_ a = ν1.at_ (.p i) ∧ ν2.ph a = ν1.ph (.p i) := fun a i hm => by
    have hlt := hfst a i hm
    cases a with
    | p a =>
      have hlt : a < ν.nxt := hlt
      simp only [ν2, mergeNu, if_pos hlt, renOf_mem hn1 hm, and_self]
    | m B k => simp only [ν2, mergeNu, renOf_mem hn1 hm, and_self]
  have at_new : ∀ i, kp.nxt ≤ i → ν2.at_ (.p (ν.nxt + (i - kp.nxt))) = ν1.at_ (.p i) ∧ ν2.ph (.p (ν.nxt + (i - kp.nxt))) = ν1.ph (.p i) := fun i hi => by
    have : ¬ ν.nxt + (i - kp.nxt) < ν.nxt := by omega
    simp only [ν2, mergeNu, if_neg this]
    rw [show kp.nxt + (ν.nxt + (i - kp.nxt) - ν.nxt) = i by omega]
    exact ⟨rfl, rfl⟩
  have at_σ : ∀ j b, σ j = .ren b → ν2.at_ b = ν1.at_ j ∧ ν2.ph b = ν1.ph j := fun j b hs => by
    obtain ⟨i, rfl, ci⟩ := σcase j b hs
    rcases ci with ⟨_, hm, _⟩ | ⟨hi, rfl⟩
    · exact at_lent b i hm
    · exact at_new i hi
  have at_old : ∀ b : Id, b.lt ν.nxt ν.cnt → (∀ i, (b, i) ∉ kp.blocks) → ν2.at_ b = ν.at_ b ∧ ν2.ph b = ν.ph b := fun b hb hn => by
    cases b with
    | p a =>
      have hb : a < ν.nxt := hb
      simp only [ν2, mergeNu, if_pos hb, renOf_none hn, and_self]
    | m B k => simp only [ν2, mergeNu, renOf_none hn, and_self]
  have src : ∀ b y, ν2.at_ b = some y → (∃ i, σ (.p i) = .ren b ∧ ν1.at_ (.p i) = some y) ∨ (b.lt ν.nxt ν.cnt ∧ (∀ i, (b, i) ∉ kp.blocks) ∧ ν.at_ b = some y) := fun b y hy => by
    have low : b.lt ν.nxt ν.cnt → (∃ i, σ (.p i) = .ren b ∧ ν1.at_ (.p i) = some y) ∨ (b.lt ν.nxt ν.cnt ∧ (∀ i, (b, i) ∉ kp.blocks) ∧ ν.at_ b = some y) := fun hb => by
      rcases renOf_cases kp.blocks b with h0 | ⟨i, h0, hm⟩
      · right
        have hn : ∀ i, (b, i) ∉ kp.blocks := fun i hm => by rw [renOf_mem hn1 hm] at h0; cases h0
        exact ⟨hb, hn, by rw [← (at_old b hb hn).1]; exact hy⟩
      · exact .inl ⟨i, σlo i b hm, by rw [← (at_lent b i hm).1]; exact hy⟩
    cases b with
    | m B k => exact low (ν2.lt _ _ hy)
    | p a =>
      by_cases hb : a < ν.nxt
      · exact low hb
      · left
        have hlt : a < ν2.nxt := ν2.lt _ _ hy
        have e : ν.nxt + (kp.nxt + (a - ν.nxt) - kp.nxt) = a := by omega
        refine ⟨kp.nxt + (a - ν.nxt), by rw [σhi _ (by omega), e], ?_⟩
        have := (at_new (kp.nxt + (a - ν.nxt)) (by omega)).1
        rw [e] at this
        rw [← this]; exact hy
  have own0 : ∀ r, (kpNu kp hok h ν).own r → ∃ a i s n, (a, i) ∈ kp.blocks ∧ ν.at_ a = some (r, s, n) := fun r ⟨i, s, n, hat⟩ => by
    rw [kpNu_at] at hat
    obtain ⟨_, a, hm, ha⟩ := hat
    cases i with
    | p i => exact ⟨a, i, s, n, src_p hm, ha⟩
    | m B k =>
      obtain ⟨f, hf, _⟩ := src_m hm
      simp [hfm] at hf
  have notown : ∀ b r s n, ν.at_ b = some (r, s, n) → (∀ i, (b, i) ∉ kp.blocks) → ¬ (kpNu kp hok h ν).own r := fun b r s n hat hn ho => by
    obtain ⟨a, i, s', n', hm, ha⟩ := own0 r ho
    exact hn i (hh.inj a b r s' n' s n ha hat ▸ hm)
  have own_lt : ∀ r, ν.own r → r < w.heap.size := fun r ho => hh.own_lt ho
  have same : ∀ b r s n, ν.at_ b = some (r, s, n) → (∀ i, (b, i) ∉ kp.blocks) → w'.heap[r]? = w.heap[r]? := fun b r s n hat hn => g6.old r (own_lt r ⟨b, s, n, hat⟩) (notown b r s n hat hn)
  have klt : ∀ {i : Nat}, i < kp.nxt → (Id.p i).lt (kpNu kp hok h ν).nxt (kpNu kp hok h ν).cnt := fun {i} hi => hi
  have evo : Evo ν F w ν2 F1 w' := by
    refine ⟨g6.os, g6.tape, g6.output, g6.size, fun r hr ho => g6.old r hr (fun h0 => ho (ko r h0)), g6.fmono, fun r hr => (g6.fnew r hr).imp id (fun h => h.imp (ko r) id), ?_, ?_, ?_, fun _ => Nat.le_refl _, ?_, ?_, by first | exact Nat.le_refl _ | exact Nat.le_succ _ | assumption | exact e.drawn | exact he.drawn | exact hb.drawn | exact hb.1.drawn | exact h.drawn | exact g6.drawn | exact h2.drawn | exact ed.drawn | exact e1.drawn | exact hk.drawn | (subst_vars; exact Nat.le_refl _) | (simp; done) | omega⟩
    · rintro r ⟨b, s, n, hat⟩
      rcases src b _ hat with ⟨i, _, h0⟩ | ⟨_, _, h0⟩
      · exact (g6.onew r ⟨_, s, n, h0⟩).imp (ko r) id
      · exact .inl ⟨b, s, n, h0⟩
    · intro b y hb hat
      rcases src b _ hat with ⟨i, hs, h0⟩ | ⟨_, _, h0⟩
      · obtain ⟨i', he, ci⟩ := σcase _ b hs
        simp at he
        subst he
        rcases ci with ⟨hi, hm, _⟩ | ⟨hi, he⟩
        · have := g6.keep _ y (klt hi) h0
          rw [kpNu_iff] at this
          obtain ⟨a, hm', ha⟩ := this
          have := nodupB_inj (f := fun p : Id × Nat => p.2) hn2 hm hm' rfl
          simp at this
          rw [this]; exact ha
        · rw [he] at hb; exact (nlt (by omega) hb).elim
      · exact h0
    · show ν.nxt ≤ ν.nxt + _; omega
    · intro b hb hp
      rcases renOf_cases kp.blocks b with h0 | ⟨i, h0, hm⟩
      · have hn : ∀ i, (b, i) ∉ kp.blocks := fun i hm => by rw [renOf_mem hn1 hm] at h0; cases h0
        rw [(at_old b hb hn).2] at hp; exact hp
      · rw [(at_lent b i hm).2] at hp
        have := g6.kph _ (klt (hblt _ hm)) hp
        rw [kpNu_ph hok hm] at this; exact this
    · intro b r s n hat hat2 c el fr hc
      rcases src b _ hat2 with ⟨i, hs, h0⟩ | ⟨_, hn, h0⟩
      · obtain ⟨i', he, ci⟩ := σcase _ b hs
        simp at he
        subst he
        rcases ci with ⟨hi, hm, _⟩ | ⟨hi, he⟩
        · exact g6.len _ r s n ((kpNu_iff hok).2 ⟨b, hm, hat⟩) h0 c el fr hc
        · have := ν.lt _ _ hat
          rw [he] at this
          exact (nlt (by omega) this).elim
      · exact ⟨c, by rw [same b r s n hat hn]; exact hc, rfl⟩
  have tr : TrOK F1 F1 w' ν1 ν2 σ := by
    intro b hb
    cases hs : σ b with
    | drop => trivial
    | frz s es =>
      exfalso
      cases b with
      | m B k => simp only [σ, backT] at hs; cases hs
      | p b =>
      by_cases hi : b < kp.nxt
      · have : Nat.blt b kp.nxt = true := Nat.ble_eq_true_of_le hi
        simp only [σ, backT, this, cond_true] at hs
        rcases back1_cases kp.blocks b with h0 | ⟨a, h0, hm⟩ <;> rw [h0] at hs <;> cases hs
      · rw [σhi b (by omega)] at hs; cases hs
    | ren b' =>
      obtain ⟨e1, e2⟩ := at_σ b b' hs
      refine ⟨⟨?_, fun hp => by rw [e2] at hp; exact hp⟩, fun y hy => by rw [e1] at hy; exact hy⟩
      obtain ⟨i, rfl, ci⟩ := σcase b b' hs
      rcases ci with ⟨_, _, h0⟩ | ⟨h0, rfl⟩
      · exact Id.lt_le h0 (show ν.nxt ≤ ν.nxt + _ by omega)
      · have hb : i < ν1.nxt := hb
        show ν.nxt + (i - kp.nxt) < ν.nxt + (ν1.nxt - kp.nxt)
        omega
  have hlm : ∀ B k i, (Id.m B k, i) ∈ kp.blocks → k < famLen h.fs B := fun B k i hm => by
    have : k < ν.cnt B := hfst _ _ hm
    rwa [hh.cnt B] at this
  have getA : ∀ i b, σ (.p i) = .ren b → (mergeH h kp h1).get b = (h1.get (.p i)).map (backO σ) ∨ (h1.get (.p i)) = none := fun i b hs => by
    cases hg : h1.get (.p i) with
    | none => exact .inr rfl
    | some o =>
      left
      have hg' : getB h1.bs i = some o := hg
      cases b with
      | p b =>
        have := backBs_get hs (fun j hj => by have := σinj _ _ _ hs hj; simpa using this) h1.bs
        simp only [mergeH, Hp.get, getB_append]
        rw [this, hg']; rfl
      | m B k =>
        obtain ⟨i', he, hs'⟩ := σcase _ _ hs
        simp at he
        subst he
        rcases hs' with ⟨_, hm, _⟩ | ⟨_, he⟩
        · rw [get_getM]
          show (getM (mergeFs h1 kp.blocks h.fs) B k).map _ = _
          rw [(mergeFs_get hn1 hlm B k).1 i hm, hg']
          have hft := List.all_eq_true.1 gfit _ hm
          simp only at hft
          cases hf : getF h.fs B with
          | none => rw [hf] at hft; cases hft
          | some f =>
            rw [hf, hg'] at hft
            cases o with
            | mp es => cases hft
            | lp q => cases hft
            | it x n seen => cases hft
            | rows s p es =>
              cases p with
              | false => cases hft
              | true =>
                simp only at hft
                simp only [pureOf, Option.map_some, backO, ← beq_eq hft]
        · cases he
  have getN : ∀ i b, σ (.p i) = .ren b → h1.get (.p i) = none → (mergeH h kp h1).get b = none := fun i b hs hg => by
    have hg' : getB h1.bs i = none := hg
    cases b with
    | p b =>
      have := backBs_get hs (fun j hj => by have := σinj _ _ _ hs hj; simpa using this) h1.bs
      simp only [mergeH, Hp.get, getB_append]
      rw [this, hg']
      simp only [Option.map_none]
      have hd := get_delAll (kp.blocks.map (·.1)) h (.p b)
      simp only [Hp.get] at hd
      rw [hd]
      obtain ⟨i', he, hs'⟩ := σcase _ _ hs
      simp at he
      subst he
      rcases hs' with ⟨_, hm, _⟩ | ⟨_, he⟩
      · rw [if_pos (List.mem_map.2 ⟨_, hm, rfl⟩)]
      · split
        · rfl
        · cases hgb : getB h.bs b with
          | none => rfl
          | some o =>
            have := hin (.p b) o hgb
            simp at he
            rw [he] at this
            exact (nlt (by omega) this).elim
    | m B k =>
      obtain ⟨i', he, hs'⟩ := σcase _ _ hs
      simp at he
      subst he
      rcases hs' with ⟨_, hm, _⟩ | ⟨_, he⟩
      · rw [get_getM]
        show (getM (mergeFs h1 kp.blocks h.fs) B k).map _ = _
        rw [(mergeFs_get hn1 hlm B k).1 i hm, hg']
        cases getF h.fs B <;> rfl
      · cases he
  have getOld : ∀ b : Id, b.lt ν.nxt ν.cnt → (∀ i, (b, i) ∉ kp.blocks) → (mergeH h kp h1).get b = h.get b := fun b hb hn => by
    cases b with
    | m B k =>
      rw [get_getM, get_getM]
      show (getM (mergeFs h1 kp.blocks h.fs) B k).map _ = _
      rw [(mergeFs_get hn1 hlm B k).2 hn]
    | p b =>
    have : getB (backBs σ h1.bs) b = none := backBs_none (fun j hj => by
      obtain ⟨i', he, hs'⟩ := σcase _ _ hj
      rcases hs' with ⟨_, hm, _⟩ | ⟨_, he⟩
      · exact hn i' hm
      · simp at he; rw [he] at hb; exact nlt (by omega) hb) _
    simp only [mergeH, Hp.get, getB_append]
    rw [this]
    have := get_delAll (kp.blocks.map (·.1)) h (.p b)
    simp only [Hp.get] at this
    rw [this, if_neg]
    intro hm
    obtain ⟨⟨a, i⟩, hm', he⟩ := List.mem_map.1 hm
    simp at he
    subst he
    exact hn i hm'
  have heap : HeapOK ν2 F1 (mergeH h kp h1) w' := by
    refine ⟨?_, ?_, ?_, ?_, ?_, ?_⟩
    · intro b r s n hat
      rcases src b _ hat with ⟨i, hs, h0⟩ | ⟨hb, hn, h0⟩
      · obtain ⟨o, z1, z2⟩ := g4.blk _ r s n h0
        refine ⟨backO σ o, ?_, obl_back tr z2⟩
        rcases getA i b hs with h | h
        · rw [h, z1]; rfl
        · rw [z1] at h; cases h
      · obtain ⟨o, z1, z2⟩ := hh.blk b r s n h0
        exact ⟨o, by rw [getOld b hb hn]; exact z1, obl_evo hh evo (same b r s n h0 hn) z2⟩
    · intro b o hb
      by_cases hex : ∃ i, σ (.p i) = .ren b
      · obtain ⟨i, hs⟩ := hex
        cases hg : h1.get (.p i) with
        | none => rw [getN i b hs hg] at hb; cases hb
        | some o1 =>
          rcases getA i b hs with h | h
          · rw [h, hg] at hb
            simp at hb
            subst hb
            obtain ⟨e1, e2⟩ := at_σ _ b hs
            rcases g4.dom _ o1 hg with ⟨y, hy⟩ | ⟨hp, s, p, rfl⟩
            · exact .inl ⟨y, by rw [e1]; exact hy⟩
            · refine .inr ⟨by rw [e2]; exact hp, s, p, ?_⟩
              cases p <;> rfl
          · rw [hg] at h; cases h
      · have hn : ∀ i, (b, i) ∉ kp.blocks := fun i hm => hex ⟨i, σlo i b hm⟩
        have hlt : b.lt ν.nxt ν.cnt ∧ h.get b = some o := by
          cases b with
          | m B k =>
            rw [get_getM] at hb
            have hb : (getM (mergeFs h1 kp.blocks h.fs) B k).map (fun p => O.rows p.1 true p.2) = some o := hb
            rw [(mergeFs_get hn1 hlm B k).2 hn, ← get_getM] at hb
            exact ⟨hin _ o hb, hb⟩
          | p b =>
            have h0 : getB (backBs σ h1.bs) b = none := backBs_none (fun j hj => hex ⟨j, hj⟩) _
            have hb : getB (backBs σ h1.bs ++ (delAll h (kp.blocks.map (·.1))).bs) b = some o := hb
            rw [getB_append, h0] at hb
            have hb : (delAll h (kp.blocks.map (·.1))).get (.p b) = some o := hb
            rw [get_delAll] at hb
            split at hb
            · cases hb
            · exact ⟨hin _ o hb, hb⟩
        obtain ⟨e1, e2⟩ := at_old b hlt.1 hn
        rcases hh.dom b o hlt.2 with ⟨y, hy⟩ | ⟨hp, h0⟩
        · exact .inl ⟨y, by rw [e1]; exact hy⟩
        · exact .inr ⟨by rw [e2]; exact hp, h0⟩
    · intro b b' r s n s' n' h0 h0'
      have mix : ∀ i b' s n s' n', ν1.at_ (.p i) = some (r, s, n) → ν.at_ b' = some (r, s', n') → (∀ i, (b', i) ∉ kp.blocks) → False := fun i b' s n s' n' a1 a2 hn => by
        rcases g6.onew r ⟨_, s, n, a1⟩ with h2 | h2
        · exact notown b' r s' n' a2 hn h2
        · have := own_lt r ⟨b', s', n', a2⟩; omega
      rcases src b _ h0 with ⟨i, hs, a1⟩ | ⟨_, hn, a1⟩ <;> rcases src b' _ h0' with ⟨i', hs', a2⟩ | ⟨_, hn', a2⟩
      · have := g4.inj _ _ r s n s' n' a1 a2
        simp at this
        subst this
        rw [hs] at hs'; cases hs'; rfl
      · exact (mix i b' s n s' n' a1 a2 hn').elim
      · exact (mix i' b s' n' s n a2 a1 hn).elim
      · exact hh.inj b b' r s n s' n' a1 a2
    · intro r hr
      refine ⟨(g4.frz r hr).1, ?_⟩
      rintro ⟨b, s, n, hat⟩
      rcases src b _ hat with ⟨i, hs, a1⟩ | ⟨_, hn, a1⟩
      · exact (g4.frz r hr).2 ⟨_, s, n, a1⟩
      · rcases g6.fnew r hr with h2 | h2 | h2
        · exact (hh.frz r h2).2 ⟨b, s, n, a1⟩
        · exact notown b r s n a1 hn h2
        · have := own_lt r ⟨b, s, n, a1⟩; omega
    · show ν.nxt + (ν1.nxt - kp.nxt) = h.nxt + (h1.nxt - kp.nxt)
      rw [hh.nxt, g4.nxt]
    · intro B
      show ν.cnt B = famLen (mergeFs h1 kp.blocks h.fs) B
      rw [mergeFs_len]; exact hh.cnt B
  refine ⟨x, v.tr σ, ν2, F1, mergeH h kp h1, g1, g2, heap, rep_tr (fun _ h => h) tr v x g5, evo, fun b y hy hb => ?_⟩
  have hn : ∀ i, (b, i) ∉ kp.blocks := fun i hm => by
    rw [List.any_eq_false] at hb
    have := hb _ hm
    simp at this
  obtain ⟨r, s, n⟩ := y
  exact ⟨same b r s n hy hn, by rw [(at_old b (ν.lt _ _ hy) hn).1]; exact hy⟩
def KM (P : Program) (G : Nat → Option (List V)) (f : FuncId) (args : List V) (h0 : Hp) (post : Hp → Us → Hp) (R : V → Us → Prop) : Prop := K P G f args h0 (fun _ => true) fun v h1 => ∃ es, h1 = post h0 es ∧ R v es
theorem KM.mono {P : Program} {G : Nat → Option (List V)} {f : FuncId} {args : List V} {h : Hp} {post : Hp → Us → Hp} {R R' : V → Us → Prop} (hk : KM P G f args h post R) (hr : ∀ v es, R v es → R' v es) : KM P G f args h post R' :=
  K.mono hk fun v h' ⟨es, h1, h2⟩ => ⟨es, h1, hr v es h2⟩
def callsF (P : Program) (G : Nat → Option (List V)) (kn : FuncId → Option V) (mode : FuncId → Nat) (fz : Tmp → Bool) (base : Nat) (post : FuncId → Hp → Us → Hp) (rt : FuncId → Us → V → (V → Prop) → Prop) : Calling :=
  ⟨kn, mode, fz, KB P G, K0G P G, fun f args h k => match mode f with
      | 3 => guardB ((lentOf h args).ok && bsOK h) (KM P G f (trL (renOf (lentOf h args).blocks) args) (lentH h (lentOf h args)) (post f) fun v us => guardB (mfit h (post f (lentH h (lentOf h args)) us) (lentOf h args).blocks) <| rt f us v fun v =>
          k (v.tr (backT (lentOf h args).blocks (lentOf h args).nxt h.nxt)) (mergeH h (lentOf h args) (post f (lentH h (lentOf h args)) us)))
      | _ => K P G f args h (fun _ => true) k,
    fun f args h b => match mode f with | 3 => (lentOf h args).blocks.any fun p => p.1.beq b | _ => true, true, base, G, fun _ _ _ _ => False, fun _ => true⟩
theorem typedR_rep {P : Program} {t : Option TypeId} {v : V} {k : V → Prop} (h : typedR P t v k) : ∃ v', k v' ∧ ∀ {F : Nat → Prop} {w : World} {ν : Nu} {x : Value}, rep F w ν v x → rep F w ν v' x := by
  cases t with
  | none => exact ⟨v, h, fun h => h⟩
  | some t => exact typedT_rep h
theorem callsF_ok {P : Program} {G : Nat → Option (List V)} {kn : FuncId → Option V} {mode : FuncId → Nat} {fz : Tmp → Bool} {base : Nat} {post : FuncId → Hp → Us → Hp} {rt : FuncId → Us → V → (V → Prop) → Prop} (hkn : ∀ g r, kn g = some r → K0G P G g [] fun v => v = r) (hrt : ∀ f us v k, rt f us v k → ∃ v', k v' ∧ ∀ {F : Nat → Prop} {w : World} {ν : Nu} {x : Value}, rep F w ν v x → rep F w ν v' x) : (callsF P G kn mode fz base post rt).ok P := by
  refine ⟨hkn, fun _ _ _ _ _ h => K_of_K0 h, fun _ _ _ _ _ h1 h2 => K_of_KB h1 h2, fun _ _ _ _ _ h => K_of_K0t h, fun _ _ _ _ h hr => h.mono hr, fun _ _ _ h => h, ?_, fun _ _ _ _ h => h.elim⟩
  intro f args h R hc
  by_cases hm : mode f = 3
  · simp only [callsF, hm] at hc ⊢
    rw [guardB_iff, Bool.and_eq_true] at hc
    obtain ⟨⟨hok, hbs⟩, hc⟩ := hc
    refine K_frame rfl hok hbs ?_
    intro ν F w xs g1 g2 g3
    refine (hc ν F w xs g1 g2 g3).mono fun e w' ⟨x, v, ν', F', h', z1, ⟨es, z2, z3⟩, z4, z5, z6⟩ => ?_
    have z3 := guardB_iff.1 z3
    obtain ⟨v', hk, hrv⟩ := hrt _ _ _ _ z3.2
    exact ⟨x, v', ν', F', h', z1, by rw [z2]; exact ⟨z3.1, hk⟩, z4, hrv z5, z6⟩
  · simp only [callsF] at hc ⊢
    exact hc
end Go.Proofs.Ytmddjopahcbefaa.Clean
namespace Go.Proofs.Ytmddjopahcbefaa.Clean
set_option linter.unusedVariables false
noncomputable def WYK (P : Program) (cfg : Cfg) (fuel : Nat) (f : FuncId) (fn : Func) (args : List V) (h : Hp) (R : V → Hp → Prop) : Prop :=
  match fn.body with
  | some c => guardB (Nat.ble args.length fn.ntmps && Nat.ble args.length 1000) (WY P cfg fuel ⟨⟨0, []⟩, h.nxt, none, fn.ntmps, f, 0⟩ c (QendX P fn R) ⟨start args, h⟩)
  | none => False
theorem K_of_WYK {P : Program} (hm : P.follows .mixedOrders = true) {cfg : Cfg} (hcf : cfg.ok P) (fuel : Nat) {f : FuncId} {fn : Func} (hf : P.funcs[f]? = some fn) {args : List V} {h : Hp} {R : V → Hp → Prop} (hw : WYK P cfg fuel f fn args h R) : K P cfg.glob f args h (fun _ => true) R := by
  let cfg' : Cfg := { cfg with enter := fun _ => true, known := fun _ _ => none, clean := fun _ => false, spare := fun _ => [] }
  have hc : (callY P cfg' (WY P cfg fuel) ⟨0, []⟩ 0).c f args h R := by
    show cY P cfg' (WY P cfg fuel) ⟨0, []⟩ f args h R
    unfold WYK at hw
    split at hw
    · rename_i c hb
      simp only [cY, cfg', cond_true, cond_false, onSome_iff]
      exact ⟨fn, hf, c, hb, hw⟩
    · exact hw.elim
  have := (callY_ok (cfg := cfg') ⟨hcf.c0, knowsY_none⟩ (WY_sound hm hcf fuel) ⟨0, []⟩ 0).c f args h R hc
  intro ν F w xs g1 g2 g3
  refine (this ν F w xs g1 g2 g3).mono fun e w' ⟨x, v, ν', F', h', z1, z2, z3, z4, z5, z6⟩ => ?_
  exact ⟨x, v, ν', F', h', z1, z2, z3, z4, z5, fun b y hb ht => by cases ht⟩
def sameP (_ : FuncId) (h : Hp) (_ : Us) : Hp := h
noncomputable def cfgM (P : Program) (glob : Nat → Option (List V)) (mode : FuncId → Nat) (T : FuncId → Option TypeId) (enter : FuncId → Bool) (kps : FuncId → Nat → Option (List Tmp)) : Cfg where
  C0 := callsF P glob (fun _ => none) mode (fun _ => false) 0 sameP fun f _ v k => typedR P (T f) v k
  enter := enter
  clean := fun _ => true
  kps := kps
theorem cfgM_ok {P : Program} {glob : Nat → Option (List V)} {mode : FuncId → Nat} {T : FuncId → Option TypeId} {enter : FuncId → Bool} {kps : FuncId → Nat → Option (List Tmp)} : (cfgM P glob mode T enter kps).ok P :=
  ⟨callsF_ok (fun _ _ h => by cases h) (fun f us v k h => typedR_rep h), knowsY_none⟩
theorem KM_of_WYKp {P : Program} (hm : P.follows .mixedOrders = true) {cfg : Cfg} (hcf : cfg.ok P) (fuel : Nat) {f : FuncId} {fn : Func} (hf : P.funcs[f]? = some fn) {args : List V} {h : Hp} {post : Hp → Us → Hp} {Q : V → Us → Prop} (hw : ∀ R : V → Hp → Prop, (∀ v us, Q v us → R v (post h us)) → WYK P cfg fuel f fn args h R) : KM P cfg.glob f args h post Q := by
  unfold KM
  refine K_of_WYK hm hcf fuel hf (hw _ fun v us hv => ⟨us, rfl, hv⟩)
theorem K0_by {P : Program} (hm : P.follows .mixedOrders = true) {cfg : Cfg} (hcf : cfg.ok P) (fuel : Nat) {f : FuncId} {fn : Func} (hf : P.funcs[f]? = some fn) {args : List V} {R : V → Prop} {p : Prop} (h : p = WY0 P cfg fuel f fn args R) (hp : p) : K0G P cfg.glob f args R := K0_of_WY0 hm hcf fuel hf (h ▸ hp)
end Go.Proofs.Ytmddjopahcbefaa.Clean
namespace Go.Proofs.Ytmddjopahcbefaa.Clean
set_option linter.unusedVariables false
section
variable (cfg : Cfg) (base : Bs) (P : Program) (C : Calling) (N : Nat) (all : List Oper)
end
inductive Stp where
  | q (p : Prep)
  | e (p : Prep)
  | w (p : Prep) (rs : List Prep)
  | bad
section
variable (cfg : Cfg) (base : Bs) (P : Program) (C : Calling) (N : Nat) (all : List Oper)
end
end Go.Proofs.Ytmddjopahcbefaa.Clean

namespace Go.Proofs.Ytmddjopahcbefaa.Clean
set_option linter.unusedVariables false
def forceN (n : Nat) (k : Nat → Prop) : Prop := match n with
  | 0 => k 0
  | m + 1 => k (m + 1)
def forceV (v : V) (k : V → Prop) : Prop := match v with
  | .raw x => k (.raw x)
  | .ptr b i o => k (.ptr b i o)
  | .sl b lo n => k (.sl b lo n)
  | .lst s es => k (.lst s es)
  | v => k v
def forceRow : List V → (List V → Prop) → Prop
  | [], k => k []
  | v :: r, k => forceV v fun v => forceRow r fun r => k (v :: r)
def forceArg (v : V) (k : V → Prop) : Prop := match v with
  | .agg cs => forceRow cs fun cs => k (.agg cs)
  | .fn f a c => forceRow a fun a => forceRow c fun c => k (.fn f a c)
  | v => forceV v k
def forceArgs : List V → (List V → Prop) → Prop
  | [], k => k []
  | v :: r, k => forceArg v fun v => forceArgs r fun r => k (v :: r)
def forceRows : List (List V) → (List (List V) → Prop) → Prop
  | [], k => k []
  | v :: r, k => forceRow v fun v => forceRows r fun r => k (v :: r)
def forceO (o : O) (k : O → Prop) : Prop := match o with
  | .rows s true es => k (.rows s true es)
  | .rows s false es => forceRows es fun es => k (.rows s false es)
  | .mp es => k (.mp es)
  | .lp q => k (.lp q)
  | .it x n l => k (.it x n l)
def forceBs : List (Nat × O) → (List (Nat × O) → Prop) → Prop
  | [], k => k []
  | (a, o) :: r, k => forceN a fun a => forceO o fun o => forceBs r fun r => k ((a, o) :: r)
def forceH (h : Hp) (k : Hp → Prop) : Prop := match h with
  | ⟨bs, n, fs⟩ => forceBs bs fun bs => forceN n fun n => k ⟨bs, n, fs⟩
def forceIds : List Id → (List Id → Prop) → Prop
  | [], k => k []
  | .p n :: r, k => forceN n fun n => forceIds r fun r => k (.p n :: r)
  | .m B j :: r, k => forceIds r fun r => k (.m B j :: r)
def keepOf (bs : List Id) : Keep := ⟨[], bs.zipIdx, bs.length, [], [], []⟩
def lentIds (h : Hp) (vs : List V) : List Id := (reach 200 h (refsL vs) []).filter fun b => h.has b
theorem forceN_eq (n : Nat) (k : Nat → Prop) : forceN n k = k n := by cases n <;> rfl
theorem forceV_eq (v : V) (k : V → Prop) : forceV v k = k v := by cases v <;> rfl
theorem forceRow_eq : ∀ (l : List V) (k : List V → Prop), forceRow l k = k l
  | [], k => rfl
  | v :: r, k => by rw [forceRow, forceV_eq, forceRow_eq]
theorem forceArg_eq (v : V) (k : V → Prop) : forceArg v k = k v := by
  cases v <;> first | exact forceRow_eq _ _ | (show forceRow _ _ = _; rw [forceRow_eq, forceRow_eq]) | rfl
theorem forceArgs_eq : ∀ (l : List V) (k : List V → Prop), forceArgs l k = k l
  | [], k => rfl
  | v :: r, k => by rw [forceArgs, forceArg_eq, forceArgs_eq]
theorem forceRows_eq : ∀ (l : List (List V)) (k : List (List V) → Prop), forceRows l k = k l
  | [], k => rfl
  | v :: r, k => by rw [forceRows, forceRow_eq, forceRows_eq]
theorem forceO_eq (o : O) (k : O → Prop) : forceO o k = k o := by
  cases o with
  | rows s p es => cases p with
    | true => rfl
    | false => exact forceRows_eq es _
  | mp es => rfl
  | lp q => rfl
  | it x n l => rfl
theorem forceBs_eq : ∀ (l : List (Nat × O)) (k : List (Nat × O) → Prop), forceBs l k = k l
  | [], k => rfl
  | (a, o) :: r, k => by rw [forceBs, forceN_eq, forceO_eq, forceBs_eq]
theorem forceH_eq (h : Hp) (k : Hp → Prop) : forceH h k = k h := by
  obtain ⟨bs, n, fs⟩ := h
  show forceBs bs _ = _
  rw [forceBs_eq, forceN_eq]
theorem forceIds_eq : ∀ (l : List Id) (k : List Id → Prop), forceIds l k = k l
  | [], k => rfl
  | .p n :: r, k => by rw [forceIds, forceN_eq, forceIds_eq]
  | .m B j :: r, k => by rw [forceIds, forceIds_eq]
theorem lent_eq (h : Hp) (vs : List V) : lentOf h vs = keepOf (lentIds h vs) := rfl
def callsG (P : Program) (G : Nat → Option (List V)) (mode : FuncId → Nat) (post : FuncId → List V → Hp → Us → Hp) (rt : FuncId → List V → Us → V → (V → Prop) → Prop) : Calling :=
  ⟨fun _ => none, mode, fun _ => false, KB P G, K0G P G, fun f args h k => match mode f with
      | 3 => forceArgs args fun args => forceIds (lentIds h args) fun ids => guardB ((keepOf ids).ok && bsOK h) (forceH (lentH h (keepOf ids)) fun h0 => KM P G f (trL (renOf (keepOf ids).blocks) args) h0 (post f args) fun v us => guardB (mfit h (post f args h0 us) (keepOf ids).blocks) <| rt f args us v fun v =>
          forceH (mergeH h (keepOf ids) (post f args h0 us)) fun h' => forceV (v.tr (backT (keepOf ids).blocks (keepOf ids).nxt h.nxt)) fun v => k v h')
      | _ => K P G f args h (fun _ => true) k,
    fun f args h b => match mode f with | 3 => (lentOf h args).blocks.any fun p => p.1.beq b | _ => true, true, 0, G, fun _ _ _ _ => False, fun _ => true⟩
theorem callsG_ok {P : Program} {G : Nat → Option (List V)} {mode : FuncId → Nat} {post : FuncId → List V → Hp → Us → Hp} {rt : FuncId → List V → Us → V → (V → Prop) → Prop} (hrt : ∀ f args us v k, rt f args us v k → ∃ v', k v' ∧ ∀ {F : Nat → Prop} {w : World} {ν : Nu} {x : Value}, rep F w ν v x → rep F w ν v' x) : (callsG P G mode post rt).ok P := by
  refine ⟨(fun _ _ h => by cases h), fun _ _ _ _ _ h => K_of_K0 h, fun _ _ _ _ _ h1 h2 => K_of_KB h1 h2, fun _ _ _ _ _ h => K_of_K0t h, fun _ _ _ _ h hr => h.mono hr, fun _ _ _ h => h, ?_, fun _ _ _ _ h => h.elim⟩
  intro f args h R hc
  by_cases hm : mode f = 3
  · simp only [callsG, hm] at hc ⊢
    rw [forceArgs_eq, forceIds_eq, ← lent_eq, guardB_iff, Bool.and_eq_true, forceH_eq] at hc
    obtain ⟨⟨hok, hbs⟩, hc⟩ := hc
    refine K_frame rfl hok hbs ?_
    intro ν F w xs g1 g2 g3
    refine (hc ν F w xs g1 g2 g3).mono fun e w' ⟨x, v, ν', F', h', z1, ⟨es, z2, z3⟩, z4, z5, z6⟩ => ?_
    have z3 := guardB_iff.1 z3
    obtain ⟨v', hk, hrv⟩ := hrt _ _ _ _ _ z3.2
    rw [forceH_eq, forceV_eq] at hk
    exact ⟨x, v', ν', F', h', z1, by rw [z2]; exact ⟨z3.1, hk⟩, z4, hrv z5, z6⟩
  · simp only [callsG] at hc ⊢
    exact hc
noncomputable def cfgG (P : Program) (glob : Nat → Option (List V)) (mode : FuncId → Nat) (post : FuncId → List V → Hp → Us → Hp) (rt : FuncId → List V → Us → V → (V → Prop) → Prop) (enter : FuncId → Bool) (kps : FuncId → Nat → Option (List Tmp)) : Cfg where
  C0 := callsG P glob mode post rt
  enter := enter
  clean := fun _ => true
  kps := kps
theorem cfgG_ok {P : Program} {glob : Nat → Option (List V)} {mode : FuncId → Nat} {post : FuncId → List V → Hp → Us → Hp} {rt : FuncId → List V → Us → V → (V → Prop) → Prop} {enter : FuncId → Bool} {kps : FuncId → Nat → Option (List Tmp)} (hrt : ∀ f args us v k, rt f args us v k → ∃ v', k v' ∧ ∀ {F : Nat → Prop} {w : World} {ν : Nu} {x : Value}, rep F w ν v x → rep F w ν v' x) : (cfgG P glob mode post rt enter kps).ok P :=
  ⟨callsG_ok hrt, knowsY_none⟩
end Go.Proofs.Ytmddjopahcbefaa.Clean
namespace Go.Proofs.Ytmddjopahcbefaa.Clean
set_option linter.unusedVariables false
set_option linter.unusedSimpArgs false
noncomputable def WYKc (P : Program) (cfg : Cfg) (fuel : Nat) (f : FuncId) (fn : Func) (args : List V) (h : Hp) (R : V → Prop) : Prop :=
  match fn.body with
  | some c => guardB (Nat.ble args.length fn.ntmps && Nat.ble args.length 1000) (WY P cfg fuel ⟨⟨h.nxt, []⟩, h.nxt, none, fn.ntmps, f, 0⟩ c (QendX P fn fun v _ => R v) ⟨start args, h⟩)
  | none => False
theorem K_of_WYKc {P : Program} (hm : P.follows .mixedOrders = true) {cfg : Cfg} (hcf : cfg.ok P) (fuel : Nat) {f : FuncId} {fn : Func} (hf : P.funcs[f]? = some fn) {args : List V} {h : Hp} {R : V → Prop} (hw : WYKc P cfg fuel f fn args h R) : K P cfg.glob f args h (fun b => !b.low h.nxt) fun v _ => R v := by
  let cfg' : Cfg := { cfg with enter := fun _ => true, known := fun _ _ => none, clean := fun _ => true, spare := fun _ => [] }
  have hc : (callY P cfg' (WY P cfg fuel) ⟨0, []⟩ 0).c f args h (fun v _ => R v) := by
    show cY P cfg' (WY P cfg fuel) ⟨0, []⟩ f args h (fun v _ => R v)
    unfold WYKc at hw
    split at hw
    · rename_i c hb
      simp only [cY, cfg', cond_true, onSome_iff, Cfg.baseOf]
      exact ⟨fn, hf, c, hb, hw⟩
    · exact hw.elim
  have := (callY_ok (cfg := cfg') ⟨hcf.c0, knowsY_none⟩ (WY_sound hm hcf fuel) ⟨0, []⟩ 0).c f args h _ hc
  intro ν F w xs g1 g2 g3
  refine (this ν F w xs g1 g2 g3).mono fun e w' ⟨x, v, ν', F', h', z1, z2, z3, z4, z5, z6⟩ => ?_
  refine ⟨x, v, ν', F', h', z1, z2, z3, z4, z5, fun b y hb ht => z6 b y hb ?_⟩
  have ht : (!b.low h.nxt) = false := ht
  show tY cfg' ⟨0, []⟩ f args h b = false
  simp only [tY, cfg', cond_true, Cfg.baseOf, Id.lows, List.any_nil, Bool.or_false]
  exact ht
noncomputable def WYB (P : Program) (cfg : Cfg) (fuel : Nat) (f : FuncId) (fn : Func) (args : List V) (h : Hp) (R : V → Prop) : Prop :=
  match fn.body with
  | some c => guardB (Nat.ble args.length fn.ntmps && Nat.ble args.length 1000) (WY P cfg fuel ⟨⟨h.nxt, []⟩, h.nxt, none, fn.ntmps, f, 0⟩ c (QendX P fn fun v h' => dataT h.nxt (gcH h.nxt v h') v R) ⟨start args, h⟩)
  | none => False
theorem KB_of_WYB {P : Program} (hm : P.follows .mixedOrders = true) {cfg : Cfg} (hcf : cfg.ok P) (fuel : Nat) {f : FuncId} {fn : Func} (hf : P.funcs[f]? = some fn) {args : List V} {h : Hp} {R : V → Prop} (hfs : h.fs = []) (hw : WYB P cfg fuel f fn args h R) : KB P cfg.glob f args h R := by
  let cfg' : Cfg := { cfg with enter := fun _ => true, known := fun _ _ => none, clean := fun _ => true, spare := fun _ => [] }
  have hc : (callY P cfg' (WY P cfg fuel) ⟨0, []⟩ 0).c f args h (fun v h' => dataT h.nxt h' v R) := by
    show cY P cfg' (WY P cfg fuel) ⟨0, []⟩ f args h (fun v h' => dataT h.nxt h' v R)
    unfold WYB at hw
    split at hw
    · rename_i c hb
      simp only [cY, cfg', cond_true, onSome_iff, Cfg.baseOf]
      exact ⟨fn, hf, c, hb, hw⟩
    · exact hw.elim
  have := (callY_ok (cfg := cfg') ⟨hcf.c0, knowsY_none⟩ (WY_sound hm hcf fuel) ⟨0, []⟩ 0).c f args h _ hc
  intro ν F w xs g1 g2 g3
  refine (this ν F w xs g1 g2 g3).mono fun e w' ⟨x, v, ν', F', h', z1, z2, z3, z4, z5, z6⟩ => ?_
  obtain ⟨d, d1, d2⟩ := dataT_D z2
  refine ⟨x, v, d, ν', F', h', z1, d2, d1, z3, z4, z5, fun b y hb => z6 b y hb ?_⟩
  show tY cfg' ⟨0, []⟩ f args h b = false
  simp only [tY, cfg', cond_true, Cfg.baseOf, Id.lows, List.any_nil, Bool.or_false]
  have hlt := ν.lt _ _ hb
  cases b with
  | p a =>
    have : a < h.nxt := by have h2 : a < ν.nxt := hlt; rw [g1.nxt] at h2; exact h2
    show (!Nat.blt a h.nxt) = false
    rw [show Nat.blt a h.nxt = true from Nat.ble_eq_true_of_le this]; rfl
  | m B j =>
    have h2 : j < ν.cnt B := hlt
    rw [g1.cnt B, hfs] at h2
    exact absurd h2 (Nat.not_lt_zero _)
section
variable {ν : Nu} {F : Nat → Prop} {h : Hp} {w w' : World}
end
end Go.Proofs.Ytmddjopahcbefaa.Clean
namespace Go.Proofs.Ytmddjopahcbefaa
open Go Go.Proofs.Ytmddjopahcbefaa.Clean
set_option linter.unusedVariables false
set_option maxRecDepth 100000
def glX : Nat → Option (List V) := fun _ => none
theorem hmX : Try.prog.follows .mixedOrders = true := by kernel_rfl
def u8v (n : Int) : V := .raw (.int .u8 n)
abbrev It := Int × Int × Int
def itm (x : It) : List V := [iv x.1, u8v x.2.1, iv x.2.2]
def itl (l : List It) : List (List V) := l.map itm
def lsI (l : List It) : V := match l with | [] => nilS | x :: r => .lst 3 (itl (x :: r))
def kpD : FuncId → Nat → Option (List Tmp) := slotsOf [(35, 0, [0, 3, 4]), (39, 0, [0, 3]), (40, 0, [0, 1, 2, 9, 10, 11, 12]), (40, 2, [0, 1, 2, 9, 10, 11, 12, 13]), (41, 0, [1, 6, 9, 10, 11]), (42, 0, [0, 1, 7, 8, 9]), (13, 0, [13, 14, 15]), (15, 0, [0, 1, 5]), (16, 0, [0, 4, 5]), (96, 0, [0, 1, 2, 7]), (37, 0, [4, 10, 11, 12])]
def moD (f : FuncId) : Nat := 0
def tyD (f : FuncId) : Option TypeId := none
noncomputable def cfD : Cfg := cfgM Try.prog glX moD tyD (inN [43, 44, 57, 105, 106, 125, 131, 138, 94, 95, 91, 36, 8]) kpD
noncomputable def sh42 (l : List It) (k : Nat) : St := ⟨mkT [(0, V.lst 3 (itl l)), (1, V.fn (Fn.func 43) [] []), (7, V.lst 3 (itl l)), (8, iv ((itl l).length : Int)), (9, iv (k : Int))], ⟨[], 0, []⟩⟩
noncomputable def sh13 (l : List It) (k : Nat) : St := ⟨mkT [(13, V.lst 3 (itl l)), (14, iv ((itl l).length : Int)), (15, iv (k : Int))], ⟨[], 0, []⟩⟩
noncomputable def sh39 (l : List It) (k : Nat) : St := ⟨mkT [(0, V.lst 3 (itl l)), (3, iv (k : Int))], ⟨[], 0, []⟩⟩
noncomputable def sh96 (l : List It) (a b : Int) (k : Nat) : St := ⟨mkT [(0, V.lst 3 (itl l)), (1, iv a), (2, u8v b), (7, iv (k : Int))], ⟨[], 0, []⟩⟩
noncomputable def sh15 (s s' : Nat) (l m : List It) (k : Nat) : St := ⟨mkT [(0, V.lst s (itl l)), (1, V.lst s' (itl m)), (5, iv (k : Int))], ⟨[], 0, []⟩⟩
noncomputable def sh35 (l : List It) (n : Int) (k : Nat) : St := ⟨mkT [(0, V.lst 3 (itl l)), (3, iv n), (4, iv (k : Int))], ⟨[], 0, []⟩⟩
end Go.Proofs.Ytmddjopahcbefaa
namespace Go.Proofs.Ytmddjopahcbefaa
open Go Go.Proofs.Ytmddjopahcbefaa.Clean
set_option linter.unusedVariables false
set_option linter.unusedSimpArgs false
set_option maxRecDepth 10000
theorem hcD : cfD.ok Try.prog := cfgM_ok
theorem ifB_t {b : Bool} {p q : Prop} (hb : b = true) (h : p) : ifB b p q := by subst hb; exact h
theorem ifB_f {b : Bool} {p q : Prop} (hb : b = false) (h : q) : ifB b p q := by subst hb; exact h
theorem onIntK_u8 {n : Int} {k : Int → Prop} (h : k n) : onIntK .u8 (u8v n) k := h
theorem hJ' {J : St → Prop} {s s' : St} (he : s = s') (h : J s') : J s := he ▸ h
theorem itl_length (l : List It) : (itl l).length = l.length := by simp [itl]
theorem itl_get {l : List It} {i : Nat} {x : It} (h : l[i]? = some x) : (itl l)[i]? = some (itm x) := by simp [itl, h]
theorem wr1i {i n : Nat} (h : i < n) (hn : (n : Int) ≤ 9223372036854775807) : IntKind.i64.wrap ((i : Int) + 1) = ((i + 1 : Nat) : Int) := by rw [wr (by omega) (by omega)]; simp
theorem getI {α : Type} {l : List α} {k : Nat} (h : k < l.length) : ∃ x, l[k]? = some x := ⟨l[k], by simp [h]⟩
theorem sub_all {α : Type} (l : List α) : sub l 0 l.length = l := by simp [sub]
theorem itl_take (l : List It) : List.take l.length (itl l) = itl l := by rw [← itl_length]; exact List.take_length
theorem lsI_b {l : List It} (h : l ≠ []) : lsI l = .lst 3 (itl l) := by cases l with | nil => exact (h rfl).elim | cons x r => rfl
noncomputable def dc (p : Prop) : Bool := @decide p (Classical.propDecidable p)
theorem dc_t {p : Prop} (h : p) : dc p = true := by simp [dc, h]
theorem dc_f {p : Prop} (h : ¬ p) : dc p = false := by simp [dc, h]
theorem dc_true {p : Prop} (h : dc p = true) : p := by simpa [dc] using h
theorem rt {p : Prop} {R : V → Prop} (h : R (bv (dc p))) (hp : p) : R (bv true) := by rw [dc_t hp] at h; exact h
theorem rf {p : Prop} {R : V → Prop} (h : R (bv (dc p))) (hp : ¬ p) : R (bv false) := by rw [dc_f hp] at h; exact h
def Bef (x y : It) : Prop := x.1 < y.1 ∨ x.1 = y.1 ∧ x.2.1 < y.2.1
def cfP (x y : It) : Int := if x.1 < y.1 then -1 else if y.1 < x.1 then 1 else if x.2.1 < y.2.1 then -1 else if y.2.1 < x.2.1 then 1 else 0
theorem cfP_lt {x y : It} : cfP x y < 0 ↔ Bef x y := by
  unfold cfP Bef
  split
  · simp; omega
  · split
    · simp; omega
    · split
      · simp; omega
      · split <;> simp <;> omega
theorem parts97 {a b c d : Int} {R : V → Prop} (h : R (iv (cfP (a, b, 0) (c, d, 0)))) : K0G Try.prog glX 97 [.agg [iv a, u8v b], .agg [iv c, u8v d]] R := by
  refine K0_of_WY0 hmX hcD 3000 Try.func97 (see (p := ifB (a != a) (ifB (c != c) (ifB (b != b) (ifB (d != d) (R (iv (0 : Int))) (R (iv (-1 : Int)))) (ifB (d != d) (R (iv (1 : Int))) (ifB (decide (b < d)) (R (iv (-1 : Int))) (ifB (decide (b > d)) (R (iv (1 : Int))) (R (iv (0 : Int))))))) (ifB (b != b) (ifB (d != d) (R (iv (-1 : Int))) (R (iv (-1 : Int)))) (ifB (d != d) (R (iv (-1 : Int))) (ifB (decide (b < d)) (R (iv (-1 : Int))) (ifB (decide (b > d)) (R (iv (-1 : Int))) (R (iv (-1 : Int)))))))) (ifB (c != c) (ifB (b != b) (ifB (d != d) (R (iv (1 : Int))) (R (iv (1 : Int)))) (ifB (d != d) (R (iv (1 : Int))) (ifB (decide (b < d)) (R (iv (1 : Int))) (ifB (decide (b > d)) (R (iv (1 : Int))) (R (iv (1 : Int))))))) (ifB (decide (a < c)) (ifB (b != b) (ifB (d != d) (R (iv (-1 : Int))) (R (iv (-1 : Int)))) (ifB (d != d) (R (iv (-1 : Int))) (ifB (decide (b < d)) (R (iv (-1 : Int))) (ifB (decide (b > d)) (R (iv (-1 : Int))) (R (iv (-1 : Int))))))) (ifB (decide (a > c)) (ifB (b != b) (ifB (d != d) (R (iv (1 : Int))) (R (iv (1 : Int)))) (ifB (d != d) (R (iv (1 : Int))) (ifB (decide (b < d)) (R (iv (1 : Int))) (ifB (decide (b > d)) (R (iv (1 : Int))) (R (iv (1 : Int))))))) (ifB (b != b) (ifB (d != d) (R (iv (0 : Int))) (R (iv (-1 : Int)))) (ifB (d != d) (R (iv (1 : Int))) (ifB (decide (b < d)) (R (iv (-1 : Int))) (ifB (decide (b > d)) (R (iv (1 : Int))) (R (iv (0 : Int))))))))))) (by kernel_rfl) ?_)
  simp only [bne_self_eq_false]
  unfold cfP at h
  simp only at h
  refine ifB_f rfl (ifB_f rfl (ifB_mk (fun h1 => ?_) (fun h1 => ifB_mk (fun h2 => ?_) (fun h2 => ?_))))
  · rw [if_pos (of_decide_eq_true h1)] at h
    refine ifB_f rfl (ifB_f rfl (ifB_mk (fun _ => ?_) (fun _ => ifB_mk (fun _ => ?_) (fun _ => ?_)))) <;> exact h
  · rw [if_neg (of_decide_eq_false h1), if_pos (show c < a from of_decide_eq_true h2)] at h
    refine ifB_f rfl (ifB_f rfl (ifB_mk (fun _ => ?_) (fun _ => ifB_mk (fun _ => ?_) (fun _ => ?_)))) <;> exact h
  · rw [if_neg (of_decide_eq_false h1), if_neg (show ¬ c < a from of_decide_eq_false h2)] at h
    refine ifB_f rfl (ifB_f rfl (ifB_mk (fun h3 => ?_) (fun h3 => ifB_mk (fun h4 => ?_) (fun h4 => ?_))))
    · rw [if_pos (of_decide_eq_true h3)] at h; exact h
    · rw [if_neg (of_decide_eq_false h3), if_pos (show d < b from of_decide_eq_true h4)] at h; exact h
    · rw [if_neg (of_decide_eq_false h3), if_neg (show ¬ d < b from of_decide_eq_false h4)] at h; exact h
def Ord (l : List It) : Prop := ∀ (i : Nat) (x y : It), l[i]? = some x → l[i + 1]? = some y → Bef x y
def Okp (x : It) : Prop := 0 ≤ x.1 ∧ x.1 ≤ 15 ∧ x.2.1 ≤ 15
theorem order42 {l : List It} {R : V → Prop} (hl : l.length ≤ 1000) (h : R (bv (dc (Ord l ∧ ∀ x ∈ l, Okp x)))) : K0G Try.prog glX 42 [.lst 3 (itl l), .fn (.func 43) [] []] R := by
  refine K0_of_WY0 hmX hcD 3000 Try.func42 (see (p := La 0 [(0 : Tmp), (1 : Tmp), (7 : Tmp), (8 : Tmp), (9 : Tmp)] (WY Try.prog cfD 2995 (Env.mk (Bs.mk 0 []) 0 none 38 42 0) (cdAt [1, 0, 1, 0, 0] (bodyOf Try.f42))) (Qblk 0 (Qthen (WY Try.prog cfD 2998 (Env.mk (Bs.mk 0 []) 0 none 38 42 0) (cdAt [1, 1] (bodyOf Try.f42)) (QendX Try.prog Try.f42 fun v h => R (frzW h v))) (QendX Try.prog Try.f42 fun v h => R (frzW h v)))) (St.mk (mkT [(0, V.lst 3 (itl l)), (1, V.fn (Fn.func (43 : FuncId)) [] []), (7, V.lst 3 (itl l)), (8, iv (↑(itl l).length : Int)), (9, iv (0 : Int))]) (Hp.mk [] 0 []))) (by kernel_rfl) ?_)
  refine La.of (σ := Nat) (fun k => sh42 l k) (fun k => k ≤ l.length ∧ (∀ (i : Nat) (x y : It), i + 1 < k → l[i]? = some x → l[i + 1]? = some y → Bef x y) ∧ ∀ (i : Nat) (x : It), i < k → l[i]? = some x → Okp x) (fun k => l.length - k) 0 (by kernel_rfl) ⟨by simp, by simp, by simp⟩ ?_
  rintro k ⟨g1, g2, g3⟩ J hJ
  refine see (p := ifB (decide ((↑k : Int) < (↑(itl l).length : Int))) (onSome (itl l)[k]? fun row => onCons (List.drop 0 row) fun u r => onIntK IntKind.i64 u fun n => onCons r fun u r => onIntK IntKind.u8 u fun n_1 => onCons r fun u r => onIntK IntKind.i64 u fun n_2 => ifB (decide ((0 : Int) ≤ n)) (ifB (decide (n ≤ (15 : Int))) (ifB (!decide (n_1 ≤ (15 : Int))) (R (bv false)) (ifB (decide ((↑k : Int) > (0 : Int))) (onNat (IntKind.i64.wrap ((↑k : Int) - (1 : Int))) fun m => onSome (itl l)[m]? fun row => onCons (List.drop 0 row) fun u r => onIntK IntKind.i64 u fun n_3 => onCons r fun u r => onIntK IntKind.u8 u fun n_4 => onCons r fun u r => onIntK IntKind.i64 u fun n_5 => K0G Try.prog glX 97 [V.agg [iv n_3, V.raw (Value.int IntKind.u8 n_4)], V.agg [iv n, V.raw (Value.int IntKind.u8 n_1)]] fun v => onIntK IntKind.i64 v fun n => ifB (decide (n ≥ (0 : Int))) (R (bv false)) (J (St.mk (mkT [(0, V.lst 3 (itl l)), (1, V.fn (Fn.func (43 : FuncId)) [] []), (7, V.lst 3 (itl l)), (8, iv (↑(itl l).length : Int)), (9, iv (IntKind.i64.wrap ((↑k : Int) + (1 : Int))))]) (Hp.mk [] 0 [])))) (J (St.mk (mkT [(0, V.lst 3 (itl l)), (1, V.fn (Fn.func (43 : FuncId)) [] []), (7, V.lst 3 (itl l)), (8, iv (↑(itl l).length : Int)), (9, iv (IntKind.i64.wrap ((↑k : Int) + (1 : Int))))]) (Hp.mk [] 0 []))))) (R (bv false))) (R (bv false))) (R (bv true))) (by kernel_rfl) ?_
  simp only [itl_length]
  refine ifB_mk (fun hb => ?_) (fun hb => ?_)
  · have hlt : k < l.length := by have := of_decide_eq_true hb; omega
    obtain ⟨x, hx⟩ := getI hlt
    have bad : ¬ Okp x → R (bv false) := fun hn => rf h (fun hp => hn (hp.2 x (List.mem_of_getElem? hx)))
    refine onSome_mk (itl_get hx) (onCons_cons (onIntK_iv (onCons_cons (onIntK_u8 (onCons_cons (onIntK_iv ?_))))))
    refine ifB_mk (fun a1 => ifB_mk (fun a2 => ifB_mk (fun a3 => bad (fun hp => by have := hp.2.2; simp at a3; omega)) (fun a3 => ?_)) (fun a2 => bad (fun hp => absurd hp.2.1 (of_decide_eq_false a2)))) (fun a1 => bad (fun hp => absurd hp.1 (of_decide_eq_false a1)))
    have hok : Okp x := ⟨of_decide_eq_true a1, of_decide_eq_true a2, by simpa using a3⟩
    rw [wr1i hlt (by omega)]
    have go : (0 < k → ∀ y, l[k - 1]? = some y → Bef y x) → J (sh42 l (k + 1)) := fun hbef => hJ (k + 1) ⟨by omega, fun i y z hi hy hz => by
      rcases Nat.lt_succ_iff_lt_or_eq.1 hi with q | q
      · exact g2 i y z q hy hz
      · rw [q] at hz
        rw [hx] at hz
        cases hz
        exact hbef (by omega) y (by rw [show k - 1 = i from by omega]; exact hy), fun i y hi hy => by
      rcases Nat.lt_succ_iff_lt_or_eq.1 hi with q | q
      · exact g3 i y q hy
      · rw [q, hx] at hy; cases hy; exact hok⟩ (by omega)
    have go' : (0 < k → ∀ y, l[k - 1]? = some y → Bef y x) → J ⟨mkT [(0, V.lst 3 (itl l)), (1, V.fn (Fn.func 43) [] []), (7, V.lst 3 (itl l)), (8, iv (l.length : Int)), (9, iv ((k + 1 : Nat) : Int))], ⟨[], 0, []⟩⟩ := fun hbef => hJ' (by simp [sh42, itl_length]) (go hbef)
    refine ifB_mk (fun hk => ?_) (fun hk => go' (fun h0 => by have := of_decide_eq_false hk; omega))
    have hk0 : 0 < k := by have := of_decide_eq_true hk; omega
    obtain ⟨y, hy⟩ := getI (l := l) (k := k - 1) (by omega)
    refine onNat_mk (m := k - 1) (by rw [wr (by omega) (by omega)]; omega) ?_
    refine onSome_mk (itl_get hy) (onCons_cons (onIntK_iv (onCons_cons (onIntK_u8 (onCons_cons (onIntK_iv ?_))))))
    have hb : Bef y x ↔ cfP (y.1, y.2.1, 0) (x.1, x.2.1, 0) < 0 := by rw [cfP_lt]; rfl
    refine parts97 (onIntK_iv (ifB_mk (fun hc => rf h (fun hp => ?_)) (fun hc => go' (fun _ y' hy' => ?_))))
    · have := hb.1 (hp.1 (k - 1) y x hy (by rw [show k - 1 + 1 = k from by omega]; exact hx))
      have := of_decide_eq_true hc
      omega
    · rw [hy] at hy'
      cases hy'
      exact hb.2 (by have := of_decide_eq_false hc; omega)
  · have hk : k = l.length := by have := of_decide_eq_false hb; omega
    refine rt h ⟨fun i x y hx hy => g2 i x y ?_ hx hy, fun x hx => ?_⟩
    · have := (List.getElem?_eq_some_iff.1 hy).1; omega
    · obtain ⟨i, hi⟩ := List.getElem?_of_mem hx
      exact g3 i x (by have := (List.getElem?_eq_some_iff.1 hi).1; omega) hi
def Stk (l : List It) : Prop := l.length ≤ 30 ∧ Ord l ∧ (∀ x ∈ l, Okp x) ∧ ∀ x ∈ l, 1 ≤ x.2.2 ∧ x.2.2 ≤ 1000
noncomputable def stkE (l : List It) : Int := if dc (Stk l) = true then 0 else 8
theorem stk0 {l : List It} {R : V → Prop} (h : R (iv (stkE l))) (hs : Stk l) : R (iv 0) := by rw [stkE, if_pos (dc_t hs)] at h; exact h
theorem stk8 {l : List It} {R : V → Prop} (h : R (iv (stkE l))) (hs : ¬ Stk l) : R (iv 8) := by rw [stkE, if_neg (by rw [dc_f hs]; simp)] at h; exact h
theorem check13 {l : List It} {R : V → Prop} (h : R (iv (stkE l))) : K0G Try.prog glX 13 [.lst 3 (itl l)] R := by
  refine K0_of_WY0 hmX hcD 3000 Try.func13 (see (p := ifB (decide ((↑(itl l).length : Int) > (30 : Int))) (R (iv (8 : Int))) (K0G Try.prog glX 42 [V.lst 3 (itl l), V.fn (Fn.func 43) [] []] fun v => onBool v fun b => ifB (!b) (R (iv (8 : Int))) (La 0 [(13 : Tmp), (14 : Tmp), (15 : Tmp)] (WY Try.prog cfD 2994 (Env.mk (Bs.mk 0 []) 0 none 24 13 0) (cdAt [1, 1, 0, 1, 0, 0] (bodyOf Try.f13))) (Qblk 0 (Qthen (WY Try.prog cfD 2997 (Env.mk (Bs.mk 0 []) 0 none 24 13 0) (cdAt [1, 1, 1] (bodyOf Try.f13)) (QendX Try.prog Try.f13 fun v h => R (frzW h v))) (QendX Try.prog Try.f13 fun v h => R (frzW h v)))) (St.mk (mkT [(13, V.lst 3 (itl l)), (14, iv (↑(itl l).length : Int)), (15, iv (0 : Int))]) (Hp.mk [] 0 []))))) (by kernel_rfl) ?_)
  have bad := fun hn => stk8 (R := R) h hn
  rw [itl_length]
  refine ifB_mk (fun hl => bad (fun hs => by have := of_decide_eq_true hl; have := hs.1; omega)) (fun hl => ?_)
  have hl : l.length ≤ 30 := by have := of_decide_eq_false hl; omega
  refine order42 (by omega) (onBool_bv (ifB_mk (fun hb => bad (fun hs => ?_)) (fun hbt => ?_)))
  · rw [dc_t ⟨hs.2.1, hs.2.2.1⟩] at hb; simp at hb
  obtain ⟨o1, o2⟩ : Ord l ∧ ∀ x ∈ l, Okp x := by
    cases hq : dc (Ord l ∧ ∀ x ∈ l, Okp x) with
    | true => exact dc_true hq
    | false => rw [hq] at hbt; cases hbt
  refine La.of (σ := Nat) (fun k => sh13 l k) (fun k => k ≤ l.length ∧ ∀ (i : Nat) (x : It), i < k → l[i]? = some x → 1 ≤ x.2.2 ∧ x.2.2 ≤ 1000) (fun k => l.length - k) 0 (by rw [← itl_length]; kernel_rfl) ⟨by simp, by simp⟩ ?_
  rintro k ⟨g1, g3⟩ J hJ
  refine see (p := ifB (decide ((↑k : Int) < (↑(itl l).length : Int))) (onSome (itl l)[k]? fun row => onCons (List.drop 0 row) fun u r => onIntK IntKind.i64 u fun n => onCons r fun u r => onIntK IntKind.u8 u fun n => onCons r fun u r => onIntK IntKind.i64 u fun n => ifB (decide ((1 : Int) ≤ n)) (ifB (!decide (n ≤ (1000 : Int))) (R (iv (8 : Int))) (J (St.mk (mkT [(13, V.lst 3 (itl l)), (14, iv (↑(itl l).length : Int)), (15, iv (IntKind.i64.wrap ((↑k : Int) + (1 : Int))))]) (Hp.mk [] 0 [])))) (R (iv (8 : Int)))) (R (iv (0 : Int)))) (by kernel_rfl) ?_
  simp only [itl_length]
  refine ifB_mk (fun hb => ?_) (fun hb => ?_)
  · have hlt : k < l.length := by have := of_decide_eq_true hb; omega
    obtain ⟨x, hx⟩ := getI hlt
    have badx : ¬ (1 ≤ x.2.2 ∧ x.2.2 ≤ 1000) → R (iv 8) := fun hn => bad (fun hs => hn (hs.2.2.2 x (List.mem_of_getElem? hx)))
    refine onSome_mk (itl_get hx) (onCons_cons (onIntK_iv (onCons_cons (onIntK_u8 (onCons_cons (onIntK_iv ?_))))))
    refine ifB_mk (fun a1 => ifB_mk (fun a2 => badx (fun hp => by have := hp.2; simp at a2; omega)) (fun a2 => ?_)) (fun a1 => badx (fun hp => absurd hp.1 (of_decide_eq_false a1)))
    rw [wr1i hlt (by omega)]
    refine hJ' ?_ (hJ (k + 1) ⟨by omega, fun i y hi hy => ?_⟩ (by omega))
    · simp [sh13, itl_length]
    · rcases Nat.lt_succ_iff_lt_or_eq.1 hi with q | q
      · exact g3 i y q hy
      · rw [q, hx] at hy; cases hy; exact ⟨of_decide_eq_true a1, by simpa using a2⟩
  · have hk : k = l.length := by have := of_decide_eq_false hb; omega
    refine stk0 h ⟨hl, o1, o2, fun x hx => ?_⟩
    obtain ⟨i, hi⟩ := List.getElem?_of_mem hx
    exact g3 i x (by have := (List.getElem?_eq_some_iff.1 hi).1; omega) hi
end Go.Proofs.Ytmddjopahcbefaa
namespace Go.Proofs.Ytmddjopahcbefaa
open Go Go.Proofs.Ytmddjopahcbefaa.Clean
set_option linter.unusedVariables false
set_option linter.unusedSimpArgs false
set_option maxRecDepth 10000
theorem stock39 {l : List It} {R : V → Prop} (h : R (bv (dc (Stk l)))) : K0G Try.prog glX 39 [.lst 3 (itl l)] R := by
  refine K0_of_WY0 hmX hcD 3000 Try.func39 (see (p := ifB (decide ((↑(itl l).length : Int) > (30 : Int))) (R (bv false)) (La 0 [(0 : Tmp), (3 : Tmp)] (WY Try.prog cfD 2994 (Env.mk (Bs.mk 0 []) 0 none 54 39 0) (cdAt [1, 1, 0, 1, 0, 0] (bodyOf Try.f39))) (Qblk 0 (Qthen (WY Try.prog cfD 2997 (Env.mk (Bs.mk 0 []) 0 none 54 39 0) (cdAt [1, 1, 1] (bodyOf Try.f39)) (QendX Try.prog Try.f39 fun v h => R (frzW h v))) (QendX Try.prog Try.f39 fun v h => R (frzW h v)))) (St.mk (mkT [(0, V.lst 3 (itl l)), (3, iv (0 : Int))]) (Hp.mk [] 0 [])))) (by kernel_rfl) ?_)
  rw [itl_length]
  refine ifB_mk (fun hl => rf h (fun hs => by have := of_decide_eq_true hl; have := hs.1; omega)) (fun hl => ?_)
  have hl : l.length ≤ 30 := by have := of_decide_eq_false hl; omega
  refine La.of (σ := Nat) (fun k => sh39 l k) (fun k => k ≤ l.length ∧ (∀ (i : Nat) (x y : It), i + 1 < k → l[i]? = some x → l[i + 1]? = some y → Bef x y) ∧ ∀ (i : Nat) (x : It), i < k → l[i]? = some x → Okp x ∧ 1 ≤ x.2.2 ∧ x.2.2 ≤ 1000) (fun k => l.length - k) 0 (by kernel_rfl) ⟨by simp, by simp, by simp⟩ ?_
  rintro k ⟨g1, g2, g3⟩ J hJ
  refine see (p := ifB (decide ((↑k : Int) < (↑(itl l).length : Int))) (onSome (itl l)[k]? fun row => onCons (List.drop 0 row) fun u r => onIntK IntKind.i64 u fun n => onCons r fun u r => onIntK IntKind.u8 u fun n_1 => onCons r fun u r => onIntK IntKind.i64 u fun n_2 => ifB (decide (n ≥ (0 : Int))) (ifB (decide (n ≤ (15 : Int))) (ifB (!decide (n_1 ≤ (15 : Int))) (R (bv false)) (ifB (decide (n_2 ≥ (1 : Int))) (ifB (!decide (n_2 ≤ (1000 : Int))) (R (bv false)) (ifB (decide ((↑k : Int) > (0 : Int))) (onNat (IntKind.i64.wrap ((↑k : Int) - (1 : Int))) fun m => onSome (itl l)[m]? fun row => onSome row[0]? fun v => onIntK IntKind.i64 v fun n_3 => onNat (IntKind.i64.wrap ((↑k : Int) - (1 : Int))) fun m => onSome (itl l)[m]? fun row => onSome row[1]? fun v => onIntK IntKind.u8 v fun n_4 => ifB (decide (n_3 < n)) (J (St.mk (mkT [(0, V.lst 3 (itl l)), (3, iv (IntKind.i64.wrap ((↑k : Int) + (1 : Int))))]) (Hp.mk [] 0 []))) (ifB (n_3 == n) (ifB (!decide (n_4 < n_1)) (R (bv false)) (J (St.mk (mkT [(0, V.lst 3 (itl l)), (3, iv (IntKind.i64.wrap ((↑k : Int) + (1 : Int))))]) (Hp.mk [] 0 [])))) (R (bv false)))) (J (St.mk (mkT [(0, V.lst 3 (itl l)), (3, iv (IntKind.i64.wrap ((↑k : Int) + (1 : Int))))]) (Hp.mk [] 0 []))))) (R (bv false)))) (R (bv false))) (R (bv false))) (R (bv true))) (by kernel_rfl) ?_
  rw [itl_length]
  refine ifB_mk (fun hb => ?_) (fun hb => ?_)
  · have hlt : k < l.length := by have := of_decide_eq_true hb; omega
    obtain ⟨x, hx⟩ := getI hlt
    have hm := List.mem_of_getElem? hx
    have bad : ¬ (Okp x ∧ 1 ≤ x.2.2 ∧ x.2.2 ≤ 1000) → R (bv false) := fun hn => rf h (fun hs => hn ⟨hs.2.2.1 x hm, hs.2.2.2 x hm⟩)
    refine onSome_mk (itl_get hx) (onCons_cons (onIntK_iv (onCons_cons (onIntK_u8 (onCons_cons (onIntK_iv ?_))))))
    refine ifB_mk (fun a1 => ifB_mk (fun a2 => ifB_mk (fun a3 => bad (fun hp => by have := hp.1.2.2; simp at a3; omega)) (fun a3 => ?_)) (fun a2 => bad (fun hp => absurd hp.1.2.1 (of_decide_eq_false a2)))) (fun a1 => bad (fun hp => absurd hp.1.1 (of_decide_eq_false a1)))
    refine ifB_mk (fun a4 => ifB_mk (fun a5 => bad (fun hp => by have := hp.2.2; simp at a5; omega)) (fun a5 => ?_)) (fun a4 => bad (fun hp => absurd hp.2.1 (of_decide_eq_false a4)))
    have hok : Okp x ∧ 1 ≤ x.2.2 ∧ x.2.2 ≤ 1000 := ⟨⟨of_decide_eq_true a1, of_decide_eq_true a2, by simpa using a3⟩, of_decide_eq_true a4, by simpa using a5⟩
    rw [wr1i hlt (by omega)]
    have go : (0 < k → ∀ y, l[k - 1]? = some y → Bef y x) → J (sh39 l (k + 1)) := fun hbef => hJ (k + 1) ⟨by omega, fun i y z hi hy hz => by
      rcases Nat.lt_succ_iff_lt_or_eq.1 hi with q | q
      · exact g2 i y z q hy hz
      · rw [q] at hz
        rw [hx] at hz
        cases hz
        exact hbef (by omega) y (by rw [show k - 1 = i from by omega]; exact hy), fun i y hi hy => by
      rcases Nat.lt_succ_iff_lt_or_eq.1 hi with q | q
      · exact g3 i y q hy
      · rw [q, hx] at hy; cases hy; exact hok⟩ (by omega)
    refine ifB_mk (fun hk => ?_) (fun hk => go (fun h0 => by have := of_decide_eq_false hk; omega))
    have hk0 : 0 < k := by have := of_decide_eq_true hk; omega
    obtain ⟨y, hy⟩ := getI (l := l) (k := k - 1) (by omega)
    have hkw : IntKind.i64.wrap ((k : Int) - 1) = ((k - 1 : Nat) : Int) := by rw [wr (by omega) (by omega)]; omega
    have badb : ¬ Bef y x → R (bv false) := fun hn => rf h (fun hs => hn (hs.2.1 (k - 1) y x hy (by rw [show k - 1 + 1 = k from by omega]; exact hx)))
    have gob : Bef y x → J (sh39 l (k + 1)) := fun hb => go (fun _ y' hy' => by rw [hy] at hy'; cases hy'; exact hb)
    refine onNat_mk hkw (onSome_mk (itl_get hy) (onSome_mk (x := iv y.1) rfl (onIntK_iv (onNat_mk hkw (onSome_mk (itl_get hy) (onSome_mk (x := u8v y.2.1) rfl (onIntK_u8 ?_)))))))
    refine ifB_mk (fun b1 => gob (.inl (of_decide_eq_true b1))) (fun b1 => ifB_mk (fun b2 => ifB_mk (fun b3 => badb ?_) (fun b3 => gob (.inr ⟨by simpa using b2, by simpa using b3⟩))) (fun b2 => badb ?_))
    · rintro (q | q)
      · exact absurd q (of_decide_eq_false b1)
      · have := q.2; simp at b3; omega
    · rintro (q | q)
      · exact absurd q (of_decide_eq_false b1)
      · simp at b2; exact b2 q.1
  · have hk : k = l.length := by have := of_decide_eq_false hb; omega
    refine rt h ⟨hl, fun i x y hx hy => g2 i x y ?_ hx hy, fun x hx => ?_, fun x hx => ?_⟩
    · have := (List.getElem?_eq_some_iff.1 hy).1; omega
    · obtain ⟨i, hi⟩ := List.getElem?_of_mem hx
      exact (g3 i x (by have := (List.getElem?_eq_some_iff.1 hi).1; omega) hi).1
    · obtain ⟨i, hi⟩ := List.getElem?_of_mem hx
      exact (g3 i x (by have := (List.getElem?_eq_some_iff.1 hi).1; omega) hi).2
def hasF : List It → Int → Int → Int
  | [], _, _ => 0
  | x :: l, a, b => if x.1 = a ∧ x.2.1 = b then x.2.2 else hasF l a b
theorem has96 {l : List It} {a b : Int} {R : V → Prop} (hl : l.length ≤ 1000) (h : R (iv (hasF l a b))) : K0G Try.prog glX 96 [.lst 3 (itl l), iv a, u8v b] R := by
  refine K0_of_WY0 hmX hcD 3000 Try.func96 (see (p := La 0 [(0 : Tmp), (1 : Tmp), (2 : Tmp), (7 : Tmp)] (WY Try.prog cfD 2995 (Env.mk (Bs.mk 0 []) 0 none 35 96 0) (cdAt [1, 0, 1, 0, 0] (bodyOf Try.f96))) (Qblk 0 (Qthen (WY Try.prog cfD 2998 (Env.mk (Bs.mk 0 []) 0 none 35 96 0) (cdAt [1, 1] (bodyOf Try.f96)) (QendX Try.prog Try.f96 fun v h => R (frzW h v))) (QendX Try.prog Try.f96 fun v h => R (frzW h v)))) (St.mk (mkT [(0, V.lst 3 (itl l)), (1, iv a), (2, V.raw (Value.int IntKind.u8 b)), (7, iv (0 : Int))]) (Hp.mk [] 0 []))) (by kernel_rfl) ?_)
  refine La.of (σ := Nat) (fun k => sh96 l a b k) (fun k => k ≤ l.length ∧ hasF l a b = hasF (l.drop k) a b) (fun k => l.length - k) 0 (by kernel_rfl) ⟨by simp, by simp⟩ ?_
  rintro k ⟨g1, g2⟩ J hJ
  refine see (p := ifB (decide ((↑k : Int) < (↑(itl l).length : Int))) (onSome (itl l)[k]? fun row => onSome row[0]? fun v => onIntK IntKind.i64 v fun n => ifB (n == a) (onSome (itl l)[k]? fun row => onSome row[1]? fun v => onIntK IntKind.u8 v fun n => ifB (n == b) (onSome (itl l)[k]? fun row => onSome row[2]? fun v => onIntK IntKind.i64 v fun n => R (iv n)) (J (St.mk (mkT [(0, V.lst 3 (itl l)), (1, iv a), (2, V.raw (Value.int IntKind.u8 b)), (7, iv (IntKind.i64.wrap ((↑k : Int) + (1 : Int))))]) (Hp.mk [] 0 [])))) (J (St.mk (mkT [(0, V.lst 3 (itl l)), (1, iv a), (2, V.raw (Value.int IntKind.u8 b)), (7, iv (IntKind.i64.wrap ((↑k : Int) + (1 : Int))))]) (Hp.mk [] 0 [])))) (R (iv (0 : Int)))) (by kernel_rfl) ?_
  rw [itl_length]
  refine ifB_mk (fun hb => ?_) (fun hb => ?_)
  · have hlt : k < l.length := by have := of_decide_eq_true hb; omega
    obtain ⟨x, hx⟩ := getI hlt
    have hd : l.drop k = x :: l.drop (k + 1) := by rw [List.drop_eq_getElem_cons hlt]; congr 1; simpa [hlt] using hx
    rw [hd, hasF] at g2
    rw [wr1i hlt (by omega)]
    refine onSome_mk (itl_get hx) (onSome_mk (x := iv x.1) rfl (onIntK_iv (ifB_mk (fun e1 => ?_) (fun e1 => ?_))))
    · refine onSome_mk (itl_get hx) (onSome_mk (x := u8v x.2.1) rfl (onIntK_u8 (ifB_mk (fun e2 => ?_) (fun e2 => ?_))))
      · rw [if_pos ⟨by simpa using e1, by simpa using e2⟩] at g2
        rw [g2] at h
        exact onSome_mk (itl_get hx) (onSome_mk (x := iv x.2.2) rfl (onIntK_iv h))
      · rw [if_neg (fun hq => by simp at e2; exact e2 hq.2)] at g2
        exact hJ (k + 1) ⟨hlt, g2⟩ (by omega)
    · rw [if_neg (fun hq => by simp at e1; exact e1 hq.1)] at g2
      exact hJ (k + 1) ⟨hlt, g2⟩ (by omega)
  · have hk : k = l.length := by have := of_decide_eq_false hb; omega
    rw [hk, List.drop_length, hasF] at g2
    rw [g2] at h; exact h
theorem same15 {s s' : Nat} {l m : List It} {R : V → Prop} (hs : l = [] ∨ s = 3) (hs' : m = [] ∨ s' = 3) (hl : l.length ≤ 1000) (h : R (bv (dc (l = m)))) : K0G Try.prog glX 15 [.lst s (itl l), .lst s' (itl m)] R := by
  refine K0_of_WY0 hmX hcD 3000 Try.func15 (see (p := ifB ((↑(itl l).length : Int) != (↑(itl m).length : Int)) (R (bv false)) (La 0 [(0 : Tmp), (1 : Tmp), (5 : Tmp)] (WY Try.prog cfD 2994 (Env.mk (Bs.mk 0 []) 0 none 26 15 0) (cdAt [1, 1, 0, 1, 0, 0] (bodyOf Try.f15))) (Qblk 0 (Qthen (WY Try.prog cfD 2997 (Env.mk (Bs.mk 0 []) 0 none 26 15 0) (cdAt [1, 1, 1] (bodyOf Try.f15)) (QendX Try.prog Try.f15 fun v h => R (frzW h v))) (QendX Try.prog Try.f15 fun v h => R (frzW h v)))) (St.mk (mkT [(0, V.lst s (itl l)), (1, V.lst s' (itl m)), (5, iv (0 : Int))]) (Hp.mk [] 0 [])))) (by kernel_rfl) ?_)
  rw [itl_length, itl_length]
  refine ifB_mk (fun hn => rf h (fun he => by rw [he] at hn; simp at hn)) (fun hn => ?_)
  have hlm : l.length = m.length := by simp at hn; omega
  refine La.of (σ := Nat) (fun k => sh15 s s' l m k) (fun k => k ≤ l.length ∧ ∀ i : Nat, i < k → l[i]? = m[i]?) (fun k => l.length - k) 0 (by kernel_rfl) ⟨by simp, by simp⟩ ?_
  rintro k ⟨g1, g2⟩ J hJ
  refine see (p := ifB (decide ((↑k : Int) < (↑(itl l).length : Int))) (need (s = 3) (onSome (itl l)[k]? fun row => onCons (List.drop 0 row) fun u r => onIntK IntKind.i64 u fun n => onCons r fun u r => onIntK IntKind.u8 u fun n_1 => onCons r fun u r => onIntK IntKind.i64 u fun n_2 => need (s' = 3) (onSome (itl m)[k]? fun row => onCons (List.drop 0 row) fun u r => onIntK IntKind.i64 u fun n_3 => onCons r fun u r => onIntK IntKind.u8 u fun n_4 => onCons r fun u r => onIntK IntKind.i64 u fun n_5 => ifB (!(fun b => n == n_3 && b) ((fun b => n_1 == n_4 && b) ((fun b => n_2 == n_5 && b) true))) (R (bv false)) (J (St.mk (mkT [(0, V.lst s (itl l)), (1, V.lst s' (itl m)), (5, iv (IntKind.i64.wrap ((↑k : Int) + (1 : Int))))]) (Hp.mk [] 0 [])))))) (R (bv true))) (by kernel_rfl) ?_
  rw [itl_length]
  refine ifB_mk (fun hb => ?_) (fun hb => ?_)
  · have hlt : k < l.length := by have := of_decide_eq_true hb; omega
    obtain ⟨x, hx⟩ := getI hlt
    obtain ⟨y, hy⟩ := getI (l := m) (k := k) (by omega)
    rw [wr1i hlt (by omega)]
    refine need_mk ⟨hs.resolve_left (fun e => by rw [e] at hlt; simp at hlt), ?_⟩
    refine onSome_mk (itl_get hx) (onCons_cons (onIntK_iv (onCons_cons (onIntK_u8 (onCons_cons (onIntK_iv ?_))))))
    refine need_mk ⟨hs'.resolve_left (fun e => by rw [e] at hy; simp at hy), ?_⟩
    refine onSome_mk (itl_get hy) (onCons_cons (onIntK_iv (onCons_cons (onIntK_u8 (onCons_cons (onIntK_iv ?_))))))
    refine ifB_mk (fun e => ?_) (fun e => ?_)
    · refine rf h (fun he => ?_)
      rw [he, hy] at hx
      cases hx
      simp at e
    · refine hJ (k + 1) ⟨hlt, fun i hi => ?_⟩ (by omega)
      rcases Nat.lt_succ_iff_lt_or_eq.1 hi with q | q
      · exact g2 i q
      · rw [q, hx, hy]
        have : x = y := by
          simp at e
          exact Prod.ext e.1 (Prod.ext e.2.1 e.2.2)
        rw [this]
  · have hk : k = l.length := by have := of_decide_eq_false hb; omega
    refine rt h (List.ext_getElem? fun i => ?_)
    by_cases hi : i < l.length
    · exact g2 i (by omega)
    · rw [List.getElem?_eq_none (by omega), List.getElem?_eq_none (by omega)]
theorem lots35 {l : List It} {R : V → Prop} (h : ∀ b, (b = false → l.length ≤ 40) → R (bv b)) : K0G Try.prog glX 35 [.lst 3 (itl l)] R := by
  refine K0_of_WY0 hmX hcD 3000 Try.func35 (see (p := ifB (decide ((↑(itl l).length : Int) > (40 : Int))) (R (bv true)) (La 0 [(0 : Tmp), (3 : Tmp), (4 : Tmp)] (WY Try.prog cfD 2993 (Env.mk (Bs.mk 0 []) 0 none 29 35 0) (cdAt [1, 1, 1, 0, 1, 0, 0] (bodyOf Try.f35))) (Qblk 0 (Qthen (WY Try.prog cfD 2996 (Env.mk (Bs.mk 0 []) 0 none 29 35 0) (cdAt [1, 1, 1, 1] (bodyOf Try.f35)) (QendX Try.prog Try.f35 fun v h => R (frzW h v))) (QendX Try.prog Try.f35 fun v h => R (frzW h v)))) (St.mk (mkT [(0, V.lst 3 (itl l)), (3, iv (0 : Int)), (4, iv (0 : Int))]) (Hp.mk [] 0 [])))) (by kernel_rfl) ?_)
  rw [itl_length]
  refine ifB_mk (fun _ => h true (fun h => by cases h)) (fun hl => ?_)
  have hl : l.length ≤ 40 := by have := of_decide_eq_false hl; omega
  refine La.of (σ := Int × Nat) (fun s => sh35 l s.1 s.2) (fun s => s.2 ≤ l.length) (fun s => l.length - s.2) (0, 0) (by kernel_rfl) (by simp) ?_
  rintro ⟨n, k⟩ g1 J hJ
  refine see (p := ifB (decide ((↑k : Int) < (↑(itl l).length : Int))) (onSome (itl l)[k]? fun row => onSome row[2]? fun v => onIntK IntKind.i64 v fun n_1 => ifB (decide (n_1 ≥ (0 : Int))) (ifB (decide (n_1 ≤ (1000 : Int))) (onSome (itl l)[k]? fun row => onSome row[2]? fun v => onIntK IntKind.i64 v fun n_2 => J (St.mk (mkT [(0, V.lst 3 (itl l)), (3, iv (IntKind.i64.wrap (n + n_2))), (4, iv (IntKind.i64.wrap ((↑k : Int) + (1 : Int))))]) (Hp.mk [] 0 []))) (J (St.mk (mkT [(0, V.lst 3 (itl l)), (3, iv n), (4, iv (IntKind.i64.wrap ((↑k : Int) + (1 : Int))))]) (Hp.mk [] 0 [])))) (J (St.mk (mkT [(0, V.lst 3 (itl l)), (3, iv n), (4, iv (IntKind.i64.wrap ((↑k : Int) + (1 : Int))))]) (Hp.mk [] 0 [])))) (R (bv (decide (n > (8000 : Int)))))) (by kernel_rfl) ?_
  simp only at g1
  rw [itl_length]
  refine ifB_mk (fun hb => ?_) (fun hb => h _ (fun _ => hl))
  have hlt : k < l.length := by have := of_decide_eq_true hb; omega
  obtain ⟨x, hx⟩ := getI hlt
  rw [wr1i hlt (by omega)]
  have go : ∀ m, J (sh35 l m (k + 1)) := fun m => hJ (m, k + 1) hlt (by show l.length - (k + 1) < l.length - k; omega)
  exact onSome_mk (itl_get hx) (onSome_mk (x := iv x.2.2) rfl (onIntK_iv (ifB_mk (fun _ => ifB_mk (fun _ => onSome_mk (itl_get hx) (onSome_mk (x := iv x.2.2) rfl (onIntK_iv (go _)))) (fun _ => go _)) (fun _ => go _))))
end Go.Proofs.Ytmddjopahcbefaa
