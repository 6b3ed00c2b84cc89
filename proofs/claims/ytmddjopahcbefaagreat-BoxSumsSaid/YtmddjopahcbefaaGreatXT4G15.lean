/- A part of the proof. -/
import Derived.ProofKit
import Derived.Deep.Slices
import Derived.Carry
import Derived.Test.YtmddjopahcbefaaGreatXT4G7
import Derived.Test.YtmddjopahcbefaaGreatXT4G13
import Derived.Test.YtmddjopahcbefaaGreatXT4G14
namespace Go.Proofs.YtmddjopahcbefaaGreat
open Go Go.Proofs.YtmddjopahcbefaaGreat.Clean
set_option linter.unusedVariables false
set_option maxRecDepth 100000
theorem tok0 : Facts Tryz.prog glX tb0 := trivial
theorem t0 : KFX fa0 := k0 tok0
theorem tok1 : Facts Tryz.prog glX tb1 := ⟨t0, tok0⟩
theorem t1 : KFX fa1 := k1 tok1
theorem tok2 : Facts Tryz.prog glX tb2 := ⟨t1, tok1⟩
theorem t2 : KFX fa2 := k2 tok2
theorem tok3 : Facts Tryz.prog glX tb3 := ⟨t2, tok2⟩
theorem t3 : KFX fa3 := k3 tok3
theorem tok4 : Facts Tryz.prog glX tb4 := ⟨t3, tok3⟩
theorem t4 : KFX fa4 := k4 tok4
theorem tok5 : Facts Tryz.prog glX tb5 := ⟨t4, tok4⟩
theorem t5 : KFX fa5 := k5 tok5
end Go.Proofs.YtmddjopahcbefaaGreat
namespace Go.Proofs.YtmddjopahcbefaaGreat
open Go Go.Proofs.YtmddjopahcbefaaGreat.Clean
set_option linter.unusedVariables false
set_option linter.unusedSimpArgs false
set_option maxRecDepth 10000
theorem hcS : cfS.ok Tryz.prog := by
  have h : (cfgG Tryz.prog glX moS postS rtS (inN [28]) (fun _ _ => none)).ok Tryz.prog := cfgG_ok rtS_ok
  exact ⟨h.1, h.2⟩
theorem alive19 {R : V → Prop} (h : R (bv true)) : K0G Tryz.prog glX 19 [] R := fun F w xs g1 g2 g3 => (t5 F w xs g1 g2 g3).mono fun e W he => by
  obtain ⟨x, v, F', h1, h2, h3, h4, h5⟩ := he
  exact ⟨x, v, F', h1, by rw [h2]; exact h, h3, h4, h5⟩
theorem G.ord {l : List It} (h : G l) : Ord l := fun i x y hx hy => by
  have := List.pairwise_iff_getElem.1 h.1 i (i + 1) (List.getElem?_eq_some_iff.1 hx).1 (List.getElem?_eq_some_iff.1 hy).1 (by omega)
  rw [(List.getElem?_eq_some_iff.1 hx).2, (List.getElem?_eq_some_iff.1 hy).2] at this
  exact this
theorem has_bnd : ∀ {l : List It}, (∀ x ∈ l, 1 ≤ x.2.2 ∧ x.2.2 ≤ 1000) → ∀ p q : Int, 0 ≤ hasF l p q ∧ hasF l p q ≤ 1000
  | [], _, p, q => ⟨Int.le_refl _, by show (0 : Int) ≤ 1000; decide⟩
  | x :: l, h, p, q => by
    rw [has_cons]
    split
    · have := h x (by simp); omega
    · exact has_bnd (fun y hy => h y (by simp [hy])) p q
theorem take11s {a b : List It} {R : V → Prop} (hla : a.length ≤ 1000) (h : ∀ x e X, TakR a b x e → isX X x → Stk x → R (.tup [X, iv e])) : KB Tryz.prog glX 10 [.lst 3 (itl a), .lst 3 (itl b)] ⟨[], 0, []⟩ R := by
  refine take11 hla (fun hn => h [] 8 _ (.inl ⟨hn, rfl, rfl⟩) (.inl rfl) stk_nil) (fun sa sb => ?_)
  have no : (¬ ∃ l, restF a b = some (l, [])) → R (.tup [nilS, iv 6]) := fun hn => h [] 6 _ (.inr ⟨sa, sb, .inr ⟨fun hle => hn (rest_all sa.g sb.g hle), rfl, rfl⟩⟩) (.inl rfl) stk_nil
  unfold takeV
  cases hr : restF a b with
  | none => exact no (fun ⟨l, hl⟩ => by rw [hr] at hl; cases hl)
  | some p =>
    obtain ⟨l, o⟩ := p
    cases o with
    | cons y o => exact no (fun ⟨l', hl⟩ => by rw [hr] at hl; cases hl)
    | nil =>
      have hg := (rest_G sa.g sb.g hr).1
      have hk := (rest_G sa.g sb.g hr).2.1
      have hsb := rest_sub sa.g sb.g hr
      refine h l 0 _ (.inr ⟨sa, sb, .inl ⟨fun p q => ?_, hg, hsb, rfl⟩⟩) (.inr ⟨3, .inl rfl, rfl⟩) ⟨Nat.le_trans (rest_len hr) sa.1, hg.ord, fun x hx => ?_, fun x hx => ⟨hg.2 x hx, ?_⟩⟩
      · have := hsb p q
        have := hg.pos p q
        omega
      · obtain ⟨w, hw, e1, e2⟩ := hk x hx
        have := sa.2.2.1 w hw
        unfold Okp at *
        rw [e1, e2] at this
        exact this
      · have h1 := hg.has hx
        have h2 := hsb x.1 x.2.1
        have h3 := (has_bnd sa.2.2.2 x.1 x.2.1).2
        have h4 := (has_bnd sb.2.2.2 x.1 x.2.1).1
        omega
theorem AddR.symm {a b x : List It} {e : Int} (h : AddR a b x e) : AddR b a x e := by
  rcases h with ⟨h1, rfl, rfl⟩ | ⟨h1, h2, m, h3, h4, h5⟩
  · exact .inl ⟨fun q => h1 ⟨q.2, q.1⟩, rfl, rfl⟩
  · exact .inr ⟨h2, h1, m, h3, fun p q => by rw [h4]; omega, h5⟩
theorem add_take {a b x u : List It} {g : Int} (h : AddR a b x 0) (k : TakR x b u g) : g = 0 ∧ u = a := by
  rcases h with ⟨_, _, h⟩ | ⟨h1, h2, m, h3, h4, ⟨h5, rfl, _⟩ | ⟨_, _, h⟩⟩
  · omega
  · rcases k with ⟨k1, _⟩ | ⟨k1, k2, ⟨k3, k4, k5, k6⟩ | ⟨k3, _⟩⟩
    · exact (k1 ⟨h5, h2⟩).elim
    · exact ⟨k6, g_ext k4 h1.g (fun p q => by rw [k5, h4]; omega)⟩
    · exact (k3 (fun p q => by have := h4 p q; have := h1.g.pos p q; omega)).elim
  · omega
theorem take_add {a b w z : List It} {l : Int} (h : TakR a b w 0) (hw : Stk w) (k : AddR w b z l) : l = 0 ∧ z = a := by
  rcases h with ⟨_, _, h⟩ | ⟨h1, h2, ⟨h3, h4, h5, _⟩ | ⟨_, _, h⟩⟩
  · omega
  · rcases k with ⟨k1, _⟩ | ⟨k1, k2, m, k3, k4, k5⟩
    · exact (k1 ⟨hw, h2⟩).elim
    · have : m = a := g_ext k3 h1.g (fun p q => by rw [k4, h5]; omega)
      subst this
      rcases k5 with ⟨_, q1, q2⟩ | ⟨q, _⟩
      · exact ⟨q2, q1⟩
      · exact (q h1).elim
  · omega
theorem AddR.len {a b x : List It} {e : Int} (h : AddR a b x e) : x.length ≤ 30 := by
  rcases h with ⟨_, rfl, _⟩ | ⟨_, _, m, _, _, ⟨hs, rfl, _⟩ | ⟨_, rfl, _⟩⟩
  · simp
  · exact hs.1
  · simp
theorem eq4 (a b : List It) (R : V → Prop) : (K0G Tryz.prog glX 19 [] fun v => onBool v fun b_1 => K0G Tryz.prog glX 78 [V.lst 3 (itl a)] fun v => onBool v fun b_2 => ifB b_2 (R (bv b_1)) (K0G Tryz.prog glX 78 [V.lst 3 (itl b)] fun v => onBool v fun b_3 => ifB b_3 (R (bv b_1)) (ifB (!b_1) (R (bv b_1)) (KB Tryz.prog glX 18 [V.lst 3 (itl a), V.lst 3 (itl b)] (Hp.mk [] 0 []) fun v => onTup v fun vs => onCons vs fun u r => onLst u fun s es => guardB (s.beq 3 || s.beq 0) (onCons r fun u r => onIntK IntKind.i64 u fun n => onNil r (KB Tryz.prog glX 18 [V.lst 3 (itl b), V.lst 3 (itl a)] (Hp.mk [] 0 []) fun v => onTup v fun vs => onCons vs fun u r => onLst u fun s es_1 => guardB (s.beq 3 || s.beq 0) (onCons r fun u r => onIntK IntKind.i64 u fun n_1 => onNil r (ifB (n != n_1) (R (bv false)) (K0G Tryz.prog glX 20 [V.lst 3 (sub es 0 es.length), V.lst 3 (sub es_1 0 es_1.length)] fun v => onBool v fun b_4 => ifB (!b_4) (R (bv false)) (ifB (n == (0 : Int)) (KB Tryz.prog glX 10 [V.lst 3 (sub es 0 es.length), V.lst 3 (itl b)] (Hp.mk [] 0 []) fun v => onTup v fun vs => onCons vs fun u r => onLst u fun s es => guardB (s.beq 3 || s.beq 0) (onCons r fun u r => onIntK IntKind.i64 u fun n => onNil r (ifB (n != (0 : Int)) (R (bv false)) (K0G Tryz.prog glX 20 [V.lst 3 (sub es 0 es.length), V.lst 3 (itl a)] fun v => onBool v fun b_5 => ifB (!b_5) (R (bv false)) (KB Tryz.prog glX 10 [V.lst 3 (itl a), V.lst 3 (itl b)] (Hp.mk [] 0 []) fun v => onTup v fun vs => onCons vs fun u r => onLst u fun s es => guardB (s.beq 3 || s.beq 0) (onCons r fun u r => onIntK IntKind.i64 u fun n => onNil r (ifB (n != (0 : Int)) (R (bv b_1)) (KB Tryz.prog glX 18 [V.lst 3 (sub es 0 es.length), V.lst 3 (itl b)] (Hp.mk [] 0 []) fun v => onTup v fun vs => onCons vs fun u r => onLst u fun s es => guardB (s.beq 3 || s.beq 0) (onCons r fun u r => onIntK IntKind.i64 u fun n => onNil r (ifB b_1 (ifB (n == (0 : Int)) (K0G Tryz.prog glX 20 [V.lst 3 (sub es 0 es.length), V.lst 3 (itl a)] fun v => onBool v fun b => R (bv b)) (R (bv false))) (R (bv false)))))))))))) (KB Tryz.prog glX 10 [V.lst 3 (itl a), V.lst 3 (itl b)] (Hp.mk [] 0 []) fun v => onTup v fun vs => onCons vs fun u r => onLst u fun s es => guardB (s.beq 3 || s.beq 0) (onCons r fun u r => onIntK IntKind.i64 u fun n => onNil r (ifB (n != (0 : Int)) (R (bv b_1)) (KB Tryz.prog glX 18 [V.lst 3 (sub es 0 es.length), V.lst 3 (itl b)] (Hp.mk [] 0 []) fun v => onTup v fun vs => onCons vs fun u r => onLst u fun s es => guardB (s.beq 3 || s.beq 0) (onCons r fun u r => onIntK IntKind.i64 u fun n => onNil r (ifB b_1 (ifB (n == (0 : Int)) (K0G Tryz.prog glX 20 [V.lst 3 (sub es 0 es.length), V.lst 3 (itl a)] fun v => onBool v fun b => R (bv b)) (R (bv false))) (R (bv false)))))))))))))))))) = WY0 Tryz.prog cfS 3000 4 Tryz.f4 [.lst 3 (itl a), .lst 3 (itl b)] R := by kernel_rfl
theorem law4 {a b : List It} {R : V → Prop} (h : R (bv true)) : K0G Tryz.prog glX 4 [.lst 3 (itl a), .lst 3 (itl b)] R := by
  refine K0_by hmX hcS 3000 Tryz.func4 (eq4 a b R) ?_
  refine alive19 (onBool_bv ?_)
  refine lots35 (fun p hp => onBool_bv (ifB_mk (fun _ => h) (fun c => lots35 (fun q hq => onBool_bv (ifB_mk (fun _ => h) (fun c' => ?_))))))
  have la : a.length ≤ 40 := hp c
  have lb : b.length ≤ 40 := hq c'
  have d3 : ∀ {l : List It} {d : Nat}, (d = 3 ∨ (l = [] ∧ d = 0)) → (d.beq 3 || d.beq 0) = true := fun h => by rcases h with rfl | ⟨_, rfl⟩ <;> rfl
  refine ifB_f rfl ?_
  have part2 : KB Tryz.prog glX 10 [V.lst 3 (itl a), V.lst 3 (itl b)] (Hp.mk [] 0 []) fun v => onTup v fun vs => onCons vs fun u r => onLst u fun s es => guardB (s.beq 3 || s.beq 0) (onCons r fun u r => onIntK
      IntKind.i64 u fun n => onNil r (ifB (n != (0 : Int)) (R (bv true)) (KB Tryz.prog glX 18
      [V.lst 3 (sub es 0 es.length), V.lst 3 (itl b)] (Hp.mk [] 0 []) fun v => onTup v fun vs => onCons vs fun u r => onLst u fun s es => guardB (s.beq 3 || s.beq 0) (onCons r fun u r => onIntK IntKind.i64 u fun n => onNil r (ifB true
      (ifB (n == (0 : Int)) (K0G Tryz.prog glX 20 [V.lst 3 (sub es 0 es.length), V.lst 3 (itl a)] fun v => onBool v fun b => R (bv b)) (R (bv false))) (R (bv false))))))) := by
    refine take11s (by omega) (fun w k W hw iW sw => ?_)
    refine onTup_tup (onCons_cons (onLst_isX iW (fun d hd => guardB_mk (d3 hd) (onCons_cons (onIntK_iv (onNil_nil ?_))))))
    refine ifB_mk (fun _ => h) (fun c => ?_)
    have k0 : k = 0 := by simpa using c
    subst k0
    rw [sub_all]
    refine add9r (by have := sw.1; omega) (by omega) (fun z l Z hz iZ => ?_)
    refine onTup_tup (onCons_cons (onLst_isX iZ (fun d hd => guardB_mk (d3 hd) (onCons_cons (onIntK_iv (onNil_nil ?_))))))
    obtain ⟨rfl, rfl⟩ := take_add hw sw hz
    refine ifB_t rfl (ifB_t rfl ?_)
    rw [sub_all]
    refine same15 (.inr rfl) (.inr rfl) (by omega) (onBool_bv ?_)
    rw [dc_t rfl]
    exact h
  refine add9r (by omega) (by omega) (fun x e X hx iX => ?_)
  refine onTup_tup (onCons_cons (onLst_isX iX (fun d hd => guardB_mk (d3 hd) (onCons_cons (onIntK_iv (onNil_nil ?_))))))
  refine add9r (by omega) (by omega) (fun y f Y hy iY => ?_)
  refine onTup_tup (onCons_cons (onLst_isX iY (fun d' hd' => guardB_mk (d3 hd') (onCons_cons (onIntK_iv (onNil_nil ?_))))))
  obtain ⟨rfl, rfl⟩ := hx.uniq hy.symm
  have xl := hx.len
  refine ifB_f (by simp) ?_
  rw [sub_all]
  refine same15 (.inr rfl) (.inr rfl) (by omega) (onBool_bv (ifB_f (by rw [dc_t rfl]; rfl) ?_))
  refine ifB_mk (fun c => ?_) (fun c => part2)
  have e0 : e = 0 := by simpa using c
  subst e0
  refine take11s (by omega) (fun u g U hu iU su => ?_)
  refine onTup_tup (onCons_cons (onLst_isX iU (fun d hd => guardB_mk (d3 hd) (onCons_cons (onIntK_iv (onNil_nil ?_))))))
  obtain ⟨rfl, rfl⟩ := add_take hx hu
  refine ifB_f rfl ?_
  rw [sub_all]
  refine same15 (.inr rfl) (.inr rfl) (by omega) (onBool_bv (ifB_f (by rw [dc_t rfl]; rfl) part2))
end Go.Proofs.YtmddjopahcbefaaGreat
namespace Go.Proofs.YtmddjopahcbefaaGreat.Clean
open Go.Deep
set_option linter.unusedSimpArgs false
set_option linter.unusedVariables false
section
variable {H : Type} (enc : TypeId × Value → H) (P : Program) (w : World)
def FW (r : Nat) : Prop := r < w.heap.size
def Opens (t : TypeId) {α : Type} (f : α → List V) (ok : α → Prop) : Prop :=
  ∀ fuel cs x, DataW.trod enc P w 0 (fun _ => true) true fuel t cs = some x → ∃ a, riL (FW w) w (f a) cs ∧ ok a ∧ ∀ u ∈ cs, u.oneCell' = true
def OpensF (total : Nat) (off : Nat) (fs : List Field) {α : Type} (f : α → List V) (ok : α → Prop) : Prop :=
  ∀ n (cs : List Value), cs.length = total → (∀ fd ∈ fs, ∃ x, DataW.trod enc P w 0 (fun _ => true) true n fd.type ((cs.drop fd.offset).take (P.cellsOf fd.type)) = some x) →
    ∃ a, riL (FW w) w (f a) (cs.drop off) ∧ ok a ∧ ∀ u ∈ cs.drop off, u.oneCell' = true
end
section
variable {H : Type} {enc : TypeId × Value → H} {P : Program} {w : World}
theorem riL_append : ∀ {vs us : List V} {xs ys : List Value}, riL (FW w) w vs xs → riL (FW w) w us ys → riL (FW w) w (vs ++ us) (xs ++ ys)
  | [], us, xs, ys, h, k => by simp only [riL] at h; subst h; simpa using k
  | v :: vs, us, xs, ys, h, k => by
    simp only [riL] at h
    obtain ⟨x, zs, rfl, h2, h3⟩ := h
    simp only [List.cons_append, riL]
    exact ⟨x, zs ++ ys, rfl, h2, riL_append h3 k⟩
theorem riL_one {v : V} {x : Value} (h : ri (FW w) w v x) : riL (FW w) w [v] [x] := by simp only [riL]; exact ⟨x, [], rfl, h, rfl⟩
theorem riL_get : ∀ {vs : List V} {xs : List Value}, riL (FW w) w vs xs → ∀ (i : Nat) v, vs[i]? = some v → ∃ x, xs[i]? = some x ∧ ri (FW w) w v x
  | [], xs, h, i, v, hi => by simp at hi
  | u :: vs, xs, h, i, v, hi => by
    simp only [riL] at h
    obtain ⟨x, ys, rfl, h2, h3⟩ := h
    cases i with
    | zero => simp at hi; subst hi; exact ⟨x, rfl, h2⟩
    | succ i => simp at hi; simpa using riL_get h3 i v hi
theorem riL_length : ∀ {vs : List V} {xs : List Value}, riL (FW w) w vs xs → xs.length = vs.length
  | [], xs, h => by simp only [riL] at h; simp [h]
  | v :: vs, xs, h => by simp only [riL] at h; obtain ⟨x, ys, rfl, _, h3⟩ := h; simp [riL_length h3]
theorem opens_int {t : TypeId} {k : IntKind} (ht : P.underlying t = some (.int k)) : Opens enc P w t (fun n : Int => [.raw (.int k n)]) (fun n => (Lit.int k n).wf = true) := by
  intro fuel cs x h
  obtain ⟨n, rfl, _, hw⟩ := DataW.trod_int ht h
  exact ⟨n, riL_one (by simp [ri]), hw, by simp [Value.oneCell']⟩
theorem opens_slice {t e : TypeId} {s : Nat} {α : Type} {f : α → List V} {ok : α → Prop} (ht : P.underlying t = some (.slice e)) (hs : P.cellsOf e = s) (hpos : s ≠ 0) (ho : Opens enc P w e f ok) :
    Opens enc P w t (fun l : List α => [.lst s (l.map f)]) (fun l => l.length ≤ maxLen ∧ ∀ a ∈ l, ok a) := by
  intro fuel cs x h
  rcases open_slice ht h with ⟨rfl, _⟩ | ⟨a, len, cap, m, n, D, Pl, rfl, _, hl, hm, hmm, _, hx⟩
  · exact ⟨[], riL_one (by simp [ri]), by simp, by simp [Value.oneCell']⟩
  · simp only [if_true] at hmm
    subst hmm
    rw [hs] at hx
    have each : ∀ i, i < len → ∃ q : α, (∃ cs', w.cells? 0 (a.add (i * s)) s = some cs' ∧ riL (FW w) w (f q) cs' ∧ ∀ u ∈ cs', u.oneCell' = true) ∧ ok q := by
      intro i hi
      obtain ⟨cs', h1, h2⟩ := hx i (by omega)
      obtain ⟨q, h3, h4, h5⟩ := ho _ _ _ h2
      exact ⟨q, ⟨cs', h1, h3, h5⟩, h4⟩
    obtain ⟨q, hq⟩ : ∃ q : Nat → Option α, ∀ i, i < len → ∃ y, q i = some y ∧ (∃ cs', w.cells? 0 (a.add (i * s)) s = some cs' ∧ riL (FW w) w (f y) cs' ∧ ∀ u ∈ cs', u.oneCell' = true) ∧ ok y := by
      refine Classical.axiomOfChoice (r := fun i (o : Option α) => i < len → ∃ y, o = some y ∧ (∃ cs', w.cells? 0 (a.add (i * s)) s = some cs' ∧ riL (FW w) w (f y) cs' ∧ ∀ u ∈ cs', u.oneCell' = true) ∧ ok y) ?_
      intro i
      by_cases hi : i < len
      · obtain ⟨y, hy⟩ := each i hi
        exact ⟨some y, fun _ => ⟨y, rfl, hy⟩⟩
      · exact ⟨none, fun h => (hi h).elim⟩
    let l : List α := (List.range len).filterMap q
    have hl' : l.length = len ∧ ∀ i, i < len → l[i]? = q i := by
      have key : ∀ k, k ≤ len → ((List.range k).filterMap q).length = k ∧ ∀ i, i < k → ((List.range k).filterMap q)[i]? = q i := by
        intro k
        induction k with
        | zero => intro _; simp
        | succ k ih =>
          intro hk
          obtain ⟨h1, h2⟩ := ih (by omega)
          obtain ⟨y, hy, _⟩ := hq k (by omega)
          have : (List.range (k + 1)).filterMap q = (List.range k).filterMap q ++ [y] := by rw [List.range_succ, List.filterMap_append]; simp [hy]
          rw [this]
          refine ⟨by simp [h1], fun i hi => ?_⟩
          by_cases hik : i < k
          · rw [List.getElem?_append_left (by omega)]; exact h2 i hik
          · have : i = k := by omega
            subst this
            rw [List.getElem?_append_right (by omega), h1, hy]; simp
      exact key len (Nat.le_refl _)
    refine ⟨l, riL_one ?_, ⟨by omega, fun b hb => ?_⟩, by simp [Value.oneCell']⟩
    · simp only [ri]
      refine .inr ⟨a, m, by simp [hl'.1]; exact hl, by simp [hl'.1], ?_⟩
      by_cases h0 : len = 0
      · left
        have : l = [] := List.eq_nil_of_length_eq_zero (by omega)
        simp [this]
      · right
        have cell : ∀ (i : Nat) (cs' : List Value), i < len → w.cells? 0 (a.add (i * s)) s = some cs' → ∀ j, j < s → w.cell? (a.add (i * s + j)) = cs'[j]? ∧ cs'.length = s := by
          intro i cs' hi hc j hj
          obtain ⟨_, hlen, hcc⟩ := World.cells?_some hc
          have := hcc j hj
          rw [add_add] at this
          exact ⟨this, hlen⟩
        obtain ⟨y0, hy0, ⟨cs0, c1, _, _⟩, _⟩ := hq 0 (by omega)
        have hc0 := (cell 0 cs0 (by omega) c1 0 (by omega))
        have hsome : ∃ u, w.cell? a = some u := by
          have h1 := hc0.1
          rw [Nat.zero_mul, Nat.zero_add] at h1
          have : a.add 0 = a := by simp [Addr.add]
          rw [this] at h1
          rw [h1]
          exact ⟨cs0[0]'(by omega), List.getElem?_eq_getElem (by omega)⟩
        obtain ⟨u0, hu0⟩ := hsome
        have hspot : a.spot = none := by
          unfold World.cell? at hu0
          split at hu0
          · split at hu0
            · cases hu0
            · rename_i h; simpa using h
          · cases hu0
        obtain ⟨ab, ao, asp⟩ := a
        simp only at hspot
        subst hspot
        refine ⟨rfl, World.block_lt_of_cell? w _ hu0, ?_⟩
        rw [riRows_iff]
        intro i row hrow
        rw [List.getElem?_map, Option.map_eq_some_iff] at hrow
        obtain ⟨b, hb, rfl⟩ := hrow
        have hi : i < len := by have := (List.getElem?_eq_some_iff.1 hb).1; omega
        obtain ⟨y, hy, ⟨cs', g1, g2, g3⟩, _⟩ := hq i hi
        rw [hl'.2 i hi, hy] at hb
        simp at hb
        subst hb
        have hlen' := riL_length g2
        obtain ⟨_, hclen, _⟩ := World.cells?_some g1
        refine ⟨by omega, fun j v hj => ?_⟩
        obtain ⟨z, z1, z2⟩ := riL_get g2 j v hj
        have hjs : j < s := by have := (List.getElem?_eq_some_iff.1 z1).1; omega
        refine ⟨z, ?_, g3 z (List.mem_of_getElem? z1), z2⟩
        have := (cell i cs' hi g1 j hjs).1
        rw [add_lit, ← Nat.add_assoc] at this
        rw [this]; exact z1
    · obtain ⟨i, hi⟩ := List.mem_iff_getElem?.1 hb
      have hil : i < len := by have := (List.getElem?_eq_some_iff.1 hi).1; omega
      obtain ⟨y, hy, _, hok⟩ := hq i hil
      rw [hl'.2 i hil, hy] at hi
      simp at hi
      exact hi ▸ hok
theorem opensF_nil {total : Nat} : OpensF enc P w total total [] (fun _ : Unit => []) (fun _ => True) := by
  intro n cs hl _
  rw [List.drop_of_length_le (by omega)]
  exact ⟨(), by simp [riL], trivial, by simp⟩
theorem opensF_cons {total off k : Nat} {fd : Field} {fs : List Field} {α β : Type} {f : α → List V} {g : β → List V} {ok : α → Prop} {ok' : β → Prop} (ho : fd.offset = off) (hk : P.cellsOf fd.type = k)
    (h1 : Opens enc P w fd.type f ok) (h2 : OpensF enc P w total (off + k) fs g ok') : OpensF enc P w total off (fd :: fs) (fun x : α × β => f x.1 ++ g x.2) (fun x => ok x.1 ∧ ok' x.2) := by
  intro n cs hl hf
  obtain ⟨x, hx⟩ := hf fd (by simp)
  rw [ho, hk] at hx
  obtain ⟨a, a1, a2, a3⟩ := h1 _ _ _ hx
  obtain ⟨b, b1, b2, b3⟩ := h2 n cs hl (fun fd' h' => hf fd' (by simp [h']))
  have hsplit : cs.drop off = (cs.drop off).take k ++ cs.drop (off + k) := by rw [← List.drop_drop, List.take_append_drop]
  refine ⟨(a, b), ?_, ⟨a2, b2⟩, ?_⟩
  · rw [hsplit]; exact riL_append a1 b1
  · rw [hsplit]
    intro u hu
    rcases List.mem_append.1 hu with hu | hu
    · exact a3 u hu
    · exact b3 u hu
theorem opens_struct {t : TypeId} {fs : Array Field} {total : Nat} {α : Type} {f : α → List V} {ok : α → Prop} (ht : P.underlying t = some (.struct fs)) (hc : P.cellsOf t = total) (h : OpensF enc P w total 0 fs.toList f ok) : Opens enc P w t f ok := by
  intro fuel cs x hx
  obtain ⟨xs, n, _, _, hl, hxl, hf⟩ := DataW.trod_struct ht hx
  have := h n cs (by omega) (fun fd hfd => by
    obtain ⟨i, hi⟩ := List.mem_iff_getElem?.1 hfd
    have hi' : fs[i]? = some fd := by simpa using hi
    have := hf i fd hi'
    have hil : i < xs.length := by rw [hxl]; exact lt_of_some hi'
    rw [List.getElem?_eq_getElem hil] at this
    exact ⟨_, this⟩)
  simpa using this
theorem arg_slice {t e : TypeId} {v : Value} {d : DataW H} {p : List MemPlace} {r : Reach} {b0 : Nat} {α : Type} {f : α → V} {ok : α → Prop} (ht : P.underlying t = some (.slice e)) (hval : Value.okWide P w r b0 t v) (h : DataW.Trod enc P w 0 (fun _ => true) true t v d p)
    (ho : Opens enc P w t (fun a => [f a]) ok) : ∃ a, ri (FW w) w (f a) v ∧ ok a := by
  obtain ⟨a, len, cap, rfl⟩ := WideShapes.okWide_slice ht hval
  obtain ⟨fuel, hf⟩ := h
  obtain ⟨y, h1, h2, _⟩ := ho _ _ _ hf
  simp only [Value.cells, riL] at h1
  obtain ⟨x, xs, hx, h3, _⟩ := h1
  simp at hx
  exact ⟨y, by rw [hx.1]; exact h3, h2⟩
end
end Go.Proofs.YtmddjopahcbefaaGreat.Clean
