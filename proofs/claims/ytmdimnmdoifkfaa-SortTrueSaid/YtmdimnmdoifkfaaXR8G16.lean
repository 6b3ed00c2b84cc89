/- A part of the proof. -/
import Derived.Test.YtmdimnmdoifkfaaProg
import Derived.Test.YtmdimnmdoifkfaaXR8G10
import Derived.Test.YtmdimnmdoifkfaaXR8G11
import Derived.Test.YtmdimnmdoifkfaaXR8G12
import Derived.Test.YtmdimnmdoifkfaaXR8G13
import Derived.Test.YtmdimnmdoifkfaaXR8G14
import Derived.Test.YtmdimnmdoifkfaaXR8G15
namespace Go.Proofs.Ytmdimnmdoifkfaa
open Go Go.Proofs.Ytmdimnmdoifkfaa.Clean
set_option linter.unusedVariables false
set_option maxRecDepth 100000
theorem tok0 : Facts Try.prog glX tb0 := trivial
theorem t0 : KFX fa0 := k0 tok0
theorem tok1 : Facts Try.prog glX tb1 := ⟨t0, tok0⟩
theorem t1 : KFX fa1 := k1 tok1
theorem tok2 : Facts Try.prog glX tb2 := ⟨t1, tok1⟩
theorem t2 : KFX fa2 := k2 tok2
theorem tok3 : Facts Try.prog glX tb3 := ⟨t2, tok2⟩
theorem t3 : KFX fa3 := k3 tok3
theorem tok4 : Facts Try.prog glX tb4 := ⟨t3, tok3⟩
theorem t4 : KFX fa4 := k4 tok4
theorem tok5 : Facts Try.prog glX tb5 := ⟨t4, tok4⟩
theorem t5 : KFX fa5 := k5 tok5
end Go.Proofs.Ytmdimnmdoifkfaa
namespace Go.Proofs.Ytmdimnmdoifkfaa
open Go Go.Proofs.Ytmdimnmdoifkfaa.Clean
set_option linter.unusedVariables false
set_option maxRecDepth 100000
end Go.Proofs.Ytmdimnmdoifkfaa
namespace Go.Proofs.Ytmdimnmdoifkfaa
open Go Go.Proofs.Ytmdimnmdoifkfaa.Clean
set_option linter.unusedVariables false
set_option linter.unusedSimpArgs false
set_option maxRecDepth 10000
theorem alive44 {R : V → Prop} (h : R (bv true)) : K0G Try.prog glX 44 [] R := K0G.mono' (show K0G Try.prog glX 44 [] fun v => v = bv true from t5) fun v hv => by rw [hv]; exact h
theorem clu_join (S : Int) : ∀ (n : Nat) (l : List Fd), l.length ≤ n → (cluN S n l).flatten = l
  | 0, l, h => by rw [List.eq_nil_of_length_eq_zero (Nat.le_zero.1 h)]; rfl
  | n + 1, [], _ => rfl
  | n + 1, x :: r, h => by
    simp only [List.length_cons] at h
    have := cl1_len S r x
    simp only [cluN, List.flatten_cons, List.cons_append]
    rw [clu_join S n _ (by omega), cl1_app]
theorem clu_flat (S : Int) (l : List Fd) : (clu S l).flatten = l := clu_join S _ l (Nat.le_refl _)
theorem fat_len (b : Bt) : ∀ L : List (List Fd), (L.flatMap (fatC b)).length = L.flatten.length
  | [] => rfl
  | c :: L => by rw [List.flatMap_cons, List.flatten_cons, List.length_append, List.length_append, fat_len b L, fatC, List.length_map]
theorem fates_length (b : Bt) (l : List Fd) : (fates b l).length = l.length := by rw [fates, fat_len, clu_flat]
theorem ftel {F : List Ft} {i : Nat} {x : Ft} {k : Int → Int → Int → Prop} (h : F[i]? = some x) (hk : k x.1 x.2.1 x.2.2) : onSome (ftl F)[i]? fun row => onCons (List.drop 0 row) fun u r => onIntK IntKind.i64 u fun n => onCons r fun u r => onIntK IntKind.i64 u fun m => onCons r fun u r => onIntK IntKind.i64 u fun q => k n m q := onSome_mk (by simp [ftl, h] : (ftl F)[i]? = some (ftr x)) hk
theorem lsF_cases (F : List Ft) : ∃ s, (F = [] ∨ s = 3) ∧ ∀ k : Nat → List (List V) → Prop, k s (ftl F) → onLst (lsF F) k := by
  cases F with
  | nil => exact ⟨0, .inl rfl, fun k h => h⟩
  | cons x t => exact ⟨3, .inr rfl, fun k h => h⟩
theorem sm_bins {b : Bt} {l : List Fd} (h : Sm b l) : b.bins.length ≤ 1000 := by have := h.2.1; omega
end Go.Proofs.Ytmdimnmdoifkfaa
namespace Go.Proofs.Ytmdimnmdoifkfaa
open Go Go.Proofs.Ytmdimnmdoifkfaa.Clean
set_option linter.unusedVariables false
set_option maxRecDepth 100000
noncomputable def cfR : Cfg := cfgM Try.prog glX moT tyT (inN [75, 61, 95]) kpT
noncomputable def hB (b : Bt) : Hp := ⟨[(0, O.rows 5 false [bel b])], 1, []⟩
noncomputable def sh27 (s s' : Nat) (l m : List Ft) (k : Nat) : St := ⟨mkT [(0, V.lst s (ftl l)), (1, V.lst s' (ftl m)), (5, iv (k : Int))], ⟨[], 0, []⟩⟩
end Go.Proofs.Ytmdimnmdoifkfaa
namespace Go.Proofs.Ytmdimnmdoifkfaa
open Go Go.Proofs.Ytmdimnmdoifkfaa.Clean
set_option linter.unusedVariables false
set_option linter.unusedSimpArgs false
set_option maxRecDepth 10000
theorem hcR : cfR.ok Try.prog := cfgM_ok
instance (S : Int) (l : List Fd) (j : Nat) : Decidable (nearP S l j) := by unfold nearP; infer_instance
def firstF (S : Int) (l : List Fd) : Nat → Nat
  | 0 => 0
  | i + 1 => if nearP S l (i + 1) then firstF S l i else i + 1
def lastF (S : Int) (l : List Fd) : Nat → Nat → Nat
  | 0, i => i
  | n + 1, i => if i + 1 < l.length ∧ nearP S l (i + 1) then lastF S l n (i + 1) else i
def lastI (S : Int) (l : List Fd) (i : Nat) : Nat := lastF S l (l.length - i) i
theorem firstF_le (S : Int) (l : List Fd) : ∀ i, firstF S l i ≤ i
  | 0 => Nat.le_refl _
  | i + 1 => by
    unfold firstF
    split
    · have := firstF_le S l i; omega
    · omega
def SiP (b : Bt) (l : List Fd) (p q i : Nat) : Prop := (∀ k, p ≤ k → k ≤ q → gk b (fd l k) = gk b (fd l i)) ∧ gk b (fd l i) ≠ -1 ∧ (fd l q).1 - (fd l p).1 + 3 * b.S + 1 ≤ (gt b (gk b (fd l i))).1 - b.C
noncomputable def sortI (b : Bt) (l : List Fd) (i : Nat) : Int := if dc (SiP b l (firstF b.S l i) (lastI b.S l i) i) = true then gk b (fd l i) else -1
end Go.Proofs.Ytmdimnmdoifkfaa
namespace Go.Proofs.Ytmdimnmdoifkfaa
open Go Go.Proofs.Ytmdimnmdoifkfaa.Clean
set_option linter.unusedVariables false
set_option linter.unusedSimpArgs false
set_option maxRecDepth 10000
noncomputable def fateI (b : Bt) (l : List Fd) (i : Nat) : Ft := fateF b (fd l i) (sortI b l i)
noncomputable def fatR (b : Bt) (l : List Fd) (k : Nat) : List Ft := (List.range k).map (fateI b l)
theorem fatR_len (b : Bt) (l : List Fd) (k : Nat) : (fatR b l k).length = k := by simp [fatR]
theorem sortI_rng (b : Bt) (l : List Fd) (i : Nat) : sortI b l i = -1 ∨ ∃ m : Nat, sortI b l i = m ∧ m < b.gs.length := by
  unfold sortI
  split
  · rcases gate_rng b (kindOf (fd l i).2.2) with h | ⟨m, h, h', _⟩
    · exact .inl h
    · exact .inr ⟨m, h, h'⟩
  · exact .inl rfl
def ltK (a x : Sw) : Prop := a.1 < x.1 ∨ (a.1 = x.1 ∧ a.2.1 < x.2.1)
instance (a x : Sw) : Decidable (ltK a x) := by unfold ltK; infer_instance
def putF : List Sw → Sw → List Sw
  | [], x => [x]
  | a :: l, x => if ltK a x then a :: putF l x else x :: a :: l
theorem putF_length (x : Sw) : ∀ l, (putF l x).length = l.length + 1
  | [] => rfl
  | a :: l => by
    unfold putF
    split
    · simp [putF_length x l]
    · rfl
theorem swel {l : List Sw} {i : Nat} {a : Sw} {k : Int → Int → Bool → Prop} (h : l[i]? = some a) (hk : k a.1 a.2.1 a.2.2) : onSome (swl l)[i]? fun row => onCons (List.drop 0 row) fun u r => onIntK IntKind.i64 u fun n => onCons r fun u r => onIntK IntKind.i64 u fun m => onCons r fun u r => onBool u fun q => k n m q := onSome_mk (by simp [swl, h] : (swl l)[i]? = some (swr a)) hk
end Go.Proofs.Ytmdimnmdoifkfaa
namespace Go.Proofs.Ytmdimnmdoifkfaa
open Go Go.Proofs.Ytmdimnmdoifkfaa.Clean
set_option linter.unusedVariables false
set_option linter.unusedSimpArgs false
set_option maxRecDepth 10000
def outI (b : Bt) (l : List Fd) (k : Nat) (g : Int) : Sw := ((fd l k).1 + (gt b g).1 - b.S, g, true)
def backI (b : Bt) (l : List Fd) (k : Nat) (g : Int) : Sw := ((fd l (lastI b.S l k)).1 + (gt b g).1 + 1, g, false)
noncomputable def rstep (b : Bt) (l : List Fd) (F : List Sw) (k : Nat) : List Sw := if sortI b l k = -1 ∨ firstF b.S l k ≠ k then F else putF (putF F (outI b l k (sortI b l k))) (backI b l k (sortI b l k))
noncomputable def rsw (b : Bt) (l : List Fd) : Nat → List Sw
  | 0 => []
  | k + 1 => rstep b l (rsw b l k) k
theorem rsw_len (b : Bt) (l : List Fd) : ∀ k, (rsw b l k).length ≤ 2 * k
  | 0 => Nat.le_refl _
  | k + 1 => by
    have := rsw_len b l k
    rw [rsw, rstep]
    split
    · omega
    · rw [putF_length, putF_length]; omega
theorem same27 {s s' : Nat} {l : List Ft} {R : V → Prop} (hl : l.length ≤ 900) (hs : l = [] ∨ s = 3) (hs' : l = [] ∨ s' = 3) (h : R (bv true)) : K0G Try.prog glX 27 [.lst s (ftl l), .lst s' (ftl l)] R := by
  obtain ⟨m, hm⟩ : ∃ m, m = l := ⟨l, rfl⟩
  rw [show [V.lst s (ftl l), V.lst s' (ftl l)] = [V.lst s (ftl l), V.lst s' (ftl m)] from by rw [hm]]
  refine K0_of_WY0 hmX hcR 3000 Try.func27 (see (p := ifB ((↑(ftl l).length : Int) != (↑(ftl m).length : Int)) (R (bv false)) (La 0 [(0 : Tmp), (1 : Tmp), (5 : Tmp)] (WY Try.prog cfR 2994 (Env.mk (Bs.mk 0 []) 0 none 26 27 0) (cdAt [1, 1, 0, 1, 0, 0] (bodyOf Try.f27))) (Qblk 0 (Qthen (WY Try.prog cfR 2997 (Env.mk (Bs.mk 0 []) 0 none 26 27 0) (cdAt [1, 1, 1] (bodyOf Try.f27)) (QendX Try.prog Try.f27 fun v h => R (frzW h v))) (QendX Try.prog Try.f27 fun v h => R (frzW h v)))) (St.mk (mkT [(0, V.lst s (ftl l)), (1, V.lst s' (ftl m)), (5, iv (0 : Int))]) (Hp.mk [] 0 [])))) (by kernel_rfl) ?_)
  refine ifB_f (by rw [hm]; simp) ?_
  refine La.of (σ := Nat) (fun k => sh27 s s' l m k) (fun k => k ≤ l.length) (fun k => l.length - k) 0 (by kernel_rfl) (by omega) ?_
  rintro k g1 J hJ
  refine see (p := ifB (decide ((↑k : Int) < (↑(ftl l).length : Int))) (need (s = 3) (onSome (ftl l)[k]? fun row => onCons (List.drop 0 row) fun u r => onIntK IntKind.i64 u fun n => onCons r fun u r => onIntK IntKind.i64 u fun n_1 => onCons r fun u r => onIntK IntKind.i64 u fun n_2 => need (s' = 3) (onSome (ftl m)[k]? fun row => onCons (List.drop 0 row) fun u r => onIntK IntKind.i64 u fun n_3 => onCons r fun u r => onIntK IntKind.i64 u fun n_4 => onCons r fun u r => onIntK IntKind.i64 u fun n_5 => ifB (!(fun b => n == n_3 && b) ((fun b => n_1 == n_4 && b) ((fun b => n_2 == n_5 && b) true))) (R (bv false)) (J (St.mk (mkT [(0, V.lst s (ftl l)), (1, V.lst s' (ftl m)), (5, iv (IntKind.i64.wrap ((↑k : Int) + (1 : Int))))]) (Hp.mk [] 0 [])))))) (R (bv true))) (by kernel_rfl) ?_
  refine ifB_mk (fun c => ?_) (fun _ => h)
  have hlt : k < l.length := by rw [ftl_length] at c; have := of_decide_eq_true c; omega
  have hne : l ≠ [] := fun e => by rw [e] at hlt; simp at hlt
  obtain ⟨x, hx⟩ := getI hlt
  rw [wr (n := (k : Int) + 1) (by omega) (by omega)]
  refine need_mk ⟨hs.resolve_left hne, ftel hx (need_mk ⟨hs'.resolve_left hne, ftel (F := m) (by rw [hm]; exact hx) (ifB_f (by simp) ?_)⟩)⟩
  exact hJ (k + 1) hlt (by omega)
end Go.Proofs.Ytmdimnmdoifkfaa
namespace Go.Proofs.Ytmdimnmdoifkfaa
open Go Go.Proofs.Ytmdimnmdoifkfaa.Clean
set_option linter.unusedVariables false
set_option linter.unusedSimpArgs false
set_option maxRecDepth 10000
def Blk (S : Int) (l : List Fd) (p m : Nat) : Prop := 1 ≤ m ∧ p + m ≤ l.length ∧ (p = 0 ∨ ¬ nearP S l p) ∧ (∀ j, p < j → j < p + m → nearP S l j) ∧ (p + m = l.length ∨ ¬ nearP S l (p + m))
theorem first_blk {S : Int} {l : List Fd} {p m : Nat} (h : Blk S l p m) : ∀ i, p ≤ i → i < p + m → firstF S l i = p
  | 0, h1, _ => by
    have : p = 0 := by omega
    subst this; rfl
  | i + 1, h1, h2 => by
    obtain ⟨b1, b2, b3, b4, b5⟩ := h
    unfold firstF
    by_cases hp : p = i + 1
    · have hn : ¬ nearP S l (i + 1) := by rw [← hp]; exact b3.resolve_left (by omega)
      rw [if_neg hn, hp]
    · rw [if_pos (b4 (i + 1) (by omega) h2)]
      exact first_blk ⟨b1, b2, b3, b4, b5⟩ i (by omega) (by omega)
theorem last_blk {S : Int} {l : List Fd} {p m : Nat} (h : Blk S l p m) : ∀ n i, p ≤ i → i < p + m → p + m - 1 - i ≤ n → lastF S l n i = p + m - 1
  | 0, i, h1, h2, h3 => by
    have : i = p + m - 1 := by omega
    rw [lastF, this]
  | n + 1, i, h1, h2, h3 => by
    obtain ⟨b1, b2, b3, b4, b5⟩ := h
    unfold lastF
    by_cases hi : i = p + m - 1
    · have hn : ¬ (i + 1 < l.length ∧ nearP S l (i + 1)) := by
        rw [show i + 1 = p + m from by omega]
        rcases b5 with e | e
        · omega
        · exact fun hh => e hh.2
      rw [if_neg hn, hi]
    · rw [if_pos ⟨by omega, b4 (i + 1) (by omega) (by omega)⟩]
      exact last_blk ⟨b1, b2, b3, b4, b5⟩ n (i + 1) (by omega) (by omega) (by omega)
theorem lastI_blk {S : Int} {l : List Fd} {p m i : Nat} (h : Blk S l p m) (h1 : p ≤ i) (h2 : i < p + m) : lastI S l i = p + m - 1 := last_blk h _ i h1 h2 (by have := h.2.1; omega)
theorem fd_sub (l : List Fd) (p m j : Nat) (hj : j < m) : fd ((l.drop p).take m) j = fd l (p + j) := by
  unfold fd
  rw [List.getD_eq_getElem?_getD, List.getD_eq_getElem?_getD, List.getElem?_take_of_lt hj, List.getElem?_drop]
theorem sort_blk {b : Bt} {l : List Fd} {p m i : Nat} (h : Blk b.S l p m) (h1 : p ≤ i) (h2 : i < p + m) : sortI b l i = sortF b ((l.drop p).take m) := by
  have b1 := h.1; have b2 := h.2.1
  have hcl : ((l.drop p).take m).length = m := by rw [List.length_take, List.length_drop]; omega
  rw [sortI, first_blk h i h1 h2, lastI_blk h h1 h2, sortF]
  have e0 : fd ((l.drop p).take m) 0 = fd l p := fd_sub l p m 0 (by omega)
  have e1 : fd ((l.drop p).take m) (((l.drop p).take m).length - 1) = fd l (p + m - 1) := by rw [hcl, fd_sub l p m (m - 1) (by omega), show p + (m - 1) = p + m - 1 from by omega]
  have mem : ∀ y, y ∈ (l.drop p).take m ↔ ∃ k, p ≤ k ∧ k ≤ p + m - 1 ∧ y = fd l k := fun y => by
    constructor
    · intro hy
      obtain ⟨j, hj⟩ := List.mem_iff_getElem?.1 hy
      have hjm : j < m := by have := (List.getElem?_eq_some_iff.1 hj).1; omega
      have := fd_get (l := (l.drop p).take m) (i := j) (by omega)
      rw [this, fd_sub l p m j hjm] at hj
      cases hj
      exact ⟨p + j, by omega, by omega, rfl⟩
    · rintro ⟨k, k1, k2, rfl⟩
      have := fd_get (l := (l.drop p).take m) (i := k - p) (by omega)
      rw [fd_sub l p m (k - p) (by omega), show p + (k - p) = k from by omega] at this
      exact mem_at this
  by_cases hs : SrP b ((l.drop p).take m)
  · have hall : ∀ k, p ≤ k → k ≤ p + m - 1 → gk b (fd l k) = gk b (fd l p) := fun k k1 k2 => by rw [← e0]; exact hs.2.2 _ ((mem _).2 ⟨k, k1, k2, rfl⟩)
    have hi := hall i h1 (by omega)
    have hs' := hs.2.1
    rw [e0, e1] at hs'
    have : SiP b l p (p + m - 1) i := ⟨fun k k1 k2 => by rw [hi]; exact hall k k1 k2, by rw [hi, ← e0]; exact hs.1, by rw [hi]; exact hs'⟩
    rw [if_pos (dc_t this), if_pos (dc_t hs), e0, hi]
  · by_cases hi : SiP b l p (p + m - 1) i
    · refine (hs ⟨?_, ?_, fun y hy => ?_⟩).elim
      · rw [e0, hi.1 p (Nat.le_refl _) (by omega)]; exact hi.2.1
      · rw [e0, e1, hi.1 p (Nat.le_refl _) (by omega)]; exact hi.2.2
      · obtain ⟨k, k1, k2, rfl⟩ := (mem y).1 hy
        rw [e0, hi.1 p (Nat.le_refl _) (by omega)]; exact hi.1 k k1 k2
    · simp only [dc_f hs, dc_f hi, Bool.false_eq_true, if_false]
theorem near_drop {S : Int} {l : List Fd} {p j : Nat} (hj : 1 ≤ j) : nearP S (l.drop p) j ↔ nearP S l (p + j) := by
  unfold nearP fd
  simp only [List.getD_eq_getElem?_getD, List.getElem?_drop]
  rw [show p + (j - 1) = p + j - 1 from by omega]
theorem blk_ex {S : Int} {l : List Fd} {p : Nat} (hp : p < l.length) (hs : p = 0 ∨ ¬ nearP S l p) : ∃ m, Blk S l p m := by
  have key : ∀ n m, l.length - (p + m) ≤ n → 1 ≤ m → p + m ≤ l.length → (∀ j, p < j → j < p + m → nearP S l j) → ∃ m, Blk S l p m := by
    intro n
    induction n with
    | zero => intro m h1 h2 h3 h4; exact ⟨m, h2, h3, hs, h4, .inl (by omega)⟩
    | succ n ih =>
      intro m h1 h2 h3 h4
      by_cases he : p + m = l.length
      · exact ⟨m, h2, h3, hs, h4, .inl he⟩
      · by_cases hn : nearP S l (p + m)
        · refine ih (m + 1) (by omega) (by omega) (by omega) (fun j a c => ?_)
          by_cases hj : j = p + m
          · rw [hj]; exact hn
          · exact h4 j a (by omega)
        · exact ⟨m, h2, h3, hs, h4, .inr hn⟩
  exact key _ 1 (Nat.le_refl _) (Nat.le_refl _) (by omega) (fun j a c => by omega)
theorem blk_clu {S : Int} {l : List Fd} {p m : Nat} (h : Blk S l p m) : clu S (l.drop p) = (l.drop p).take m :: clu S (l.drop (p + m)) := by
  obtain ⟨b1, b2, b3, b4, b5⟩ := h
  have hl : (l.drop p).length = l.length - p := List.length_drop
  rw [clu_take (m := m) b1 (by omega) (fun j h1 h2 => (near_drop h1).2 (b4 (p + j) (by omega) (by omega))) (by
    rcases b5 with e | e
    · exact .inl (by omega)
    · exact .inr (fun hh => e ((near_drop b1).1 hh))), List.drop_drop]
theorem by_clusters {S : Int} {l : List Fd} (P : Nat → Prop) (h0 : P 0) (hs : ∀ p m, Blk S l p m → P p → P (p + m)) : P l.length := by
  have key : ∀ n p, l.length - p ≤ n → p ≤ l.length → (p = 0 ∨ p = l.length ∨ ¬ nearP S l p) → P p → P l.length := by
    intro n
    induction n with
    | zero => intro p h1 h2 _ h; rwa [show p = l.length from by omega] at h
    | succ n ih =>
      intro p h1 h2 h3 h
      by_cases he : p = l.length
      · rwa [he] at h
      · obtain ⟨m, hm⟩ := blk_ex (S := S) (l := l) (p := p) (by omega) (by rcases h3 with e | e | e; exact .inl e; exact (he e).elim; exact .inr e)
        exact ih (p + m) (by have := hm.1; omega) hm.2.1 (.inr hm.2.2.2.2) (hs p m hm h)
  exact key _ 0 (Nat.le_refl _) (by omega) (.inl rfl) h0
theorem fates_eq (b : Bt) (l : List Fd) : fatR b l l.length = fates b l := by
  have := by_clusters (S := b.S) (l := l) (fun p => fates b l = fatR b l p ++ fates b (l.drop p)) rfl (fun p m h hp => by
    rw [hp, fates, blk_clu h, List.flatMap_cons, ← List.append_assoc]
    refine congrArg (· ++ _) ?_
    have b1 := h.1; have b2 := h.2.1
    have hcl : ((l.drop p).take m).length = m := by rw [List.length_take, List.length_drop]; omega
    refine List.ext_getElem? (fun i => ?_)
    by_cases hi : i < p
    · rw [List.getElem?_append_left (by rw [fatR_len]; exact hi)]
      simp [fatR, hi, show i < p + m from by omega]
    · rw [List.getElem?_append_right (by rw [fatR_len]; omega), fatR_len]
      by_cases hm : i < p + m
      · have hg := fd_get (l := (l.drop p).take m) (i := i - p) (by omega)
        rw [fd_sub l p m (i - p) (by omega), show p + (i - p) = i from by omega] at hg
        rw [fatC, List.getElem?_map, hg]
        simp [fatR, hm, fateI, sort_blk h (show p ≤ i by omega) hm]
      · rw [List.getElem?_eq_none (by rw [fatC, List.length_map, hcl]; omega), List.getElem?_eq_none (by rw [fatR_len]; omega)])
  rw [this, List.drop_length]
  simp [fates, clu_nil]
theorem ltK_irr (x : Sw) : ¬ ltK x x := by rintro (h | h) <;> omega
theorem gt_iff (x y : Sw) : gtS x y ↔ ltK y x := by
  unfold gtS ltK
  constructor
  · rintro (h | h)
    · exact .inl h
    · exact .inr ⟨h.1.symm, h.2⟩
  · rintro (h | h)
    · exact .inl h
    · exact .inr ⟨h.1.symm, h.2⟩
theorem ltK_trans {x y z : Sw} (h : ltK x y) (h' : ltK y z) : ltK x z := by
  unfold ltK at *
  omega
theorem insN_split (A B : List Sw) (x : Sw) (hA : ∀ a ∈ A, ltK a x) (hB : ∀ a ∈ B, ltK x a) : ∀ n, A.length ≤ n → n ≤ (A ++ B).length → insN (A ++ B) x n = A.length := by
  intro n
  induction n with
  | zero => intro h1 h2; rw [insN]; omega
  | succ n ih =>
    intro h1 h2
    rw [insN]
    simp only [List.length_append] at h2
    by_cases hn : A.length = n + 1
    · have hg : (A ++ B).getD n (0, 0, false) ∈ A := by
        rw [List.getD_eq_getElem?_getD, List.getElem?_append_left (by omega), List.getElem?_eq_getElem (by omega)]
        exact List.getElem_mem _
      rw [if_neg (fun hh => ltK_irr _ (ltK_trans ((gt_iff _ _).1 hh) (hA _ hg))), hn]
    · have hg : (A ++ B).getD n (0, 0, false) ∈ B := by
        rw [List.getD_eq_getElem?_getD, List.getElem?_append_right (by omega), List.getElem?_eq_getElem (by omega)]
        exact List.getElem_mem _
      rw [if_pos ((gt_iff _ _).2 (hB _ hg))]
      exact ih (by omega) (by simp only [List.length_append]; omega)
theorem ins_split {A B : List Sw} {x : Sw} (hA : ∀ a ∈ A, ltK a x) (hB : ∀ a ∈ B, ltK x a) : insF (A ++ B) x = A ++ [x] ++ B := by
  have h := insN_split A B x hA hB (A ++ B).length (by simp) (Nat.le_refl _)
  rw [insF, h]
  simp
theorem put_split {A B : List Sw} {x : Sw} (hA : ∀ a ∈ A, ltK a x) (hB : ∀ a ∈ B, ltK x a) : putF (A ++ B) x = A ++ [x] ++ B := by
  induction A with
  | nil =>
    cases B with
    | nil => rfl
    | cons b B =>
      show putF (b :: B) x = x :: b :: B
      rw [putF, if_neg (fun hh => ltK_irr _ (ltK_trans hh (hB b (by simp))))]
  | cons a A ih =>
    show putF (a :: (A ++ B)) x = a :: (A ++ [x] ++ B)
    rw [putF, if_pos (hA a (by simp)), ih (fun c hc => hA c (by simp [hc]))]
def Sorted (l : List Sw) : Prop := l.Pairwise ltK
theorem split_ex {l : List Sw} {x : Sw} (hs : Sorted l) (hx : ∀ a ∈ l, ltK a x ∨ ltK x a) : ∃ A B, l = A ++ B ∧ (∀ a ∈ A, ltK a x) ∧ ∀ a ∈ B, ltK x a := by
  induction l with
  | nil => exact ⟨[], [], rfl, by simp, by simp⟩
  | cons a l ih =>
    have hp := List.pairwise_cons.1 hs
    rcases hx a (by simp) with h | h
    · obtain ⟨A, B, e, hA, hB⟩ := ih hp.2 (fun c hc => hx c (by simp [hc]))
      refine ⟨a :: A, B, by rw [e]; rfl, fun c hc => ?_, hB⟩
      rcases List.mem_cons.1 hc with rfl | hc
      · exact h
      · exact hA c hc
    · refine ⟨[], a :: l, rfl, by simp, fun c hc => ?_⟩
      rcases List.mem_cons.1 hc with rfl | hc
      · exact h
      · exact ltK_trans h (hp.1 c hc)
theorem ins_put {l : List Sw} {x : Sw} (hs : Sorted l) (hx : ∀ a ∈ l, ltK a x ∨ ltK x a) : insF l x = putF l x ∧ Sorted (insF l x) ∧ ∀ a, a ∈ insF l x ↔ a = x ∨ a ∈ l := by
  obtain ⟨A, B, rfl, hA, hB⟩ := split_ex hs hx
  rw [ins_split hA hB, put_split hA hB]
  obtain ⟨s1, s2, s3⟩ := List.pairwise_append.1 hs
  refine ⟨rfl, ?_, fun a => by simp; constructor <;> (intro h; rcases h with h | h | h) <;> simp [h]⟩
  rw [Sorted, List.append_assoc, List.pairwise_append]
  refine ⟨s1, List.pairwise_cons.2 ⟨hB, s2⟩, fun a ha c hc => ?_⟩
  rcases List.mem_cons.1 hc with rfl | hc
  · exact hA a ha
  · exact s3 a ha c hc
end Go.Proofs.Ytmdimnmdoifkfaa
namespace Go.Proofs.Ytmdimnmdoifkfaa
open Go Go.Proofs.Ytmdimnmdoifkfaa.Clean
set_option linter.unusedVariables false
set_option linter.unusedSimpArgs false
set_option maxRecDepth 10000
theorem fd_mono {l : List Fd} (hf : FdP l) {i j : Nat} (h : i < j) (hj : j < l.length) : (fd l i).1 < (fd l j).1 := by
  have := pw_at (fd_get hj) hf.2.2 (fd l i) (by
    have hg := fd_get (l := l) (i := i) (by omega)
    rw [← List.getElem?_take_of_lt h] at hg
    exact mem_at hg)
  exact this
def Bfr (b : Bt) (l : List Fd) (p : Nat) (F : List Sw) : Prop := Sorted F ∧ ∀ s ∈ F, ∃ i, i < p ∧ s.1 ≤ (fd l i).1 + (gt b s.2.1).1 + 1
theorem swings_eq {b : Bt} {l : List Fd} (hb : BtP b) (hf : FdP l) : rsw b l l.length = swings b l ∧ Sorted (swings b l) := by
  have hS := hb.2.1
  have := by_clusters (S := b.S) (l := l) (fun p => swings b l = swL b (clu b.S (l.drop p)) (rsw b l p) ∧ Bfr b l p (rsw b l p)) ⟨rfl, by simp [rsw, Sorted], fun s hs => by simp [rsw] at hs⟩ (fun p m h hp => by
    obtain ⟨hp1, hs1, hs2⟩ := hp
    have hB := h
    obtain ⟨b1, b2, b3, b4, b5⟩ := h
    have hcl : ((l.drop p).take m).length = m := by rw [List.length_take, List.length_drop]; omega
    have e0 : fd ((l.drop p).take m) 0 = fd l p := fd_sub l p m 0 (by omega)
    have e1 : fd ((l.drop p).take m) (((l.drop p).take m).length - 1) = fd l (p + m - 1) := by rw [hcl, fd_sub l p m (m - 1) (by omega), show p + (m - 1) = p + m - 1 from by omega]
    have rest : ∀ n, n + 1 ≤ m → rsw b l (p + 1 + n) = rsw b l (p + 1) := by
      intro n
      induction n with
      | zero => intro _; rfl
      | succ n ih =>
        intro hn
        rw [show p + 1 + (n + 1) = (p + 1 + n) + 1 from by omega, rsw, rstep, if_pos (.inr (by rw [first_blk hB (p + 1 + n) (by omega) (by omega)]; omega)), ih (by omega)]
    have hpm : rsw b l (p + m) = rstep b l (rsw b l p) p := by
      have := rest (m - 1) (by omega)
      rw [show p + 1 + (m - 1) = p + m from by omega] at this
      rw [this, rsw]
    have hso : sortI b l p = sortF b ((l.drop p).take m) := sort_blk hB (Nat.le_refl _) (by omega)
    have hfi : firstF b.S l p = p := first_blk hB p (Nat.le_refl _) (by omega)
    have hla : lastI b.S l p = p + m - 1 := lastI_blk hB (Nat.le_refl _) (by omega)
    have hsw : swings b l = swL b (clu b.S (l.drop (p + m))) (swC b (rsw b l p) ((l.drop p).take m)) := by rw [hp1, blk_clu hB]; rfl
    by_cases hg : sortI b l p = -1
    · have : rsw b l (p + m) = rsw b l p := by rw [hpm, rstep, if_pos (.inl hg)]
      rw [this]
      refine ⟨?_, hs1, fun s hs => ?_⟩
      · rw [hsw, swC, if_pos (hso ▸ hg)]
      · obtain ⟨i, i1, i2⟩ := hs2 s hs
        exact ⟨i, by omega, i2⟩
    · have hstep : rsw b l (p + m) = putF (putF (rsw b l p) (outI b l p (sortI b l p))) (backI b l p (sortI b l p)) := by rw [hpm, rstep, if_neg (by rintro (e | e); exact hg e; exact e hfi)]
      have ho : outS b ((l.drop p).take m) (sortF b ((l.drop p).take m)) = outI b l p (sortI b l p) := by rw [outS, outI, e0, hso]
      have hk : backS b ((l.drop p).take m) (sortF b ((l.drop p).take m)) = backI b l p (sortI b l p) := by rw [backS, backI, e1, hso, hla]
      have hc : swC b (rsw b l p) ((l.drop p).take m) = insF (insF (rsw b l p) (outI b l p (sortI b l p))) (backI b l p (sortI b l p)) := by rw [swC, if_neg (by rw [← hso]; exact hg), ho, hk]
      generalize sortI b l p = g at *
      have key : ∀ s ∈ rsw b l p, s.2.1 = g → s.1 < (fd l p).1 + (gt b g).1 - b.S := fun s hs hsg => by
        obtain ⟨i, i1, i2⟩ := hs2 s hs
        rw [hsg] at i2
        have hn : ¬ nearP b.S l p := b3.resolve_left (by omega)
        have h1 : (fd l i).1 ≤ (fd l (p - 1)).1 := by
          by_cases he : i = p - 1
          · rw [he]; omega
          · have := fd_mono hf (i := i) (j := p - 1) (by omega) (by omega); omega
        have h2 : 2 * b.S + 1 < (fd l p).1 - (fd l (p - 1)).1 := by unfold nearP at hn; omega
        omega
      have cmp : ∀ s x : Sw, (s.2.1 = x.2.1 → s.1 < x.1) → ltK s x ∨ ltK x s := fun s x hx => by
        by_cases e : s.2.1 = x.2.1
        · exact .inl (.inl (hx e))
        · unfold ltK
          omega
      obtain ⟨p1, p2, p3⟩ := ins_put (x := outI b l p g) hs1 (fun a ha => cmp a _ (fun e => key a ha e))
      have hlast : (fd l p).1 ≤ (fd l (p + m - 1)).1 := by
        by_cases he : p = p + m - 1
        · rw [← he]; omega
        · have := fd_mono hf (i := p) (j := p + m - 1) (by omega) (by omega); omega
      obtain ⟨q1, q2, q3⟩ := ins_put (x := backI b l p g) p2 (fun a ha => cmp a _ (fun e => by
        show a.1 < (fd l (lastI b.S l p)).1 + (gt b g).1 + 1
        rw [hla]
        rcases (p3 a).1 ha with rfl | ha
        · show (fd l p).1 + (gt b g).1 - b.S < _
          omega
        · have := key a ha e
          omega))
      rw [hstep, ← p1, ← q1]
      refine ⟨by rw [hsw, hc], q2, fun s hs => ?_⟩
      rcases (q3 s).1 hs with rfl | hs
      · exact ⟨p + m - 1, by omega, by show (fd l (lastI b.S l p)).1 + (gt b g).1 + 1 ≤ _; rw [hla]; exact Int.le_refl _⟩
      · rcases (p3 s).1 hs with rfl | hs
        · refine ⟨p, by omega, ?_⟩
          show (fd l p).1 + (gt b g).1 - b.S ≤ (fd l p).1 + (gt b g).1 + 1
          omega
        · obtain ⟨i, i1, i2⟩ := hs2 s hs
          exact ⟨i, by omega, i2⟩)
  obtain ⟨h1, h2, _⟩ := this
  rw [List.drop_length, clu_nil] at h1
  have h1 : swings b l = rsw b l l.length := h1
  exact ⟨h1.symm, by rw [h1]; exact h2⟩
theorem swings_len {b : Bt} {l : List Fd} (hb : BtP b) (hf : FdP l) : (swings b l).length ≤ 80 := by
  have := rsw_len b l l.length
  rw [(swings_eq hb hf).1] at this
  have := hf.1
  omega
theorem lsW_cases (F : List Sw) : ∃ s, (F = [] ∨ s = 3) ∧ ∀ k : Nat → List (List V) → Prop, k s (swl F) → onLst (lsW F) k := by
  cases F with
  | nil => exact ⟨0, .inl rfl, fun k h => h⟩
  | cons x t => exact ⟨3, .inr rfl, fun k h => h⟩
end Go.Proofs.Ytmdimnmdoifkfaa
namespace Go.Proofs.Ytmdimnmdoifkfaa
open Go Go.Proofs.Ytmdimnmdoifkfaa.Clean
set_option linter.unusedVariables false
set_option linter.unusedSimpArgs false
set_option maxRecDepth 10000
theorem put_mem (x a : Sw) : ∀ l, a ∈ putF l x ↔ a = x ∨ a ∈ l
  | [] => by simp [putF]
  | y :: l => by
    unfold putF
    split
    · rw [List.mem_cons, put_mem x a l, List.mem_cons]; exact or_left_comm
    · rw [List.mem_cons]
def At (b : Bt) (l : List Fd) (i : Nat) (s : Sw) : Prop := sortI b l i ≠ -1 ∧ firstF b.S l i = i ∧ (s = outI b l i (sortI b l i) ∨ s = backI b l i (sortI b l i))
theorem rsw_mem (b : Bt) (l : List Fd) (s : Sw) : ∀ k, s ∈ rsw b l k ↔ ∃ i, i < k ∧ At b l i s
  | 0 => by simp [rsw]
  | k + 1 => by
    rw [rsw, rstep]
    split
    · rename_i hc
      rw [rsw_mem b l s k]
      constructor
      · rintro ⟨i, h1, h2⟩; exact ⟨i, by omega, h2⟩
      · rintro ⟨i, h1, h2⟩
        by_cases he : i = k
        · subst he
          rcases hc with hc | hc
          · exact (h2.1 hc).elim
          · exact (hc h2.2.1).elim
        · exact ⟨i, by omega, h2⟩
    · rename_i hc
      rw [put_mem, put_mem, rsw_mem b l s k]
      have h1 : sortI b l k ≠ -1 := fun e => hc (.inl e)
      have h2 : firstF b.S l k = k := Classical.not_not.1 fun e => hc (.inr e)
      constructor
      · rintro (e | e | ⟨i, h, h'⟩)
        · exact ⟨k, by omega, h1, h2, .inr e⟩
        · exact ⟨k, by omega, h1, h2, .inl e⟩
        · exact ⟨i, by omega, h'⟩
      · rintro ⟨i, h, h'⟩
        by_cases he : i = k
        · subst he
          rcases h'.2.2 with e | e
          · exact .inr (.inl e)
          · exact .inl e
        · exact .inr (.inr ⟨i, by omega, h'⟩)
def lo (T : Int) (l : List Fd) : List Fd := l.filter fun x => decide (x.1 ≤ T)
def hi (T : Int) (l : List Fd) : List Fd := l.filter fun x => decide (x.1 > T)
end Go.Proofs.Ytmdimnmdoifkfaa
namespace Go.Proofs.Ytmdimnmdoifkfaa
open Go Go.Proofs.Ytmdimnmdoifkfaa.Clean
set_option linter.unusedVariables false
set_option maxRecDepth 100000
end Go.Proofs.Ytmdimnmdoifkfaa
namespace Go.Proofs.Ytmdimnmdoifkfaa
open Go Go.Proofs.Ytmdimnmdoifkfaa.Clean
set_option linter.unusedVariables false
set_option linter.unusedSimpArgs false
set_option maxRecDepth 10000
theorem sub_all {α : Type} {l : List α} {n : Nat} (h : n = l.length) : sub l 0 n = l := by rw [sub, List.drop_zero, List.take_of_length_le (by omega)]
theorem app_ne {α : Type} (l : List α) (x : α) : l ++ [x] ≠ [] := by simp
end Go.Proofs.Ytmdimnmdoifkfaa
namespace Go.Proofs.Ytmdimnmdoifkfaa
open Go Go.Proofs.Ytmdimnmdoifkfaa.Clean
set_option linter.unusedVariables false
set_option linter.unusedSimpArgs false
set_option maxRecDepth 10000
end Go.Proofs.Ytmdimnmdoifkfaa
namespace Go.Proofs.Ytmdimnmdoifkfaa
open Go Go.Proofs.Ytmdimnmdoifkfaa.Clean
set_option linter.unusedVariables false
set_option maxRecDepth 100000
def lsI (m : List Int) : V := match m with | [] => nilS | x :: t => .lst 1 (nl (x :: t))
def tbl (T : List (List Int)) : List (List V) := T.map fun m => [lsI m]
def kpY : FuncId → Nat → Option (List Tmp) := slotsOf [(71, 0, [1, 2, 5]), (71, 2, [1, 2, 5, 6]), (72, 0, [1, 2, 3, 4, 10, 11]), (110, 0, [0, 1, 6, 7, 8]), (70, 0, [2, 3, 4, 11, 12, 13]), (30, 0, [1, 2, 3, 9, 10]), (30, 2, [1, 2, 3, 9, 10, 11, 12]), (29, 0, [3, 9, 11, 33, 34, 35])]
noncomputable def cfY : Cfg := cfgM Try.prog glX moT tyT (inN [54, 57, 61, 75, 95, 96, 99, 109, 113, 114]) kpY
noncomputable def sh110 (s : Nat) (m : List Int) (t i j : Int) : St := ⟨mkT [(0, V.lst s (nl m)), (1, iv t), (6, iv ((nl m).length : Int)), (7, iv i), (8, iv j)], ⟨[], 0, []⟩⟩
noncomputable def sh70 (b : Bt) (x : Fd) (T : List (List Int)) (k : Nat) : St := ⟨mkT [(2, V.lst 1 (tbl T)), (3, V.ptr (Id.p 0) 0 0), (4, V.ptr (Id.p 1) 0 0), (11, V.lst 2 (gl b.gs)), (12, iv ((gl b.gs).length : Int)), (13, iv (k : Int))], ⟨[(0, O.rows 5 false [bel b]), (1, O.rows 3 false [fdr x])], 2, []⟩⟩
end Go.Proofs.Ytmdimnmdoifkfaa
namespace Go.Proofs.Ytmdimnmdoifkfaa
open Go Go.Proofs.Ytmdimnmdoifkfaa.Clean
set_option linter.unusedVariables false
set_option linter.unusedSimpArgs false
set_option maxRecDepth 10000
theorem hcY : cfY.ok Try.prog := cfgM_ok
def In64 (n : Int) : Prop := -9223372036854775808 ≤ n ∧ n ≤ 9223372036854775807
theorem wrapU (n : Int) : IntKind.u64.wrap n = n % 18446744073709551616 := by simp [IntKind.wrap, IntKind.bits, IntKind.signed]
theorem usub {a c : Int} (ha : In64 a) (hc : In64 c) (h : c ≤ a) : IntKind.u64.wrap (IntKind.u64.wrap a - IntKind.u64.wrap c) = a - c := by
  obtain ⟨a1, a2⟩ := ha
  obtain ⟨c1, c2⟩ := hc
  rw [wrapU, wrapU, wrapU]
  omega
theorem usm {a : Int} (h : 0 ≤ a) (h' : a ≤ 1000) : IntKind.u64.wrap a = a := by rw [wrapU]; omega
theorem mid {i j : Nat} (h : i ≤ 2000) (h' : j ≤ 2000) : IntKind.i64.wrap ((IntKind.u64.wrap (IntKind.i64.wrap ((i : Int) + j))).fdiv ((2 : Int) ^ min (Int.toNat (1 : Int)) (64 : Nat))) = (((i + j) / 2 : Nat) : Int) := by
  rw [wr (n := (i : Int) + j) (by omega) (by omega), wrapU, show ((2 : Int) ^ min (Int.toNat (1 : Int)) (64 : Nat)) = 2 from rfl, Int.fdiv_eq_ediv_of_nonneg _ (by decide), wr (by omega) (by omega)]
  omega
theorem pw_le {m : List Int} (hp : m.Pairwise (· < ·)) {k : Nat} {x : Int} (hx : m[k]? = some x) : (∀ y ∈ m.take k, y < x) ∧ ∀ y ∈ m.drop (k + 1), x < y := by
  have hl := (List.getElem?_eq_some_iff.1 hx).1
  have hm : m = m.take k ++ x :: m.drop (k + 1) := by
    rw [← (List.getElem?_eq_some_iff.1 hx).2, ← List.drop_eq_getElem_cons hl, List.take_append_drop]
  rw [hm] at hp
  obtain ⟨h1, h2, h3⟩ := List.pairwise_append.1 hp
  exact ⟨fun y hy => h3 y hy x (List.mem_cons_self ..), (List.pairwise_cons.1 h2).1⟩
theorem search110 {s : Nat} {m : List Int} {t : Int} {R : V → Prop} (hs : m = [] ∨ s = 1) (hl : m.length ≤ 1000) (hp : m.Pairwise (· < ·)) (h : ∀ (i : Nat) (e : Bool), i ≤ m.length → (∀ x ∈ m.take i, x < t) → (∀ x ∈ m.drop i, t ≤ x) → R (.tup [iv (i : Int), bv e])) : K0G Try.prog glX 110 [.lst s (nl m), iv t] R := by
  refine K0_of_WY0 hmX hcY 3000 Try.func110 (see (p := La 0 [(0 : Tmp), (1 : Tmp), (6 : Tmp), (7 : Tmp), (8 : Tmp)] (WY Try.prog cfY 2994 (Env.mk (Bs.mk 0 []) 0 none 54 110 0) (cdAt [1, 1, 1, 0, 0, 0] (bodyOf Try.f110))) (Qblk 0 (Qthen (WY Try.prog cfY 2996 (Env.mk (Bs.mk 0 []) 0 none 54 110 0) (cdAt [1, 1, 1, 1] (bodyOf Try.f110)) (QendX Try.prog Try.f110 fun v h => R (frzW h v))) (QendX Try.prog Try.f110 fun v h => R (frzW h v)))) (St.mk (mkT [(0, V.lst s (nl m)), (1, iv t), (6, iv (↑(nl m).length : Int)), (7, iv (0 : Int)), (8, iv (↑(nl m).length : Int))]) (Hp.mk [] 0 []))) (by kernel_rfl) ?_)
  refine La.of (σ := Nat × Nat) (fun s' => sh110 s m t (s'.1 : Int) (s'.2 : Int)) (fun s' => s'.1 ≤ s'.2 ∧ s'.2 ≤ m.length ∧ (∀ x ∈ m.take s'.1, x < t) ∧ ∀ x ∈ m.drop s'.2, t ≤ x) (fun s' => s'.2 - s'.1) (0, m.length) (by rw [← nl_length]; kernel_rfl) ⟨Nat.zero_le _, Nat.le_refl _, by simp, by simp⟩ ?_
  rintro ⟨i, j⟩ ⟨g1, g2, g3, g4⟩ J hJ
  simp only at g1 g2 g3 g4
  have hn : ∀ (i' j' : Nat), (i' ≤ j' ∧ j' ≤ m.length ∧ (∀ x ∈ m.take i', x < t) ∧ ∀ x ∈ m.drop j', t ≤ x) → j' - i' < j - i → J (sh110 s m t (i' : Int) (j' : Int)) := fun i' j' hi hd => hJ (i', j') hi hd
  clear hJ
  refine see (p := ifB (decide ((↑i : Int) < (↑j : Int))) (onNat (IntKind.i64.wrap ((IntKind.u64.wrap (IntKind.i64.wrap ((↑i : Int) + (↑j : Int)))).fdiv ((2 : Int) ^ min (Int.toNat (1 : Int)) 64))) fun m_1 => need (s = 1) (onSome (nl m)[m_1]? fun row => onSome row[0]? fun v => onIntK IntKind.i64 v fun n => ifB (n != n) (ifB (!t != t) (J (St.mk (mkT [(0, V.lst s (nl m)), (1, iv t), (6, iv (↑(nl m).length : Int)), (7, iv (IntKind.i64.wrap (IntKind.i64.wrap ((IntKind.u64.wrap (IntKind.i64.wrap ((↑i : Int) + (↑j : Int)))).fdiv ((2 : Int) ^ min (Int.toNat (1 : Int)) 64)) + (1 : Int)))), (8, iv (↑j : Int))]) (Hp.mk [] 0 []))) (ifB (decide (n < t)) (J (St.mk (mkT [(0, V.lst s (nl m)), (1, iv t), (6, iv (↑(nl m).length : Int)), (7, iv (IntKind.i64.wrap (IntKind.i64.wrap ((IntKind.u64.wrap (IntKind.i64.wrap ((↑i : Int) + (↑j : Int)))).fdiv ((2 : Int) ^ min (Int.toNat (1 : Int)) 64)) + (1 : Int)))), (8, iv (↑j : Int))]) (Hp.mk [] 0 []))) (J (St.mk (mkT [(0, V.lst s (nl m)), (1, iv t), (6, iv (↑(nl m).length : Int)), (7, iv (↑i : Int)), (8, iv (IntKind.i64.wrap ((IntKind.u64.wrap (IntKind.i64.wrap ((↑i : Int) + (↑j : Int)))).fdiv ((2 : Int) ^ min (Int.toNat (1 : Int)) 64))))]) (Hp.mk [] 0 []))))) (ifB (decide (n < t)) (J (St.mk (mkT [(0, V.lst s (nl m)), (1, iv t), (6, iv (↑(nl m).length : Int)), (7, iv (IntKind.i64.wrap (IntKind.i64.wrap ((IntKind.u64.wrap (IntKind.i64.wrap ((↑i : Int) + (↑j : Int)))).fdiv ((2 : Int) ^ min (Int.toNat (1 : Int)) 64)) + (1 : Int)))), (8, iv (↑j : Int))]) (Hp.mk [] 0 []))) (J (St.mk (mkT [(0, V.lst s (nl m)), (1, iv t), (6, iv (↑(nl m).length : Int)), (7, iv (↑i : Int)), (8, iv (IntKind.i64.wrap ((IntKind.u64.wrap (IntKind.i64.wrap ((↑i : Int) + (↑j : Int)))).fdiv ((2 : Int) ^ min (Int.toNat (1 : Int)) 64))))]) (Hp.mk [] 0 [])))))) (ifB (decide ((↑i : Int) < (↑(nl m).length : Int))) (need (s = 1) (onSome (nl m)[i]? fun row => onSome row[0]? fun v => onIntK IntKind.i64 v fun n => ifB (n == t) (R (V.tup [iv (↑i : Int), bv true])) (need (s = 1) (onSome (nl m)[i]? fun row => onSome row[0]? fun v => onIntK IntKind.i64 v fun n => ifB (n != n) (R (V.tup [iv (↑i : Int), bv (t != t)])) (R (V.tup [iv (↑i : Int), bv false])))))) (R (V.tup [iv (↑i : Int), bv false])))) (by kernel_rfl) ?_
  rw [nl_length]
  refine ifB_mk (fun c => ?_) (fun c => ?_)
  · have hlt : i < j := by have := of_decide_eq_true c; omega
    have s1 : s = 1 := hs.resolve_left (fun e => by rw [e] at g2; simp at g2; omega)
    rw [mid (i := i) (j := j) (by omega) (by omega)]
    obtain ⟨h, hh⟩ : ∃ h, h = (i + j) / 2 := ⟨_, rfl⟩
    rw [← hh]
    have hhl : h < m.length := by omega
    obtain ⟨x, hx⟩ := getI hhl
    obtain ⟨q1, q2⟩ := pw_le hp hx
    rw [wr1i hhl (by omega)]
    refine onNat_mk rfl (need_mk ⟨s1, iel hx (ifB_f (by simp) (ifB_mk (fun d => ?_) (fun d => ?_)))⟩)
    · have d := of_decide_eq_true d
      have := hn (h + 1) j ⟨by omega, g2, all_take hx (fun y hy => by have := q1 y hy; omega) d, g4⟩ (by omega)
      rw [sh110, nl_length] at this
      exact this
    · have d := of_decide_eq_false d
      have := hn i h ⟨by omega, by omega, g3, fun y hy => by
        rw [List.drop_eq_getElem_cons hhl, (List.getElem?_eq_some_iff.1 hx).2] at hy
        rcases List.mem_cons.1 hy with rfl | hy
        · omega
        · have := q2 y hy; omega⟩ (by omega)
      rw [sh110, nl_length] at this
      exact this
  · have hij : i = j := by have := of_decide_eq_false c; omega
    have fin : ∀ e, R (.tup [iv (i : Int), bv e]) := fun e => h i e (by omega) g3 (by rw [hij]; exact g4)
    refine ifB_mk (fun c => ?_) (fun c => fin _)
    have hlt : i < m.length := by have := of_decide_eq_true c; omega
    have s1 : s = 1 := hs.resolve_left (fun e => by rw [e] at hlt; simp at hlt)
    obtain ⟨x, hx⟩ := getI hlt
    exact need_mk ⟨s1, iel hx (ifB_mk (fun _ => fin _) (fun _ => need_mk ⟨s1, iel hx (ifB_mk (fun _ => fin _) (fun _ => fin _))⟩))⟩
def cntL (m : List Int) (t : Int) : Nat := (m.takeWhile fun x => decide (x ≤ t)).length
theorem cntL_eq (t : Int) : ∀ (m : List Int) (i : Nat), i ≤ m.length → (∀ x ∈ m.take i, x < t + 1) → (∀ x ∈ m.drop i, t + 1 ≤ x) → i = cntL m t
  | [], i, h, _, _ => by have : i = 0 := by simpa using h
                         subst this; rfl
  | a :: m, 0, h, _, h2 => by
    have := h2 a (List.mem_cons_self ..)
    rw [cntL, List.takeWhile_cons_of_neg (by simp; omega)]; rfl
  | a :: m, i + 1, h, h1, h2 => by
    have := h1 a (by simp)
    rw [cntL, List.takeWhile_cons_of_pos (by simp; omega), List.length_cons]
    exact congrArg (· + 1) (cntL_eq t m i (by simpa using h) (fun x hx => h1 x (by simp [hx])) (fun x hx => h2 x (by simpa using hx)))
theorem cntL_le (m : List Int) (t : Int) : cntL m t ≤ m.length := (List.takeWhile_sublist _).length_le
def stOf (m : List Int) (t c : Int) : Int := if cntL m t = 0 then 0 else if m.getD (cntL m t - 1) 0 > t - c then 2 else if cntL m t % 2 = 0 then 0 else 1
theorem at98 {s : Nat} {m : List Int} {t c : Int} {R : V → Prop} (hs : m = [] ∨ s = 1) (hl : m.length ≤ 1000) (hp : m.Pairwise (· < ·)) (ht : -9000 ≤ t ∧ t ≤ 9000) (hc : -9000 ≤ c ∧ c ≤ 9000) (h : R (.raw (.int .u8 (stOf m t c)))) : K0G Try.prog glX 98 [.lst s (nl m), iv t, iv c] R := by
  refine K0_of_WY0 hmX hcY 3000 Try.func98 (see (p := K0G Try.prog glX 110 [V.lst s (nl m), iv (IntKind.i64.wrap (t + (1 : Int)))] fun v => onTup v fun vs => onCons vs fun u r => onIntK IntKind.i64 u fun n => onCons r fun u r => onBool u fun b => onNil r (ifB (n == (0 : Int)) (R (V.raw (Value.int IntKind.u8 (0 : Int)))) (onNat (IntKind.i64.wrap (n - (1 : Int))) fun m_1 => need (s = 1) (onSome (nl m)[m_1]? fun row => onSome row[0]? fun v => onIntK IntKind.i64 v fun n_1 => ifB (decide (n_1 > IntKind.i64.wrap (t - c))) (R (V.raw (Value.int IntKind.u8 (2 : Int)))) (onNat n fun b => need (b ≤ (nl m).length) (guardB (s.beq 1 || (nl m).isEmpty) (ifB ((↑(sub (nl m) 0 (b - 0)).length : Int).tmod (2 : Int) == (0 : Int)) (R (V.raw (Value.int IntKind.u8 (0 : Int)))) (R (V.raw (Value.int IntKind.u8 (1 : Int))))))))))) (by kernel_rfl) ?_)
  rw [wr (n := t + 1) (by omega) (by omega), wr (n := t - c) (by omega) (by omega)]
  refine search110 hs hl hp (fun i e h1 h2 h3 => ?_)
  unfold stOf at h
  rw [← cntL_eq t m i h1 h2 h3] at h
  refine onTup_tup (onCons_cons (onIntK_iv (onCons_cons (onBool_bv (onNil_nil (ifB_mk (fun d => ?_) (fun d => ?_)))))))
  · rw [if_pos (by simpa using d)] at h; exact h
  · have hi : i ≠ 0 := by simpa using d
    rw [if_neg hi] at h
    have s1 : s = 1 := hs.resolve_left (fun e => by rw [e] at h1; simp at h1; exact hi h1)
    refine onNat_mk (m := i - 1) (by rw [wr (by omega) (by omega)]; omega) (need_mk ⟨s1, iel (getK (d := 0) (by omega)) (ifB_mk (fun d1 => ?_) (fun d1 => ?_))⟩)
    · rw [if_pos (of_decide_eq_true d1)] at h; exact h
    · rw [if_neg (of_decide_eq_false d1)] at h
      refine onNat_mk rfl (need_mk ⟨by rw [nl_length]; exact h1, guardB_iff.2 ⟨by simp [s1], ?_⟩⟩)
      have hq : ((sub (nl m) 0 (i - 0)).length : Int) = (i : Int) := by rw [sub, List.drop_zero, List.length_take, nl_length]; omega
      rw [hq, show ((i : Int).tmod 2) = ((i % 2 : Nat) : Int) from rfl]
      refine ifB_mk (fun d2 => ?_) (fun d2 => ?_)
      · rw [if_pos (by simp at d2; omega)] at h; exact h
      · rw [if_neg (by simp at d2; omega)] at h; exact h
end Go.Proofs.Ytmdimnmdoifkfaa
namespace Go.Proofs.Ytmdimnmdoifkfaa
open Go Go.Proofs.Ytmdimnmdoifkfaa.Clean
set_option linter.unusedVariables false
set_option linter.unusedSimpArgs false
set_option maxRecDepth 10000
theorem lsI_cases (m : List Int) : ∃ s, (m = [] ∨ s = 1) ∧ ∀ k : Nat → List (List V) → Prop, k s (nl m) → onLst (lsI m) k := by
  cases m with
  | nil => exact ⟨0, .inl rfl, fun k h => h⟩
  | cons x t => exact ⟨1, .inr rfl, fun k h => h⟩
theorem onIntK_iv8 {n : Int} {k : Int → Prop} (h : k n) : onIntK IntKind.u8 (.raw (.int .u8 n)) k := h
def lvN (b : Bt) (x : Fd) (T : List (List Int)) : Nat → Nat → Int × Bool
  | 0, _ => (-1, true)
  | n + 1, k => if stOf (T.getD k []) (x.1 + (gt b k).1) b.S = 2 then (-1, false) else if stOf (T.getD k []) (x.1 + (gt b k).1) b.S = 1 then ((k : Int), true) else lvN b x T n (k + 1)
def lvF (b : Bt) (x : Fd) (T : List (List Int)) : Int × Bool := lvN b x T b.gs.length 0
theorem leave70 {b : Bt} {x : Fd} {T : List (List Int)} {R : V → Prop} (hb : BtP b) (hx : F1 x) (hT : T.length = b.gs.length) (hm : ∀ m ∈ T, m.length ≤ 1000 ∧ m.Pairwise (· < ·)) (h : R (.tup [iv (lvF b x T).1, bv (lvF b x T).2])) : K0G Try.prog glX 70 [.agg (bel b), .agg (fdr x), .lst 1 (tbl T)] R := by
  refine K0_of_WY0 hmX hcY 3000 Try.func70 (see (p := La 0 [(2 : Tmp), (3 : Tmp), (4 : Tmp), (11 : Tmp), (12 : Tmp), (13 : Tmp)] (WY Try.prog cfY 2995 (Env.mk (Bs.mk 0 []) 0 none 36 70 0) (cdAt [1, 0, 1, 0, 0] (bodyOf Try.f70))) (Qblk 0 (Qthen (WY Try.prog cfY 2998 (Env.mk (Bs.mk 0 []) 0 none 36 70 0) (cdAt [1, 1] (bodyOf Try.f70)) (QendX Try.prog Try.f70 fun v h => R (frzW h v))) (QendX Try.prog Try.f70 fun v h => R (frzW h v)))) (St.mk (mkT [(2, V.lst 1 (tbl T)), (3, V.ptr (Id.p 0) 0 0), (4, V.ptr (Id.p 1) 0 0), (11, V.lst 2 (gl b.4)), (12, iv (↑(gl b.4).length : Int)), (13, iv (0 : Int))]) (Hp.mk [(0, O.rows 5 false [[iv b.1, iv b.2, iv b.3, V.lst 2 (gl b.4), V.lst 1 (nl b.5)]]), (1, O.rows 3 false [[iv x.1, iv x.2.1, V.lst 1 (nl x.2.2)]])] 2 []))) (by kernel_rfl) ?_)
  have hg8 := hb.2.2.2.1
  obtain ⟨hC1, hC2, hC3, hC4⟩ := hb.1
  have hS := hb.2.1
  have hS' := hb.2.2.1
  have a1 := hx.1; have a2 := hx.2.1
  refine La.of (σ := Nat) (fun k => sh70 b x T k) (fun k => k ≤ b.gs.length ∧ lvN b x T (b.gs.length - k) k = lvF b x T) (fun k => b.gs.length - k) 0 (by kernel_rfl) ⟨Nat.zero_le _, rfl⟩ ?_
  rintro k ⟨g1, g2⟩ J hJ
  refine see (p := ifB (decide ((↑k : Int) < (↑(gl b.4).length : Int))) (onSome (gl b.4)[k]? fun row => onCons (List.drop 0 row) fun u r => onIntK IntKind.i64 u fun n => onCons r fun u r => onIntK IntKind.i64 u fun n_1 => onSome (tbl T)[k]? fun row => onSome row[0]? fun v => onLst v fun s es => K0G Try.prog glX 98 [V.lst s es, iv (IntKind.i64.wrap (x.1 + n)), iv b.3] fun v => onIntK IntKind.u8 v fun n => ifB (n == (2 : Int)) (R (V.tup [iv (-1 : Int), bv false])) (ifB (n == (1 : Int)) (R (V.tup [iv (↑k : Int), bv true])) (J (St.mk (mkT [(2, V.lst 1 (tbl T)), (3, V.ptr (Id.p 0) 0 0), (4, V.ptr (Id.p 1) 0 0), (11, V.lst 2 (gl b.4)), (12, iv (↑(gl b.4).length : Int)), (13, iv (IntKind.i64.wrap ((↑k : Int) + (1 : Int))))]) (Hp.mk [(0, O.rows 5 false [[iv b.1, iv b.2, iv b.3, V.lst 2 (gl b.4), V.lst 1 (nl b.5)]]), (1, O.rows 3 false [[iv x.1, iv x.2.1, V.lst 1 (nl x.2.2)]])] 2 []))))) (R (V.tup [iv (-1 : Int), bv true]))) (by kernel_rfl) ?_
  rw [← g2] at h
  rw [gl_length]
  refine ifB_mk (fun c => ?_) (fun c => ?_)
  · have hlt : k < b.gs.length := by have := of_decide_eq_true c; omega
    have hgm := hb.2.2.2.2.1.1 _ (mem_at (gt_get hlt))
    have q1 := hgm.1; have q2 := hgm.2.1; have q3 := hgm.2.2.1
    have hTk : T[k]? = some (T.getD k []) := getK (by omega)
    obtain ⟨hml, hmp⟩ := hm _ (mem_at hTk)
    obtain ⟨s, hs, hls⟩ := lsI_cases (T.getD k [])
    rw [show b.gs.length - k = (b.gs.length - (k + 1)) + 1 from by omega, lvN] at h g2
    refine gel (gt_get hlt) (onSome_mk (x := [lsI (T.getD k [])]) (by rw [tbl, List.getElem?_map, hTk]; rfl) (onSome_mk (x := lsI (T.getD k [])) rfl (hls _ ?_)))
    rw [wr (n := x.1 + (gt b k).1) (by omega) (by omega), wr1i hlt (by omega)]
    refine at98 hs hml hmp (by omega) (by omega) ?_
    generalize stOf (T.getD k []) (x.1 + (gt b k).1) b.S = st at h g2
    refine onIntK_iv8 (ifB_mk (fun d => ?_) (fun d => ?_))
    · rw [if_pos (by simpa using d)] at h; exact h
    · rw [if_neg (by simpa using d)] at h g2
      refine ifB_mk (fun d1 => ?_) (fun d1 => ?_)
      · rw [if_pos (by simpa using d1)] at h; exact h
      · rw [if_neg (by simpa using d1)] at h g2
        have := hJ (k + 1) ⟨hlt, g2⟩ (by omega)
        rw [sh70, gl_length] at this
        exact this
  · have hk : b.gs.length - k = 0 := by have := of_decide_eq_false c; omega
    rw [hk, lvN] at h
    exact h
def pasN (c g t : Int) : List Sw → Bool → Bool × Bool
  | [], e => (false, e)
  | x :: l, e => if x.2.1 ≠ g ∨ x.1 > t then pasN c g t l e else if t - x.1 < c then (true, e) else pasN c g t l x.2.2
end Go.Proofs.Ytmdimnmdoifkfaa
namespace Go.Proofs.Ytmdimnmdoifkfaa
open Go Go.Proofs.Ytmdimnmdoifkfaa.Clean
set_option linter.unusedVariables false
set_option linter.unusedSimpArgs false
set_option maxRecDepth 10000
def prevS (g : Int) (a : List Sw) : Option Sw := (a.filter fun x => decide (x.2.1 = g)).getLast?
theorem prevS_app (g : Int) (a : List Sw) (x : Sw) : prevS g (a ++ [x]) = if x.2.1 = g then some x else prevS g a := by
  unfold prevS
  rw [List.filter_append]
  split
  · rename_i h; rw [List.filter_cons_of_pos (by simpa using h)]; simp
  · rename_i h; rw [List.filter_cons_of_neg (by simpa using h)]; simp
def okI (b : Bt) (a : List Sw) (x : Sw) : Prop := (0 ≤ x.2.1 ∧ x.2.1 ≤ (b.gs.length : Int) - 1) ∧ (∀ y, a.getLast? = some y → ltK y x) ∧ (∀ y, prevS x.2.1 a = some y → y.2.2 ≠ x.2.2 ∧ y.1 + (if (1 : Int) > b.S then 1 else b.S) ≤ x.1) ∧ (prevS x.2.1 a = none → x.2.2 = true)
def SwP (b : Bt) (u : List Sw) : Prop := ∀ k x, u[k]? = some x → okI b (u.take k) x
theorem prevS_mem {g : Int} {a : List Sw} {y : Sw} (h : prevS g a = some y) : y ∈ a := (List.mem_filter.1 (List.mem_of_getLast? h)).1
end Go.Proofs.Ytmdimnmdoifkfaa
namespace Go.Proofs.Ytmdimnmdoifkfaa
open Go Go.Proofs.Ytmdimnmdoifkfaa.Clean
set_option linter.unusedVariables false
set_option maxRecDepth 100000
noncomputable def sh29a (b : Bt) (l : List Fd) (T : List (List Int)) (k : Nat) : St := ⟨mkT [(3, V.ptr (Id.p 0) 0 0), (9, V.lst 1 (tbl T)), (11, nilS), (33, V.lst 3 (fdl l)), (34, iv ((fdl l).length : Int)), (35, iv (k : Int))], hB b⟩
noncomputable def sh29b (b : Bt) (l : List Fd) (T : List (List Int)) (F : List Ft) (k : Nat) : St := ⟨mkT [(3, V.ptr (Id.p 0) 0 0), (9, V.lst 1 (tbl T)), (11, V.sl (Id.p 1) 0 F.length), (33, V.lst 3 (fdl l)), (34, iv ((fdl l).length : Int)), (35, iv (k : Int))], ⟨[(0, O.rows 5 false [bel b]), (1, O.rows 3 true (ftl F))], 2, []⟩⟩
end Go.Proofs.Ytmdimnmdoifkfaa
namespace Go.Proofs.Ytmdimnmdoifkfaa
open Go Go.Proofs.Ytmdimnmdoifkfaa.Clean
set_option linter.unusedVariables false
set_option linter.unusedSimpArgs false
set_option maxRecDepth 10000
def rfN (b : Bt) (p : Int) (u : List Sw) : Nat → Nat → Ft → Option Ft
  | 0, _, x => some x
  | n + 1, k, x => if x.2.1 < 0 then (if (pasN b.S k (p + (gt b k).1) u false).1 = true then none else if (pasN b.S k (p + (gt b k).1) u false).2 = true then rfN b p u n (k + 1) (x.1, (gt b k).2, p + (gt b k).1) else rfN b p u n (k + 1) x) else some x
def rfX (b : Bt) (u : List Sw) (x : Fd) : Option Ft := rfN b x.1 u b.gs.length 0 (kindOf x.2.2, -1, x.1 + b.L)
def runR (b : Bt) (u : List Sw) : List Fd → Option (List Ft)
  | [] => some []
  | x :: l => match rfX b u x with
    | none => none
    | some f => (runR b u l).map (f :: ·)
def resV : Option (List Ft) → V
  | some F => .tup [lsF F, iv 0]
  | none => .tup [nilS, iv 92]
noncomputable def runV (b : Bt) (l : List Fd) (u : List Sw) (r : Option (List Ft)) : V := if dc (BtP b ∧ FdP l) = true then (if dc (SwP b u) = true then resV r else .tup [nilS, iv 8]) else .tup [nilS, iv (askE b l)]
end Go.Proofs.Ytmdimnmdoifkfaa
namespace Go.Proofs.Ytmdimnmdoifkfaa
open Go Go.Proofs.Ytmdimnmdoifkfaa.Clean
set_option linter.unusedVariables false
set_option linter.unusedSimpArgs false
set_option maxRecDepth 10000
def mv (a : List Sw) (g : Int) : List Int := (a.filter fun x => decide (x.2.1 = g)).map (·.1)
theorem mv_app (a : List Sw) (x : Sw) (g : Int) : mv (a ++ [x]) g = if x.2.1 = g then mv a g ++ [x.1] else mv a g := by
  unfold mv
  rw [List.filter_append]
  split
  · rename_i h; rw [List.filter_cons_of_pos (by simpa using h)]; simp
  · rename_i h; rw [List.filter_cons_of_neg (by simpa using h)]; simp
theorem mv_last (a : List Sw) (g : Int) : (mv a g).getLast? = (prevS g a).map (·.1) := by
  unfold mv prevS
  rw [List.getLast?_map]
theorem pasN_app (c g t : Int) (x : Sw) : ∀ (a : List Sw) (e : Bool), pasN c g t (a ++ [x]) e = if (pasN c g t a e).1 = true then pasN c g t a e else pasN c g t [x] (pasN c g t a e).2
  | [], e => by simp [pasN]
  | y :: a, e => by
    rw [List.cons_append, pasN, pasN]
    by_cases h : y.2.1 ≠ g ∨ y.1 > t
    · rw [if_pos h, if_pos h]; exact pasN_app c g t x a e
    · rw [if_neg h, if_neg h]
      by_cases h2 : t - y.1 < c
      · rw [if_pos h2, if_pos h2]; simp
      · rw [if_neg h2, if_neg h2]; exact pasN_app c g t x a y.2.2
def code3 (p : Bool × Bool) : Int := if p.1 = true then 2 else if p.2 = true then 1 else 0
theorem cntL_app_gt {m : List Int} {y t : Int} (h : t < y) : cntL (m ++ [y]) t = cntL m t := by
  induction m with
  | nil => simp [cntL, h]
  | cons a m ih =>
    unfold cntL at ih ⊢
    rw [List.cons_append]
    by_cases ha : a ≤ t
    · rw [List.takeWhile_cons_of_pos (by simpa using ha), List.takeWhile_cons_of_pos (by simpa using ha), List.length_cons, List.length_cons, ih]
    · rw [List.takeWhile_cons_of_neg (by simpa using ha), List.takeWhile_cons_of_neg (by simpa using ha)]
theorem cntL_all {m : List Int} {t : Int} (h : ∀ x ∈ m, x ≤ t) : cntL m t = m.length := by
  unfold cntL
  induction m with
  | nil => rfl
  | cons a m ih => rw [List.takeWhile_cons_of_pos (by simpa using h a (List.mem_cons_self ..)), List.length_cons, List.length_cons, ih (fun x hx => h x (List.mem_cons_of_mem _ hx))]
structure Gd (a : List Sw) (g : Int) : Prop where
  up : (mv a g).Pairwise (· < ·)
  par : ∀ y, prevS g a = some y → (y.2.2 = true ↔ (mv a g).length % 2 = 1)
theorem mv_nil {a : List Sw} {g : Int} (h : prevS g a = none) : mv a g = [] := by
  have := mv_last a g
  rw [h] at this
  exact List.getLast?_eq_none_iff.1 this
theorem le_last {m : List Int} (hp : m.Pairwise (· < ·)) {y : Int} (h : m.getLast? = some y) : ∀ x ∈ m, x ≤ y := by
  rcases List.eq_nil_or_concat m with rfl | ⟨c, w, rfl⟩
  · simp at h
  · rw [List.concat_eq_append] at *
    simp at h
    subst h
    intro x hx
    rcases List.mem_append.1 hx with hx | hx
    · have := (List.pairwise_append.1 hp).2.2 x hx w (by simp); omega
    · have : x = w := by simpa using hx
      omega
theorem gd_app {b : Bt} {a : List Sw} {x : Sw} (hS : 0 ≤ b.S) (ho : okI b a x) {g : Int} (h : Gd a g) : Gd (a ++ [x]) g := by
  obtain ⟨h1, h2⟩ := h
  obtain ⟨o1, o2, o3, o4⟩ := ho
  have hmx : 1 ≤ (if (1 : Int) > b.S then 1 else b.S) := by split <;> omega
  by_cases hg : x.2.1 = g
  · subst hg
    refine ⟨?_, fun y hy => ?_⟩
    · rw [mv_app, if_pos rfl]
      refine List.pairwise_append.2 ⟨h1, by simp, fun p hp q hq => ?_⟩
      have hq : q = x.1 := by simpa using hq
      subst hq
      cases hv : prevS x.2.1 a with
      | none => rw [mv_nil hv] at hp; simp at hp
      | some z =>
        have hl := mv_last a x.2.1
        rw [hv] at hl
        have := le_last h1 (y := z.1) hl p hp
        have := (o3 z hv).2
        omega
    · rw [prevS_app, if_pos rfl] at hy
      cases hy
      rw [mv_app, if_pos rfl, List.length_append, List.length_singleton]
      cases hv : prevS x.2.1 a with
      | none => rw [mv_nil hv, o4 hv]; simp
      | some z =>
        have q := (o3 z hv).1
        have q2 := h2 z hv
        cases hz : z.2.2 with
        | true =>
          rw [hz] at q q2
          cases hx : x.2.2 with
          | true => rw [hx] at q; exact (q rfl).elim
          | false =>
            have := q2.1 rfl
            constructor
            · intro h; cases h
            · intro h; omega
        | false =>
          rw [hz] at q q2
          cases hx : x.2.2 with
          | false => rw [hx] at q; exact (q rfl).elim
          | true =>
            have : ¬ (mv a x.2.1).length % 2 = 1 := fun h => by have := q2.2 h; cases this
            constructor
            · intro _; omega
            · intro _; rfl
  · refine ⟨by rw [mv_app, if_neg hg]; exact h1, fun y hy => ?_⟩
    rw [prevS_app, if_neg hg] at hy
    rw [mv_app, if_neg hg]
    exact h2 y hy
theorem gd_take {b : Bt} {u : List Sw} (hS : 0 ≤ b.S) (hu : SwP b u) (g : Int) : ∀ k, k ≤ u.length → Gd (u.take k) g
  | 0, _ => ⟨List.Pairwise.nil, fun y hy => by simp [prevS] at hy⟩
  | k + 1, h => by
    obtain ⟨x, hx⟩ := getI (l := u) (k := k) (by omega)
    rw [take_succ' hx]
    exact gd_app hS (hu k x hx) (gd_take hS hu g k (by omega))
theorem st_app {b : Bt} {a : List Sw} {x : Sw} {g t : Int} (hS : 0 ≤ b.S) (ho : okI b a x) (h : Gd a g) (hs : stOf (mv a g) t b.S = code3 (pasN b.S g t a false)) : stOf (mv (a ++ [x]) g) t b.S = code3 (pasN b.S g t (a ++ [x]) false) := by
  rw [pasN_app, mv_app]
  obtain ⟨h1, h2⟩ := h
  have hgd := gd_app hS ho ⟨h1, h2⟩
  obtain ⟨o1, o2, o3, o4⟩ := ho
  have hmx : 1 ≤ (if (1 : Int) > b.S then 1 else b.S) ∧ b.S ≤ (if (1 : Int) > b.S then 1 else b.S) := by split <;> omega
  have skip : ∀ e, (x.2.1 ≠ g ∨ x.1 > t) → pasN b.S g t [x] e = (false, e) := fun e he => by rw [pasN, if_pos he, pasN]
  generalize hpa : pasN b.S g t a false = p at hs
  have same : (x.2.1 ≠ g ∨ x.1 > t) → code3 (if p.1 = true then p else pasN b.S g t [x] p.2) = code3 p := fun he => by
    rw [skip _ he]
    obtain ⟨p1, p2⟩ := p
    cases p1 <;> rfl
  by_cases hg : x.2.1 = g
  rotate_left
  · rw [if_neg hg, same (.inl hg)]; exact hs
  rw [if_pos hg]
  by_cases ht : x.1 > t
  · rw [same (.inr ht), ← hs]
    unfold stOf
    rw [cntL_app_gt ht]
    by_cases h0 : cntL (mv a g) t = 0
    · rw [if_pos h0, if_pos h0]
    · rw [if_neg h0, if_neg h0]
      have := cntL_le (mv a g) t
      rw [show (mv a g ++ [x.1]).getD (cntL (mv a g) t - 1) 0 = (mv a g).getD (cntL (mv a g) t - 1) 0 from by
        rw [List.getD_eq_getElem?_getD, List.getD_eq_getElem?_getD, List.getElem?_append_left (by omega)]]
  · subst hg
    have hup := hgd
    have hpar := hup.par x (by rw [prevS_app, if_pos rfl])
    rw [mv_app, if_pos rfl] at hpar
    have hall : ∀ y ∈ mv a x.2.1, y < x.1 := fun y hy => by
      have := hup.up
      rw [mv_app, if_pos rfl] at this
      exact (List.pairwise_append.1 this).2.2 y hy x.1 (by simp)
    have hcn : cntL (mv a x.2.1 ++ [x.1]) t = (mv a x.2.1).length + 1 := by
      rw [cntL_all (fun y hy => by
        rcases List.mem_append.1 hy with hy | hy
        · have := hall y hy; omega
        · have : y = x.1 := by simpa using hy
          omega), List.length_append, List.length_singleton]
    have hp1 : p.1 = false := by
      cases hv : p.1 with
      | false => rfl
      | true =>
        have h3 : stOf (mv a x.2.1) t b.S = 2 := by rw [hs, code3, if_pos hv]
        unfold stOf at h3
        rw [cntL_all (fun y hy => by have := hall y hy; omega)] at h3
        split at h3
        · cases h3
        · rename_i hne
          split at h3
          · rename_i hgt
            cases hw : prevS x.2.1 a with
            | none => rw [mv_nil hw] at hne; exact (hne rfl).elim
            | some z =>
              have hl := mv_last a x.2.1
              rw [hw, List.getLast?_eq_getElem?] at hl
              rw [List.getD_eq_getElem?_getD, hl] at hgt
              have := (o3 z hw).2
              simp at hgt
              omega
          · split at h3 <;> cases h3
    rw [if_neg (by rw [hp1]; simp), pasN, if_neg (by rintro (q | q); exact q rfl; exact ht q), pasN]
    unfold stOf
    rw [hcn, if_neg (by omega), show (mv a x.2.1 ++ [x.1]).getD ((mv a x.2.1).length + 1 - 1) 0 = x.1 from by
      rw [List.getD_eq_getElem?_getD, Nat.add_sub_cancel, List.getElem?_append_right (Nat.le_refl _), Nat.sub_self]; rfl]
    by_cases hc : x.1 > t - b.S
    · rw [if_pos hc, if_pos (show t - x.1 < b.S from by omega)]; rfl
    · rw [if_neg hc, if_neg (show ¬ t - x.1 < b.S from by omega)]
      rw [List.length_append, List.length_singleton] at hpar
      cases hx : x.2.2 with
      | true =>
        rw [hx] at hpar
        rw [if_neg (show ¬ ((mv a x.2.1).length + 1) % 2 = 0 from by have := hpar.1 rfl; omega)]; rfl
      | false =>
        have : ¬ ((mv a x.2.1).length + 1) % 2 = 1 := fun h => by have := hpar.2 h; rw [hx] at this; cases this
        rw [if_pos (show ((mv a x.2.1).length + 1) % 2 = 0 from by omega)]; rfl
theorem st_take {b : Bt} {u : List Sw} (hS : 0 ≤ b.S) (hu : SwP b u) (g t : Int) : ∀ k, k ≤ u.length → stOf (mv (u.take k) g) t b.S = code3 (pasN b.S g t (u.take k) false)
  | 0, _ => rfl
  | k + 1, h => by
    obtain ⟨x, hx⟩ := getI (l := u) (k := k) (by omega)
    rw [take_succ' hx]
    exact st_app hS (hu k x hx) (gd_take hS hu g k (by omega)) (st_take hS hu g t k (by omega))
theorem st_eq {b : Bt} {u : List Sw} (hS : 0 ≤ b.S) (hu : SwP b u) (g t : Int) : stOf (mv u g) t b.S = code3 (pasN b.S g t u false) := by
  have := st_take hS hu g t u.length (Nat.le_refl _)
  rw [List.take_length] at this
  exact this
theorem mv_up {b : Bt} {u : List Sw} (hS : 0 ≤ b.S) (hu : SwP b u) (g : Int) : (mv u g).Pairwise (· < ·) := by
  have := (gd_take hS hu g u.length (Nat.le_refl _)).up
  rw [List.take_length] at this
  exact this
end Go.Proofs.Ytmdimnmdoifkfaa
namespace Go.Proofs.Ytmdimnmdoifkfaa
open Go Go.Proofs.Ytmdimnmdoifkfaa.Clean
set_option linter.unusedVariables false
set_option linter.unusedSimpArgs false
set_option maxRecDepth 10000
def tabF (b : Bt) (u : List Sw) : List (List Int) := (List.range b.gs.length).map fun g : Nat => mv u (g : Int)
theorem tabF_length (b : Bt) (u : List Sw) : (tabF b u).length = b.gs.length := by simp [tabF]
theorem tabF_get {b : Bt} {u : List Sw} {g : Nat} (h : g < b.gs.length) : (tabF b u).getD g [] = mv u (g : Int) := by
  rw [List.getD_eq_getElem?_getD, tabF, List.getElem?_map, List.getElem?_range h]; rfl
theorem mv_len (u : List Sw) (g : Int) : (mv u g).length ≤ u.length := by rw [mv, List.length_map]; exact List.length_filter_le ..
theorem rfN_done {b : Bt} {p : Int} {u : List Sw} {x : Ft} (h : 0 ≤ x.2.1) : ∀ n k, rfN b p u n k x = some x
  | 0, _ => rfl
  | n + 1, k => by rw [rfN, if_neg (by omega)]
def cdX (b : Bt) (T : List (List Int)) (x : Fd) : Option Ft := if (lvF b x T).2 = true then some (fateF b x (lvF b x T).1) else none
theorem lv_rf {b : Bt} {u : List Sw} {x : Fd} (hb : BtP b) (hu : SwP b u) : ∀ n k, k + n = b.gs.length → rfN b x.1 u n k (kindOf x.2.2, -1, x.1 + b.L) = (if (lvN b x (tabF b u) n k).2 = true then some (fateF b x (lvN b x (tabF b u) n k).1) else none)
  | 0, k, _ => by rw [rfN, lvN, if_pos rfl, fateF, if_pos rfl]
  | n + 1, k, h => by
    have hk : k < b.gs.length := by omega
    have hgm := hb.2.2.2.2.1.1 _ (mem_at (gt_get hk))
    have q3 := hgm.2.2.1
    have hst := st_eq hb.2.1 hu (k : Int) (x.1 + (gt b k).1)
    rw [rfN, lvN, tabF_get hk, hst, if_pos (show (-1 : Int) < 0 from by decide)]
    generalize pasN b.S k (x.1 + (gt b k).1) u false = p
    obtain ⟨p1, p2⟩ := p
    cases p1 with
    | true => rw [if_pos rfl, if_pos (show code3 (true, p2) = 2 from rfl)]; rfl
    | false =>
      rw [if_neg (by simp)]
      cases p2 with
      | true =>
        rw [if_pos rfl, if_neg (show ¬ code3 (false, true) = 2 from by decide), if_pos (show code3 (false, true) = 1 from rfl), rfN_done (by exact q3), if_pos rfl, fateF, if_neg (by omega)]
      | false =>
        rw [if_neg (by simp), if_neg (show ¬ code3 (false, false) = 2 from by decide), if_neg (show ¬ code3 (false, false) = 1 from by decide)]
        exact lv_rf hb hu n (k + 1) (by omega)
theorem cd_rf {b : Bt} {u : List Sw} {x : Fd} (hb : BtP b) (hu : SwP b u) : cdX b (tabF b u) x = rfX b u x := (lv_rf hb hu b.gs.length 0 (Nat.zero_add _)).symm
theorem lvN_ok {b : Bt} {x : Fd} {T : List (List Int)} : ∀ n k, k + n ≤ b.gs.length → GtOK b (lvN b x T n k).1
  | 0, k, _ => .inl rfl
  | n + 1, k, h => by
    rw [lvN]
    split
    · exact .inl rfl
    · split
      · exact .inr ⟨k, rfl, by omega⟩
      · exact lvN_ok n (k + 1) (by omega)
noncomputable def mvV (b : Bt) (u : List Sw) : V := if dc (SwP b u) = true then .tup [.lst 1 (tbl (tabF b u)), bv true] else .tup [nilS, bv false]
noncomputable def sh29 (b : Bt) (l : List Fd) (T : List (List Int)) (F : List Ft) (k : Nat) : St := match F with
  | [] => sh29a b l T k
  | x :: f => sh29b b l T (x :: f) k
theorem sh29_b {b : Bt} {l : List Fd} {T : List (List Int)} {F : List Ft} {k : Nat} (h : F ≠ []) : sh29 b l T F k = sh29b b l T F k := by cases F with | nil => exact (h rfl).elim | cons x f => rfl
theorem run29 {b : Bt} {l : List Fd} {s : Nat} {u : List Sw} {R : V → Prop} (hmv : BtP b → ∀ {Q : V → Prop}, Q (mvV b u) → K0G Try.prog glX 69 [.agg (bel b), .lst s (swl u)] Q) (hbl : b.bins.length ≤ 1000) (hrl : Rl l) (hu : u.length ≤ 900) (h : R (runV b l u (runR b u l))) : K0G Try.prog glX 29 [.agg (bel b), .lst 3 (fdl l), .lst s (swl u)] R := by
  refine K0_of_WY0 hmX hcY 3000 Try.func29 (see (p := K0G Try.prog glX 18 [V.agg [iv b.1, iv b.2, iv b.3, V.lst 2 (gl b.4), V.lst 1 (nl b.5)]] fun v => onIntK IntKind.i64 v fun n => K0G Try.prog glX 20 [V.lst 3 (fdl l)] fun v => onIntK IntKind.i64 v fun n_1 => ifB (n != (0 : Int)) (ifB (n != (0 : Int)) (R (V.tup [nilS, iv n])) (K0G Try.prog glX 69 [V.agg [iv b.1, iv b.2, iv b.3, V.lst 2 (gl b.4), V.lst 1 (nl b.5)], V.lst s (swl u)] fun v => onTup v fun vs => onCons vs fun u r => onLst u fun s es => onCons r fun u r => onBool u fun b_1 => onNil r (ifB (!b_1) (R (V.tup [nilS, iv (8 : Int)])) (La 0 [(3 : Tmp), (9 : Tmp), (11 : Tmp), (33 : Tmp), (34 : Tmp), (35 : Tmp)] (WY Try.prog cfY 2991 (Env.mk (Bs.mk 0 []) 0 none 57 29 0) (cdAt [1, 1, 1, 1, 1, 0, 1, 0, 0] (bodyOf Try.f29))) (Qblk 0 (Qthen (WY Try.prog cfY 2994 (Env.mk (Bs.mk 0 []) 0 none 57 29 0) (cdAt [1, 1, 1, 1, 1, 1] (bodyOf Try.f29)) (QendX Try.prog Try.f29 fun v h => R (frzW h v))) (QendX Try.prog Try.f29 fun v h => R (frzW h v)))) (St.mk (mkT [(3, V.ptr (Id.p 0) 0 0), (9, V.lst s es), (11, nilS), (33, V.lst 3 (fdl l)), (34, iv (↑(fdl l).length : Int)), (35, iv (0 : Int))]) (Hp.mk [(0, O.rows 5 false [[iv b.1, iv b.2, iv b.3, V.lst 2 (gl b.4), V.lst 1 (nl b.5)]])] 1 [])))))) (ifB (n_1 != (0 : Int)) (ifB (n_1 != (0 : Int)) (R (V.tup [nilS, iv n_1])) (K0G Try.prog glX 69 [V.agg [iv b.1, iv b.2, iv b.3, V.lst 2 (gl b.4), V.lst 1 (nl b.5)], V.lst s (swl u)] fun v => onTup v fun vs => onCons vs fun u r => onLst u fun s es => onCons r fun u r => onBool u fun b_1 => onNil r (ifB (!b_1) (R (V.tup [nilS, iv (8 : Int)])) (La 0 [(3 : Tmp), (9 : Tmp), (11 : Tmp), (33 : Tmp), (34 : Tmp), (35 : Tmp)] (WY Try.prog cfY 2991 (Env.mk (Bs.mk 0 []) 0 none 57 29 0) (cdAt [1, 1, 1, 1, 1, 0, 1, 0, 0] (bodyOf Try.f29))) (Qblk 0 (Qthen (WY Try.prog cfY 2994 (Env.mk (Bs.mk 0 []) 0 none 57 29 0) (cdAt [1, 1, 1, 1, 1, 1] (bodyOf Try.f29)) (QendX Try.prog Try.f29 fun v h => R (frzW h v))) (QendX Try.prog Try.f29 fun v h => R (frzW h v)))) (St.mk (mkT [(3, V.ptr (Id.p 0) 0 0), (9, V.lst s es), (11, nilS), (33, V.lst 3 (fdl l)), (34, iv (↑(fdl l).length : Int)), (35, iv (0 : Int))]) (Hp.mk [(0, O.rows 5 false [[iv b.1, iv b.2, iv b.3, V.lst 2 (gl b.4), V.lst 1 (nl b.5)]])] 1 [])))))) (K0G Try.prog glX 69 [V.agg [iv b.1, iv b.2, iv b.3, V.lst 2 (gl b.4), V.lst 1 (nl b.5)], V.lst s (swl u)] fun v => onTup v fun vs => onCons vs fun u r => onLst u fun s es => onCons r fun u r => onBool u fun b_1 => onNil r (ifB (!b_1) (R (V.tup [nilS, iv (8 : Int)])) (La 0 [(3 : Tmp), (9 : Tmp), (11 : Tmp), (33 : Tmp), (34 : Tmp), (35 : Tmp)] (WY Try.prog cfY 2991 (Env.mk (Bs.mk 0 []) 0 none 57 29 0) (cdAt [1, 1, 1, 1, 1, 0, 1, 0, 0] (bodyOf Try.f29))) (Qblk 0 (Qthen (WY Try.prog cfY 2994 (Env.mk (Bs.mk 0 []) 0 none 57 29 0) (cdAt [1, 1, 1, 1, 1, 1] (bodyOf Try.f29)) (QendX Try.prog Try.f29 fun v h => R (frzW h v))) (QendX Try.prog Try.f29 fun v h => R (frzW h v)))) (St.mk (mkT [(3, V.ptr (Id.p 0) 0 0), (9, V.lst s es), (11, nilS), (33, V.lst 3 (fdl l)), (34, iv (↑(fdl l).length : Int)), (35, iv (0 : Int))]) (Hp.mk [(0, O.rows 5 false [[iv b.1, iv b.2, iv b.3, V.lst 2 (gl b.4), V.lst 1 (nl b.5)]])] 1 []))))))) (by kernel_rfl) ?_)
  refine belt18 hbl (onIntK_iv (fed20 hrl (onIntK_iv (ifB_mk (fun c => ?_) (fun c => ?_)))))
  · have hb : ¬ BtP b := fun hb => by rw [beltE, if_pos (dc_t hb)] at c; simp at c
    rw [runV, if_neg (by rw [dc_f (fun hp => hb hp.1)]; simp), askE, if_neg (by rw [dc_f hb]; simp)] at h
    refine ifB_t c ?_
    rw [beltE, if_neg (by rw [dc_f hb]; simp)]
    exact h
  have hb : BtP b := Classical.byContradiction fun hb => by rw [beltE, if_neg (by rw [dc_f hb]; simp)] at c; simp at c
  refine ifB_mk (fun c1 => ?_) (fun c1 => ?_)
  · have hf : ¬ FdP l := fun hf => by rw [fedE, if_pos (dc_t hf)] at c1; simp at c1
    rw [runV, if_neg (by rw [dc_f (fun hp => hf hp.2)]; simp), askE, if_pos (dc_t hb)] at h
    exact ifB_t c1 h
  have hf : FdP l := Classical.byContradiction fun hf => by rw [fedE, if_neg (by rw [dc_f hf]; simp)] at c1; simp at c1
  rw [runV, if_pos (dc_t ⟨hb, hf⟩)] at h
  refine hmv hb ?_
  by_cases hsw : SwP b u
  rotate_left
  · rw [mvV, if_neg (by rw [dc_f hsw]; simp)]
    rw [if_neg (by rw [dc_f hsw]; simp)] at h
    exact onTup_tup (onCons_cons (onLst_nil (onCons_cons (onBool_bv (onNil_nil (ifB_t rfl h))))))
  rw [if_pos (dc_t hsw)] at h
  rw [mvV, if_pos (dc_t hsw)]
  refine onTup_tup (onCons_cons (onLst_lst (onCons_cons (onBool_bv (onNil_nil (ifB_f rfl ?_))))))
  have hT := tabF_length b u
  have hm : ∀ m ∈ tabF b u, m.length ≤ 1000 ∧ m.Pairwise (· < ·) := fun m hm => by
    rw [tabF, List.mem_map] at hm
    obtain ⟨g, _, rfl⟩ := hm
    exact ⟨by have := mv_len u (g : Int); omega, mv_up hb.2.1 hsw g⟩
  have hcd : ∀ x, cdX b (tabF b u) x = rfX b u x := fun x => cd_rf hb hsw
  generalize tabF b u = T at hT hm hcd ⊢
  have hl40 : l.length ≤ 40 := hf.1
  refine La.of (σ := List Ft × Nat) (fun s => sh29 b l T s.1 s.2) (fun s => s.2 ≤ l.length ∧ s.1.length = s.2 ∧ runR b u l = (runR b u (l.drop s.2)).map (s.1 ++ ·)) (fun s => l.length - s.2) ([], 0) (by kernel_rfl) ⟨Nat.zero_le _, rfl, by simp⟩ ?_
  rintro ⟨F, k⟩ ⟨g1, g2, g3⟩ J hJ
  simp only at g1 g2 g3
  have fin : ¬ k < l.length → R (.tup [lsF F, iv 0]) := fun hk => by
    rw [List.drop_of_length_le (by omega)] at g3
    rw [g3] at h
    simpa [runR, resV] using h
  have step : ∀ p, l[k]? = some p → k < l.length → (cdX b T p = none → R (.tup [nilS, iv 92])) ∧ ∀ f, cdX b T p = some f → J (sh29 b l T (F ++ [f]) (k + 1)) := fun p hp hk => by
    rw [List.drop_eq_getElem_cons hk, (List.getElem?_eq_some_iff.1 hp).2, runR] at g3
    rw [hcd]
    refine ⟨fun hn => ?_, fun f hs => ?_⟩
    · rw [hn] at g3
      rw [g3] at h
      exact h
    · rw [hs] at g3
      refine hJ (F ++ [f], k + 1) ⟨hk, by simp [g2], ?_⟩ (by simp only; omega)
      rw [g3]
      simp only [Option.map_map]
      congr 1
      funext z
      simp
  clear hJ h g3 c c1 hcd
  by_cases hF : F = []
  · subst hF
    refine see (p := ifB (decide ((↑k : Int) < (↑(fdl l).length : Int))) (onSome (fdl l)[k]? fun row => onCons (List.drop 0 row) fun u r => onIntK IntKind.i64 u fun n => onCons r fun u r => onIntK IntKind.i64 u fun n_1 => onCons r fun u r => onLst u fun s es => K0G Try.prog glX 70 [V.agg [iv b.1, iv b.2, iv b.3, V.lst 2 (gl b.4), V.lst 1 (nl b.5)], V.agg [iv n, iv n_1, V.lst s es], V.lst 1 (tbl T)] fun v => onTup v fun vs => onCons vs fun u r => onIntK IntKind.i64 u fun n_2 => onCons r fun u r => onBool u fun b_1 => onNil r (ifB (!b_1) (R (V.tup [nilS, iv (92 : Int)])) (K0G Try.prog glX 60 [V.agg [iv b.1, iv b.2, iv b.3, V.lst 2 (gl b.4), V.lst 1 (nl b.5)], V.agg [iv n, iv n_1, V.lst s es], iv n_2] fun v => onAgg v fun cs => onCons cs fun u r => onIntK IntKind.i64 u fun n => onCons r fun u r => onIntK IntKind.i64 u fun n_3 => onCons r fun u r => onIntK IntKind.i64 u fun n_4 => onNil r (J (St.mk (mkT [(3, V.ptr (Id.p 0) 0 0), (9, V.lst 1 (tbl T)), (11, V.sl (Id.p 1) 0 1), (33, V.lst 3 (fdl l)), (34, iv (↑(fdl l).length : Int)), (35, iv (IntKind.i64.wrap ((↑k : Int) + (1 : Int))))]) (Hp.mk [(0, O.rows 5 false [[iv b.1, iv b.2, iv b.3, V.lst 2 (gl b.4), V.lst 1 (nl b.5)]]), (1, O.rows 3 true [[iv n, iv n_3, iv n_4]])] 2 [])))))) (R (V.tup [nilS, iv (0 : Int)]))) (by kernel_rfl) ?_
    rw [fdl_length]
    refine ifB_mk (fun c => ?_) (fun c => ?_)
    rotate_left
    · have hk : ¬ k < l.length := by have := of_decide_eq_false c; omega
      exact fin hk
    have hlt : k < l.length := by have := of_decide_eq_true c; omega
    obtain ⟨p, hp⟩ := getI hlt
    obtain ⟨st1, st2⟩ := step p hp hlt
    have fx := hf.2.1 p (mem_at hp)
    rw [wr1i hlt (by omega)]
    refine fel hp (leave70 hb fx hT hm (onTup_tup (onCons_cons (onIntK_iv (onCons_cons (onBool_bv (onNil_nil (ifB_mk (fun e => ?_) (fun e => ?_)))))))))
    · exact st1 (by rw [cdX, if_neg (by simpa using e)])
    · have st := st2 _ (by rw [cdX, if_pos (by simpa using e)])
      refine fate60 hb fx (lvN_ok b.gs.length 0 (by omega)) ?_
      exact hJ' (J := J) (by simp [sh29, sh29b, fdl_length, ftl, ftr, bel]) st
  · rw [show sh29 b l T (F, k).1 (F, k).2 = sh29b b l T F k from sh29_b hF]
    refine see (p := ifB (decide ((↑k : Int) < (↑(fdl l).length : Int))) (onSome (fdl l)[k]? fun row => onCons (List.drop 0 row) fun u r => onIntK IntKind.i64 u fun n => onCons r fun u r => onIntK IntKind.i64 u fun n_1 => onCons r fun u r => onLst u fun s es => K0G Try.prog glX 70 [V.agg [iv b.1, iv b.2, iv b.3, V.lst 2 (gl b.4), V.lst 1 (nl b.5)], V.agg [iv n, iv n_1, V.lst s es], V.lst 1 (tbl T)] fun v => onTup v fun vs => onCons vs fun u r => onIntK IntKind.i64 u fun n_2 => onCons r fun u r => onBool u fun b_1 => onNil r (ifB (!b_1) (R (V.tup [nilS, iv (92 : Int)])) (K0G Try.prog glX 60 [V.agg [iv b.1, iv b.2, iv b.3, V.lst 2 (gl b.4), V.lst 1 (nl b.5)], V.agg [iv n, iv n_1, V.lst s es], iv n_2] fun v => onAgg v fun cs => onCons cs fun u r => onIntK IntKind.i64 u fun n => onCons r fun u r => onIntK IntKind.i64 u fun n_3 => onCons r fun u r => onIntK IntKind.i64 u fun n_4 => onNil r (need ((F.length + 1) * 24 ≤ 140737488355328) (J (St.mk (mkT [(3, V.ptr (Id.p 0) 0 0), (9, V.lst 1 (tbl T)), (11, V.sl (Id.p 1) 0 (F.length + 1)), (33, V.lst 3 (fdl l)), (34, iv (↑(fdl l).length : Int)), (35, iv (IntKind.i64.wrap ((↑k : Int) + (1 : Int))))]) (Hp.mk [(0, O.rows 5 false [[iv b.1, iv b.2, iv b.3, V.lst 2 (gl b.4), V.lst 1 (nl b.5)]]), (1, O.rows 3 true (List.take F.length (ftl F) ++ [[iv n, iv n_3, iv n_4]]))] 2 []))))))) (R (V.tup [V.lst 3 (sub (ftl F) 0 F.length), iv (0 : Int)]))) (by kernel_rfl) ?_
    rw [fdl_length]
    refine ifB_mk (fun c => ?_) (fun c => ?_)
    rotate_left
    · have hk : ¬ k < l.length := by have := of_decide_eq_false c; omega
      rw [sub_all (ftl_length F).symm]
      have := fin hk
      cases F with
      | nil => exact (hF rfl).elim
      | cons y f => exact this
    have hlt : k < l.length := by have := of_decide_eq_true c; omega
    obtain ⟨p, hp⟩ := getI hlt
    obtain ⟨st1, st2⟩ := step p hp hlt
    have fx := hf.2.1 p (mem_at hp)
    rw [wr1i hlt (by omega)]
    refine fel hp (leave70 hb fx hT hm (onTup_tup (onCons_cons (onIntK_iv (onCons_cons (onBool_bv (onNil_nil (ifB_mk (fun e => ?_) (fun e => ?_)))))))))
    · exact st1 (by rw [cdX, if_neg (by simpa using e)])
    · have st := st2 _ (by rw [cdX, if_pos (by simpa using e)])
      refine fate60 hb fx (lvN_ok b.gs.length 0 (by omega)) ?_
      exact need_mk ⟨by omega, hJ' (J := J) (by rw [ftl_take, sh29_b (app_ne _ _)]; simp [sh29b, fdl_length, ftl, ftr, bel]) st⟩
end Go.Proofs.Ytmdimnmdoifkfaa
namespace Go.Proofs.Ytmdimnmdoifkfaa
open Go Go.Proofs.Ytmdimnmdoifkfaa.Clean
set_option linter.unusedVariables false
set_option linter.unusedSimpArgs false
set_option maxRecDepth 10000
end Go.Proofs.Ytmdimnmdoifkfaa
namespace Go.Proofs.Ytmdimnmdoifkfaa
open Go Go.Proofs.Ytmdimnmdoifkfaa.Clean
set_option linter.unusedVariables false
set_option linter.unusedSimpArgs false
set_option maxRecDepth 10000
structure Cl (b : Bt) (l : List Fd) (i : Nat) (g : Int) (m : Nat) : Prop where
  blk : Blk b.S l i m
  gate : sortI b l i = g
  ok : g ≠ -1
theorem at_cl {b : Bt} {l : List Fd} {i : Nat} {s : Sw} (hi : i < l.length) (h : At b l i s) : ∃ m, Cl b l i s.2.1 m ∧ (s = ((fd l i).1 + (gt b s.2.1).1 - b.S, s.2.1, true) ∨ s = ((fd l (i + m - 1)).1 + (gt b s.2.1).1 + 1, s.2.1, false)) := by
  obtain ⟨h1, h2, h3⟩ := h
  have hst : i = 0 ∨ ¬ nearP b.S l i := by
    cases i with
    | zero => exact .inl rfl
    | succ i =>
      refine .inr fun hn => ?_
      unfold firstF at h2
      rw [if_pos hn] at h2
      have := firstF_le b.S l i
      omega
  obtain ⟨m, hm⟩ := blk_ex hi hst
  have m1 := hm.1
  have hla : lastI b.S l i = i + m - 1 := lastI_blk hm (Nat.le_refl _) (by omega)
  have hg : s.2.1 = sortI b l i := by rcases h3 with e | e <;> (rw [e]; rfl)
  refine ⟨m, ⟨hm, hg.symm, by rw [hg]; exact h1⟩, ?_⟩
  rw [hg]
  rcases h3 with e | e
  · exact .inl e
  · right; rw [← hla]; exact e
theorem cl_at {b : Bt} {l : List Fd} {i m : Nat} {g : Int} (h : Cl b l i g m) : At b l i ((fd l i).1 + (gt b g).1 - b.S, g, true) ∧ At b l i ((fd l (i + m - 1)).1 + (gt b g).1 + 1, g, false) := by
  obtain ⟨hm, hg, ho⟩ := h
  have m1 := hm.1
  have hla : lastI b.S l i = i + m - 1 := lastI_blk hm (Nat.le_refl _) (by omega)
  have hfi : firstF b.S l i = i := first_blk hm i (Nat.le_refl _) (by omega)
  refine ⟨⟨by rw [hg]; exact ho, hfi, .inl ?_⟩, ⟨by rw [hg]; exact ho, hfi, .inr ?_⟩⟩
  · rw [outI, hg]
  · rw [backI, hg, hla]
theorem fd_le {l : List Fd} (hf : FdP l) {i j : Nat} (h : i ≤ j) (hj : j < l.length) : (fd l i).1 ≤ (fd l j).1 := by
  by_cases he : i = j
  · rw [he]; exact Int.le_refl _
  · have := fd_mono hf (i := i) (j := j) (by omega) hj; omega
theorem blk_apart {b : Bt} {l : List Fd} (hf : FdP l) {i m i' m' : Nat} (h : Blk b.S l i m) (h' : Blk b.S l i' m') (hi : i < i') : (fd l (i + m - 1)).1 + 2 * b.S + 2 ≤ (fd l i').1 := by
  obtain ⟨a1, a2, a3, a4, a5⟩ := h
  obtain ⟨b1, b2, b3, b4, b5⟩ := h'
  have hle : i + m ≤ i' := by
    by_cases hc : i + m ≤ i'
    · exact hc
    · exact ((b3.resolve_left (by omega)) (a4 i' hi (by omega))).elim
  have hn := b3.resolve_left (by omega)
  unfold nearP at hn
  have := fd_le hf (i := i + m - 1) (j := i' - 1) (by omega) (by omega)
  omega
theorem blk_side {b : Bt} {l : List Fd} (hf : FdP l) {i m j : Nat} (h : Blk b.S l i m) (hj : j < l.length) : (i ≤ j ∧ j < i + m) ∨ (fd l j).1 + 2 * b.S + 2 ≤ (fd l i).1 ∨ (fd l (i + m - 1)).1 + 2 * b.S + 2 ≤ (fd l j).1 := by
  obtain ⟨a1, a2, a3, a4, a5⟩ := h
  by_cases h1 : j < i
  · right; left
    have hn := a3.resolve_left (by omega)
    unfold nearP at hn
    have := fd_le hf (i := j) (j := i - 1) (by omega) (by omega)
    omega
  · by_cases h2 : j < i + m
    · exact .inl ⟨by omega, h2⟩
    · right; right
      have hn := a5.resolve_left (by omega)
      unfold nearP at hn
      have := fd_le hf (i := i + m) (j := j) (by omega) hj
      rw [show i + m - 1 = i + m - 1 from rfl] at hn
      omega
theorem sw_mem {b : Bt} {l : List Fd} (hb : BtP b) (hf : FdP l) (s : Sw) : s ∈ swings b l ↔ ∃ i, i < l.length ∧ At b l i s := by
  rw [← (swings_eq hb hf).1, rsw_mem]
theorem sorted_before {W : List Sw} (hW : Sorted W) {k : Nat} {x z : Sw} (hx : W[k]? = some x) (hz : z ∈ W) (h : ltK z x) : z ∈ W.take k := by
  have hl := (List.getElem?_eq_some_iff.1 hx).1
  have hm : W = W.take k ++ x :: W.drop (k + 1) := by
    rw [← (List.getElem?_eq_some_iff.1 hx).2, ← List.drop_eq_getElem_cons hl, List.take_append_drop]
  rw [hm] at hz
  rcases List.mem_append.1 hz with hz | hz
  · exact hz
  · exfalso
    rcases List.mem_cons.1 hz with rfl | hz
    · exact ltK_irr _ h
    · rw [hm] at hW
      have := (List.pairwise_cons.1 (List.pairwise_append.1 hW).2.1).1 z hz
      exact ltK_irr _ (ltK_trans h this)
theorem prevS_last {a : List Sw} (ha : Sorted a) {g : Int} {y z : Sw} (hy : prevS g a = some y) (hz : z ∈ a) (hg : z.2.1 = g) : z = y ∨ ltK z y := by
  have hz' : z ∈ a.filter (fun x => decide (x.2.1 = g)) := List.mem_filter.2 ⟨hz, by simpa using hg⟩
  have hs : Sorted (a.filter fun x => decide (x.2.1 = g)) := List.Pairwise.sublist List.filter_sublist ha
  unfold prevS at hy
  generalize a.filter (fun x => decide (x.2.1 = g)) = F at *
  rcases List.eq_nil_or_concat F with rfl | ⟨c, w, rfl⟩
  · simp at hy
  · rw [List.concat_eq_append] at *
    have hw : w = y := by simpa using hy
    subst hw
    rcases List.mem_append.1 hz' with h | h
    · exact .inr ((List.pairwise_append.1 hs).2.2 z h w (by simp))
    · exact .inl (by simpa using h)
theorem prevS_gate {a : List Sw} {g : Int} {y : Sw} (hy : prevS g a = some y) : y.2.1 = g := by
  simpa using (List.mem_filter.1 (List.mem_of_getLast? hy)).2
theorem prevS_none {a : List Sw} {g : Int} {z : Sw} (hy : prevS g a = none) (hz : z ∈ a) : z.2.1 ≠ g := fun hg => by
  unfold prevS at hy
  have := List.getLast?_eq_none_iff.1 hy
  have hz' : z ∈ a.filter (fun x => decide (x.2.1 = g)) := List.mem_filter.2 ⟨hz, by simpa using hg⟩
  rw [this] at hz'
  simp at hz'
theorem swings_ok {b : Bt} {l : List Fd} (hb : BtP b) (hf : FdP l) : SwP b (swings b l) := by
  have hW := (swings_eq hb hf).2
  have hS := hb.2.1
  intro k x hx
  have hmx : (if (1 : Int) > b.S then 1 else b.S) ≤ b.S + 1 := by split <;> omega
  have hxW := mem_at hx
  obtain ⟨i, i1, i2⟩ := (sw_mem hb hf x).1 hxW
  obtain ⟨m, hc, hxs⟩ := at_cl i1 i2
  obtain ⟨c1, c2⟩ := cl_at hc
  have zW := (sw_mem hb hf _).2 ⟨i, i1, c1⟩
  have m1 := hc.blk.1
  have m2 := hc.blk.2.1
  have hfq := fd_le hf (i := i) (j := i + m - 1) (by omega) (by omega)
  have gr := (sortI_rng b l i).resolve_left (by rw [hc.gate]; exact hc.ok)
  have zx : x.2.2 = false → ltK ((fd l i).1 + (gt b x.2.1).1 - b.S, x.2.1, true) x := fun hq => by
    rcases hxs with e | e
    · rw [e] at hq; cases hq
    · refine .inl ?_
      have : x.1 = (fd l (i + m - 1)).1 + (gt b x.2.1).1 + 1 := congrArg (·.1) e
      rw [this]; show (fd l i).1 + (gt b x.2.1).1 - b.S < _
      omega
  refine ⟨?_, fun y hy => pw_at hx hW y (List.mem_of_getLast? hy), fun y hy => ?_, fun hn => ?_⟩
  · obtain ⟨n, n1, n2⟩ := gr
    rw [hc.gate] at n1
    omega
  · have ya := prevS_mem hy
    have yg := prevS_gate hy
    have yx : ltK y x := pw_at hx hW y ya
    have yx1 : y.1 < x.1 := by rcases yx with q | q
                               · exact q
                               · omega
    obtain ⟨j, j1, j2⟩ := (sw_mem hb hf y).1 ((List.take_sublist _ _).subset ya)
    obtain ⟨m', hd, hys⟩ := at_cl j1 j2
    rw [yg] at hd hys
    have d1 := hd.blk.1
    have d2 := hd.blk.2.1
    have hfq' := fd_le hf (i := j) (j := j + m' - 1) (by omega) (by omega)
    obtain ⟨e1, e2⟩ := cl_at hd
    have wW := (sw_mem hb hf _).2 ⟨j, j1, e2⟩
    have hsame : j = i → m' = m := fun hji => by
      subst hji
      have h1 := lastI_blk hd.blk (Nat.le_refl _) (by omega)
      have h2 := lastI_blk hc.blk (Nat.le_refl _) (by omega)
      omega
    have hord : j < i ∨ j = i ∨ i < j := by omega
    have fst := fun (z : Sw) => prevS_last (z := z) (List.Pairwise.sublist (List.take_sublist _ _) hW : Sorted ((swings b l).take k)) hy
    rcases hxs with ex | ex
    · have x1 : x.1 = (fd l i).1 + (gt b x.2.1).1 - b.S := congrArg (·.1) ex
      have x2 : x.2.2 = true := congrArg (·.2.2) ex
      rcases hys with ey | ey
      · exfalso
        have y1 : y.1 = (fd l j).1 + (gt b x.2.1).1 - b.S := congrArg (·.1) ey
        rcases hord with h | h | h
        · have hap := blk_apart hf hd.blk hc.blk h
          have hw : ltK ((fd l (j + m' - 1)).1 + (gt b x.2.1).1 + 1, x.2.1, false) x := .inl (by show (fd l (j + m' - 1)).1 + (gt b x.2.1).1 + 1 < x.1; omega)
          rcases fst _ (sorted_before hW hx wW hw) rfl with q | q
          · rw [← q] at ey; cases congrArg (·.2.2) ey
          · rcases q with q | q
            · have q : (fd l (j + m' - 1)).1 + (gt b x.2.1).1 + 1 < y.1 := q
              omega
            · have q : (fd l (j + m' - 1)).1 + (gt b x.2.1).1 + 1 = y.1 := q.1
              omega
        · subst h; omega
        · have := blk_apart hf hc.blk hd.blk h; omega
      · have y1 : y.1 = (fd l (j + m' - 1)).1 + (gt b x.2.1).1 + 1 := congrArg (·.1) ey
        have y2 : y.2.2 = false := congrArg (·.2.2) ey
        refine ⟨by rw [x2, y2]; simp, ?_⟩
        rcases hord with h | h | h
        · have := blk_apart hf hd.blk hc.blk h; omega
        · have := hsame h; subst h; omega
        · have := blk_apart hf hc.blk hd.blk h; omega
    · have x1 : x.1 = (fd l (i + m - 1)).1 + (gt b x.2.1).1 + 1 := congrArg (·.1) ex
      have x2 : x.2.2 = false := congrArg (·.2.2) ex
      rcases fst _ (sorted_before hW hx zW (zx x2)) rfl with q | q
      · rw [← q, x2]
        refine ⟨by simp, ?_⟩
        show (fd l i).1 + (gt b x.2.1).1 - b.S + _ ≤ _
        omega
      · exfalso
        have zy : (fd l i).1 + (gt b x.2.1).1 - b.S < y.1 := by
          rcases q with q | q
          · exact q
          · have := q.2; have h2 : x.2.1 < y.2.1 := this; omega
        have ycase : y.1 = (fd l j).1 + (gt b x.2.1).1 - b.S ∨ y.1 = (fd l (j + m' - 1)).1 + (gt b x.2.1).1 + 1 := by
          rcases hys with e | e
          · exact .inl (congrArg (·.1) e)
          · exact .inr (congrArg (·.1) e)
        rcases hord with h | h | h
        · have := blk_apart hf hd.blk hc.blk h
          rcases ycase with e | e <;> omega
        · have := hsame h; subst h; subst this
          rcases ycase with e | e <;> omega
        · have := blk_apart hf hc.blk hd.blk h
          rcases ycase with e | e <;> omega
  · cases hq : x.2.2 with
    | true => rfl
    | false => exact (prevS_none hn (sorted_before hW hx zW (zx hq)) rfl).elim
end Go.Proofs.Ytmdimnmdoifkfaa
