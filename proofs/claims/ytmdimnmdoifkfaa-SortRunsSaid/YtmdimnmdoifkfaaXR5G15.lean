/- A part of the proof. -/
import Derived.ProofKit
import Derived.Deep.Slices
import Derived.Carry
import Derived.Test.YtmdimnmdoifkfaaXR5G7
import Derived.Test.YtmdimnmdoifkfaaXR5G14
namespace Go.Proofs.Ytmdimnmdoifkfaa
open Go Go.Proofs.Ytmdimnmdoifkfaa.Clean
set_option linter.unusedVariables false
set_option linter.unusedSimpArgs false
set_option maxRecDepth 10000
theorem memb_app {ms l : List (Option (List (List V)))} {j : Nat} {es : List (List V)} (h : memb ms j = some es) : memb (ms ++ l) j = some es := by
  have hj := memb_lt h
  unfold memb at h ⊢
  rw [List.getElem?_append_left hj]; exact h
theorem memb_last {ms l : List (Option (List (List V)))} {x : Option (List (List V))} : memb (ms ++ x :: l) ms.length = x := by
  unfold memb
  rw [List.getElem?_append_right (Nat.le_refl _), Nat.sub_self]; rfl
theorem has_m {bs : List (Nat × O)} {n s j : Nat} {ms : List (Option (List (List V)))} {es : List (List V)} (h : memb ms j = some es) : Hp.has ⟨bs, n, [(0, ⟨s, ms⟩)]⟩ (.m 0 j) = true := by
  show (memb ms j).isSome = true
  rw [h]; rfl
def CellOK (ms : List (Option (List (List V)))) (m : List Int) (row : List V) : Prop := (m = [] ∧ row = [nilS]) ∨ (m ≠ [] ∧ ∃ j, row = [.sl (.m 0 j) 0 m.length] ∧ memb ms j = some (nl m))
theorem cel {ms : List (Option (List (List V)))} {m : List Int} {r : List (List V)} {g : Nat} {row : List V} {P : Prop} {Q : Nat → Nat → Prop} (h : r[g]? = some row) (hc : CellOK ms m row) (hp : m = [] → row = [nilS] → P) (hq : ∀ j, m ≠ [] → row = [.sl (.m 0 j) 0 m.length] → memb ms j = some (nl m) → Q j m.length) :
    onSome r[0 + g]? fun row => onSome row[0]? fun v => onMem 0 v P Q := by
  rw [Nat.zero_add]
  rcases hc with ⟨h1, rfl⟩ | ⟨h1, j, rfl, h2⟩
  · exact onSome_mk h (onSome_mk (x := nilS) rfl (hp h1 rfl))
  · exact onSome_mk h (onSome_mk (x := .sl (.m 0 j) 0 m.length) rfl (hq j h1 rfl h2))
theorem map_nils (τ : Clean.Id → Tr) (n : Nat) : List.map (trL τ) (List.replicate n [nilS]) = List.replicate n [nilS] := by
  rw [List.map_replicate]; rfl
theorem trL_cell {τ : Clean.Id → Tr} {ms : List (Option (List (List V)))} {m : List Int} {row : List V} (hτ : ∀ j, τ (.m 0 j) = .ren (.m 0 j)) (h : CellOK ms m row) : trL τ row = row := by
  rcases h with ⟨_, rfl⟩ | ⟨_, j, rfl, _⟩
  · rfl
  · simp [trL, V.tr, hτ]
theorem map_set {τ : Clean.Id → Tr} {r : List (List V)} {g L n p : Nat} {t : List V} (hr : ∀ row ∈ r, (∀ j, τ (.m 0 j) = .ren (.m 0 j)) → trL τ row = row) (ht : t = []) (hτ : ∀ j, τ (.m 0 j) = .ren (.m 0 j)) (hp : τ (.p p) = .ren (.m 0 L)) :
    List.map (trL τ) (r.set g (V.sl (Id.p p) 0 n :: t)) = r.set g [V.sl (.m 0 L) 0 n] := by
  subst ht
  rw [List.map_set]
  have h1 : List.map (trL τ) r = r := (List.map_congr_left (fun row hrow => hr row hrow hτ)).trans (List.map_id' r)
  have h2 : trL τ [V.sl (Id.p p) 0 n] = [V.sl (.m 0 L) 0 n] := by simp [trL, V.tr, hp]
  rw [h1, h2]
structure InvM (b : Bt) (L : Nat) (u : List Sw) (r : List (List V)) (ms : List (Option (List (List V)))) (k : Nat) : Prop where
  len : r.length = L
  kl : k ≤ u.length
  ok : ∀ i x, i < k → u[i]? = some x → okI b (u.take i) x
  cell : ∀ g : Nat, g < L → ∃ row, r[g]? = some row ∧ CellOK ms (mv (u.take k) (g : Int)) row
  apart : ∀ g g' j n n' : Nat, r[g]? = some [V.sl (.m 0 j) 0 n] → r[g']? = some [V.sl (.m 0 j) 0 n'] → g = g'
theorem InvM.row {b : Bt} {L : Nat} {u : List Sw} {r : List (List V)} {ms : List (Option (List (List V)))} {k : Nat} (h : InvM b L u r ms k) {row : List V} (hm : row ∈ r) : ∃ m, CellOK ms m row := by
  obtain ⟨g, hg, rfl⟩ := List.getElem_of_mem hm
  obtain ⟨row, h1, h2⟩ := h.cell g (by rw [← h.len]; exact hg)
  rw [List.getElem?_eq_getElem hg] at h1
  cases h1
  exact ⟨_, h2⟩
theorem InvM.sw {b : Bt} {L : Nat} {u : List Sw} {r : List (List V)} {ms : List (Option (List (List V)))} {k : Nat} (h : InvM b L u r ms k) : SwP b (u.take k) := by
  intro i x hx
  have hi : i < k := by
    have := (List.getElem?_eq_some_iff.1 hx).1
    rw [List.length_take] at this; omega
  rw [List.getElem?_take_of_lt hi] at hx
  rw [List.take_take, Nat.min_eq_left (by omega)]
  exact h.ok i x hi hx
theorem InvM.next {b : Bt} {L : Nat} {u : List Sw} {r : List (List V)} {ms ms' : List (Option (List (List V)))} {k : Nat} (h : InvM b L u r ms k) {x : Sw} (hx : u[k]? = some x) (ho : okI b (u.take k) x) {g J : Nat} (hg : x.2.1 = (g : Int)) (hgL : g < L)
    (hJ : memb ms' J = some (nl (mv (u.take k) (g : Int) ++ [x.1]))) (hJn : ∀ es, memb ms J ≠ some es) (hk : ∀ g' j n es, g' ≠ g → r[g']? = some [V.sl (.m 0 j) 0 n] → memb ms j = some es → memb ms' j = some es) :
    InvM b L u (r.set g [V.sl (.m 0 J) 0 ((mv (u.take k) (g : Int)).length + 1)]) ms' (k + 1) := by
  have hlt : k < u.length := (List.getElem?_eq_some_iff.1 hx).1
  have old : ∀ g' j n, r[g']? = some [V.sl (.m 0 j) 0 n] → j ≠ J := fun g' j n hr he => by
    have hg' : g' < L := by rw [← h.len]; exact (List.getElem?_eq_some_iff.1 hr).1
    obtain ⟨row, h1, h2⟩ := h.cell g' hg'
    rw [hr] at h1
    cases h1
    rcases h2 with ⟨_, h3⟩ | ⟨_, j', h3, h4⟩
    · cases h3
    · cases h3
      subst he
      exact hJn _ h4
  refine ⟨by rw [List.length_set]; exact h.len, hlt, fun i y hi hy => ?_, fun g' hg' => ?_, fun g1 g2 j n n' h1 h2 => ?_⟩
  · by_cases he : i = k
    · subst he; rw [hx] at hy; cases hy; exact ho
    · exact h.ok i y (by omega) hy
  · rw [take_succ' hx, mv_app]
    by_cases he : g' = g
    · subst he
      rw [if_pos hg]
      refine ⟨_, by rw [List.getElem?_set_self (by rw [h.len]; exact hg')], .inr ⟨by simp, J, by simp, hJ⟩⟩
    · rw [if_neg (by rw [hg]; omega)]
      obtain ⟨row, h1, h2⟩ := h.cell g' hg'
      refine ⟨row, by rw [List.getElem?_set_ne (fun e => he e.symm)]; exact h1, ?_⟩
      rcases h2 with h2 | ⟨h3, j, h4, h5⟩
      · exact .inl h2
      · exact .inr ⟨h3, j, h4, hk g' j _ _ he (by rw [h1, h4]) h5⟩
  · by_cases e1 : g1 = g
    · by_cases e2 : g2 = g
      · rw [e1, e2]
      · subst e1
        rw [List.getElem?_set_ne (fun e => e2 e.symm)] at h2
        rw [List.getElem?_set_self (by rw [h.len]; exact hgL)] at h1
        cases h1
        exact (old _ _ _ h2 rfl).elim
    · by_cases e2 : g2 = g
      · subst e2
        rw [List.getElem?_set_ne (fun e => e1 e.symm)] at h1
        rw [List.getElem?_set_self (by rw [h.len]; exact hgL)] at h2
        cases h2
        exact (old _ _ _ h1 rfl).elim
      · rw [List.getElem?_set_ne (fun e => e1 e.symm)] at h1
        rw [List.getElem?_set_ne (fun e => e2 e.symm)] at h2
        exact h.apart _ _ _ _ _ h1 h2
theorem take_nl (m : List Int) : List.take m.length (nl m) = nl m := by rw [← nl_length]; exact List.take_length
theorem nl_app (m : List Int) (t : Int) : nl m ++ [[iv t]] = nl (m ++ [t]) := by simp [nl]
theorem gtS_not {y x : Sw} (h : ¬ gtS y x) : y.1 < x.1 ∨ (y.1 = x.1 ∧ y.2.1 ≤ x.2.1) := by
  unfold gtS at h
  omega
theorem memb_none {ms : List (Option (List (List V)))} {es : List (List V)} : memb ms ms.length ≠ some es := fun h => absurd (memb_lt h) (Nat.lt_irrefl _)
theorem lt_le_ne {a c : Int} (h : a ≤ c) (h' : a ≠ c) : a < c := by omega
theorem hc69 : cf69.ok Try.prog := by
  have h : (cfgM Try.prog glX moT tyT (inN [54, 57, 61, 75, 95, 96, 97, 99, 109, 113, 114]) kp69).ok Try.prog := cfgM_ok
  exact ⟨h.1, h.2⟩
theorem tabR {ms : List (Option (List (List V)))} {r : List (List V)} {T : List (List Int)} {τ : Clean.Id → Tr} (hr : r.length = T.length) (hc : ∀ g : Nat, g < r.length → ∃ row, r[g]? = some row ∧ CellOK ms (T.getD g []) row) (hτ : ∀ j es, memb ms j = some es → τ (.m 0 j) = .frz 1 es) :
    sub (List.map (trL τ) r) 0 r.length = tbl T := by
  have h1 : sub (List.map (trL τ) r) 0 r.length = List.map (trL τ) r := by
    unfold sub
    rw [List.drop_zero, List.take_of_length_le (by simp)]
  rw [h1]
  refine List.ext_getElem? fun g => ?_
  by_cases hg : g < r.length
  · obtain ⟨row, h2, h3⟩ := hc g hg
    rw [List.getElem?_map, h2, tbl, List.getElem?_map, getK (d := []) (by omega)]
    show some (trL τ row) = some [lsI (T.getD g [])]
    generalize T.getD g [] = m at h3
    rcases h3 with ⟨rfl, rfl⟩ | ⟨h4, j, rfl, h5⟩
    · rfl
    · have h6 : trL τ [V.sl (.m 0 j) 0 m.length] = [V.lst 1 (sub (nl m) 0 m.length)] := by simp [trL, V.tr, hτ j _ h5]
      rw [h6]
      have h7 : sub (nl m) 0 m.length = nl m := by unfold sub; rw [List.drop_zero, ← nl_length, List.take_length]
      rw [h7]
      cases m with
      | nil => exact (h4 rfl).elim
      | cons a t => rfl
  · rw [List.getElem?_eq_none (by simp; omega), List.getElem?_eq_none (by simp [tbl]; omega)]
theorem tmod2 (n : Nat) : ((n : Int).tmod 2 == (0 : Int)) = decide (n % 2 = 0) := by
  rw [show ((n : Int).tmod 2) = ((n % 2 : Nat) : Int) from rfl]
  rcases Nat.mod_two_eq_zero_or_one n with h | h <;> rw [h] <;> rfl
theorem moves69 {b : Bt} {s : Nat} {u : List Sw} (hb : BtP b) (hl : u.length ≤ 900) (hI : ∀ x ∈ u, In64 x.1) (hs : u = [] ∨ s = 3) {R : V → Prop} (h : R (mvV b u)) : K0G Try.prog glX 69 [.agg (bel b), .lst s (swl u)] R := by
  refine K0_of_WY0 hmX hc69 3000 Try.func69 (see (p := need ((gl b.4).length ≤ (gl b.4).length) (need (24 * (gl b.4).length ≤ 140737488355328) (need ((gl b.4).length ≤ 9223372036854775807) (La 0 [(1 : Tmp), (2 : Tmp), (6 : Tmp), (14 : Tmp), (15 : Tmp), (16 : Tmp), (1000001 : Tmp)] (WY Try.prog cf69 2994 (Env.mk (Bs.mk 0 []) 0 none 75 69 0) (cdAt [1, 1, 0, 1, 0, 0] (bodyOf Try.f69))) (Qblk 0 (Qthen (WY Try.prog cf69 2997 (Env.mk (Bs.mk 0 []) 0 none 75 69 0) (cdAt [1, 1, 1] (bodyOf Try.f69)) (QendX Try.prog Try.f69 fun v h => R (frzW h v))) (QendX Try.prog Try.f69 fun v h => R (frzW h v)))) (St.mk (mkT [(1, V.lst s (swl u)), (2, V.ptr (Id.p 0) 0 0), (6, V.sl (Id.p 1) 0 (gl b.4).length), (14, V.lst s (swl u)), (15, iv (↑(swl u).length : Int)), (16, iv (0 : Int))]) (Hp.mk [(0, O.rows 5 false [[iv b.1, iv b.2, iv b.3, V.lst 2 (gl b.4), V.lst 1 (nl b.5)]]), (1, O.rows 1 false (List.map (trL ((Keep.mk [1, 2, 6, 14, 15, 16] [(Id.p 0, 0), (Id.p 1, 1)] 2 [] [] [Fk.mk none 0 1 []]).ren (Hp.mk [(1, O.rows 1 false (List.replicate (gl b.4).length [nilS])), (0, O.rows 5 false [[iv b.1, iv b.2, iv b.3, V.lst 2 (gl b.4), V.lst 1 (nl b.5)]])] 2 []))) (List.replicate (gl b.4).length [nilS])))] 2 [(0, Fam.mk 1 ([] ++ []))])))))) (by kernel_rfl) ?_)
  have hg8 := hb.2.2.2.1
  have hS := hb.2.1
  have hS' := hb.2.2.1
  obtain ⟨L, hL⟩ : ∃ L, L = (gl b.gs).length := ⟨_, rfl⟩
  rw [← hL]
  have hLg : L = b.gs.length := by rw [hL]; exact gl_length _
  refine need_mk ⟨Nat.le_refl _, need_mk ⟨by omega, need_mk ⟨by omega, ?_⟩⟩⟩
  rw [map_nils]
  have hbad : ¬ SwP b u → R (.tup [nilS, bv false]) := fun hn => by rw [mvV, if_neg (by rw [dc_f hn]; simp)] at h; exact h
  refine La.of (σ := List (List V) × List (Option (List (List V))) × Nat) (fun σ => sh69 b s u L σ.1 σ.2.1 σ.2.2) (fun σ => InvM b L u σ.1 σ.2.1 σ.2.2) (fun σ => u.length - σ.2.2) (List.replicate L [nilS], [], 0) (by kernel_rfl)
    ⟨by simp, Nat.zero_le _, fun i x hi => absurd hi (Nat.not_lt_zero _), fun g hg => ⟨[nilS], by rw [List.getElem?_replicate, if_pos hg], .inl ⟨rfl, rfl⟩⟩, fun g g' j n n' h1 => by
      rw [List.getElem?_replicate] at h1
      split at h1 <;> cases h1⟩ ?_
  rintro ⟨r, ms, k⟩ inv J hJ
  simp only at inv
  have hn : ∀ r' ms', InvM b L u r' ms' (k + 1) → k < u.length → J (sh69 b s u L r' ms' (k + 1)) := fun r' ms' hi hd => hJ (r', ms', k + 1) hi (by show u.length - (k + 1) < u.length - k; omega)
  clear hJ
  refine see (p := ifB (decide ((↑k : Int) < (↑(swl u).length : Int))) (need (s = 3) (onSome (swl u)[k]? fun row => onCons (List.drop 0 row) fun u_1 r_1 => onIntK IntKind.i64 u_1 fun n => onCons r_1 fun u_2 r_2 => onIntK IntKind.i64 u_2 fun n_1 => onCons r_2 fun u_3 r_3 => onBool u_3 fun b_1 => ifB (decide ((0 : Int) ≤ n_1)) (ifB (!decide (n_1 ≤ IntKind.i64.wrap ((↑L : Int) - (1 : Int)))) (R (V.tup [nilS, bv false])) (ifB (decide ((↑k : Int) > (0 : Int))) (onNat (IntKind.i64.wrap ((↑k : Int) - (1 : Int))) fun m => need (s = 3) (onSome (swl u)[m]? fun row_1 => onCons (List.drop 0 row_1) fun u_4 r_4 => onIntK IntKind.i64 u_4 fun n_2 => onCons r_4 fun u_5 r_5 => onIntK IntKind.i64 u_5 fun n_3 => onCons r_5 fun u_6 r_6 => onBool u_6 fun b_2 => K0G Try.prog glX 65 [V.agg [iv n_2, iv n_3, bv b_2], V.agg [iv n, iv n_1, bv b_1]] fun v => onIntK IntKind.i64 v fun n_4 => ifB (decide (n_4 > (0 : Int))) (R (V.tup [nilS, bv false])) (onNat n_1 fun m => need (m < L) (onSome r[0 + m]? fun row_2 => onSome row_2[0]? fun v => onMem 0 v (ifB (!b_1 == ((↑(0 : Nat) : Int).tmod (2 : Int) == (0 : Int))) (R (V.tup [nilS, bv false])) (onSome r[0 + m]? fun row_3 => onSome row_3[0]? fun v => onMem 0 v (onSome r[0 + m]? fun row_4 => onSome row_4[0]? fun v => onMem 0 v (onSome r[0 + m]? fun row => guardB ((0 + 1).ble row.length) (J (St.mk (mkT [(1, V.lst s (swl u)), (2, V.ptr (Id.p 0) 0 0), (6, V.sl (Id.p 1) 0 L), (14, V.lst s (swl u)), (15, iv (↑(swl u).length : Int)), (16, iv (IntKind.i64.wrap ((↑k : Int) + (1 : Int))))]) (Hp.mk [(0, O.rows 5 false [[iv b.1, iv b.2, iv b.3, V.lst 2 (gl b.4), V.lst 1 (nl b.5)]]), (1, O.rows 1 false (List.map (trL ((Keep.mk [1, 2, 6, 14, 15, 16] [(Id.p 0, 0), (Id.p 1, 1)] 2 [] [] [Fk.mk (some 0) 0 1 [4, 3]]).ren (Hp.mk [(1, O.rows 1 false (r.set (0 + m) (V.sl (Id.p 4) 0 1 :: (List.append []) (List.drop 1 row)))), (4, O.rows 1 true [[iv n]]), (3, O.rows 1 true [[iv n]]), (2, O.rows 3 false [[iv n, iv n_1, bv b_1]]), (0, O.rows 5 false [[iv b.1, iv b.2, iv b.3, V.lst 2 (gl b.4), V.lst 1 (nl b.5)]])] 5 [(0, Fam.mk 1 ms)]))) (r.set (0 + m) (V.sl (Id.p 4) 0 1 :: (List.append []) (List.drop 1 row)))))] 2 [(0, Fam.mk 1 (ms ++ [some [[iv n]], some [[iv n]]]))])))) fun j n_5 => onSome (memb ms j) fun es => need ((n_5 + 1) * 8 ≤ 140737488355328) (onSome r[0 + m]? fun row => guardB ((0 + 1).ble row.length) (J (St.mk (mkT [(1, V.lst s (swl u)), (2, V.ptr (Id.p 0) 0 0), (6, V.sl (Id.p 1) 0 L), (14, V.lst s (swl u)), (15, iv (↑(swl u).length : Int)), (16, iv (IntKind.i64.wrap ((↑k : Int) + (1 : Int))))]) (Hp.mk [(0, O.rows 5 false [[iv b.1, iv b.2, iv b.3, V.lst 2 (gl b.4), V.lst 1 (nl b.5)]]), (1, O.rows 1 false (List.map (trL ((Keep.mk [1, 2, 6, 14, 15, 16] [(Id.p 0, 0), (Id.p 1, 1)] 2 [] [] [Fk.mk (some 0) 0 1 [4, 3]]).ren (Hp.mk [(1, O.rows 1 false (r.set (0 + m) (V.sl (Id.p 4) 0 (n_5 + 1) :: (List.append []) (List.drop 1 row)))), (4, O.rows 1 true (List.take n_5 es ++ [[iv n]])), (3, O.rows 1 true [[iv n]]), (2, O.rows 3 false [[iv n, iv n_1, bv b_1]]), (0, O.rows 5 false [[iv b.1, iv b.2, iv b.3, V.lst 2 (gl b.4), V.lst 1 (nl b.5)]])] 5 [(0, Fam.mk 1 (ms.set j none))]))) (r.set (0 + m) (V.sl (Id.p 4) 0 (n_5 + 1) :: (List.append []) (List.drop 1 row)))))] 2 [(0, Fam.mk 1 (ms.set j none ++ [some (List.take n_5 es ++ [[iv n]]), some [[iv n]]]))]))))) fun j n_5 => guardB ((Hp.mk [(2, O.rows 3 false [[iv n, iv n_1, bv b_1]]), (0, O.rows 5 false [[iv b.1, iv b.2, iv b.3, V.lst 2 (gl b.4), V.lst 1 (nl b.5)]]), (1, O.rows 1 false r)] 3 [(0, Fam.mk 1 ms)]).has (Id.m 0 j)) (ifB ((↑n_5 : Int) == (0 : Int)) (onSome r[0 + m]? fun row_4 => onSome row_4[0]? fun v => onMem 0 v (onSome r[0 + m]? fun row => guardB ((0 + 1).ble row.length) (J (St.mk (mkT [(1, V.lst s (swl u)), (2, V.ptr (Id.p 0) 0 0), (6, V.sl (Id.p 1) 0 L), (14, V.lst s (swl u)), (15, iv (↑(swl u).length : Int)), (16, iv (IntKind.i64.wrap ((↑k : Int) + (1 : Int))))]) (Hp.mk [(0, O.rows 5 false [[iv b.1, iv b.2, iv b.3, V.lst 2 (gl b.4), V.lst 1 (nl b.5)]]), (1, O.rows 1 false (List.map (trL ((Keep.mk [1, 2, 6, 14, 15, 16] [(Id.p 0, 0), (Id.p 1, 1)] 2 [] [] [Fk.mk (some 0) 0 1 [4, 3]]).ren (Hp.mk [(1, O.rows 1 false (r.set (0 + m) (V.sl (Id.p 4) 0 1 :: (List.append []) (List.drop 1 row)))), (4, O.rows 1 true [[iv n]]), (3, O.rows 1 true [[iv n]]), (2, O.rows 3 false [[iv n, iv n_1, bv b_1]]), (0, O.rows 5 false [[iv b.1, iv b.2, iv b.3, V.lst 2 (gl b.4), V.lst 1 (nl b.5)]])] 5 [(0, Fam.mk 1 ms)]))) (r.set (0 + m) (V.sl (Id.p 4) 0 1 :: (List.append []) (List.drop 1 row)))))] 2 [(0, Fam.mk 1 (ms ++ [some [[iv n]], some [[iv n]]]))])))) fun j_1 n_6 => onSome (memb ms j_1) fun es => need ((n_6 + 1) * 8 ≤ 140737488355328) (onSome r[0 + m]? fun row => guardB ((0 + 1).ble row.length) (J (St.mk (mkT [(1, V.lst s (swl u)), (2, V.ptr (Id.p 0) 0 0), (6, V.sl (Id.p 1) 0 L), (14, V.lst s (swl u)), (15, iv (↑(swl u).length : Int)), (16, iv (IntKind.i64.wrap ((↑k : Int) + (1 : Int))))]) (Hp.mk [(0, O.rows 5 false [[iv b.1, iv b.2, iv b.3, V.lst 2 (gl b.4), V.lst 1 (nl b.5)]]), (1, O.rows 1 false (List.map (trL ((Keep.mk [1, 2, 6, 14, 15, 16] [(Id.p 0, 0), (Id.p 1, 1)] 2 [] [] [Fk.mk (some 0) 0 1 [4, 3]]).ren (Hp.mk [(1, O.rows 1 false (r.set (0 + m) (V.sl (Id.p 4) 0 (n_6 + 1) :: (List.append []) (List.drop 1 row)))), (4, O.rows 1 true (List.take n_6 es ++ [[iv n]])), (3, O.rows 1 true [[iv n]]), (2, O.rows 3 false [[iv n, iv n_1, bv b_1]]), (0, O.rows 5 false [[iv b.1, iv b.2, iv b.3, V.lst 2 (gl b.4), V.lst 1 (nl b.5)]])] 5 [(0, Fam.mk 1 (ms.set j_1 none))]))) (r.set (0 + m) (V.sl (Id.p 4) 0 (n_6 + 1) :: (List.append []) (List.drop 1 row)))))] 2 [(0, Fam.mk 1 (ms.set j_1 none ++ [some (List.take n_6 es ++ [[iv n]]), some [[iv n]]]))]))))) (guardB ((Hp.mk [(2, O.rows 3 false [[iv n, iv n_1, bv b_1]]), (0, O.rows 5 false [[iv b.1, iv b.2, iv b.3, V.lst 2 (gl b.4), V.lst 1 (nl b.5)]]), (1, O.rows 1 false r)] 3 [(0, Fam.mk 1 ms)]).has (Id.m 0 j)) (onNat (IntKind.i64.wrap ((↑n_5 : Int) - (1 : Int))) fun m_1 => onSome (memb ms j) fun es => need (m_1 < n_5) (onSome (memb ms j) fun es => onSome es[0 + m_1]? fun row_4 => onSome row_4[0]? fun v => onIntK IntKind.i64 v fun n_6 => ifB (decide (n > n_6)) (ifB (!decide (IntKind.u64.wrap (IntKind.u64.wrap n - IntKind.u64.wrap n_6) ≥ IntKind.u64.wrap b.3)) (R (V.tup [nilS, bv false])) (onSome r[0 + m]? fun row_5 => onSome row_5[0]? fun v => onMem 0 v (onSome r[0 + m]? fun row => guardB ((0 + 1).ble row.length) (J (St.mk (mkT [(1, V.lst s (swl u)), (2, V.ptr (Id.p 0) 0 0), (6, V.sl (Id.p 1) 0 L), (14, V.lst s (swl u)), (15, iv (↑(swl u).length : Int)), (16, iv (IntKind.i64.wrap ((↑k : Int) + (1 : Int))))]) (Hp.mk [(0, O.rows 5 false [[iv b.1, iv b.2, iv b.3, V.lst 2 (gl b.4), V.lst 1 (nl b.5)]]), (1, O.rows 1 false (List.map (trL ((Keep.mk [1, 2, 6, 14, 15, 16] [(Id.p 0, 0), (Id.p 1, 1)] 2 [] [] [Fk.mk (some 0) 0 1 [4, 3]]).ren (Hp.mk [(1, O.rows 1 false (r.set (0 + m) (V.sl (Id.p 4) 0 1 :: (List.append []) (List.drop 1 row)))), (4, O.rows 1 true [[iv n]]), (3, O.rows 1 true [[iv n]]), (2, O.rows 3 false [[iv n, iv n_1, bv b_1]]), (0, O.rows 5 false [[iv b.1, iv b.2, iv b.3, V.lst 2 (gl b.4), V.lst 1 (nl b.5)]])] 5 [(0, Fam.mk 1 ms)]))) (r.set (0 + m) (V.sl (Id.p 4) 0 1 :: (List.append []) (List.drop 1 row)))))] 2 [(0, Fam.mk 1 (ms ++ [some [[iv n]], some [[iv n]]]))])))) fun j_1 n_7 => onSome (memb ms j_1) fun es => need ((n_7 + 1) * 8 ≤ 140737488355328) (onSome r[0 + m]? fun row => guardB ((0 + 1).ble row.length) (J (St.mk (mkT [(1, V.lst s (swl u)), (2, V.ptr (Id.p 0) 0 0), (6, V.sl (Id.p 1) 0 L), (14, V.lst s (swl u)), (15, iv (↑(swl u).length : Int)), (16, iv (IntKind.i64.wrap ((↑k : Int) + (1 : Int))))]) (Hp.mk [(0, O.rows 5 false [[iv b.1, iv b.2, iv b.3, V.lst 2 (gl b.4), V.lst 1 (nl b.5)]]), (1, O.rows 1 false (List.map (trL ((Keep.mk [1, 2, 6, 14, 15, 16] [(Id.p 0, 0), (Id.p 1, 1)] 2 [] [] [Fk.mk (some 0) 0 1 [4, 3]]).ren (Hp.mk [(1, O.rows 1 false (r.set (0 + m) (V.sl (Id.p 4) 0 (n_7 + 1) :: (List.append []) (List.drop 1 row)))), (4, O.rows 1 true (List.take n_7 es ++ [[iv n]])), (3, O.rows 1 true [[iv n]]), (2, O.rows 3 false [[iv n, iv n_1, bv b_1]]), (0, O.rows 5 false [[iv b.1, iv b.2, iv b.3, V.lst 2 (gl b.4), V.lst 1 (nl b.5)]])] 5 [(0, Fam.mk 1 (ms.set j_1 none))]))) (r.set (0 + m) (V.sl (Id.p 4) 0 (n_7 + 1) :: (List.append []) (List.drop 1 row)))))] 2 [(0, Fam.mk 1 (ms.set j_1 none ++ [some (List.take n_7 es ++ [[iv n]]), some [[iv n]]]))])))))) (R (V.tup [nilS, bv false])))))))) fun j n_5 => guardB ((Hp.mk [(2, O.rows 3 false [[iv n, iv n_1, bv b_1]]), (0, O.rows 5 false [[iv b.1, iv b.2, iv b.3, V.lst 2 (gl b.4), V.lst 1 (nl b.5)]]), (1, O.rows 1 false r)] 3 [(0, Fam.mk 1 ms)]).has (Id.m 0 j)) (ifB (!b_1 == ((↑n_5 : Int).tmod (2 : Int) == (0 : Int))) (R (V.tup [nilS, bv false])) (onSome r[0 + m]? fun row_3 => onSome row_3[0]? fun v => onMem 0 v (onSome r[0 + m]? fun row_4 => onSome row_4[0]? fun v => onMem 0 v (onSome r[0 + m]? fun row => guardB ((0 + 1).ble row.length) (J (St.mk (mkT [(1, V.lst s (swl u)), (2, V.ptr (Id.p 0) 0 0), (6, V.sl (Id.p 1) 0 L), (14, V.lst s (swl u)), (15, iv (↑(swl u).length : Int)), (16, iv (IntKind.i64.wrap ((↑k : Int) + (1 : Int))))]) (Hp.mk [(0, O.rows 5 false [[iv b.1, iv b.2, iv b.3, V.lst 2 (gl b.4), V.lst 1 (nl b.5)]]), (1, O.rows 1 false (List.map (trL ((Keep.mk [1, 2, 6, 14, 15, 16] [(Id.p 0, 0), (Id.p 1, 1)] 2 [] [] [Fk.mk (some 0) 0 1 [4, 3]]).ren (Hp.mk [(1, O.rows 1 false (r.set (0 + m) (V.sl (Id.p 4) 0 1 :: (List.append []) (List.drop 1 row)))), (4, O.rows 1 true [[iv n]]), (3, O.rows 1 true [[iv n]]), (2, O.rows 3 false [[iv n, iv n_1, bv b_1]]), (0, O.rows 5 false [[iv b.1, iv b.2, iv b.3, V.lst 2 (gl b.4), V.lst 1 (nl b.5)]])] 5 [(0, Fam.mk 1 ms)]))) (r.set (0 + m) (V.sl (Id.p 4) 0 1 :: (List.append []) (List.drop 1 row)))))] 2 [(0, Fam.mk 1 (ms ++ [some [[iv n]], some [[iv n]]]))])))) fun j_1 n_6 => onSome (memb ms j_1) fun es => need ((n_6 + 1) * 8 ≤ 140737488355328) (onSome r[0 + m]? fun row => guardB ((0 + 1).ble row.length) (J (St.mk (mkT [(1, V.lst s (swl u)), (2, V.ptr (Id.p 0) 0 0), (6, V.sl (Id.p 1) 0 L), (14, V.lst s (swl u)), (15, iv (↑(swl u).length : Int)), (16, iv (IntKind.i64.wrap ((↑k : Int) + (1 : Int))))]) (Hp.mk [(0, O.rows 5 false [[iv b.1, iv b.2, iv b.3, V.lst 2 (gl b.4), V.lst 1 (nl b.5)]]), (1, O.rows 1 false (List.map (trL ((Keep.mk [1, 2, 6, 14, 15, 16] [(Id.p 0, 0), (Id.p 1, 1)] 2 [] [] [Fk.mk (some 0) 0 1 [4, 3]]).ren (Hp.mk [(1, O.rows 1 false (r.set (0 + m) (V.sl (Id.p 4) 0 (n_6 + 1) :: (List.append []) (List.drop 1 row)))), (4, O.rows 1 true (List.take n_6 es ++ [[iv n]])), (3, O.rows 1 true [[iv n]]), (2, O.rows 3 false [[iv n, iv n_1, bv b_1]]), (0, O.rows 5 false [[iv b.1, iv b.2, iv b.3, V.lst 2 (gl b.4), V.lst 1 (nl b.5)]])] 5 [(0, Fam.mk 1 (ms.set j_1 none))]))) (r.set (0 + m) (V.sl (Id.p 4) 0 (n_6 + 1) :: (List.append []) (List.drop 1 row)))))] 2 [(0, Fam.mk 1 (ms.set j_1 none ++ [some (List.take n_6 es ++ [[iv n]]), some [[iv n]]]))]))))) fun j_1 n_6 => guardB ((Hp.mk [(2, O.rows 3 false [[iv n, iv n_1, bv b_1]]), (0, O.rows 5 false [[iv b.1, iv b.2, iv b.3, V.lst 2 (gl b.4), V.lst 1 (nl b.5)]]), (1, O.rows 1 false r)] 3 [(0, Fam.mk 1 ms)]).has (Id.m 0 j_1)) (ifB ((↑n_6 : Int) == (0 : Int)) (onSome r[0 + m]? fun row_4 => onSome row_4[0]? fun v => onMem 0 v (onSome r[0 + m]? fun row => guardB ((0 + 1).ble row.length) (J (St.mk (mkT [(1, V.lst s (swl u)), (2, V.ptr (Id.p 0) 0 0), (6, V.sl (Id.p 1) 0 L), (14, V.lst s (swl u)), (15, iv (↑(swl u).length : Int)), (16, iv (IntKind.i64.wrap ((↑k : Int) + (1 : Int))))]) (Hp.mk [(0, O.rows 5 false [[iv b.1, iv b.2, iv b.3, V.lst 2 (gl b.4), V.lst 1 (nl b.5)]]), (1, O.rows 1 false (List.map (trL ((Keep.mk [1, 2, 6, 14, 15, 16] [(Id.p 0, 0), (Id.p 1, 1)] 2 [] [] [Fk.mk (some 0) 0 1 [4, 3]]).ren (Hp.mk [(1, O.rows 1 false (r.set (0 + m) (V.sl (Id.p 4) 0 1 :: (List.append []) (List.drop 1 row)))), (4, O.rows 1 true [[iv n]]), (3, O.rows 1 true [[iv n]]), (2, O.rows 3 false [[iv n, iv n_1, bv b_1]]), (0, O.rows 5 false [[iv b.1, iv b.2, iv b.3, V.lst 2 (gl b.4), V.lst 1 (nl b.5)]])] 5 [(0, Fam.mk 1 ms)]))) (r.set (0 + m) (V.sl (Id.p 4) 0 1 :: (List.append []) (List.drop 1 row)))))] 2 [(0, Fam.mk 1 (ms ++ [some [[iv n]], some [[iv n]]]))])))) fun j_2 n_7 => onSome (memb ms j_2) fun es => need ((n_7 + 1) * 8 ≤ 140737488355328) (onSome r[0 + m]? fun row => guardB ((0 + 1).ble row.length) (J (St.mk (mkT [(1, V.lst s (swl u)), (2, V.ptr (Id.p 0) 0 0), (6, V.sl (Id.p 1) 0 L), (14, V.lst s (swl u)), (15, iv (↑(swl u).length : Int)), (16, iv (IntKind.i64.wrap ((↑k : Int) + (1 : Int))))]) (Hp.mk [(0, O.rows 5 false [[iv b.1, iv b.2, iv b.3, V.lst 2 (gl b.4), V.lst 1 (nl b.5)]]), (1, O.rows 1 false (List.map (trL ((Keep.mk [1, 2, 6, 14, 15, 16] [(Id.p 0, 0), (Id.p 1, 1)] 2 [] [] [Fk.mk (some 0) 0 1 [4, 3]]).ren (Hp.mk [(1, O.rows 1 false (r.set (0 + m) (V.sl (Id.p 4) 0 (n_7 + 1) :: (List.append []) (List.drop 1 row)))), (4, O.rows 1 true (List.take n_7 es ++ [[iv n]])), (3, O.rows 1 true [[iv n]]), (2, O.rows 3 false [[iv n, iv n_1, bv b_1]]), (0, O.rows 5 false [[iv b.1, iv b.2, iv b.3, V.lst 2 (gl b.4), V.lst 1 (nl b.5)]])] 5 [(0, Fam.mk 1 (ms.set j_2 none))]))) (r.set (0 + m) (V.sl (Id.p 4) 0 (n_7 + 1) :: (List.append []) (List.drop 1 row)))))] 2 [(0, Fam.mk 1 (ms.set j_2 none ++ [some (List.take n_7 es ++ [[iv n]]), some [[iv n]]]))]))))) (guardB ((Hp.mk [(2, O.rows 3 false [[iv n, iv n_1, bv b_1]]), (0, O.rows 5 false [[iv b.1, iv b.2, iv b.3, V.lst 2 (gl b.4), V.lst 1 (nl b.5)]]), (1, O.rows 1 false r)] 3 [(0, Fam.mk 1 ms)]).has (Id.m 0 j_1)) (onNat (IntKind.i64.wrap ((↑n_6 : Int) - (1 : Int))) fun m_1 => onSome (memb ms j_1) fun es => need (m_1 < n_6) (onSome (memb ms j_1) fun es => onSome es[0 + m_1]? fun row_4 => onSome row_4[0]? fun v => onIntK IntKind.i64 v fun n_7 => ifB (decide (n > n_7)) (ifB (!decide (IntKind.u64.wrap (IntKind.u64.wrap n - IntKind.u64.wrap n_7) ≥ IntKind.u64.wrap b.3)) (R (V.tup [nilS, bv false])) (onSome r[0 + m]? fun row_5 => onSome row_5[0]? fun v => onMem 0 v (onSome r[0 + m]? fun row => guardB ((0 + 1).ble row.length) (J (St.mk (mkT [(1, V.lst s (swl u)), (2, V.ptr (Id.p 0) 0 0), (6, V.sl (Id.p 1) 0 L), (14, V.lst s (swl u)), (15, iv (↑(swl u).length : Int)), (16, iv (IntKind.i64.wrap ((↑k : Int) + (1 : Int))))]) (Hp.mk [(0, O.rows 5 false [[iv b.1, iv b.2, iv b.3, V.lst 2 (gl b.4), V.lst 1 (nl b.5)]]), (1, O.rows 1 false (List.map (trL ((Keep.mk [1, 2, 6, 14, 15, 16] [(Id.p 0, 0), (Id.p 1, 1)] 2 [] [] [Fk.mk (some 0) 0 1 [4, 3]]).ren (Hp.mk [(1, O.rows 1 false (r.set (0 + m) (V.sl (Id.p 4) 0 1 :: (List.append []) (List.drop 1 row)))), (4, O.rows 1 true [[iv n]]), (3, O.rows 1 true [[iv n]]), (2, O.rows 3 false [[iv n, iv n_1, bv b_1]]), (0, O.rows 5 false [[iv b.1, iv b.2, iv b.3, V.lst 2 (gl b.4), V.lst 1 (nl b.5)]])] 5 [(0, Fam.mk 1 ms)]))) (r.set (0 + m) (V.sl (Id.p 4) 0 1 :: (List.append []) (List.drop 1 row)))))] 2 [(0, Fam.mk 1 (ms ++ [some [[iv n]], some [[iv n]]]))])))) fun j_2 n_8 => onSome (memb ms j_2) fun es => need ((n_8 + 1) * 8 ≤ 140737488355328) (onSome r[0 + m]? fun row => guardB ((0 + 1).ble row.length) (J (St.mk (mkT [(1, V.lst s (swl u)), (2, V.ptr (Id.p 0) 0 0), (6, V.sl (Id.p 1) 0 L), (14, V.lst s (swl u)), (15, iv (↑(swl u).length : Int)), (16, iv (IntKind.i64.wrap ((↑k : Int) + (1 : Int))))]) (Hp.mk [(0, O.rows 5 false [[iv b.1, iv b.2, iv b.3, V.lst 2 (gl b.4), V.lst 1 (nl b.5)]]), (1, O.rows 1 false (List.map (trL ((Keep.mk [1, 2, 6, 14, 15, 16] [(Id.p 0, 0), (Id.p 1, 1)] 2 [] [] [Fk.mk (some 0) 0 1 [4, 3]]).ren (Hp.mk [(1, O.rows 1 false (r.set (0 + m) (V.sl (Id.p 4) 0 (n_8 + 1) :: (List.append []) (List.drop 1 row)))), (4, O.rows 1 true (List.take n_8 es ++ [[iv n]])), (3, O.rows 1 true [[iv n]]), (2, O.rows 3 false [[iv n, iv n_1, bv b_1]]), (0, O.rows 5 false [[iv b.1, iv b.2, iv b.3, V.lst 2 (gl b.4), V.lst 1 (nl b.5)]])] 5 [(0, Fam.mk 1 (ms.set j_2 none))]))) (r.set (0 + m) (V.sl (Id.p 4) 0 (n_8 + 1) :: (List.append []) (List.drop 1 row)))))] 2 [(0, Fam.mk 1 (ms.set j_2 none ++ [some (List.take n_8 es ++ [[iv n]]), some [[iv n]]]))])))))) (R (V.tup [nilS, bv false])))))))))))) (onNat n_1 fun m => need (m < L) (onSome r[0 + m]? fun row_1 => onSome row_1[0]? fun v => onMem 0 v (ifB (!b_1 == ((↑(0 : Nat) : Int).tmod (2 : Int) == (0 : Int))) (R (V.tup [nilS, bv false])) (onSome r[0 + m]? fun row_2 => onSome row_2[0]? fun v => onMem 0 v (onSome r[0 + m]? fun row_3 => onSome row_3[0]? fun v => onMem 0 v (onSome r[0 + m]? fun row => guardB ((0 + 1).ble row.length) (J (St.mk (mkT [(1, V.lst s (swl u)), (2, V.ptr (Id.p 0) 0 0), (6, V.sl (Id.p 1) 0 L), (14, V.lst s (swl u)), (15, iv (↑(swl u).length : Int)), (16, iv (IntKind.i64.wrap ((↑k : Int) + (1 : Int))))]) (Hp.mk [(0, O.rows 5 false [[iv b.1, iv b.2, iv b.3, V.lst 2 (gl b.4), V.lst 1 (nl b.5)]]), (1, O.rows 1 false (List.map (trL ((Keep.mk [1, 2, 6, 14, 15, 16] [(Id.p 0, 0), (Id.p 1, 1)] 2 [] [] [Fk.mk (some 0) 0 1 [4, 3]]).ren (Hp.mk [(1, O.rows 1 false (r.set (0 + m) (V.sl (Id.p 4) 0 1 :: (List.append []) (List.drop 1 row)))), (4, O.rows 1 true [[iv n]]), (3, O.rows 1 true [[iv n]]), (2, O.rows 3 false [[iv n, iv n_1, bv b_1]]), (0, O.rows 5 false [[iv b.1, iv b.2, iv b.3, V.lst 2 (gl b.4), V.lst 1 (nl b.5)]])] 5 [(0, Fam.mk 1 ms)]))) (r.set (0 + m) (V.sl (Id.p 4) 0 1 :: (List.append []) (List.drop 1 row)))))] 2 [(0, Fam.mk 1 (ms ++ [some [[iv n]], some [[iv n]]]))])))) fun j n_2 => onSome (memb ms j) fun es => need ((n_2 + 1) * 8 ≤ 140737488355328) (onSome r[0 + m]? fun row => guardB ((0 + 1).ble row.length) (J (St.mk (mkT [(1, V.lst s (swl u)), (2, V.ptr (Id.p 0) 0 0), (6, V.sl (Id.p 1) 0 L), (14, V.lst s (swl u)), (15, iv (↑(swl u).length : Int)), (16, iv (IntKind.i64.wrap ((↑k : Int) + (1 : Int))))]) (Hp.mk [(0, O.rows 5 false [[iv b.1, iv b.2, iv b.3, V.lst 2 (gl b.4), V.lst 1 (nl b.5)]]), (1, O.rows 1 false (List.map (trL ((Keep.mk [1, 2, 6, 14, 15, 16] [(Id.p 0, 0), (Id.p 1, 1)] 2 [] [] [Fk.mk (some 0) 0 1 [4, 3]]).ren (Hp.mk [(1, O.rows 1 false (r.set (0 + m) (V.sl (Id.p 4) 0 (n_2 + 1) :: (List.append []) (List.drop 1 row)))), (4, O.rows 1 true (List.take n_2 es ++ [[iv n]])), (3, O.rows 1 true [[iv n]]), (2, O.rows 3 false [[iv n, iv n_1, bv b_1]]), (0, O.rows 5 false [[iv b.1, iv b.2, iv b.3, V.lst 2 (gl b.4), V.lst 1 (nl b.5)]])] 5 [(0, Fam.mk 1 (ms.set j none))]))) (r.set (0 + m) (V.sl (Id.p 4) 0 (n_2 + 1) :: (List.append []) (List.drop 1 row)))))] 2 [(0, Fam.mk 1 (ms.set j none ++ [some (List.take n_2 es ++ [[iv n]]), some [[iv n]]]))]))))) fun j n_2 => guardB ((Hp.mk [(2, O.rows 3 false [[iv n, iv n_1, bv b_1]]), (0, O.rows 5 false [[iv b.1, iv b.2, iv b.3, V.lst 2 (gl b.4), V.lst 1 (nl b.5)]]), (1, O.rows 1 false r)] 3 [(0, Fam.mk 1 ms)]).has (Id.m 0 j)) (ifB ((↑n_2 : Int) == (0 : Int)) (onSome r[0 + m]? fun row_3 => onSome row_3[0]? fun v => onMem 0 v (onSome r[0 + m]? fun row => guardB ((0 + 1).ble row.length) (J (St.mk (mkT [(1, V.lst s (swl u)), (2, V.ptr (Id.p 0) 0 0), (6, V.sl (Id.p 1) 0 L), (14, V.lst s (swl u)), (15, iv (↑(swl u).length : Int)), (16, iv (IntKind.i64.wrap ((↑k : Int) + (1 : Int))))]) (Hp.mk [(0, O.rows 5 false [[iv b.1, iv b.2, iv b.3, V.lst 2 (gl b.4), V.lst 1 (nl b.5)]]), (1, O.rows 1 false (List.map (trL ((Keep.mk [1, 2, 6, 14, 15, 16] [(Id.p 0, 0), (Id.p 1, 1)] 2 [] [] [Fk.mk (some 0) 0 1 [4, 3]]).ren (Hp.mk [(1, O.rows 1 false (r.set (0 + m) (V.sl (Id.p 4) 0 1 :: (List.append []) (List.drop 1 row)))), (4, O.rows 1 true [[iv n]]), (3, O.rows 1 true [[iv n]]), (2, O.rows 3 false [[iv n, iv n_1, bv b_1]]), (0, O.rows 5 false [[iv b.1, iv b.2, iv b.3, V.lst 2 (gl b.4), V.lst 1 (nl b.5)]])] 5 [(0, Fam.mk 1 ms)]))) (r.set (0 + m) (V.sl (Id.p 4) 0 1 :: (List.append []) (List.drop 1 row)))))] 2 [(0, Fam.mk 1 (ms ++ [some [[iv n]], some [[iv n]]]))])))) fun j_1 n_3 => onSome (memb ms j_1) fun es => need ((n_3 + 1) * 8 ≤ 140737488355328) (onSome r[0 + m]? fun row => guardB ((0 + 1).ble row.length) (J (St.mk (mkT [(1, V.lst s (swl u)), (2, V.ptr (Id.p 0) 0 0), (6, V.sl (Id.p 1) 0 L), (14, V.lst s (swl u)), (15, iv (↑(swl u).length : Int)), (16, iv (IntKind.i64.wrap ((↑k : Int) + (1 : Int))))]) (Hp.mk [(0, O.rows 5 false [[iv b.1, iv b.2, iv b.3, V.lst 2 (gl b.4), V.lst 1 (nl b.5)]]), (1, O.rows 1 false (List.map (trL ((Keep.mk [1, 2, 6, 14, 15, 16] [(Id.p 0, 0), (Id.p 1, 1)] 2 [] [] [Fk.mk (some 0) 0 1 [4, 3]]).ren (Hp.mk [(1, O.rows 1 false (r.set (0 + m) (V.sl (Id.p 4) 0 (n_3 + 1) :: (List.append []) (List.drop 1 row)))), (4, O.rows 1 true (List.take n_3 es ++ [[iv n]])), (3, O.rows 1 true [[iv n]]), (2, O.rows 3 false [[iv n, iv n_1, bv b_1]]), (0, O.rows 5 false [[iv b.1, iv b.2, iv b.3, V.lst 2 (gl b.4), V.lst 1 (nl b.5)]])] 5 [(0, Fam.mk 1 (ms.set j_1 none))]))) (r.set (0 + m) (V.sl (Id.p 4) 0 (n_3 + 1) :: (List.append []) (List.drop 1 row)))))] 2 [(0, Fam.mk 1 (ms.set j_1 none ++ [some (List.take n_3 es ++ [[iv n]]), some [[iv n]]]))]))))) (guardB ((Hp.mk [(2, O.rows 3 false [[iv n, iv n_1, bv b_1]]), (0, O.rows 5 false [[iv b.1, iv b.2, iv b.3, V.lst 2 (gl b.4), V.lst 1 (nl b.5)]]), (1, O.rows 1 false r)] 3 [(0, Fam.mk 1 ms)]).has (Id.m 0 j)) (onNat (IntKind.i64.wrap ((↑n_2 : Int) - (1 : Int))) fun m_1 => onSome (memb ms j) fun es => need (m_1 < n_2) (onSome (memb ms j) fun es => onSome es[0 + m_1]? fun row_3 => onSome row_3[0]? fun v => onIntK IntKind.i64 v fun n_3 => ifB (decide (n > n_3)) (ifB (!decide (IntKind.u64.wrap (IntKind.u64.wrap n - IntKind.u64.wrap n_3) ≥ IntKind.u64.wrap b.3)) (R (V.tup [nilS, bv false])) (onSome r[0 + m]? fun row_4 => onSome row_4[0]? fun v => onMem 0 v (onSome r[0 + m]? fun row => guardB ((0 + 1).ble row.length) (J (St.mk (mkT [(1, V.lst s (swl u)), (2, V.ptr (Id.p 0) 0 0), (6, V.sl (Id.p 1) 0 L), (14, V.lst s (swl u)), (15, iv (↑(swl u).length : Int)), (16, iv (IntKind.i64.wrap ((↑k : Int) + (1 : Int))))]) (Hp.mk [(0, O.rows 5 false [[iv b.1, iv b.2, iv b.3, V.lst 2 (gl b.4), V.lst 1 (nl b.5)]]), (1, O.rows 1 false (List.map (trL ((Keep.mk [1, 2, 6, 14, 15, 16] [(Id.p 0, 0), (Id.p 1, 1)] 2 [] [] [Fk.mk (some 0) 0 1 [4, 3]]).ren (Hp.mk [(1, O.rows 1 false (r.set (0 + m) (V.sl (Id.p 4) 0 1 :: (List.append []) (List.drop 1 row)))), (4, O.rows 1 true [[iv n]]), (3, O.rows 1 true [[iv n]]), (2, O.rows 3 false [[iv n, iv n_1, bv b_1]]), (0, O.rows 5 false [[iv b.1, iv b.2, iv b.3, V.lst 2 (gl b.4), V.lst 1 (nl b.5)]])] 5 [(0, Fam.mk 1 ms)]))) (r.set (0 + m) (V.sl (Id.p 4) 0 1 :: (List.append []) (List.drop 1 row)))))] 2 [(0, Fam.mk 1 (ms ++ [some [[iv n]], some [[iv n]]]))])))) fun j_1 n_4 => onSome (memb ms j_1) fun es => need ((n_4 + 1) * 8 ≤ 140737488355328) (onSome r[0 + m]? fun row => guardB ((0 + 1).ble row.length) (J (St.mk (mkT [(1, V.lst s (swl u)), (2, V.ptr (Id.p 0) 0 0), (6, V.sl (Id.p 1) 0 L), (14, V.lst s (swl u)), (15, iv (↑(swl u).length : Int)), (16, iv (IntKind.i64.wrap ((↑k : Int) + (1 : Int))))]) (Hp.mk [(0, O.rows 5 false [[iv b.1, iv b.2, iv b.3, V.lst 2 (gl b.4), V.lst 1 (nl b.5)]]), (1, O.rows 1 false (List.map (trL ((Keep.mk [1, 2, 6, 14, 15, 16] [(Id.p 0, 0), (Id.p 1, 1)] 2 [] [] [Fk.mk (some 0) 0 1 [4, 3]]).ren (Hp.mk [(1, O.rows 1 false (r.set (0 + m) (V.sl (Id.p 4) 0 (n_4 + 1) :: (List.append []) (List.drop 1 row)))), (4, O.rows 1 true (List.take n_4 es ++ [[iv n]])), (3, O.rows 1 true [[iv n]]), (2, O.rows 3 false [[iv n, iv n_1, bv b_1]]), (0, O.rows 5 false [[iv b.1, iv b.2, iv b.3, V.lst 2 (gl b.4), V.lst 1 (nl b.5)]])] 5 [(0, Fam.mk 1 (ms.set j_1 none))]))) (r.set (0 + m) (V.sl (Id.p 4) 0 (n_4 + 1) :: (List.append []) (List.drop 1 row)))))] 2 [(0, Fam.mk 1 (ms.set j_1 none ++ [some (List.take n_4 es ++ [[iv n]]), some [[iv n]]]))])))))) (R (V.tup [nilS, bv false])))))))) fun j n_2 => guardB ((Hp.mk [(2, O.rows 3 false [[iv n, iv n_1, bv b_1]]), (0, O.rows 5 false [[iv b.1, iv b.2, iv b.3, V.lst 2 (gl b.4), V.lst 1 (nl b.5)]]), (1, O.rows 1 false r)] 3 [(0, Fam.mk 1 ms)]).has (Id.m 0 j)) (ifB (!b_1 == ((↑n_2 : Int).tmod (2 : Int) == (0 : Int))) (R (V.tup [nilS, bv false])) (onSome r[0 + m]? fun row_2 => onSome row_2[0]? fun v => onMem 0 v (onSome r[0 + m]? fun row_3 => onSome row_3[0]? fun v => onMem 0 v (onSome r[0 + m]? fun row => guardB ((0 + 1).ble row.length) (J (St.mk (mkT [(1, V.lst s (swl u)), (2, V.ptr (Id.p 0) 0 0), (6, V.sl (Id.p 1) 0 L), (14, V.lst s (swl u)), (15, iv (↑(swl u).length : Int)), (16, iv (IntKind.i64.wrap ((↑k : Int) + (1 : Int))))]) (Hp.mk [(0, O.rows 5 false [[iv b.1, iv b.2, iv b.3, V.lst 2 (gl b.4), V.lst 1 (nl b.5)]]), (1, O.rows 1 false (List.map (trL ((Keep.mk [1, 2, 6, 14, 15, 16] [(Id.p 0, 0), (Id.p 1, 1)] 2 [] [] [Fk.mk (some 0) 0 1 [4, 3]]).ren (Hp.mk [(1, O.rows 1 false (r.set (0 + m) (V.sl (Id.p 4) 0 1 :: (List.append []) (List.drop 1 row)))), (4, O.rows 1 true [[iv n]]), (3, O.rows 1 true [[iv n]]), (2, O.rows 3 false [[iv n, iv n_1, bv b_1]]), (0, O.rows 5 false [[iv b.1, iv b.2, iv b.3, V.lst 2 (gl b.4), V.lst 1 (nl b.5)]])] 5 [(0, Fam.mk 1 ms)]))) (r.set (0 + m) (V.sl (Id.p 4) 0 1 :: (List.append []) (List.drop 1 row)))))] 2 [(0, Fam.mk 1 (ms ++ [some [[iv n]], some [[iv n]]]))])))) fun j_1 n_3 => onSome (memb ms j_1) fun es => need ((n_3 + 1) * 8 ≤ 140737488355328) (onSome r[0 + m]? fun row => guardB ((0 + 1).ble row.length) (J (St.mk (mkT [(1, V.lst s (swl u)), (2, V.ptr (Id.p 0) 0 0), (6, V.sl (Id.p 1) 0 L), (14, V.lst s (swl u)), (15, iv (↑(swl u).length : Int)), (16, iv (IntKind.i64.wrap ((↑k : Int) + (1 : Int))))]) (Hp.mk [(0, O.rows 5 false [[iv b.1, iv b.2, iv b.3, V.lst 2 (gl b.4), V.lst 1 (nl b.5)]]), (1, O.rows 1 false (List.map (trL ((Keep.mk [1, 2, 6, 14, 15, 16] [(Id.p 0, 0), (Id.p 1, 1)] 2 [] [] [Fk.mk (some 0) 0 1 [4, 3]]).ren (Hp.mk [(1, O.rows 1 false (r.set (0 + m) (V.sl (Id.p 4) 0 (n_3 + 1) :: (List.append []) (List.drop 1 row)))), (4, O.rows 1 true (List.take n_3 es ++ [[iv n]])), (3, O.rows 1 true [[iv n]]), (2, O.rows 3 false [[iv n, iv n_1, bv b_1]]), (0, O.rows 5 false [[iv b.1, iv b.2, iv b.3, V.lst 2 (gl b.4), V.lst 1 (nl b.5)]])] 5 [(0, Fam.mk 1 (ms.set j_1 none))]))) (r.set (0 + m) (V.sl (Id.p 4) 0 (n_3 + 1) :: (List.append []) (List.drop 1 row)))))] 2 [(0, Fam.mk 1 (ms.set j_1 none ++ [some (List.take n_3 es ++ [[iv n]]), some [[iv n]]]))]))))) fun j_1 n_3 => guardB ((Hp.mk [(2, O.rows 3 false [[iv n, iv n_1, bv b_1]]), (0, O.rows 5 false [[iv b.1, iv b.2, iv b.3, V.lst 2 (gl b.4), V.lst 1 (nl b.5)]]), (1, O.rows 1 false r)] 3 [(0, Fam.mk 1 ms)]).has (Id.m 0 j_1)) (ifB ((↑n_3 : Int) == (0 : Int)) (onSome r[0 + m]? fun row_3 => onSome row_3[0]? fun v => onMem 0 v (onSome r[0 + m]? fun row => guardB ((0 + 1).ble row.length) (J (St.mk (mkT [(1, V.lst s (swl u)), (2, V.ptr (Id.p 0) 0 0), (6, V.sl (Id.p 1) 0 L), (14, V.lst s (swl u)), (15, iv (↑(swl u).length : Int)), (16, iv (IntKind.i64.wrap ((↑k : Int) + (1 : Int))))]) (Hp.mk [(0, O.rows 5 false [[iv b.1, iv b.2, iv b.3, V.lst 2 (gl b.4), V.lst 1 (nl b.5)]]), (1, O.rows 1 false (List.map (trL ((Keep.mk [1, 2, 6, 14, 15, 16] [(Id.p 0, 0), (Id.p 1, 1)] 2 [] [] [Fk.mk (some 0) 0 1 [4, 3]]).ren (Hp.mk [(1, O.rows 1 false (r.set (0 + m) (V.sl (Id.p 4) 0 1 :: (List.append []) (List.drop 1 row)))), (4, O.rows 1 true [[iv n]]), (3, O.rows 1 true [[iv n]]), (2, O.rows 3 false [[iv n, iv n_1, bv b_1]]), (0, O.rows 5 false [[iv b.1, iv b.2, iv b.3, V.lst 2 (gl b.4), V.lst 1 (nl b.5)]])] 5 [(0, Fam.mk 1 ms)]))) (r.set (0 + m) (V.sl (Id.p 4) 0 1 :: (List.append []) (List.drop 1 row)))))] 2 [(0, Fam.mk 1 (ms ++ [some [[iv n]], some [[iv n]]]))])))) fun j_2 n_4 => onSome (memb ms j_2) fun es => need ((n_4 + 1) * 8 ≤ 140737488355328) (onSome r[0 + m]? fun row => guardB ((0 + 1).ble row.length) (J (St.mk (mkT [(1, V.lst s (swl u)), (2, V.ptr (Id.p 0) 0 0), (6, V.sl (Id.p 1) 0 L), (14, V.lst s (swl u)), (15, iv (↑(swl u).length : Int)), (16, iv (IntKind.i64.wrap ((↑k : Int) + (1 : Int))))]) (Hp.mk [(0, O.rows 5 false [[iv b.1, iv b.2, iv b.3, V.lst 2 (gl b.4), V.lst 1 (nl b.5)]]), (1, O.rows 1 false (List.map (trL ((Keep.mk [1, 2, 6, 14, 15, 16] [(Id.p 0, 0), (Id.p 1, 1)] 2 [] [] [Fk.mk (some 0) 0 1 [4, 3]]).ren (Hp.mk [(1, O.rows 1 false (r.set (0 + m) (V.sl (Id.p 4) 0 (n_4 + 1) :: (List.append []) (List.drop 1 row)))), (4, O.rows 1 true (List.take n_4 es ++ [[iv n]])), (3, O.rows 1 true [[iv n]]), (2, O.rows 3 false [[iv n, iv n_1, bv b_1]]), (0, O.rows 5 false [[iv b.1, iv b.2, iv b.3, V.lst 2 (gl b.4), V.lst 1 (nl b.5)]])] 5 [(0, Fam.mk 1 (ms.set j_2 none))]))) (r.set (0 + m) (V.sl (Id.p 4) 0 (n_4 + 1) :: (List.append []) (List.drop 1 row)))))] 2 [(0, Fam.mk 1 (ms.set j_2 none ++ [some (List.take n_4 es ++ [[iv n]]), some [[iv n]]]))]))))) (guardB ((Hp.mk [(2, O.rows 3 false [[iv n, iv n_1, bv b_1]]), (0, O.rows 5 false [[iv b.1, iv b.2, iv b.3, V.lst 2 (gl b.4), V.lst 1 (nl b.5)]]), (1, O.rows 1 false r)] 3 [(0, Fam.mk 1 ms)]).has (Id.m 0 j_1)) (onNat (IntKind.i64.wrap ((↑n_3 : Int) - (1 : Int))) fun m_1 => onSome (memb ms j_1) fun es => need (m_1 < n_3) (onSome (memb ms j_1) fun es => onSome es[0 + m_1]? fun row_3 => onSome row_3[0]? fun v => onIntK IntKind.i64 v fun n_4 => ifB (decide (n > n_4)) (ifB (!decide (IntKind.u64.wrap (IntKind.u64.wrap n - IntKind.u64.wrap n_4) ≥ IntKind.u64.wrap b.3)) (R (V.tup [nilS, bv false])) (onSome r[0 + m]? fun row_4 => onSome row_4[0]? fun v => onMem 0 v (onSome r[0 + m]? fun row => guardB ((0 + 1).ble row.length) (J (St.mk (mkT [(1, V.lst s (swl u)), (2, V.ptr (Id.p 0) 0 0), (6, V.sl (Id.p 1) 0 L), (14, V.lst s (swl u)), (15, iv (↑(swl u).length : Int)), (16, iv (IntKind.i64.wrap ((↑k : Int) + (1 : Int))))]) (Hp.mk [(0, O.rows 5 false [[iv b.1, iv b.2, iv b.3, V.lst 2 (gl b.4), V.lst 1 (nl b.5)]]), (1, O.rows 1 false (List.map (trL ((Keep.mk [1, 2, 6, 14, 15, 16] [(Id.p 0, 0), (Id.p 1, 1)] 2 [] [] [Fk.mk (some 0) 0 1 [4, 3]]).ren (Hp.mk [(1, O.rows 1 false (r.set (0 + m) (V.sl (Id.p 4) 0 1 :: (List.append []) (List.drop 1 row)))), (4, O.rows 1 true [[iv n]]), (3, O.rows 1 true [[iv n]]), (2, O.rows 3 false [[iv n, iv n_1, bv b_1]]), (0, O.rows 5 false [[iv b.1, iv b.2, iv b.3, V.lst 2 (gl b.4), V.lst 1 (nl b.5)]])] 5 [(0, Fam.mk 1 ms)]))) (r.set (0 + m) (V.sl (Id.p 4) 0 1 :: (List.append []) (List.drop 1 row)))))] 2 [(0, Fam.mk 1 (ms ++ [some [[iv n]], some [[iv n]]]))])))) fun j_2 n_5 => onSome (memb ms j_2) fun es => need ((n_5 + 1) * 8 ≤ 140737488355328) (onSome r[0 + m]? fun row => guardB ((0 + 1).ble row.length) (J (St.mk (mkT [(1, V.lst s (swl u)), (2, V.ptr (Id.p 0) 0 0), (6, V.sl (Id.p 1) 0 L), (14, V.lst s (swl u)), (15, iv (↑(swl u).length : Int)), (16, iv (IntKind.i64.wrap ((↑k : Int) + (1 : Int))))]) (Hp.mk [(0, O.rows 5 false [[iv b.1, iv b.2, iv b.3, V.lst 2 (gl b.4), V.lst 1 (nl b.5)]]), (1, O.rows 1 false (List.map (trL ((Keep.mk [1, 2, 6, 14, 15, 16] [(Id.p 0, 0), (Id.p 1, 1)] 2 [] [] [Fk.mk (some 0) 0 1 [4, 3]]).ren (Hp.mk [(1, O.rows 1 false (r.set (0 + m) (V.sl (Id.p 4) 0 (n_5 + 1) :: (List.append []) (List.drop 1 row)))), (4, O.rows 1 true (List.take n_5 es ++ [[iv n]])), (3, O.rows 1 true [[iv n]]), (2, O.rows 3 false [[iv n, iv n_1, bv b_1]]), (0, O.rows 5 false [[iv b.1, iv b.2, iv b.3, V.lst 2 (gl b.4), V.lst 1 (nl b.5)]])] 5 [(0, Fam.mk 1 (ms.set j_2 none))]))) (r.set (0 + m) (V.sl (Id.p 4) 0 (n_5 + 1) :: (List.append []) (List.drop 1 row)))))] 2 [(0, Fam.mk 1 (ms.set j_2 none ++ [some (List.take n_5 es ++ [[iv n]]), some [[iv n]]]))])))))) (R (V.tup [nilS, bv false])))))))))))) (R (V.tup [nilS, bv false])))) (R (V.tup [V.lst 1 (sub (List.map (trL (frzDT (fun x => true) (Hp.mk [(0, O.rows 5 false [[iv b.1, iv b.2, iv b.3, V.lst 2 (gl b.4), V.lst 1 (nl b.5)]]), (1, O.rows 1 false r)] 2 [(0, Fam.mk 1 ms)]) 5)) r) 0 L), bv true]))) (by kernel_rfl) ?_
  refine ifB_mk (fun c => ?_) (fun c => ?_)
  rotate_left
  · rw [swl_length] at c
    have hk : k = u.length := by have := of_decide_eq_false c; have := inv.kl; omega
    subst hk
    have hsw : SwP b u := fun i x hx => inv.ok i x (List.getElem?_eq_some_iff.1 hx).1 hx
    rw [mvV, if_pos (dc_t hsw)] at h
    have hlen := inv.len
    subst hlen
    rw [tabR (ms := ms) (T := tabF b u) (by rw [tabF_length]; exact hLg) (fun g hg => ?_) ?_]
    · exact h
    · intro j es hj
      show (match memb ms j with | some es => Tr.frz 1 es | none => Tr.drop) = _
      rw [hj]
    · rw [tabF_get (by omega)]
      have := inv.cell g hg
      rw [List.take_length] at this
      exact this
  rw [swl_length] at c
  have hlt : k < u.length := by have := of_decide_eq_true c; omega
  have s3 : s = 3 := hs.resolve_left (fun e => by rw [e] at hlt; simp at hlt)
  obtain ⟨x, hx⟩ := getI hlt
  obtain ⟨n, n_1, b_1⟩ := x
  have bad : ¬ okI b (u.take k) (n, n_1, b_1) → R (.tup [nilS, bv false]) := fun hp => hbad (fun hq => hp (hq k _ hx))
  have hLw : IntKind.i64.wrap ((L : Int) - 1) = (L : Int) - 1 := wr (by omega) (by omega)
  have hk1 : IntKind.i64.wrap ((k : Int) - 1) = (k : Int) - 1 := wr (by omega) (by omega)
  rw [hLw, hk1]
  refine need_mk ⟨s3, swel hx (ifB_mk (fun d0 => ?_) (fun d0 => bad (fun hp => absurd hp.1.1 (show ¬ (0 : Int) ≤ n_1 from of_decide_eq_false d0))))⟩
  have d0 : 0 ≤ n_1 := of_decide_eq_true d0
  refine ifB_mk (fun d1 => bad (fun hp => by have h2 : n_1 ≤ (b.gs.length : Int) - 1 := hp.1.2; simp at d1; omega)) (fun d1 => ?_)
  have d1 : n_1 ≤ (L : Int) - 1 := by simpa using d1
  have la : (∀ y, (u.take k).getLast? = some y → ¬ gtS y (n, n_1, b_1)) → (onNat n_1 fun m => need (m < L) (onSome r[0 + m]? fun row_2 => onSome row_2[0]? fun v => onMem 0 v (ifB (!b_1 == ((↑(0 : Nat) : Int).tmod (2 : Int) == (0 : Int))) (R (V.tup [nilS, bv false])) (onSome r[0 + m]? fun row_3 => onSome row_3[0]? fun v => onMem 0 v (onSome r[0 + m]? fun row_4 => onSome row_4[0]? fun v => onMem 0 v (onSome r[0 + m]? fun row => guardB ((0 + 1).ble row.length) (J (St.mk (mkT [(1, V.lst s (swl u)), (2, V.ptr (Id.p 0) 0 0), (6, V.sl (Id.p 1) 0 L), (14, V.lst s (swl u)), (15, iv (↑(swl u).length : Int)), (16, iv (IntKind.i64.wrap ((↑k : Int) + (1 : Int))))]) (Hp.mk [(0, O.rows 5 false [[iv b.1, iv b.2, iv b.3, V.lst 2 (gl b.4), V.lst 1 (nl b.5)]]), (1, O.rows 1 false (List.map (trL ((Keep.mk [1, 2, 6, 14, 15, 16] [(Id.p 0, 0), (Id.p 1, 1)] 2 [] [] [Fk.mk (some 0) 0 1 [4, 3]]).ren (Hp.mk [(1, O.rows 1 false (r.set (0 + m) (V.sl (Id.p 4) 0 1 :: (List.append []) (List.drop 1 row)))), (4, O.rows 1 true [[iv n]]), (3, O.rows 1 true [[iv n]]), (2, O.rows 3 false [[iv n, iv n_1, bv b_1]]), (0, O.rows 5 false [[iv b.1, iv b.2, iv b.3, V.lst 2 (gl b.4), V.lst 1 (nl b.5)]])] 5 [(0, Fam.mk 1 ms)]))) (r.set (0 + m) (V.sl (Id.p 4) 0 1 :: (List.append []) (List.drop 1 row)))))] 2 [(0, Fam.mk 1 (ms ++ [some [[iv n]], some [[iv n]]]))])))) fun j n_5 => onSome (memb ms j) fun es => need ((n_5 + 1) * 8 ≤ 140737488355328) (onSome r[0 + m]? fun row => guardB ((0 + 1).ble row.length) (J (St.mk (mkT [(1, V.lst s (swl u)), (2, V.ptr (Id.p 0) 0 0), (6, V.sl (Id.p 1) 0 L), (14, V.lst s (swl u)), (15, iv (↑(swl u).length : Int)), (16, iv (IntKind.i64.wrap ((↑k : Int) + (1 : Int))))]) (Hp.mk [(0, O.rows 5 false [[iv b.1, iv b.2, iv b.3, V.lst 2 (gl b.4), V.lst 1 (nl b.5)]]), (1, O.rows 1 false (List.map (trL ((Keep.mk [1, 2, 6, 14, 15, 16] [(Id.p 0, 0), (Id.p 1, 1)] 2 [] [] [Fk.mk (some 0) 0 1 [4, 3]]).ren (Hp.mk [(1, O.rows 1 false (r.set (0 + m) (V.sl (Id.p 4) 0 (n_5 + 1) :: (List.append []) (List.drop 1 row)))), (4, O.rows 1 true (List.take n_5 es ++ [[iv n]])), (3, O.rows 1 true [[iv n]]), (2, O.rows 3 false [[iv n, iv n_1, bv b_1]]), (0, O.rows 5 false [[iv b.1, iv b.2, iv b.3, V.lst 2 (gl b.4), V.lst 1 (nl b.5)]])] 5 [(0, Fam.mk 1 (ms.set j none))]))) (r.set (0 + m) (V.sl (Id.p 4) 0 (n_5 + 1) :: (List.append []) (List.drop 1 row)))))] 2 [(0, Fam.mk 1 (ms.set j none ++ [some (List.take n_5 es ++ [[iv n]]), some [[iv n]]]))]))))) fun j n_5 => guardB ((Hp.mk [(2, O.rows 3 false [[iv n, iv n_1, bv b_1]]), (0, O.rows 5 false [[iv b.1, iv b.2, iv b.3, V.lst 2 (gl b.4), V.lst 1 (nl b.5)]]), (1, O.rows 1 false r)] 3 [(0, Fam.mk 1 ms)]).has (Id.m 0 j)) (ifB ((↑n_5 : Int) == (0 : Int)) (onSome r[0 + m]? fun row_4 => onSome row_4[0]? fun v => onMem 0 v (onSome r[0 + m]? fun row => guardB ((0 + 1).ble row.length) (J (St.mk (mkT [(1, V.lst s (swl u)), (2, V.ptr (Id.p 0) 0 0), (6, V.sl (Id.p 1) 0 L), (14, V.lst s (swl u)), (15, iv (↑(swl u).length : Int)), (16, iv (IntKind.i64.wrap ((↑k : Int) + (1 : Int))))]) (Hp.mk [(0, O.rows 5 false [[iv b.1, iv b.2, iv b.3, V.lst 2 (gl b.4), V.lst 1 (nl b.5)]]), (1, O.rows 1 false (List.map (trL ((Keep.mk [1, 2, 6, 14, 15, 16] [(Id.p 0, 0), (Id.p 1, 1)] 2 [] [] [Fk.mk (some 0) 0 1 [4, 3]]).ren (Hp.mk [(1, O.rows 1 false (r.set (0 + m) (V.sl (Id.p 4) 0 1 :: (List.append []) (List.drop 1 row)))), (4, O.rows 1 true [[iv n]]), (3, O.rows 1 true [[iv n]]), (2, O.rows 3 false [[iv n, iv n_1, bv b_1]]), (0, O.rows 5 false [[iv b.1, iv b.2, iv b.3, V.lst 2 (gl b.4), V.lst 1 (nl b.5)]])] 5 [(0, Fam.mk 1 ms)]))) (r.set (0 + m) (V.sl (Id.p 4) 0 1 :: (List.append []) (List.drop 1 row)))))] 2 [(0, Fam.mk 1 (ms ++ [some [[iv n]], some [[iv n]]]))])))) fun j_1 n_6 => onSome (memb ms j_1) fun es => need ((n_6 + 1) * 8 ≤ 140737488355328) (onSome r[0 + m]? fun row => guardB ((0 + 1).ble row.length) (J (St.mk (mkT [(1, V.lst s (swl u)), (2, V.ptr (Id.p 0) 0 0), (6, V.sl (Id.p 1) 0 L), (14, V.lst s (swl u)), (15, iv (↑(swl u).length : Int)), (16, iv (IntKind.i64.wrap ((↑k : Int) + (1 : Int))))]) (Hp.mk [(0, O.rows 5 false [[iv b.1, iv b.2, iv b.3, V.lst 2 (gl b.4), V.lst 1 (nl b.5)]]), (1, O.rows 1 false (List.map (trL ((Keep.mk [1, 2, 6, 14, 15, 16] [(Id.p 0, 0), (Id.p 1, 1)] 2 [] [] [Fk.mk (some 0) 0 1 [4, 3]]).ren (Hp.mk [(1, O.rows 1 false (r.set (0 + m) (V.sl (Id.p 4) 0 (n_6 + 1) :: (List.append []) (List.drop 1 row)))), (4, O.rows 1 true (List.take n_6 es ++ [[iv n]])), (3, O.rows 1 true [[iv n]]), (2, O.rows 3 false [[iv n, iv n_1, bv b_1]]), (0, O.rows 5 false [[iv b.1, iv b.2, iv b.3, V.lst 2 (gl b.4), V.lst 1 (nl b.5)]])] 5 [(0, Fam.mk 1 (ms.set j_1 none))]))) (r.set (0 + m) (V.sl (Id.p 4) 0 (n_6 + 1) :: (List.append []) (List.drop 1 row)))))] 2 [(0, Fam.mk 1 (ms.set j_1 none ++ [some (List.take n_6 es ++ [[iv n]]), some [[iv n]]]))]))))) (guardB ((Hp.mk [(2, O.rows 3 false [[iv n, iv n_1, bv b_1]]), (0, O.rows 5 false [[iv b.1, iv b.2, iv b.3, V.lst 2 (gl b.4), V.lst 1 (nl b.5)]]), (1, O.rows 1 false r)] 3 [(0, Fam.mk 1 ms)]).has (Id.m 0 j)) (onNat (IntKind.i64.wrap ((↑n_5 : Int) - (1 : Int))) fun m_1 => onSome (memb ms j) fun es => need (m_1 < n_5) (onSome (memb ms j) fun es => onSome es[0 + m_1]? fun row_4 => onSome row_4[0]? fun v => onIntK IntKind.i64 v fun n_6 => ifB (decide (n > n_6)) (ifB (!decide (IntKind.u64.wrap (IntKind.u64.wrap n - IntKind.u64.wrap n_6) ≥ IntKind.u64.wrap b.3)) (R (V.tup [nilS, bv false])) (onSome r[0 + m]? fun row_5 => onSome row_5[0]? fun v => onMem 0 v (onSome r[0 + m]? fun row => guardB ((0 + 1).ble row.length) (J (St.mk (mkT [(1, V.lst s (swl u)), (2, V.ptr (Id.p 0) 0 0), (6, V.sl (Id.p 1) 0 L), (14, V.lst s (swl u)), (15, iv (↑(swl u).length : Int)), (16, iv (IntKind.i64.wrap ((↑k : Int) + (1 : Int))))]) (Hp.mk [(0, O.rows 5 false [[iv b.1, iv b.2, iv b.3, V.lst 2 (gl b.4), V.lst 1 (nl b.5)]]), (1, O.rows 1 false (List.map (trL ((Keep.mk [1, 2, 6, 14, 15, 16] [(Id.p 0, 0), (Id.p 1, 1)] 2 [] [] [Fk.mk (some 0) 0 1 [4, 3]]).ren (Hp.mk [(1, O.rows 1 false (r.set (0 + m) (V.sl (Id.p 4) 0 1 :: (List.append []) (List.drop 1 row)))), (4, O.rows 1 true [[iv n]]), (3, O.rows 1 true [[iv n]]), (2, O.rows 3 false [[iv n, iv n_1, bv b_1]]), (0, O.rows 5 false [[iv b.1, iv b.2, iv b.3, V.lst 2 (gl b.4), V.lst 1 (nl b.5)]])] 5 [(0, Fam.mk 1 ms)]))) (r.set (0 + m) (V.sl (Id.p 4) 0 1 :: (List.append []) (List.drop 1 row)))))] 2 [(0, Fam.mk 1 (ms ++ [some [[iv n]], some [[iv n]]]))])))) fun j_1 n_7 => onSome (memb ms j_1) fun es => need ((n_7 + 1) * 8 ≤ 140737488355328) (onSome r[0 + m]? fun row => guardB ((0 + 1).ble row.length) (J (St.mk (mkT [(1, V.lst s (swl u)), (2, V.ptr (Id.p 0) 0 0), (6, V.sl (Id.p 1) 0 L), (14, V.lst s (swl u)), (15, iv (↑(swl u).length : Int)), (16, iv (IntKind.i64.wrap ((↑k : Int) + (1 : Int))))]) (Hp.mk [(0, O.rows 5 false [[iv b.1, iv b.2, iv b.3, V.lst 2 (gl b.4), V.lst 1 (nl b.5)]]), (1, O.rows 1 false (List.map (trL ((Keep.mk [1, 2, 6, 14, 15, 16] [(Id.p 0, 0), (Id.p 1, 1)] 2 [] [] [Fk.mk (some 0) 0 1 [4, 3]]).ren (Hp.mk [(1, O.rows 1 false (r.set (0 + m) (V.sl (Id.p 4) 0 (n_7 + 1) :: (List.append []) (List.drop 1 row)))), (4, O.rows 1 true (List.take n_7 es ++ [[iv n]])), (3, O.rows 1 true [[iv n]]), (2, O.rows 3 false [[iv n, iv n_1, bv b_1]]), (0, O.rows 5 false [[iv b.1, iv b.2, iv b.3, V.lst 2 (gl b.4), V.lst 1 (nl b.5)]])] 5 [(0, Fam.mk 1 (ms.set j_1 none))]))) (r.set (0 + m) (V.sl (Id.p 4) 0 (n_7 + 1) :: (List.append []) (List.drop 1 row)))))] 2 [(0, Fam.mk 1 (ms.set j_1 none ++ [some (List.take n_7 es ++ [[iv n]]), some [[iv n]]]))])))))) (R (V.tup [nilS, bv false])))))))) fun j n_5 => guardB ((Hp.mk [(2, O.rows 3 false [[iv n, iv n_1, bv b_1]]), (0, O.rows 5 false [[iv b.1, iv b.2, iv b.3, V.lst 2 (gl b.4), V.lst 1 (nl b.5)]]), (1, O.rows 1 false r)] 3 [(0, Fam.mk 1 ms)]).has (Id.m 0 j)) (ifB (!b_1 == ((↑n_5 : Int).tmod (2 : Int) == (0 : Int))) (R (V.tup [nilS, bv false])) (onSome r[0 + m]? fun row_3 => onSome row_3[0]? fun v => onMem 0 v (onSome r[0 + m]? fun row_4 => onSome row_4[0]? fun v => onMem 0 v (onSome r[0 + m]? fun row => guardB ((0 + 1).ble row.length) (J (St.mk (mkT [(1, V.lst s (swl u)), (2, V.ptr (Id.p 0) 0 0), (6, V.sl (Id.p 1) 0 L), (14, V.lst s (swl u)), (15, iv (↑(swl u).length : Int)), (16, iv (IntKind.i64.wrap ((↑k : Int) + (1 : Int))))]) (Hp.mk [(0, O.rows 5 false [[iv b.1, iv b.2, iv b.3, V.lst 2 (gl b.4), V.lst 1 (nl b.5)]]), (1, O.rows 1 false (List.map (trL ((Keep.mk [1, 2, 6, 14, 15, 16] [(Id.p 0, 0), (Id.p 1, 1)] 2 [] [] [Fk.mk (some 0) 0 1 [4, 3]]).ren (Hp.mk [(1, O.rows 1 false (r.set (0 + m) (V.sl (Id.p 4) 0 1 :: (List.append []) (List.drop 1 row)))), (4, O.rows 1 true [[iv n]]), (3, O.rows 1 true [[iv n]]), (2, O.rows 3 false [[iv n, iv n_1, bv b_1]]), (0, O.rows 5 false [[iv b.1, iv b.2, iv b.3, V.lst 2 (gl b.4), V.lst 1 (nl b.5)]])] 5 [(0, Fam.mk 1 ms)]))) (r.set (0 + m) (V.sl (Id.p 4) 0 1 :: (List.append []) (List.drop 1 row)))))] 2 [(0, Fam.mk 1 (ms ++ [some [[iv n]], some [[iv n]]]))])))) fun j_1 n_6 => onSome (memb ms j_1) fun es => need ((n_6 + 1) * 8 ≤ 140737488355328) (onSome r[0 + m]? fun row => guardB ((0 + 1).ble row.length) (J (St.mk (mkT [(1, V.lst s (swl u)), (2, V.ptr (Id.p 0) 0 0), (6, V.sl (Id.p 1) 0 L), (14, V.lst s (swl u)), (15, iv (↑(swl u).length : Int)), (16, iv (IntKind.i64.wrap ((↑k : Int) + (1 : Int))))]) (Hp.mk [(0, O.rows 5 false [[iv b.1, iv b.2, iv b.3, V.lst 2 (gl b.4), V.lst 1 (nl b.5)]]), (1, O.rows 1 false (List.map (trL ((Keep.mk [1, 2, 6, 14, 15, 16] [(Id.p 0, 0), (Id.p 1, 1)] 2 [] [] [Fk.mk (some 0) 0 1 [4, 3]]).ren (Hp.mk [(1, O.rows 1 false (r.set (0 + m) (V.sl (Id.p 4) 0 (n_6 + 1) :: (List.append []) (List.drop 1 row)))), (4, O.rows 1 true (List.take n_6 es ++ [[iv n]])), (3, O.rows 1 true [[iv n]]), (2, O.rows 3 false [[iv n, iv n_1, bv b_1]]), (0, O.rows 5 false [[iv b.1, iv b.2, iv b.3, V.lst 2 (gl b.4), V.lst 1 (nl b.5)]])] 5 [(0, Fam.mk 1 (ms.set j_1 none))]))) (r.set (0 + m) (V.sl (Id.p 4) 0 (n_6 + 1) :: (List.append []) (List.drop 1 row)))))] 2 [(0, Fam.mk 1 (ms.set j_1 none ++ [some (List.take n_6 es ++ [[iv n]]), some [[iv n]]]))]))))) fun j_1 n_6 => guardB ((Hp.mk [(2, O.rows 3 false [[iv n, iv n_1, bv b_1]]), (0, O.rows 5 false [[iv b.1, iv b.2, iv b.3, V.lst 2 (gl b.4), V.lst 1 (nl b.5)]]), (1, O.rows 1 false r)] 3 [(0, Fam.mk 1 ms)]).has (Id.m 0 j_1)) (ifB ((↑n_6 : Int) == (0 : Int)) (onSome r[0 + m]? fun row_4 => onSome row_4[0]? fun v => onMem 0 v (onSome r[0 + m]? fun row => guardB ((0 + 1).ble row.length) (J (St.mk (mkT [(1, V.lst s (swl u)), (2, V.ptr (Id.p 0) 0 0), (6, V.sl (Id.p 1) 0 L), (14, V.lst s (swl u)), (15, iv (↑(swl u).length : Int)), (16, iv (IntKind.i64.wrap ((↑k : Int) + (1 : Int))))]) (Hp.mk [(0, O.rows 5 false [[iv b.1, iv b.2, iv b.3, V.lst 2 (gl b.4), V.lst 1 (nl b.5)]]), (1, O.rows 1 false (List.map (trL ((Keep.mk [1, 2, 6, 14, 15, 16] [(Id.p 0, 0), (Id.p 1, 1)] 2 [] [] [Fk.mk (some 0) 0 1 [4, 3]]).ren (Hp.mk [(1, O.rows 1 false (r.set (0 + m) (V.sl (Id.p 4) 0 1 :: (List.append []) (List.drop 1 row)))), (4, O.rows 1 true [[iv n]]), (3, O.rows 1 true [[iv n]]), (2, O.rows 3 false [[iv n, iv n_1, bv b_1]]), (0, O.rows 5 false [[iv b.1, iv b.2, iv b.3, V.lst 2 (gl b.4), V.lst 1 (nl b.5)]])] 5 [(0, Fam.mk 1 ms)]))) (r.set (0 + m) (V.sl (Id.p 4) 0 1 :: (List.append []) (List.drop 1 row)))))] 2 [(0, Fam.mk 1 (ms ++ [some [[iv n]], some [[iv n]]]))])))) fun j_2 n_7 => onSome (memb ms j_2) fun es => need ((n_7 + 1) * 8 ≤ 140737488355328) (onSome r[0 + m]? fun row => guardB ((0 + 1).ble row.length) (J (St.mk (mkT [(1, V.lst s (swl u)), (2, V.ptr (Id.p 0) 0 0), (6, V.sl (Id.p 1) 0 L), (14, V.lst s (swl u)), (15, iv (↑(swl u).length : Int)), (16, iv (IntKind.i64.wrap ((↑k : Int) + (1 : Int))))]) (Hp.mk [(0, O.rows 5 false [[iv b.1, iv b.2, iv b.3, V.lst 2 (gl b.4), V.lst 1 (nl b.5)]]), (1, O.rows 1 false (List.map (trL ((Keep.mk [1, 2, 6, 14, 15, 16] [(Id.p 0, 0), (Id.p 1, 1)] 2 [] [] [Fk.mk (some 0) 0 1 [4, 3]]).ren (Hp.mk [(1, O.rows 1 false (r.set (0 + m) (V.sl (Id.p 4) 0 (n_7 + 1) :: (List.append []) (List.drop 1 row)))), (4, O.rows 1 true (List.take n_7 es ++ [[iv n]])), (3, O.rows 1 true [[iv n]]), (2, O.rows 3 false [[iv n, iv n_1, bv b_1]]), (0, O.rows 5 false [[iv b.1, iv b.2, iv b.3, V.lst 2 (gl b.4), V.lst 1 (nl b.5)]])] 5 [(0, Fam.mk 1 (ms.set j_2 none))]))) (r.set (0 + m) (V.sl (Id.p 4) 0 (n_7 + 1) :: (List.append []) (List.drop 1 row)))))] 2 [(0, Fam.mk 1 (ms.set j_2 none ++ [some (List.take n_7 es ++ [[iv n]]), some [[iv n]]]))]))))) (guardB ((Hp.mk [(2, O.rows 3 false [[iv n, iv n_1, bv b_1]]), (0, O.rows 5 false [[iv b.1, iv b.2, iv b.3, V.lst 2 (gl b.4), V.lst 1 (nl b.5)]]), (1, O.rows 1 false r)] 3 [(0, Fam.mk 1 ms)]).has (Id.m 0 j_1)) (onNat (IntKind.i64.wrap ((↑n_6 : Int) - (1 : Int))) fun m_1 => onSome (memb ms j_1) fun es => need (m_1 < n_6) (onSome (memb ms j_1) fun es => onSome es[0 + m_1]? fun row_4 => onSome row_4[0]? fun v => onIntK IntKind.i64 v fun n_7 => ifB (decide (n > n_7)) (ifB (!decide (IntKind.u64.wrap (IntKind.u64.wrap n - IntKind.u64.wrap n_7) ≥ IntKind.u64.wrap b.3)) (R (V.tup [nilS, bv false])) (onSome r[0 + m]? fun row_5 => onSome row_5[0]? fun v => onMem 0 v (onSome r[0 + m]? fun row => guardB ((0 + 1).ble row.length) (J (St.mk (mkT [(1, V.lst s (swl u)), (2, V.ptr (Id.p 0) 0 0), (6, V.sl (Id.p 1) 0 L), (14, V.lst s (swl u)), (15, iv (↑(swl u).length : Int)), (16, iv (IntKind.i64.wrap ((↑k : Int) + (1 : Int))))]) (Hp.mk [(0, O.rows 5 false [[iv b.1, iv b.2, iv b.3, V.lst 2 (gl b.4), V.lst 1 (nl b.5)]]), (1, O.rows 1 false (List.map (trL ((Keep.mk [1, 2, 6, 14, 15, 16] [(Id.p 0, 0), (Id.p 1, 1)] 2 [] [] [Fk.mk (some 0) 0 1 [4, 3]]).ren (Hp.mk [(1, O.rows 1 false (r.set (0 + m) (V.sl (Id.p 4) 0 1 :: (List.append []) (List.drop 1 row)))), (4, O.rows 1 true [[iv n]]), (3, O.rows 1 true [[iv n]]), (2, O.rows 3 false [[iv n, iv n_1, bv b_1]]), (0, O.rows 5 false [[iv b.1, iv b.2, iv b.3, V.lst 2 (gl b.4), V.lst 1 (nl b.5)]])] 5 [(0, Fam.mk 1 ms)]))) (r.set (0 + m) (V.sl (Id.p 4) 0 1 :: (List.append []) (List.drop 1 row)))))] 2 [(0, Fam.mk 1 (ms ++ [some [[iv n]], some [[iv n]]]))])))) fun j_2 n_8 => onSome (memb ms j_2) fun es => need ((n_8 + 1) * 8 ≤ 140737488355328) (onSome r[0 + m]? fun row => guardB ((0 + 1).ble row.length) (J (St.mk (mkT [(1, V.lst s (swl u)), (2, V.ptr (Id.p 0) 0 0), (6, V.sl (Id.p 1) 0 L), (14, V.lst s (swl u)), (15, iv (↑(swl u).length : Int)), (16, iv (IntKind.i64.wrap ((↑k : Int) + (1 : Int))))]) (Hp.mk [(0, O.rows 5 false [[iv b.1, iv b.2, iv b.3, V.lst 2 (gl b.4), V.lst 1 (nl b.5)]]), (1, O.rows 1 false (List.map (trL ((Keep.mk [1, 2, 6, 14, 15, 16] [(Id.p 0, 0), (Id.p 1, 1)] 2 [] [] [Fk.mk (some 0) 0 1 [4, 3]]).ren (Hp.mk [(1, O.rows 1 false (r.set (0 + m) (V.sl (Id.p 4) 0 (n_8 + 1) :: (List.append []) (List.drop 1 row)))), (4, O.rows 1 true (List.take n_8 es ++ [[iv n]])), (3, O.rows 1 true [[iv n]]), (2, O.rows 3 false [[iv n, iv n_1, bv b_1]]), (0, O.rows 5 false [[iv b.1, iv b.2, iv b.3, V.lst 2 (gl b.4), V.lst 1 (nl b.5)]])] 5 [(0, Fam.mk 1 (ms.set j_2 none))]))) (r.set (0 + m) (V.sl (Id.p 4) 0 (n_8 + 1) :: (List.append []) (List.drop 1 row)))))] 2 [(0, Fam.mk 1 (ms.set j_2 none ++ [some (List.take n_8 es ++ [[iv n]]), some [[iv n]]]))])))))) (R (V.tup [nilS, bv false]))))))))) : Prop) := by
    intro ho
    obtain ⟨m, hm⟩ : ∃ m : Nat, n_1 = (m : Int) := ⟨n_1.toNat, by omega⟩
    have hmL : m < L := by omega
    obtain ⟨row, hr, hc⟩ := inv.cell m hmL
    have hr0 : r[0 + m]? = some row := by rw [Nat.zero_add]; exact hr
    have gd := gd_take hS inv.sw n_1 (u.take k).length (Nat.le_refl _)
    rw [List.take_length] at gd
    have hla := mv_last (u.take k) n_1
    have hle : ∀ y, prevS n_1 (u.take k) = some y → y ∈ u.take k := fun y hy => prevS_mem hy
    have hok : ∀ (ms' : List (Option (List (List V)))) (J : Nat), okI b (u.take k) (n, n_1, b_1) → memb ms' J = some (nl (mv (u.take k) (m : Int) ++ [n])) → (∀ es, memb ms J ≠ some es) → (∀ g' j n es, g' ≠ m → r[g']? = some [V.sl (.m 0 j) 0 n] → memb ms j = some es → memb ms' j = some es) → InvM b L u (r.set m [V.sl (.m 0 J) 0 ((mv (u.take k) (m : Int)).length + 1)]) ms' (k + 1) := fun ms' J ok h1 h2 h3 => inv.next hx ok hm hmL h1 h2 h3
    have hMl : (mv (u.take k) n_1).length ≤ 900 := Nat.le_trans (mv_len _ _) (by rw [List.length_take]; omega)
    rw [← hm] at hc
    simp only [← hm] at hok
    obtain ⟨M, hM0⟩ : ∃ M, M = mv (u.take k) n_1 := ⟨_, rfl⟩
    have hMI : ∀ z ∈ M, In64 z := fun z hz => by
      rw [hM0, mv, List.mem_map] at hz
      obtain ⟨y, hy, rfl⟩ := hz
      exact hI y (List.mem_of_mem_take (List.mem_filter.1 hy).1)
    rw [← hM0] at hc hla hMl
    have gp := gd.par
    rw [← hM0] at gp
    have tl : okI b (u.take k) (n, n_1, b_1) → (onSome r[0 + m]? fun row_4 => onSome row_4[0]? fun v => onMem 0 v (onSome r[0 + m]? fun row => guardB ((0 + 1).ble row.length) (J (St.mk (mkT [(1, V.lst s (swl u)), (2, V.ptr (Id.p 0) 0 0), (6, V.sl (Id.p 1) 0 L), (14, V.lst s (swl u)), (15, iv (↑(swl u).length : Int)), (16, iv (IntKind.i64.wrap ((↑k : Int) + (1 : Int))))]) (Hp.mk [(0, O.rows 5 false [[iv b.1, iv b.2, iv b.3, V.lst 2 (gl b.4), V.lst 1 (nl b.5)]]), (1, O.rows 1 false (List.map (trL ((Keep.mk [1, 2, 6, 14, 15, 16] [(Id.p 0, 0), (Id.p 1, 1)] 2 [] [] [Fk.mk (some 0) 0 1 [4, 3]]).ren (Hp.mk [(1, O.rows 1 false (r.set (0 + m) (V.sl (Id.p 4) 0 1 :: (List.append []) (List.drop 1 row)))), (4, O.rows 1 true [[iv n]]), (3, O.rows 1 true [[iv n]]), (2, O.rows 3 false [[iv n, iv n_1, bv b_1]]), (0, O.rows 5 false [[iv b.1, iv b.2, iv b.3, V.lst 2 (gl b.4), V.lst 1 (nl b.5)]])] 5 [(0, Fam.mk 1 ms)]))) (r.set (0 + m) (V.sl (Id.p 4) 0 1 :: (List.append []) (List.drop 1 row)))))] 2 [(0, Fam.mk 1 (ms ++ [some [[iv n]], some [[iv n]]]))])))) fun j n_5 => onSome (memb ms j) fun es => need ((n_5 + 1) * 8 ≤ 140737488355328) (onSome r[0 + m]? fun row => guardB ((0 + 1).ble row.length) (J (St.mk (mkT [(1, V.lst s (swl u)), (2, V.ptr (Id.p 0) 0 0), (6, V.sl (Id.p 1) 0 L), (14, V.lst s (swl u)), (15, iv (↑(swl u).length : Int)), (16, iv (IntKind.i64.wrap ((↑k : Int) + (1 : Int))))]) (Hp.mk [(0, O.rows 5 false [[iv b.1, iv b.2, iv b.3, V.lst 2 (gl b.4), V.lst 1 (nl b.5)]]), (1, O.rows 1 false (List.map (trL ((Keep.mk [1, 2, 6, 14, 15, 16] [(Id.p 0, 0), (Id.p 1, 1)] 2 [] [] [Fk.mk (some 0) 0 1 [4, 3]]).ren (Hp.mk [(1, O.rows 1 false (r.set (0 + m) (V.sl (Id.p 4) 0 (n_5 + 1) :: (List.append []) (List.drop 1 row)))), (4, O.rows 1 true (List.take n_5 es ++ [[iv n]])), (3, O.rows 1 true [[iv n]]), (2, O.rows 3 false [[iv n, iv n_1, bv b_1]]), (0, O.rows 5 false [[iv b.1, iv b.2, iv b.3, V.lst 2 (gl b.4), V.lst 1 (nl b.5)]])] 5 [(0, Fam.mk 1 (ms.set j none))]))) (r.set (0 + m) (V.sl (Id.p 4) 0 (n_5 + 1) :: (List.append []) (List.drop 1 row)))))] 2 [(0, Fam.mk 1 (ms.set j none ++ [some (List.take n_5 es ++ [[iv n]]), some [[iv n]]]))])))) : Prop) := by
      intro ok
      refine cel hr hc (fun hM hrow => ?_) (fun j hM hrow hj => ?_)
      · refine onSome_mk hr0 (guardB_mk (by rw [hrow]; rfl) ?_)
        rw [map_set (L := ms.length + 0) (fun row' h' hτ => by obtain ⟨_, q⟩ := inv.row h'; exact trL_cell hτ q) (by rw [hrow]; rfl) (fun j => by kernel_rfl) (by kernel_rfl), wr1i hlt (by omega), Nat.zero_add]
        have := hok (ms ++ [some [[iv n]], some [[iv n]]]) ms.length ok (by rw [← hM0, hM]; exact memb_last) (fun es => memb_none) (fun g' j n es _ _ h => memb_app h)
        rw [← hM0, hM] at this
        exact hn _ _ this hlt
      · refine onSome_mk hj (need_mk ⟨by omega, onSome_mk hr0 (guardB_mk (by rw [hrow]; rfl) ?_)⟩)
        rw [map_set (L := (ms.set j none).length + 0) (fun row' h' hτ => by obtain ⟨_, q⟩ := inv.row h'; exact trL_cell hτ q) (by rw [hrow]; rfl) (fun j => by kernel_rfl) (by kernel_rfl), wr1i hlt (by omega), Nat.zero_add, take_nl, nl_app]
        have := hok (ms.set j none ++ [some (nl (M ++ [n])), some [[iv n]]]) (ms.set j none).length ok (by rw [← hM0]; exact memb_last) (fun es => by rw [List.length_set]; exact memb_none) (fun g' j' n' es hg' hr' hj' => memb_app (by
          rw [memb_set _ _ _ _ (memb_lt hj), if_neg (fun e => hg' (inv.apart g' m j' n' M.length hr' (by rw [hr, hrow, e]))), hj']))
        rw [← hM0] at this
        exact hn _ _ this hlt
    refine onNat_mk hm (need_mk ⟨hmL, cel hr hc (fun hM hrow => ?_) (fun j hM hrow hj => ?_)⟩)
    · have hnone : prevS n_1 (u.take k) = none := by
        rw [hM] at hla
        cases hp : prevS n_1 (u.take k) with
        | none => rfl
        | some y => rw [hp] at hla; simp at hla
      refine ifB_mk (fun e => bad (fun hp => ?_)) (fun e => ?_)
      · have h4 : b_1 = true := hp.2.2.2 hnone
        rw [h4] at e
        simp at e
      · have h4 : b_1 = true := by
          cases b_1 with
          | true => rfl
          | false => simp at e
        have ok : okI b (u.take k) (n, n_1, b_1) := by
          refine ⟨⟨d0, by show n_1 ≤ _; omega⟩, fun y hy => ?_, fun y hy => ?_, fun _ => h4⟩
          · rcases gtS_not (ho y hy) with q | ⟨q1, q2⟩
            · exact .inl q
            · refine .inr ⟨q1, lt_le_ne q2 (fun e1 => ?_)⟩
              have hyp : prevS n_1 (u.take k) = some y := by
                obtain ⟨c', hc'⟩ : ∃ c', u.take k = c' ++ [y] := ⟨_, (List.getLast?_eq_some_iff.1 hy).choose_spec⟩
                rw [hc', prevS_app, if_pos e1]
              rw [hnone] at hyp; cases hyp
          · rw [hnone] at hy; cases hy
        exact cel hr hc (fun _ _ => tl ok) (fun j' h' => (h' hM).elim)
    · obtain ⟨y, hy⟩ : ∃ y, prevS n_1 (u.take k) = some y := by
        cases hp : prevS n_1 (u.take k) with
        | none => rw [hp] at hla; exact (hM (List.getLast?_eq_none_iff.1 hla)).elim
        | some y => exact ⟨y, rfl⟩
      rw [hy] at hla
      have hla : M.getLast? = some y.1 := hla
      have gp := gp y hy
      have hlen : M.length ≠ 0 := fun e => hM (List.length_eq_zero_iff.1 e)
      refine guardB_mk (has_m hj) (ifB_mk (fun e => bad (fun hp => ?_)) (fun e => ?_))
      · have q := (hp.2.2.1 y hy).1
        rw [tmod2] at e
        cases hb1 : b_1 with
        | true =>
          rw [hb1] at e q
          have : y.2.2 = false := by simpa using q
          have h2 : ¬ M.length % 2 = 1 := fun h => by have := gp.2 h; rw [‹y.2.2 = false›] at this; cases this
          have h3 : M.length % 2 = 0 := by omega
          rw [decide_eq_true h3] at e
          simp at e
        | false =>
          rw [hb1] at e q
          have : y.2.2 = true := by simpa using q
          have h2 := gp.1 this
          rw [decide_eq_false (by omega)] at e
          simp at e
      · have hpar : y.2.2 ≠ b_1 := fun hq => by
          rw [tmod2] at e
          cases hb1 : b_1 with
          | true =>
            rw [hb1] at e hq
            have h2 := gp.1 hq
            rw [decide_eq_false (by omega)] at e
            simp at e
          | false =>
            rw [hb1] at e hq
            have h2 : ¬ M.length % 2 = 1 := fun h => by have := gp.2 h; rw [hq] at this; cases this
            rw [decide_eq_true (by omega)] at e
            simp at e
        have tl' : y.1 + (if (1 : Int) > b.S then 1 else b.S) ≤ n → okI b (u.take k) (n, n_1, b_1) := fun hle => by
          have hmx : 1 ≤ (if (1 : Int) > b.S then 1 else b.S) := by split <;> omega
          refine ⟨⟨d0, by show n_1 ≤ _; omega⟩, fun z hz => ?_, fun z hz => ?_, fun hz => by rw [show prevS _ (u.take k) = some y from hy] at hz; cases hz⟩
          · rcases gtS_not (ho z hz) with q | ⟨q1, q2⟩
            · exact .inl q
            · refine .inr ⟨q1, lt_le_ne q2 (fun e1 => ?_)⟩
              have hyp : prevS n_1 (u.take k) = some z := by
                obtain ⟨c', hc'⟩ : ∃ c', u.take k = c' ++ [z] := ⟨_, (List.getLast?_eq_some_iff.1 hz).choose_spec⟩
                rw [hc', prevS_app, if_pos e1]
              rw [hy] at hyp
              cases hyp
              have q1 : y.1 = n := q1
              omega
          · rw [show prevS _ (u.take k) = some y from hy] at hz
            cases hz
            exact ⟨hpar, hle⟩
        refine cel hr hc (fun h' => (hM h').elim) (fun j' _ _ hj' => guardB_mk (has_m hj') (ifB_f (by simpa using hlen) (guardB_mk (has_m hj') ?_)))
        have hMx : M[M.length - 1]? = some y.1 := by rw [← List.getLast?_eq_getElem?]; exact hla
        have hyI : In64 y.1 := hMI _ (mem_at hMx)
        have hnI : In64 n := hI _ (mem_at hx)
        refine onNat_mk (m := M.length - 1) (by rw [wr (by omega) (by omega)]; omega) (onSome_mk hj' (need_mk ⟨by omega, onSome_mk hj' ?_⟩))
        rw [Nat.zero_add]
        refine iel hMx (ifB_mk (fun e1 => ?_) (fun e1 => bad (fun hp => ?_)))
        · have e1 := of_decide_eq_true e1
          rw [usub hnI hyI (by omega), usm hS (by omega)]
          refine ifB_mk (fun e2 => bad (fun hp => ?_)) (fun e2 => ?_)
          · have h3 : y.1 + (if (1 : Int) > b.S then 1 else b.S) ≤ n := (hp.2.2.1 y hy).2
            have h4 : b.S ≤ (if (1 : Int) > b.S then 1 else b.S) := by split <;> omega
            simp at e2
            omega
          · have e2 : b.S ≤ n - y.1 := by simpa using e2
            have ok := tl' (by split <;> omega)
            exact tl ok
        · have e1 := of_decide_eq_false e1
          have h3 : y.1 + (if (1 : Int) > b.S then 1 else b.S) ≤ n := (hp.2.2.1 y hy).2
          have hmx : 1 ≤ (if (1 : Int) > b.S then 1 else b.S) := by split <;> omega
          omega
  refine ifB_mk (fun d2 => ?_) (fun d2 => la (fun y hy => by
    have : k = 0 := by have := of_decide_eq_false d2; omega
    rw [this] at hy; simp at hy))
  have d2 := of_decide_eq_true d2
  obtain ⟨y, hy⟩ := getI (l := u) (k := k - 1) (by omega)
  have hlast : (u.take k).getLast? = some y := by rw [show k = (k - 1) + 1 from by omega, take_succ' hy]; simp
  refine onNat_mk (m := k - 1) (by omega) (need_mk ⟨s3, swel hy (cmp65 (x := y) (y := (n, n_1, b_1)) (fun q hq => onIntK_iv (ifB_mk (fun d3 => bad (fun hp => ?_)) (fun d3 => la (fun z hz => ?_)))))⟩)
  · have h1 := hp.2.1 y hlast
    have h2 := hq.1 (of_decide_eq_true d3)
    unfold ltK at h1
    unfold gtS at h2
    omega
  · rw [hlast] at hz
    cases hz
    exact fun hg => of_decide_eq_false d3 (hq.2 hg)
end Go.Proofs.Ytmdimnmdoifkfaa
namespace Go.Proofs.Ytmdimnmdoifkfaa
open Go Go.Proofs.Ytmdimnmdoifkfaa.Clean
set_option linter.unusedVariables false
set_option maxRecDepth 10000
theorem wf_i64 {n : Int} (h : (Lit.int .i64 n).wf = true) : In64 n := by
  simp [Lit.wf, IntKind.min, IntKind.max, IntKind.signed, IntKind.bits] at h
  unfold In64
  omega
theorem runs5 {b : Bt} {l : List Fd} {u : List Sw} (hI : ∀ x ∈ u, In64 x.1) {R : V → Prop} (h : R (bv true)) : K0G Try.prog glX 5 [.agg (bel b), .lst 3 (fdl l), .lst 3 (swl u)] R :=
  law5 (fun hb hl hI hs _ h => moves69 hb hl hI hs h) hI h
end Go.Proofs.Ytmdimnmdoifkfaa
namespace Go.Proofs.Ytmdimnmdoifkfaa.Clean
open Go.Deep
set_option linter.unusedSimpArgs false
set_option linter.unusedVariables false
section
variable {H : Type} (enc : TypeId × Value → H) (P : Program) (w : World)
def FW (r : Nat) : Prop := r < w.heap.size
def Opens (t : TypeId) {α : Type} (f : α → List V) (ok : α → Prop) : Prop :=
  ∀ fuel cs x, DataW.trod enc P w 0 (fun _ => true) true fuel t cs = some x → ∃ a, riL (FW w) w (f a) cs ∧ ok a ∧ ∀ u ∈ cs, u.oneCell' = true
def OpensF (total : Nat) (off : Nat) (fs : List Field) {α : Type} (f : α → List V) (ok : α → Prop) : Prop :=
  ∀ n (cs : List Value), cs.length = total → (∀ fd ∈ fs, ∃ x, DataW.trod enc P w 0 (fun _ => true) true n fd.type ((cs.drop fd.offset).take (P.cellsOf fd.type)) = some x) →
    ∃ a, riL (FW w) w (f a) (cs.drop off) ∧ ok a ∧ ∀ u ∈ cs.drop off, u.oneCell' = true
end
section
variable {H : Type} {enc : TypeId × Value → H} {P : Program} {w : World}
theorem riL_append : ∀ {vs us : List V} {xs ys : List Value}, riL (FW w) w vs xs → riL (FW w) w us ys → riL (FW w) w (vs ++ us) (xs ++ ys)
  | [], us, xs, ys, h, k => by simp only [riL] at h; subst h; simpa using k
  | v :: vs, us, xs, ys, h, k => by
    simp only [riL] at h
    obtain ⟨x, zs, rfl, h2, h3⟩ := h
    simp only [List.cons_append, riL]
    exact ⟨x, zs ++ ys, rfl, h2, riL_append h3 k⟩
theorem riL_one {v : V} {x : Value} (h : ri (FW w) w v x) : riL (FW w) w [v] [x] := by simp only [riL]; exact ⟨x, [], rfl, h, rfl⟩
theorem riL_get : ∀ {vs : List V} {xs : List Value}, riL (FW w) w vs xs → ∀ (i : Nat) v, vs[i]? = some v → ∃ x, xs[i]? = some x ∧ ri (FW w) w v x
  | [], xs, h, i, v, hi => by simp at hi
  | u :: vs, xs, h, i, v, hi => by
    simp only [riL] at h
    obtain ⟨x, ys, rfl, h2, h3⟩ := h
    cases i with
    | zero => simp at hi; subst hi; exact ⟨x, rfl, h2⟩
    | succ i => simp at hi; simpa using riL_get h3 i v hi
theorem riL_length : ∀ {vs : List V} {xs : List Value}, riL (FW w) w vs xs → xs.length = vs.length
  | [], xs, h => by simp only [riL] at h; simp [h]
  | v :: vs, xs, h => by simp only [riL] at h; obtain ⟨x, ys, rfl, _, h3⟩ := h; simp [riL_length h3]
theorem opens_int {t : TypeId} {k : IntKind} (ht : P.underlying t = some (.int k)) : Opens enc P w t (fun n : Int => [.raw (.int k n)]) (fun n => (Lit.int k n).wf = true) := by
  intro fuel cs x h
  obtain ⟨n, rfl, _, hw⟩ := DataW.trod_int ht h
  exact ⟨n, riL_one (by simp [ri]), hw, by simp [Value.oneCell']⟩
theorem opens_bool {t : TypeId} (ht : P.underlying t = some .bool) : Opens enc P w t (fun b : Bool => [.raw (.bool b)]) (fun _ => True) := by
  intro fuel cs x h
  obtain ⟨n, rfl, _⟩ := DataW.trod_bool ht h
  exact ⟨n, riL_one (by simp [ri]), trivial, by simp [Value.oneCell']⟩
theorem opens_slice {t e : TypeId} {s : Nat} {α : Type} {f : α → List V} {ok : α → Prop} (ht : P.underlying t = some (.slice e)) (hs : P.cellsOf e = s) (hpos : s ≠ 0) (ho : Opens enc P w e f ok) :
    Opens enc P w t (fun l : List α => [.lst s (l.map f)]) (fun l => l.length ≤ maxLen ∧ ∀ a ∈ l, ok a) := by
  intro fuel cs x h
  rcases open_slice ht h with ⟨rfl, _⟩ | ⟨a, len, cap, m, n, D, Pl, rfl, _, hl, hm, hmm, _, hx⟩
  · exact ⟨[], riL_one (by simp [ri]), by simp, by simp [Value.oneCell']⟩
  · simp only [if_true] at hmm
    subst hmm
    rw [hs] at hx
    have each : ∀ i, i < len → ∃ q : α, (∃ cs', w.cells? 0 (a.add (i * s)) s = some cs' ∧ riL (FW w) w (f q) cs' ∧ ∀ u ∈ cs', u.oneCell' = true) ∧ ok q := by
      intro i hi
      obtain ⟨cs', h1, h2⟩ := hx i (by omega)
      obtain ⟨q, h3, h4, h5⟩ := ho _ _ _ h2
      exact ⟨q, ⟨cs', h1, h3, h5⟩, h4⟩
    obtain ⟨q, hq⟩ : ∃ q : Nat → Option α, ∀ i, i < len → ∃ y, q i = some y ∧ (∃ cs', w.cells? 0 (a.add (i * s)) s = some cs' ∧ riL (FW w) w (f y) cs' ∧ ∀ u ∈ cs', u.oneCell' = true) ∧ ok y := by
      refine Classical.axiomOfChoice (r := fun i (o : Option α) => i < len → ∃ y, o = some y ∧ (∃ cs', w.cells? 0 (a.add (i * s)) s = some cs' ∧ riL (FW w) w (f y) cs' ∧ ∀ u ∈ cs', u.oneCell' = true) ∧ ok y) ?_
      intro i
      by_cases hi : i < len
      · obtain ⟨y, hy⟩ := each i hi
        exact ⟨some y, fun _ => ⟨y, rfl, hy⟩⟩
      · exact ⟨none, fun h => (hi h).elim⟩
    let l : List α := (List.range len).filterMap q
    have hl' : l.length = len ∧ ∀ i, i < len → l[i]? = q i := by
      have key : ∀ k, k ≤ len → ((List.range k).filterMap q).length = k ∧ ∀ i, i < k → ((List.range k).filterMap q)[i]? = q i := by
        intro k
        induction k with
        | zero => intro _; simp
        | succ k ih =>
          intro hk
          obtain ⟨h1, h2⟩ := ih (by omega)
          obtain ⟨y, hy, _⟩ := hq k (by omega)
          have : (List.range (k + 1)).filterMap q = (List.range k).filterMap q ++ [y] := by rw [List.range_succ, List.filterMap_append]; simp [hy]
          rw [this]
          refine ⟨by simp [h1], fun i hi => ?_⟩
          by_cases hik : i < k
          · rw [List.getElem?_append_left (by omega)]; exact h2 i hik
          · have : i = k := by omega
            subst this
            rw [List.getElem?_append_right (by omega), h1, hy]; simp
      exact key len (Nat.le_refl _)
    refine ⟨l, riL_one ?_, ⟨by omega, fun b hb => ?_⟩, by simp [Value.oneCell']⟩
    · simp only [ri]
      refine .inr ⟨a, m, by simp [hl'.1]; exact hl, by simp [hl'.1], ?_⟩
      by_cases h0 : len = 0
      · left
        have : l = [] := List.eq_nil_of_length_eq_zero (by omega)
        simp [this]
      · right
        have cell : ∀ (i : Nat) (cs' : List Value), i < len → w.cells? 0 (a.add (i * s)) s = some cs' → ∀ j, j < s → w.cell? (a.add (i * s + j)) = cs'[j]? ∧ cs'.length = s := by
          intro i cs' hi hc j hj
          obtain ⟨_, hlen, hcc⟩ := World.cells?_some hc
          have := hcc j hj
          rw [add_add] at this
          exact ⟨this, hlen⟩
        obtain ⟨y0, hy0, ⟨cs0, c1, _, _⟩, _⟩ := hq 0 (by omega)
        have hc0 := (cell 0 cs0 (by omega) c1 0 (by omega))
        have hsome : ∃ u, w.cell? a = some u := by
          have h1 := hc0.1
          rw [Nat.zero_mul, Nat.zero_add] at h1
          have : a.add 0 = a := by simp [Addr.add]
          rw [this] at h1
          rw [h1]
          exact ⟨cs0[0]'(by omega), List.getElem?_eq_getElem (by omega)⟩
        obtain ⟨u0, hu0⟩ := hsome
        have hspot : a.spot = none := by
          unfold World.cell? at hu0
          split at hu0
          · split at hu0
            · cases hu0
            · rename_i h; simpa using h
          · cases hu0
        obtain ⟨ab, ao, asp⟩ := a
        simp only at hspot
        subst hspot
        refine ⟨rfl, World.block_lt_of_cell? w _ hu0, ?_⟩
        rw [riRows_iff]
        intro i row hrow
        rw [List.getElem?_map, Option.map_eq_some_iff] at hrow
        obtain ⟨b, hb, rfl⟩ := hrow
        have hi : i < len := by have := (List.getElem?_eq_some_iff.1 hb).1; omega
        obtain ⟨y, hy, ⟨cs', g1, g2, g3⟩, _⟩ := hq i hi
        rw [hl'.2 i hi, hy] at hb
        simp at hb
        subst hb
        have hlen' := riL_length g2
        obtain ⟨_, hclen, _⟩ := World.cells?_some g1
        refine ⟨by omega, fun j v hj => ?_⟩
        obtain ⟨z, z1, z2⟩ := riL_get g2 j v hj
        have hjs : j < s := by have := (List.getElem?_eq_some_iff.1 z1).1; omega
        refine ⟨z, ?_, g3 z (List.mem_of_getElem? z1), z2⟩
        have := (cell i cs' hi g1 j hjs).1
        rw [add_lit, ← Nat.add_assoc] at this
        rw [this]; exact z1
    · obtain ⟨i, hi⟩ := List.mem_iff_getElem?.1 hb
      have hil : i < len := by have := (List.getElem?_eq_some_iff.1 hi).1; omega
      obtain ⟨y, hy, _, hok⟩ := hq i hil
      rw [hl'.2 i hil, hy] at hi
      simp at hi
      exact hi ▸ hok
theorem opensF_nil {total : Nat} : OpensF enc P w total total [] (fun _ : Unit => []) (fun _ => True) := by
  intro n cs hl _
  rw [List.drop_of_length_le (by omega)]
  exact ⟨(), by simp [riL], trivial, by simp⟩
theorem opensF_cons {total off k : Nat} {fd : Field} {fs : List Field} {α β : Type} {f : α → List V} {g : β → List V} {ok : α → Prop} {ok' : β → Prop} (ho : fd.offset = off) (hk : P.cellsOf fd.type = k)
    (h1 : Opens enc P w fd.type f ok) (h2 : OpensF enc P w total (off + k) fs g ok') : OpensF enc P w total off (fd :: fs) (fun x : α × β => f x.1 ++ g x.2) (fun x => ok x.1 ∧ ok' x.2) := by
  intro n cs hl hf
  obtain ⟨x, hx⟩ := hf fd (by simp)
  rw [ho, hk] at hx
  obtain ⟨a, a1, a2, a3⟩ := h1 _ _ _ hx
  obtain ⟨b, b1, b2, b3⟩ := h2 n cs hl (fun fd' h' => hf fd' (by simp [h']))
  have hsplit : cs.drop off = (cs.drop off).take k ++ cs.drop (off + k) := by rw [← List.drop_drop, List.take_append_drop]
  refine ⟨(a, b), ?_, ⟨a2, b2⟩, ?_⟩
  · rw [hsplit]; exact riL_append a1 b1
  · rw [hsplit]
    intro u hu
    rcases List.mem_append.1 hu with hu | hu
    · exact a3 u hu
    · exact b3 u hu
theorem opens_struct {t : TypeId} {fs : Array Field} {total : Nat} {α : Type} {f : α → List V} {ok : α → Prop} (ht : P.underlying t = some (.struct fs)) (hc : P.cellsOf t = total) (h : OpensF enc P w total 0 fs.toList f ok) : Opens enc P w t f ok := by
  intro fuel cs x hx
  obtain ⟨xs, n, _, _, hl, hxl, hf⟩ := DataW.trod_struct ht hx
  have := h n cs (by omega) (fun fd hfd => by
    obtain ⟨i, hi⟩ := List.mem_iff_getElem?.1 hfd
    have hi' : fs[i]? = some fd := by simpa using hi
    have := hf i fd hi'
    have hil : i < xs.length := by rw [hxl]; exact lt_of_some hi'
    rw [List.getElem?_eq_getElem hil] at this
    exact ⟨_, this⟩)
  simpa using this
theorem arg_slice {t e : TypeId} {v : Value} {d : DataW H} {p : List MemPlace} {r : Reach} {b0 : Nat} {α : Type} {f : α → V} {ok : α → Prop} (ht : P.underlying t = some (.slice e)) (hval : Value.okWide P w r b0 t v) (h : DataW.Trod enc P w 0 (fun _ => true) true t v d p)
    (ho : Opens enc P w t (fun a => [f a]) ok) : ∃ a, ri (FW w) w (f a) v ∧ ok a := by
  obtain ⟨a, len, cap, rfl⟩ := WideShapes.okWide_slice ht hval
  obtain ⟨fuel, hf⟩ := h
  obtain ⟨y, h1, h2, _⟩ := ho _ _ _ hf
  simp only [Value.cells, riL] at h1
  obtain ⟨x, xs, hx, h3, _⟩ := h1
  simp at hx
  exact ⟨y, by rw [hx.1]; exact h3, h2⟩
theorem arg_struct {t : TypeId} {fs : Array Field} {v : Value} {d : DataW H} {p : List MemPlace} {r : Reach} {b0 : Nat} {α : Type} {f : α → List V} {ok : α → Prop} (ht : P.underlying t = some (.struct fs)) (hval : Value.okWide P w r b0 t v) (h : DataW.Trod enc P w 0 (fun _ => true) true t v d p)
    (ho : Opens enc P w t f ok) : ∃ a, ri (FW w) w (.agg (f a)) v ∧ ok a := by
  obtain ⟨cs, rfl, _⟩ := WideShapes.okWide_struct ht hval
  obtain ⟨fuel, hf⟩ := h
  obtain ⟨y, h1, h2, _⟩ := ho _ _ _ hf
  exact ⟨y, by simp only [ri]; exact ⟨cs, rfl, h1⟩, h2⟩
theorem wf_i64 {n : Int} (h : (Lit.int .i64 n).wf = true) : -9223372036854775808 ≤ n ∧ n ≤ 9223372036854775807 := by
  simp [Lit.wf, IntKind.min, IntKind.max, IntKind.signed, IntKind.bits] at h
  omega
end
end Go.Proofs.Ytmdimnmdoifkfaa.Clean
