/- The lots that traders get, and whether a group does better, or the errors, are as the reference says. -/
import Derived.Test.YtmddjopahcbefaaXTH
namespace Go.Proofs.Ytmddjopahcbefaa
open Go Go.Proofs.Ytmddjopahcbefaa.Clean
set_option linter.unusedVariables false
set_option linter.unusedSimpArgs false
set_option maxRecDepth 10000

theorem map_inj' {α β : Type} {f : α → β} (hf : ∀ a b, f a = f b → a = b) : ∀ {a b : List α}, a.map f = b.map f → a = b
  | [], [], _ => rfl
  | [], _ :: _, h => by simp at h
  | _ :: _, [], h => by simp at h
  | x :: a, y :: b, h => by
    simp only [List.map_cons, List.cons.injEq] at h
    rw [hf x y h.1, map_inj' hf h.2]
theorem ofN_inj {a b : List Nat} (h : ofN a = ofN b) : a = b := map_inj' (fun x y he => by omega) h
theorem ofW_inj {a b : List (List Nat)} (h : ofW a = ofW b) : a = b := map_inj' (fun x y he => ofN_inj he) h
theorem says1 {w : List (List Int)} {t : List Int} {g : Nat} {R : V → Prop} (hw : ¬ Wok w) (h : R (.tup [bv false, iv 2])) : Says w t g R :=
  ⟨fun _ => h, fun h1 => absurd h1 hw, fun h1 => absurd h1 hw, fun ww tt e1 _ h1 => absurd (by rw [e1]; exact wok_of.2 h1) hw⟩
theorem says2 {w : List (List Int)} {t : List Int} {g : Nat} {R : V → Prop} (hw : Wok w) (ho : ¬ Once t w.length) (h : R (.tup [bv false, iv 8])) : Says w t g R :=
  ⟨fun h1 => absurd hw h1, fun _ _ => h, fun _ h1 => absurd h1 ho, fun ww tt e1 e2 h1 h2 => absurd (by rw [e1, e2, show (ofW ww).length = ww.length by simp [ofW]]; exact once_of.2 h2) ho⟩
theorem says3 {w : List (List Int)} {t : List Int} {g : Nat} {R : V → Prop} (hw : Wok w) (ho : Once t w.length) (hg : g = 0 ∨ 2 ^ w.length ≤ g) (h : R (.tup [bv false, iv 2])) : Says w t g R :=
  ⟨fun h1 => absurd hw h1, fun _ h1 => absurd ho h1, fun _ _ _ => h, fun ww tt e1 e2 h1 h2 h3 h4 => by
    rw [e1, show (ofW ww).length = ww.length by simp [ofW]] at hg
    omega⟩
theorem says4 {w : List (List Nat)} {t : List Nat} {g : Nat} {R : V → Prop} (hw : WokN w) (ho : OnceN t w.length) (h0 : g ≠ 0) (hg : g < 2 ^ w.length) (h : ∀ b, (b = true ↔ Can w t g g false) → R (.tup [bv b, iv 0])) : Says (ofW w) (ofN t) g R := by
  have hl : (ofW w).length = w.length := by simp [ofW]
  refine ⟨fun h1 => absurd (wok_of.2 hw) h1, fun _ h1 => absurd (by rw [hl]; exact once_of.2 ho) h1, fun _ _ h1 => by rw [hl] at h1; omega, fun ww tt e1 e2 _ _ _ _ => ?_⟩
  rw [← ofW_inj e1, ← ofN_inj e2]
  exact h
theorem law7 {w : List (List Int)} {t : List Int} {g : Int} {R : V → Prop} (hg : 0 ≤ g ∧ g < 256) (hwl : w.length ≤ 9223372036854775807) (hR : R (bv true)) : K0G Try.prog glX 7 [.lst 1 (wl w), .lst 1 (nl t), u8v g] R := by
  refine K0_of_WY0 hmX hcM 100 Try.func7 (see (p := K0G Try.prog glX 30 [V.lst 1 (wl w)] fun v => onBool v fun b => ifB b (R (bv true)) (ifB (decide ((↑(nl t).length : Int) > (12 : Int))) (R (bv true)) (K0G Try.prog glX 31 [V.lst 1 (wl w)] fun v => onTup v fun vs => onCons vs fun u r => onLst u fun s es => onCons r fun u r => onIntK IntKind.i64 u fun n => onNil r (K0G Try.prog glX 32 [V.lst 1 (wl w)] fun v => onTup v fun vs => onCons vs fun u r => onLst u fun s_1 es_1 => onCons r fun u r => onIntK IntKind.i64 u fun n_1 => onNil r (K0G Try.prog glX 33 [V.lst 1 (wl w), V.lst 1 (nl t), V.raw (Value.int IntKind.u8 g)] fun v => onTup v fun vs => onCons vs fun u r => onBool u fun b => onCons r fun u r => onIntK IntKind.i64 u fun n_2 => onNil r (K0G Try.prog glX 34 [V.lst 1 (wl w), V.lst 1 (nl t), V.raw (Value.int IntKind.u8 g)] fun v => onTup v fun vs => onCons vs fun u r => onBool u fun b_1 => onCons r fun u r => onIntK IntKind.i64 u fun n_3 => onNil r (K0G Try.prog glX 23 [V.lst s es, V.lst s_1 es_1] fun v => onBool v fun b_2 => ifB b_2 (ifB (n == n_1) (ifB (b == b_1) (R (bv (n_2 == n_3))) (R (bv false))) (R (bv false))) (R (bv false))))))))) (by kernel_rfl) ?_)
  refine wide13 hwl (fun b => onBool_bv (ifB_mk (fun _ => hR) (fun _ => ifB_mk (fun _ => hR) (fun _ => ?_))))
  obtain ⟨G, rfl⟩ : ∃ G : Nat, g = G := ⟨g.toNat, by omega⟩
  have hG : G < 256 := by omega
  clear hwl hg
  by_cases hw : Wok w
  rotate_left
  · refine trade14_bad hw ?_
    refine (onTup_tup (onCons_cons (onLst_nil (onCons_cons (onIntK_iv (onNil_nil (?_)))))))
    refine trade32_bad hw ?_
    refine (onTup_tup (onCons_cons (onLst_nil (onCons_cons (onIntK_iv (onNil_nil (?_)))))))
    refine better33 hG (says1 hw ?_)
    refine (onTup_tup (onCons_cons (onBool_bv (onCons_cons (onIntK_iv (onNil_nil (?_)))))))
    refine better34 hG (says1 hw ?_)
    refine (onTup_tup (onCons_cons (onBool_bv (onCons_cons (onIntK_iv (onNil_nil (?_)))))))
    exact same23_nil (onBool_bv (ifB_t rfl (ifB_t rfl (ifB_t rfl hR))))
  obtain ⟨ww, hu, hw1, hw2⟩ := to_W hw
  have hlu : w.length = ww.length := by rw [hu]; simp [ofW]
  have e14 : ∀ R', K0G Try.prog glX 31 [.lst 1 (wn ww)] R' → K0G Try.prog glX 31 [.lst 1 (wl w)] R' := fun R' h => by rw [hu, wl_of]; exact h
  have e32 : ∀ R', K0G Try.prog glX 32 [.lst 1 (wn ww)] R' → K0G Try.prog glX 32 [.lst 1 (wl w)] R' := fun R' h => by rw [hu, wl_of]; exact h
  refine e14 _ (trade14 ⟨hw1, hw2⟩ (fun a ha hca => ?_))
  refine (onTup_tup (onCons_cons (onLst_lst (onCons_cons (onIntK_iv (onNil_nil (?_)))))))
  refine e32 _ (trade32 ⟨hw1, hw2⟩ (fun b hb hcb => ?_))
  refine (onTup_tup (onCons_cons (onLst_lst (onCons_cons (onIntK_iv (onNil_nil (?_)))))))
  have hab := core_same ha hb hca hcb
  subst hab
  have ha1000 : a.length ≤ 1000 := by omega
  by_cases ho : Once t w.length
  rotate_left
  · refine better33 hG (says2 hw ho ?_)
    refine (onTup_tup (onCons_cons (onBool_bv (onCons_cons (onIntK_iv (onNil_nil (?_)))))))
    refine better34 hG (says2 hw ho ?_)
    refine (onTup_tup (onCons_cons (onBool_bv (onCons_cons (onIntK_iv (onNil_nil (?_)))))))
    exact same23 ha1000 (onBool_bv (ifB_t rfl (ifB_t rfl (ifB_t rfl hR))))
  by_cases hgr : G = 0 ∨ 2 ^ w.length ≤ G
  · refine better33 hG (says3 hw ho hgr ?_)
    refine (onTup_tup (onCons_cons (onBool_bv (onCons_cons (onIntK_iv (onNil_nil (?_)))))))
    refine better34 hG (says3 hw ho hgr ?_)
    refine (onTup_tup (onCons_cons (onBool_bv (onCons_cons (onIntK_iv (onNil_nil (?_)))))))
    exact same23 ha1000 (onBool_bv (ifB_t rfl (ifB_t rfl (ifB_t rfl hR))))
  obtain ⟨tt, hp, htp⟩ := to_N ho
  rw [hlu] at htp hgr
  clear hw ho hlu e14 e32
  subst hu hp
  refine better33 hG (says4 ⟨hw1, hw2⟩ htp (by omega) (by omega) (fun p hpc => ?_))
  refine (onTup_tup (onCons_cons (onBool_bv (onCons_cons (onIntK_iv (onNil_nil (?_)))))))
  refine better34 hG (says4 ⟨hw1, hw2⟩ htp (by omega) (by omega) (fun q hqc => ?_))
  refine (onTup_tup (onCons_cons (onBool_bv (onCons_cons (onIntK_iv (onNil_nil (?_)))))))
  have hpq : p = q := by rw [Bool.eq_iff_iff, hpc, hqc]
  subst hpq
  exact same23 ha1000 (onBool_bv (ifB_t rfl (ifB_t rfl (ifB_t (by simp) hR))))
end Go.Proofs.Ytmddjopahcbefaa
