/- The law SortCausal. -/
import Derived.Test.YtmdimnmdoifkfaaXDXA
import Derived.Test.YtmdimnmdoifkfaaXDX9R
namespace Go.Proofs.Ytmdimnmdoifkfaa
open Go Go.Proofs.Ytmdimnmdoifkfaa.Clean
set_option linter.unusedVariables false
set_option linter.unusedSimpArgs false
set_option maxRecDepth 10000

theorem hcX : cfX.ok Try.prog := cfgM_ok
theorem sub_all {α : Type} {l : List α} {n : Nat} (h : n = l.length) : sub l 0 n = l := by rw [sub, List.drop_zero, List.take_of_length_le (by omega)]
theorem upTo_app (t : Int) (l : List Sw) (x : Sw) : upTo t (l ++ [x]) = if x.1 ≤ t then upTo t l ++ [x] else upTo t l := by
  unfold upTo
  rw [List.filter_append]
  split
  · rename_i h; rw [List.filter_cons_of_pos (by simpa using h)]; rfl
  · rename_i h; rw [List.filter_cons_of_neg (by simpa using h)]; simp
theorem lo_app (t : Int) (l : List Fd) (x : Fd) : lo t (l ++ [x]) = if x.1 ≤ t then lo t l ++ [x] else lo t l := by
  unfold lo
  rw [List.filter_append]
  split
  · rename_i h; rw [List.filter_cons_of_pos (by simpa using h)]; rfl
  · rename_i h; rw [List.filter_cons_of_neg (by simpa using h)]; simp
theorem hi_app (t : Int) (l : List Fd) (x : Fd) : hi t (l ++ [x]) = if x.1 > t then hi t l ++ [x] else hi t l := by
  unfold hi
  rw [List.filter_append]
  split
  · rename_i h; rw [List.filter_cons_of_pos (by simpa using h)]; rfl
  · rename_i h; rw [List.filter_cons_of_neg (by simp; omega)]; simp
noncomputable def sh47 (s : Nat) (l : List Sw) (t : Int) (F : List Sw) (k : Nat) : St := match F with
  | [] => sh47a s l t k
  | x :: f => sh47b s l t (x :: f) k
theorem sh47_b {s : Nat} {l : List Sw} {t : Int} {F : List Sw} {k : Nat} (h : F ≠ []) : sh47 s l t F k = sh47b s l t F k := by cases F with | nil => exact (h rfl).elim | cons x f => rfl
theorem app_ne {α : Type} (l : List α) (x : α) : l ++ [x] ≠ [] := by simp
theorem until47 {s : Nat} {l : List Sw} {t : Int} {R : V → Prop} (hs : l = [] ∨ s = 3) (hl : l.length ≤ 900) (h : R (lsW (upTo t l))) : K0G Try.prog glX 47 [.lst s (swl l), iv t] R := by
  refine K0_of_WY0 hmX hcX 3000 Try.func47 (see (p := La 0 [(1 : Tmp), (5 : Tmp), (8 : Tmp), (9 : Tmp), (10 : Tmp)] (WY Try.prog cfX 2994 (Env.mk (Bs.mk 0 []) 0 none 24 47 0) (cdAt [1, 1, 0, 1, 0, 0] (bodyOf Try.f47))) (Qblk 0 (Qthen (WY Try.prog cfX 2997 (Env.mk (Bs.mk 0 []) 0 none 24 47 0) (cdAt [1, 1, 1] (bodyOf Try.f47)) (QendX Try.prog Try.f47 fun v h => R (frzW h v))) (QendX Try.prog Try.f47 fun v h => R (frzW h v)))) (St.mk (mkT [(1, iv t), (5, nilS), (8, V.lst s (swl l)), (9, iv (↑(swl l).length : Int)), (10, iv (0 : Int))]) (Hp.mk [] 0 []))) (by kernel_rfl) ?_)
  refine La.of (σ := Nat) (fun k => sh47 s l t (upTo t (l.take k)) k) (fun k => k ≤ l.length) (fun k => l.length - k) 0 (by kernel_rfl) (by omega) ?_
  rintro k g1 J hJ
  have hFl : (upTo t (l.take k)).length ≤ k := Nat.le_trans (List.length_filter_le ..) (by rw [List.length_take]; omega)
  have nxt : ∀ x, l[k]? = some x → k < l.length → J (sh47 s l t (if x.1 ≤ t then upTo t (l.take k) ++ [x] else upTo t (l.take k)) (k + 1)) := fun x hx hk => by
    have g := hJ (k + 1) hk (by omega)
    rw [take_succ' hx, upTo_app] at g
    exact g
  have fin : ¬ k < l.length → R (lsW (upTo t (l.take k))) := fun hk => by rw [List.take_of_length_le (by omega)]; exact h
  clear hJ
  generalize upTo t (l.take k) = F at *
  by_cases hF : F = []
  · subst hF
    refine see (p := ifB (decide ((↑k : Int) < (↑(swl l).length : Int))) (need (s = 3) (onSome (swl l)[k]? fun row => onCons (List.drop 0 row) fun u r => onIntK IntKind.i64 u fun n => onCons r fun u r => onIntK IntKind.i64 u fun n_1 => onCons r fun u r => onBool u fun b => ifB (decide (n ≤ t)) (J (St.mk (mkT [(1, iv t), (5, V.sl (Id.p 0) 0 1), (8, V.lst s (swl l)), (9, iv (↑(swl l).length : Int)), (10, iv (IntKind.i64.wrap ((↑k : Int) + (1 : Int))))]) (Hp.mk [(0, O.rows 3 true [[iv n, iv n_1, bv b]])] 1 []))) (J (St.mk (mkT [(1, iv t), (5, nilS), (8, V.lst s (swl l)), (9, iv (↑(swl l).length : Int)), (10, iv (IntKind.i64.wrap ((↑k : Int) + (1 : Int))))]) (Hp.mk [] 0 []))))) (R nilS)) (by kernel_rfl) ?_
    refine ifB_mk (fun c => ?_) (fun c => fin (by rw [swl_length] at c; have := of_decide_eq_false c; omega))
    have hlt : k < l.length := by rw [swl_length] at c; have := of_decide_eq_true c; omega
    obtain ⟨x, hx⟩ := getI hlt
    have g := nxt x hx hlt
    rw [wr1i hlt (by omega)]
    refine need_mk ⟨hs.resolve_left (fun e => by rw [e] at hlt; simp at hlt), swel hx (ifB_mk (fun c1 => ?_) (fun c1 => ?_))⟩
    · rw [if_pos (of_decide_eq_true c1)] at g; exact g
    · rw [if_neg (of_decide_eq_false c1)] at g; exact g
  · rw [sh47_b hF]
    refine see (p := ifB (decide ((↑k : Int) < (↑(swl l).length : Int))) (need (s = 3) (onSome (swl l)[k]? fun row => onCons (List.drop 0 row) fun u r => onIntK IntKind.i64 u fun n => onCons r fun u r => onIntK IntKind.i64 u fun n_1 => onCons r fun u r => onBool u fun b => ifB (decide (n ≤ t)) (need ((F.length + 1) * 24 ≤ 140737488355328) (J (St.mk (mkT [(1, iv t), (5, V.sl (Id.p 0) 0 (F.length + 1)), (8, V.lst s (swl l)), (9, iv (↑(swl l).length : Int)), (10, iv (IntKind.i64.wrap ((↑k : Int) + (1 : Int))))]) (Hp.mk [(0, O.rows 3 true (List.take F.length (swl F) ++ [[iv n, iv n_1, bv b]]))] 1 [])))) (J (St.mk (mkT [(1, iv t), (5, V.sl (Id.p 0) 0 F.length), (8, V.lst s (swl l)), (9, iv (↑(swl l).length : Int)), (10, iv (IntKind.i64.wrap ((↑k : Int) + (1 : Int))))]) (Hp.mk [(0, O.rows 3 true (swl F))] 1 []))))) (R (V.lst 3 (sub (swl F) 0 F.length)))) (by kernel_rfl) ?_
    refine ifB_mk (fun c => ?_) (fun c => ?_)
    · have hlt : k < l.length := by rw [swl_length] at c; have := of_decide_eq_true c; omega
      obtain ⟨x, hx⟩ := getI hlt
      have g := nxt x hx hlt
      rw [wr1i hlt (by omega)]
      refine need_mk ⟨hs.resolve_left (fun e => by rw [e] at hlt; simp at hlt), swel hx (ifB_mk (fun c1 => need_mk ⟨by omega, ?_⟩) (fun c1 => ?_))⟩
      · rw [if_pos (of_decide_eq_true c1), sh47_b (app_ne _ _)] at g
        rw [swl_take]
        exact hJ' (by simp [sh47b, swl, swr]) g
      · rw [if_neg (of_decide_eq_false c1), sh47_b hF] at g; exact g
    · have g := fin (by rw [swl_length] at c; have := of_decide_eq_false c; omega)
      rw [sub_all (swl_length F).symm]
      cases F with
      | nil => exact (hF rfl).elim
      | cons y f => exact g
theorem swT_cases (b : Bt) (l : List Fd) : ∃ (x : List Sw) (e : Int), swT b l = .tup [lsW x, iv e] ∧ ((e = 0 ∧ BtP b ∧ FdP l ∧ x = swings b l) ∨ e ≠ 0) := by
  by_cases hp : BtP b ∧ FdP l
  · exact ⟨_, _, by rw [swT, if_pos (dc_t hp)], .inl ⟨rfl, hp.1, hp.2, rfl⟩⟩
  · refine ⟨[], askE b l, by rw [swT, if_neg (by rw [dc_f hp]; simp)]; rfl, .inr ?_⟩
    by_cases hb : BtP b
    · have hf : ¬ FdP l := fun hf => hp ⟨hb, hf⟩
      rw [askE, if_pos (dc_t hb), fedE, if_neg (by rw [dc_f hf]; simp)]; simp
    · rw [askE, if_neg (by rw [dc_f hb]; simp)]; simp
theorem tail10 {b : Bt} {l M : List Fd} {t : Int} {R : V → Prop} (hbl : b.bins.length ≤ 1000) (hrl : Rl l) (hrM : Rl M) (hc : BtP b → FdP l → FdP M → upTo t (swings b l) = upTo t (swings b M)) (h : R (bv true)) (A2 : V) (hA : ∀ {Q : V → Prop}, K0G Try.prog glX 24 [.agg (bel b), .lst 3 (fdl M)] Q → K0G Try.prog glX 24 [.agg (bel b), A2] Q) :
    K0G Try.prog glX 24 [.agg (bel b), .lst 3 (fdl l)] fun v => onTup v fun vs => onCons vs fun u r => onLst u fun s es => onCons r fun u r => onIntK IntKind.i64 u fun n => onNil r (K0G Try.prog glX 24 [.agg (bel b), A2] fun v => onTup v fun vs => onCons vs fun u r => onLst u fun s_1 es_1 => onCons r fun u r => onIntK IntKind.i64 u fun n_1 => onNil r (ifB (n != (0 : Int)) (R (bv true)) (ifB (n_1 != (0 : Int)) (R (bv true)) (K0G Try.prog glX 47 [V.lst s es, iv t] fun v => onLst v fun s es => K0G Try.prog glX 47 [V.lst s_1 es_1, iv t] fun v => onLst v fun s_2 es_2 => K0G Try.prog glX 28 [V.lst s es, V.lst s_2 es_2] fun v => onBool v fun b => R (bv b))))) := by
  refine swings24 hbl hrl ?_
  obtain ⟨x, e, hx, hxe⟩ := swT_cases b l
  obtain ⟨y, f, hy, hyf⟩ := swT_cases b M
  obtain ⟨s, hs, hls⟩ := lsW_cases x
  obtain ⟨s', hs', hls'⟩ := lsW_cases y
  rw [hx]
  refine onTup_tup (onCons_cons (hls _ (onCons_cons (onIntK_iv (onNil_nil (hA (swings24 hbl hrM ?_)))))))
  rw [hy]
  refine onTup_tup (onCons_cons (hls' _ (onCons_cons (onIntK_iv (onNil_nil (ifB_mk (fun _ => h) (fun c => ifB_mk (fun _ => h) (fun c' => ?_))))))))
  obtain ⟨_, hb, hf, ex⟩ := hxe.resolve_right (fun hn => by simp at c; exact hn c)
  obtain ⟨_, _, hg, ey⟩ := hyf.resolve_right (fun hn => by simp at c'; exact hn c')
  subst ex ey
  have hl1 := swings_len hb hf
  have hl2 := swings_len hb hg
  refine until47 hs (by omega) ?_
  obtain ⟨u, hu, hlu⟩ := lsW_cases (upTo t (swings b l))
  obtain ⟨u', hu', hlu'⟩ := lsW_cases (upTo t (swings b M))
  refine hlu _ (until47 hs' (by omega) (hlu' _ ?_))
  rw [← hc hb hf hg] at hu' ⊢
  exact same28 (Nat.le_trans (List.length_filter_le ..) (by omega)) hu hu' (onBool_bv h)
theorem nil24 {b : Bt} {Q : V → Prop} (h : K0G Try.prog glX 24 [.agg (bel b), .lst 3 (fdl [])] Q) : K0G Try.prog glX 24 [.agg (bel b), nilS] Q :=
  K0_args h (fun F w xs hx => by
    simp [riL, ri, fdl, riRows, nilS] at hx ⊢
    obtain ⟨x, h1, vs, h2, h3⟩ := hx
    exact ⟨x, _, h1, ⟨vs, h2, h3⟩, _, rfl, .inl rfl⟩)
end Go.Proofs.Ytmdimnmdoifkfaa
