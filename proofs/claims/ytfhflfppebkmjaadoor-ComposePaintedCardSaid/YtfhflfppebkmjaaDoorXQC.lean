/- Each cell of a painted picture has the colour of the nearest hue, and the first of those. -/
import Derived.Test.YtfhflfppebkmjaaDoorXQB
namespace Go.Proofs.YtfhflfppebkmjaaDoor
open Go Go.Proofs.YtfhflfppebkmjaaDoor.Clean
set_option linter.unusedVariables false
set_option linter.unusedSimpArgs false
set_option maxRecDepth 10000

theorem ifB_t {b : Bool} {p q : Prop} (hb : b = true) (h : p) : ifB b p q := by subst hb; exact h
theorem ifB_f {b : Bool} {p q : Prop} (hb : b = false) (h : q) : ifB b p q := by subst hb; exact h
theorem use {f : FuncId} {a : List V} {r : V} {R : V → Prop} (h : K0G Tryd.prog glX f a fun v => v = r) (hr : R r) : K0G Tryd.prog glX f a R := h.mono' fun v e => by cases e; exact hr
theorem alive : K0G Tryd.prog glX 18 [] fun v => v = bv true := t5
theorem ww (x : Int) : IntKind.i64.wrap (IntKind.i64.wrap x) = IntKind.i64.wrap x := by simp only [IntKind.wrap_i64]; omega
theorem far48 {a b : Hu} {R : V → Prop} (h : R (iv (dist a b))) : K0G Tryd.prog glX 48 [.agg (hu a), .agg (hu b)] R := by
  refine K0_of_WY0 hmX hcP 100 Tryd.func48 (see (p := R (iv (IntKind.i64.wrap (IntKind.i64.wrap (IntKind.i64.wrap ((0 : Int) + IntKind.i64.wrap (IntKind.i64.wrap (IntKind.i64.wrap a.1 - IntKind.i64.wrap b.1) * IntKind.i64.wrap (IntKind.i64.wrap a.1 - IntKind.i64.wrap b.1))) + IntKind.i64.wrap (IntKind.i64.wrap (IntKind.i64.wrap a.2.1 - IntKind.i64.wrap b.2.1) * IntKind.i64.wrap (IntKind.i64.wrap a.2.1 - IntKind.i64.wrap b.2.1))) + IntKind.i64.wrap (IntKind.i64.wrap (IntKind.i64.wrap a.2.2 - IntKind.i64.wrap b.2.2) * IntKind.i64.wrap (IntKind.i64.wrap a.2.2 - IntKind.i64.wrap b.2.2)))))) (by kernel_rfl) ?_)
  rw [Int.zero_add, ww]
  exact h
theorem ul_length (l : List Int) : (ul l).length = l.length := by simp [ul]
theorem ul_get {l : List Int} {m : Nat} {x : Int} (h : l[m]? = some x) : (ul l)[m]? = some [u8v x] := by simp [ul, h]
theorem uel {l : List Int} {i : Nat} {x : Int} {k : Int → Prop} (h : l[i]? = some x) (hk : k x) :
    onSome (ul l)[i]? fun row => onSome row[0]? fun v => onIntK IntKind.u8 v fun n => k n := onSome_mk (ul_get h) hk
theorem getI {l : List Int} {i : Nat} (h : i < l.length) : l[i]? = some (l.getD i 0) := by simp [List.getD, h]
theorem memI {l : List Int} {i : Nat} (h : i < l.length) : l.getD i 0 ∈ l := by
  have := List.mem_of_getElem? (getI h)
  exact this
theorem full57 {w d h : Int} {l : List Int} {R : V → Prop} (hl : ∀ x ∈ l, x ≠ 0) (hn : l.length ≤ 1000) (hR : R (iv (l.length : Int))) : K0G Tryd.prog glX 57 [.agg [iv w, iv d, iv h, .lst 1 (ul l)]] R := by
  refine K0_of_WY0 hmX hcP 100 Tryd.func57 (see (p := La 0 [(3 : Tmp), (7 : Tmp), (8 : Tmp), (9 : Tmp)] (WY Tryd.prog cfP 94 (Env.mk 0 0 none 19 57 0) (cdAt [1, 1, 0, 1, 0, 0] (bodyOf Tryd.f57))) (Qblk 0 (Qthen (WY Tryd.prog cfP 97 (Env.mk 0 0 none 19 57 0) (cdAt [1, 1, 1] (bodyOf Tryd.f57)) (QendX Tryd.prog Tryd.f57 fun v h => R (frzW h v))) (QendX Tryd.prog Tryd.f57 fun v h => R (frzW h v)))) (St.mk (mkT [(3, iv (0 : Int)), (7, V.lst 1 (ul l)), (8, iv (↑(ul l).length : Int)), (9, iv (0 : Int))]) (Hp.mk [] 0 []))) (by kernel_rfl) ?_)
  refine La.of (σ := Nat) (fun i => sh57 l (i : Int) i) (fun i => i ≤ l.length) (fun i => l.length - i) 0 (by kernel_rfl) (by omega) ?_
  rintro i hi J hJ
  refine see (p := ifB (decide ((↑i : Int) < (↑(ul l).length : Int))) (onSome (ul l)[i]? fun row => onSome row[0]? fun v => onIntK IntKind.u8 v fun n => ifB (n != (0 : Int)) (J (St.mk (mkT [(3, iv (IntKind.i64.wrap ((↑i : Int) + (1 : Int)))), (7, V.lst 1 (ul l)), (8, iv (↑(ul l).length : Int)), (9, iv (IntKind.i64.wrap ((↑i : Int) + (1 : Int))))]) (Hp.mk [] 0 []))) (J (St.mk (mkT [(3, iv (↑i : Int)), (7, V.lst 1 (ul l)), (8, iv (↑(ul l).length : Int)), (9, iv (IntKind.i64.wrap ((↑i : Int) + (1 : Int))))]) (Hp.mk [] 0 [])))) (R (iv (↑i : Int)))) (by kernel_rfl) ?_
  rw [ul_length]
  refine ifB_mk (fun hb => ?_) (fun hb => ?_)
  · have hlt : i < l.length := by have := of_decide_eq_true hb; omega
    refine uel (getI hlt) (ifB_t (by simpa using hl _ (memI hlt)) ?_)
    have := hJ (i + 1) hlt (by omega)
    rw [wr1 hlt (by omega)]
    simp only [sh57, ul_length] at this
    exact this
  · have : i = l.length := by have := of_decide_eq_false hb; omega
    subst this
    exact hR
theorem check28 {w d h : Int} {l : List Int} {R : V → Prop} (hw : 1 ≤ w ∧ w ≤ 8) (hd : 1 ≤ d ∧ d ≤ 8) (hh : 1 ≤ h ∧ h ≤ 4) (hn : 1 ≤ l.length ∧ l.length ≤ 16) (he : (l.length : Int) = IntKind.i64.wrap (IntKind.i64.wrap (w * d) * h)) (hl : ∀ x ∈ l, 1 ≤ x ∧ x ≤ 15) (hR : R (iv 0)) : K0G Tryd.prog glX 28 [.agg [iv w, iv d, iv h, .lst 1 (ul l)]] R := by
  refine K0_of_WY0 hmX hcP 100 Tryd.func28 (see (p := ifB (decide ((1 : Int) ≤ w)) (ifB (!decide (w ≤ (8 : Int))) (R (iv (70 : Int))) (ifB (decide ((1 : Int) ≤ d)) (ifB (!decide (d ≤ (8 : Int))) (R (iv (70 : Int))) (ifB (decide ((1 : Int) ≤ h)) (ifB (!decide (h ≤ (4 : Int))) (R (iv (70 : Int))) (ifB ((↑(ul l).length : Int) != IntKind.i64.wrap (IntKind.i64.wrap (w * d) * h)) (R (iv (70 : Int))) (K0G Tryd.prog glX 57 [V.agg [iv w, iv d, iv h, V.lst 1 (ul l)]] fun v => onIntK IntKind.i64 v fun n => ifB (decide ((1 : Int) ≤ n)) (ifB (!decide (n ≤ (16 : Int))) (R (iv (70 : Int))) (La 0 [(40 : Tmp), (41 : Tmp), (42 : Tmp)] (WY Tryd.prog cfP 93 (Env.mk 0 0 none 49 28 0) (cdAt [1, 1, 1, 0, 1, 0, 0] (bodyOf Tryd.f28))) (Qblk 0 (Qthen (WY Tryd.prog cfP 96 (Env.mk 0 0 none 49 28 0) (cdAt [1, 1, 1, 1] (bodyOf Tryd.f28)) (QendX Tryd.prog Tryd.f28 fun v h => R (frzW h v))) (QendX Tryd.prog Tryd.f28 fun v h => R (frzW h v)))) (St.mk (mkT [(40, V.lst 1 (ul l)), (41, iv (↑(ul l).length : Int)), (42, iv (0 : Int))]) (Hp.mk [] 0 [])))) (R (iv (70 : Int)))))) (R (iv (70 : Int))))) (R (iv (70 : Int))))) (R (iv (70 : Int)))) (by kernel_rfl) ?_)
  refine ifB_t (by simp; omega) (ifB_f (by simp; omega) (ifB_t (by simp; omega) (ifB_f (by simp; omega) (ifB_t (by simp; omega) (ifB_f (by simp; omega) (ifB_f (by rw [ul_length, he]; simp) ?_))))))
  refine full57 (fun x hx => by have := hl x hx; omega) (by omega) (onIntK_iv ?_)
  refine ifB_t (by simp; omega) (ifB_f (by simp; omega) ?_)
  refine La.of (σ := Nat) (fun i => sh28 l i) (fun i => i ≤ l.length) (fun i => l.length - i) 0 (by kernel_rfl) (by omega) ?_
  rintro i hi J hJ
  refine see (p := ifB (decide ((↑i : Int) < (↑(ul l).length : Int))) (onSome (ul l)[i]? fun row => onSome row[0]? fun v => onIntK IntKind.u8 v fun n => ifB (decide (n > (15 : Int))) (R (iv (70 : Int))) (J (St.mk (mkT [(40, V.lst 1 (ul l)), (41, iv (↑(ul l).length : Int)), (42, iv (IntKind.i64.wrap ((↑i : Int) + (1 : Int))))]) (Hp.mk [] 0 [])))) (R (iv (0 : Int)))) (by kernel_rfl) ?_
  refine ifB_mk (fun hb => ?_) (fun hb => ?_)
  · have hlt : i < l.length := by rw [ul_length] at hb; have := of_decide_eq_true hb; omega
    refine uel (getI hlt) (ifB_f (decide_eq_false (by have := hl _ (memI hlt); omega)) ?_)
    have := hJ (i + 1) hlt (by omega)
    rw [wr1 hlt (by omega)]
    exact this
  · exact hR

theorem bst_le {h : Hu} {p : List Hu} : ∀ i, bst h p i ≤ i
  | 0 => Nat.le_refl 0
  | i + 1 => by
    have := bst_le (h := h) (p := p) i
    simp only [bst]
    split <;> omega
theorem bst_min {h : Hu} {p : List Hu} : ∀ (i k : Nat), k < i → dist h (p.getD (bst h p i) (0, 0, 0)) ≤ dist h (p.getD k (0, 0, 0)) ∧ (k < bst h p i → dist h (p.getD (bst h p i) (0, 0, 0)) < dist h (p.getD k (0, 0, 0)))
  | i + 1, k, hk => by
    have hle := bst_le (h := h) (p := p) i
    have hs : bst h p (i + 1) = if dist h (p.getD i (0, 0, 0)) < dist h (p.getD (bst h p i) (0, 0, 0)) then i else bst h p i := rfl
    by_cases hc : dist h (p.getD i (0, 0, 0)) < dist h (p.getD (bst h p i) (0, 0, 0))
    · rw [if_pos hc] at hs
      rw [hs]
      by_cases hki : k = i
      · subst hki
        exact ⟨Int.le_refl _, fun h => absurd h (Nat.lt_irrefl _)⟩
      · have := (bst_min (h := h) (p := p) i k (by omega)).1
        exact ⟨by omega, fun _ => by omega⟩
    · rw [if_neg hc] at hs
      rw [hs]
      by_cases hki : k = i
      · subst hki
        exact ⟨by omega, fun h => by omega⟩
      · exact bst_min i k (by omega)
theorem wr8 {n : Int} (h : 0 ≤ n) (h' : n ≤ 255) : IntKind.u8.wrap n = n := by rw [IntKind.wrap_u8]; omega
theorem col_eq {h : Hu} {p : List Hu} (h1 : 1 ≤ p.length) (h2 : p.length ≤ 15) : col p h = (bst h p p.length : Int) + 1 ∧ bst h p p.length < p.length := by
  have := bst_lt (h := h) (p := p) (i := p.length - 1) (by omega)
  have hb : bst h p p.length < p.length := by
    have hl := bst_lt (h := h) (p := p) (i := p.length - 1) (by omega)
    obtain ⟨n, hn⟩ : ∃ n, p.length = n + 1 := ⟨p.length - 1, by omega⟩
    rw [hn] at hl ⊢
    simp only [Nat.add_sub_cancel] at hl
    simp only [bst]
    split <;> omega
  refine ⟨?_, hb⟩
  unfold col colN
  rw [wr (by omega) (by omega), wr8 (by omega) (by omega)]

theorem law12 {q p : List Hu} {w : Int} {R : V → Prop} (hR : R (bv true)) : K0G Tryd.prog glX 12 [.lst 3 (hul q), .lst 3 (hul p), iv w] R := by
  refine K0_of_WY0 hmX hcP 100 Tryd.func12 (see (p := K0G Tryd.prog glX 18 [] fun v => onBool v fun b => ifB (decide ((↑(hul q).length : Int) > (100 : Int))) (R (bv b)) (ifB (decide ((↑(hul p).length : Int) > (30 : Int))) (R (bv b)) (ifB (!b) (R (bv b)) (K0G Tryd.prog glX 19 [V.lst 3 (hul q), V.lst 3 (hul p), iv w] fun v => onTup v fun vs => onCons vs fun u r => onAgg u fun cs => onCons cs fun u r_1 => onIntK IntKind.i64 u fun n => onCons r_1 fun u r_2 => onIntK IntKind.i64 u fun n_1 => onCons r_2 fun u r_3 => onIntK IntKind.i64 u fun n_2 => onCons r_3 fun u r_4 => onLst u fun s es => onNil r_4 (onCons r fun u r => onIntK IntKind.i64 u fun n_3 => onNil r (ifB (n_3 != (0 : Int)) (ifB b (R (bv ((↑es.length : Int) == (0 : Int)))) (R (bv false))) (K0G Tryd.prog glX 28 [V.agg [iv n, iv n_1, iv n_2, V.lst s es]] fun v => onIntK IntKind.i64 v fun n_4 => ifB (n_4 != (0 : Int)) (R (bv false)) (ifB ((↑es.length : Int) != (↑(hul q).length : Int)) (R (bv false)) (ifB (n != w) (R (bv false)) (ifB (n_2 != (1 : Int)) (R (bv false)) (La 0 [(0 : Tmp), (1 : Tmp), (7 : Tmp), (69 : Tmp), (70 : Tmp), (71 : Tmp)] (WY Tryd.prog cfP 90 (Env.mk 0 0 none 126 12 0) (cdAt [1, 1, 1, 1, 1, 1, 0, 1, 0, 0] (bodyOf Tryd.f12))) (Qblk 0 (Qthen (WY Tryd.prog cfP 93 (Env.mk 0 0 none 126 12 0) (cdAt [1, 1, 1, 1, 1, 1, 1] (bodyOf Tryd.f12)) (QendX Tryd.prog Tryd.f12 fun v h => R (frzW h v))) (QendX Tryd.prog Tryd.f12 fun v h => R (frzW h v)))) (St.mk (mkT [(0, V.lst 3 (hul q)), (1, V.lst 3 (hul p)), (7, bv b), (69, V.lst s es), (70, iv (↑es.length : Int)), (71, iv (0 : Int))]) (Hp.mk [] 0 []))))))))))))) (by kernel_rfl) ?_)
  refine use alive (onBool_bv ?_)
  refine ifB_mk (fun _ => hR) fun a1 => ifB_mk (fun _ => hR) fun a2 => ifB_f rfl ?_
  refine paint4 (fun hg => ?_) (fun hg => ?_)
  · refine (onTup_tup (onCons_cons (onAgg_agg (onCons_cons (onIntK_iv (onCons_cons (onIntK_iv (onCons_cons (onIntK_iv (onCons_cons (onLst_lst (onNil_nil (onCons_cons (onIntK_iv (onNil_nil (?_))))))))))))))))
    obtain ⟨g1, g2, g3, g4, g5, g6, g7, g8⟩ := good_iff.1 hg
    have hp1 : 1 ≤ p.length := by omega
    have hp2 : p.length ≤ 15 := by omega
    have hll : (q.map (col p)).length = q.length := by simp
    have hm := Int.mul_tdiv_add_tmod (q.length : Int) w
    rw [g5, Int.add_zero] at hm
    have t0 : 0 ≤ (q.length : Int).tdiv w := Int.tdiv_nonneg (by omega) (by omega)
    have t1 : (q.length : Int).tdiv w ≤ w * (q.length : Int).tdiv w := by
      have := Int.mul_le_mul_of_nonneg_right g1 t0
      rwa [Int.one_mul] at this
    have t2 : (q.length : Int).tdiv w ≠ 0 := fun h => by rw [h, Int.mul_zero] at hm; omega
    have hwr : IntKind.i64.wrap ((q.length : Int).tdiv w) = (q.length : Int).tdiv w := wr (by omega) (by omega)
    rw [hwr] at g6 ⊢
    refine ifB_f rfl (check28 ⟨g1, g2⟩ ⟨by omega, g6⟩ ⟨by omega, by omega⟩ ⟨by omega, by omega⟩ (by rw [hm, Int.mul_one, hll, ww, wr (by omega) (by omega)]) (fun x hx => ?_) (onIntK_iv ?_))
    · obtain ⟨h, _, rfl⟩ := List.mem_map.1 hx
      obtain ⟨e1, e2⟩ := col_eq (h := h) hp1 hp2
      omega
    refine ifB_f rfl (ifB_f (by rw [ul_length, hul_length, hll]; simp) (ifB_f (by simp) (ifB_f rfl ?_)))
    refine La.of (σ := Nat) (fun i => sh12a q p (q.map (col p)) i) (fun i => i ≤ q.length) (fun i => q.length - i) 0 (by kernel_rfl) (by omega) ?_
    rintro i hi J hJ
    refine see (p := ifB (decide ((↑i : Int) < (↑(ul (List.map (col p) q)).length : Int))) (onSome (ul (List.map (col p) q))[i]? fun row => onSome row[0]? fun v => onIntK IntKind.u8 v fun n => ifB (decide (n < (1 : Int))) (R (bv false)) (ifB (decide (IntKind.i64.wrap n > (↑(hul p).length : Int))) (R (bv false)) (onSome (hul q)[i]? fun row => onCons (List.drop 0 row) fun u r => onIntK IntKind.u8 u fun n_1 => onCons r fun u r => onIntK IntKind.u8 u fun n_2 => onCons r fun u r => onIntK IntKind.u8 u fun n_3 => onNat (IntKind.u8.wrap (n - (1 : Int))) fun m => onSome (hul p)[m]? fun row => onCons (List.drop 0 row) fun u r => onIntK IntKind.u8 u fun n_4 => onCons r fun u r => onIntK IntKind.u8 u fun n_5 => onCons r fun u r => onIntK IntKind.u8 u fun n_6 => K0G Tryd.prog glX 48 [V.agg [V.raw (Value.int IntKind.u8 n_1), V.raw (Value.int IntKind.u8 n_2), V.raw (Value.int IntKind.u8 n_3)], V.agg [V.raw (Value.int IntKind.u8 n_4), V.raw (Value.int IntKind.u8 n_5), V.raw (Value.int IntKind.u8 n_6)]] fun v => onIntK IntKind.i64 v fun n_7 => La 0 [(0 : Tmp), (1 : Tmp), (7 : Tmp), (10 : Tmp), (11 : Tmp), (12 : Tmp), (69 : Tmp), (70 : Tmp), (71 : Tmp), (95 : Tmp), (96 : Tmp), (97 : Tmp)] (WY Tryd.prog cfP 80 (Env.mk 0 0 none 126 12 2) (cdAt [1, 1, 1, 1, 1, 1, 0, 1, 0, 0, 1, 1, 0, 0, 1, 1, 1, 1, 0, 0] (bodyOf Tryd.f12))) (Qblk 2 (Qblk 1 (Qthen (WY Tryd.prog cfP 87 (Env.mk 0 0 none 126 12 0) (cdAt [1, 1, 1, 1, 1, 1, 0, 1, 0, 0, 1, 1, 1] (bodyOf Tryd.f12)) (Qla 0 [(0 : Tmp), (1 : Tmp), (7 : Tmp), (69 : Tmp), (70 : Tmp), (71 : Tmp)] J (Qblk 0 (Qthen (WY Tryd.prog cfP 93 (Env.mk 0 0 none 126 12 0) (cdAt [1, 1, 1, 1, 1, 1, 1] (bodyOf Tryd.f12)) (QendX Tryd.prog Tryd.f12 fun v h => R (frzW h v))) (QendX Tryd.prog Tryd.f12 fun v h => R (frzW h v)))))) (Qla 0 [(0 : Tmp), (1 : Tmp), (7 : Tmp), (69 : Tmp), (70 : Tmp), (71 : Tmp)] J (Qblk 0 (Qthen (WY Tryd.prog cfP 93 (Env.mk 0 0 none 126 12 0) (cdAt [1, 1, 1, 1, 1, 1, 1] (bodyOf Tryd.f12)) (QendX Tryd.prog Tryd.f12 fun v h => R (frzW h v))) (QendX Tryd.prog Tryd.f12 fun v h => R (frzW h v)))))))) (St.mk (mkT [(0, V.lst 3 (hul q)), (1, V.lst 3 (hul p)), (7, bv true), (10, iv (↑i : Int)), (11, V.raw (Value.int IntKind.u8 n)), (12, iv n_7), (69, V.lst 1 (ul (List.map (col p) q))), (70, iv (↑(ul (List.map (col p) q)).length : Int)), (71, iv (↑i : Int)), (95, V.lst 3 (hul p)), (96, iv (↑(hul p).length : Int)), (97, iv (0 : Int))]) (Hp.mk [] 0 []))))) (R (bv true))) (by kernel_rfl) ?_
    refine ifB_mk (fun hb => ?_) (fun hb => hR)
    have hlt : i < q.length := by rw [ul_length, hll] at hb; have := of_decide_eq_true hb; omega
    have hgi := getD_get hlt
    obtain ⟨e1, e2⟩ := col_eq (h := q.getD i (0, 0, 0)) hp1 hp2
    have hci : (q.map (col p))[i]? = some (col p (q.getD i (0, 0, 0))) := by rw [List.getElem?_map, hgi]; rfl
    have hc1 : IntKind.u8.wrap (col p (q.getD i (0, 0, 0)) - 1) = ((bst (q.getD i (0, 0, 0)) p p.length : Nat) : Int) := by rw [e1, wr8 (by omega) (by omega)]; omega
    have hc2 : IntKind.i64.wrap (col p (q.getD i (0, 0, 0))) = col p (q.getD i (0, 0, 0)) := wr (by omega) (by omega)
    refine uel hci (ifB_f (decide_eq_false (by omega)) (ifB_f (decide_eq_false (by rw [hc2, hul_length]; omega)) ?_))
    refine hel hgi (onNat_mk hc1 (hel (getD_get e2) (far48 (a := q.getD i (0, 0, 0)) (b := p.getD (bst (q.getD i (0, 0, 0)) p p.length) (0, 0, 0)) (onIntK_iv ?_))))
    refine La.of (σ := Nat) (fun k => sh12b q p (q.map (col p)) (col p (q.getD i (0, 0, 0))) (dist (q.getD i (0, 0, 0)) (p.getD (bst (q.getD i (0, 0, 0)) p p.length) (0, 0, 0))) i k) (fun k => k ≤ p.length) (fun k => p.length - k) 0 (by kernel_rfl) (by omega) ?_
    rintro k hk I hI
    refine see (p := ifB (decide ((↑k : Int) < (↑(hul p).length : Int))) (onSome (hul p)[k]? fun row => onCons (List.drop 0 row) fun u r => onIntK IntKind.u8 u fun n => onCons r fun u r => onIntK IntKind.u8 u fun n_1 => onCons r fun u r => onIntK IntKind.u8 u fun n_2 => onSome (hul q)[i]? fun row => onCons (List.drop 0 row) fun u r => onIntK IntKind.u8 u fun n_3 => onCons r fun u r => onIntK IntKind.u8 u fun n_4 => onCons r fun u r => onIntK IntKind.u8 u fun n_5 => K0G Tryd.prog glX 48 [V.agg [V.raw (Value.int IntKind.u8 n_3), V.raw (Value.int IntKind.u8 n_4), V.raw (Value.int IntKind.u8 n_5)], V.agg [V.raw (Value.int IntKind.u8 n), V.raw (Value.int IntKind.u8 n_1), V.raw (Value.int IntKind.u8 n_2)]] fun v => onIntK IntKind.i64 v fun n => ifB (decide (n < dist (q.getD i ((0 : Int), (0 : Int), (0 : Int))) (p.getD (bst (q.getD i ((0 : Int), (0 : Int), (0 : Int))) p p.length) ((0 : Int), (0 : Int), (0 : Int))))) (R (bv false)) (ifB (n == dist (q.getD i ((0 : Int), (0 : Int), (0 : Int))) (p.getD (bst (q.getD i ((0 : Int), (0 : Int), (0 : Int))) p p.length) ((0 : Int), (0 : Int), (0 : Int)))) (ifB (decide ((↑k : Int) < IntKind.i64.wrap (IntKind.i64.wrap (col p (q.getD i ((0 : Int), (0 : Int), (0 : Int)))) - (1 : Int)))) (R (bv false)) (I (St.mk (mkT [(0, V.lst 3 (hul q)), (1, V.lst 3 (hul p)), (7, bv true), (10, iv (↑i : Int)), (11, V.raw (Value.int IntKind.u8 (col p (q.getD i ((0 : Int), (0 : Int), (0 : Int)))))), (12, iv (dist (q.getD i ((0 : Int), (0 : Int), (0 : Int))) (p.getD (bst (q.getD i ((0 : Int), (0 : Int), (0 : Int))) p p.length) ((0 : Int), (0 : Int), (0 : Int))))), (69, V.lst 1 (ul (List.map (col p) q))), (70, iv (↑(ul (List.map (col p) q)).length : Int)), (71, iv (↑i : Int)), (95, V.lst 3 (hul p)), (96, iv (↑(hul p).length : Int)), (97, iv (IntKind.i64.wrap ((↑k : Int) + (1 : Int))))]) (Hp.mk [] 0 [])))) (I (St.mk (mkT [(0, V.lst 3 (hul q)), (1, V.lst 3 (hul p)), (7, bv true), (10, iv (↑i : Int)), (11, V.raw (Value.int IntKind.u8 (col p (q.getD i ((0 : Int), (0 : Int), (0 : Int)))))), (12, iv (dist (q.getD i ((0 : Int), (0 : Int), (0 : Int))) (p.getD (bst (q.getD i ((0 : Int), (0 : Int), (0 : Int))) p p.length) ((0 : Int), (0 : Int), (0 : Int))))), (69, V.lst 1 (ul (List.map (col p) q))), (70, iv (↑(ul (List.map (col p) q)).length : Int)), (71, iv (↑i : Int)), (95, V.lst 3 (hul p)), (96, iv (↑(hul p).length : Int)), (97, iv (IntKind.i64.wrap ((↑k : Int) + (1 : Int))))]) (Hp.mk [] 0 []))))) (J (St.mk (mkT [(0, V.lst 3 (hul q)), (1, V.lst 3 (hul p)), (7, bv true), (69, V.lst 1 (ul (List.map (col p) q))), (70, iv (↑(ul (List.map (col p) q)).length : Int)), (71, iv (IntKind.i64.wrap ((↑i : Int) + (1 : Int))))]) (Hp.mk [] 0 [])))) (by kernel_rfl) ?_
    refine ifB_mk (fun hd => ?_) (fun hd => ?_)
    · have hkl : k < p.length := by rw [hul_length] at hd; have := of_decide_eq_true hd; omega
      obtain ⟨m1, m2⟩ := bst_min (h := q.getD i (0, 0, 0)) (p := p) p.length k hkl
      have hnext := hI (k + 1) hkl (by omega)
      refine hel (getD_get hkl) (hel hgi (far48 (a := q.getD i (0, 0, 0)) (b := p.getD k (0, 0, 0)) (onIntK_iv ?_)))
      rw [wr1 hkl (by omega)]
      refine ifB_f (decide_eq_false (by omega)) (ifB_mk (fun he => ?_) (fun _ => hnext))
      have he' : dist (q.getD i (0, 0, 0)) (p.getD k (0, 0, 0)) = dist (q.getD i (0, 0, 0)) (p.getD (bst (q.getD i (0, 0, 0)) p p.length) (0, 0, 0)) := by simpa using he
      have hnk : ¬ k < bst (q.getD i (0, 0, 0)) p p.length := fun h => by have := m2 h; omega
      refine ifB_f ?_ hnext
      rw [hc2, wr (by omega) (by omega)]
      exact decide_eq_false (by omega)
    · rw [wr1 hlt (by omega)]
      exact hJ (i + 1) hlt (by omega)
  · refine (onTup_tup (onCons_cons (onAgg_agg (onCons_cons (onIntK_iv (onCons_cons (onIntK_iv (onCons_cons (onIntK_iv (onCons_cons (onLst_nil (onNil_nil (onCons_cons (onIntK_iv (onNil_nil (?_))))))))))))))))
    exact ifB_t rfl (ifB_t rfl hR)
end Go.Proofs.YtfhflfppebkmjaaDoor
