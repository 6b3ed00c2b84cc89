/- The shape of a picture, by the program. -/
import Derived.Test.YtfhflfppebkmjaaDoorXQA
namespace Go.Proofs.YtfhflfppebkmjaaDoor
open Go Go.Proofs.YtfhflfppebkmjaaDoor.Clean
set_option linter.unusedVariables false
set_option linter.unusedSimpArgs false
set_option maxRecDepth 10000

theorem good_iff {q p : List Hu} {w : Int} : good q p w = true ↔ 1 ≤ w ∧ w ≤ 8 ∧ 1 ≤ (q.length : Int) ∧ (q.length : Int) ≤ 16 ∧ (q.length : Int).tmod w = 0 ∧ IntKind.i64.wrap ((q.length : Int).tdiv w) ≤ 8 ∧ 1 ≤ (p.length : Int) ∧ (p.length : Int) ≤ 15 := by
  simp only [good, Bool.and_eq_true, decide_eq_true_eq]
  constructor
  · rintro ⟨⟨⟨⟨⟨⟨⟨h1, h2⟩, h3⟩, h4⟩, h5⟩, h6⟩, h7⟩, h8⟩; exact ⟨h1, h2, h3, h4, h5, h6, h7, h8⟩
  · rintro ⟨h1, h2, h3, h4, h5, h6, h7, h8⟩; exact ⟨⟨⟨⟨⟨⟨⟨h1, h2⟩, h3⟩, h4⟩, h5⟩, h6⟩, h7⟩, h8⟩
theorem ul_snoc (l : List Int) (k : Nat) (c : Int) (hk : l.length = k) : List.take k (ul l) ++ [[V.raw (Value.int IntKind.u8 c)]] = ul (l ++ [c]) := by
  subst hk
  have : (ul l).length = l.length := by simp [ul]
  rw [← this, List.take_length]
  simp [ul, u8v]
theorem ul_sub (l : List Int) (k : Nat) (hk : l.length = k) : sub (ul l) 0 k = ul l := by
  subst hk
  have : (ul l).length = l.length := by simp [ul]
  rw [← this]
  simp [sub]
theorem take_col {q p : List Hu} {k : Nat} {x : Hu} (h : q[k]? = some x) : (q.map (col p)).take (k + 1) = (q.map (col p)).take k ++ [col p x] := by
  obtain ⟨hlt, he⟩ := List.getElem?_eq_some_iff.1 h
  rw [List.take_succ_eq_append_getElem (by simpa using hlt)]
  simp [he]
theorem len_col {q p : List Hu} {k : Nat} (h : k ≤ q.length) : ((q.map (col p)).take k).length = k := by simp; omega

/-- the tree of conditions: where it is not right, the error; else on -/
theorem conds {q p : List Hu} {w : Int} {E X : Prop} (hw1 hw2 hq1 hq2 hp1 hp2 : Bool)
    (e1 : hw1 = decide (1 ≤ w)) (e2 : hw2 = decide (w ≤ 8)) (e3 : hq1 = decide (1 ≤ (q.length : Int))) (e4 : hq2 = decide ((q.length : Int) ≤ 16)) (e5 : hp1 = decide (1 ≤ (p.length : Int))) (e6 : hp2 = decide ((p.length : Int) ≤ 15))
    (h1 : good q p w = true → X) (h2 : good q p w = false → E) :
    ifB hw1 (ifB (!hw2) E (ifB hq1 (ifB (!hq2) E (need (w ≠ (0 : Int)) (ifB (((hul q).length : Int).tmod w != (0 : Int)) E (need (w ≠ (0 : Int)) (ifB (decide (IntKind.i64.wrap (((hul q).length : Int).tdiv w) > (8 : Int))) E (ifB hp1 (ifB (!hp2) E (need (w ≠ (0 : Int)) X)) E)))))) E)) E := by
  subst e1; subst e2; subst e3; subst e4; subst e5; subst e6
  rw [hul_length]
  have bad : ¬ (good q p w = true) → E := fun h => h2 (Bool.eq_false_iff.2 h)
  rw [good_iff] at h1 bad
  refine ifB_mk (fun a1 => ?_) (fun a1 => bad fun g => by simp at a1; omega)
  refine ifB_mk (fun a2 => bad fun g => by simp at a2; omega) (fun a2 => ?_)
  refine ifB_mk (fun a3 => ?_) (fun a3 => bad fun g => by have := of_decide_eq_false a3; omega)
  refine ifB_mk (fun a4 => bad fun g => by simp at a4; omega) (fun a4 => ?_)
  have a1 := of_decide_eq_true a1
  have w0 : w ≠ 0 := by omega
  refine need_mk ⟨w0, ?_⟩
  refine ifB_mk (fun a5 => bad fun g => by rw [bne_iff_ne] at a5; exact a5 g.2.2.2.2.1) (fun a5 => ?_)
  refine need_mk ⟨w0, ?_⟩
  refine ifB_mk (fun a6 => bad fun g => by have := of_decide_eq_true a6; omega) (fun a6 => ?_)
  refine ifB_mk (fun a7 => ?_) (fun a7 => bad fun g => by have := of_decide_eq_false a7; omega)
  refine ifB_mk (fun a8 => bad fun g => by simp at a8; omega) (fun a8 => ?_)
  refine need_mk ⟨w0, h1 ⟨a1, ?_, of_decide_eq_true a3, ?_, ?_, ?_, of_decide_eq_true a7, ?_⟩⟩
  · simpa using a2
  · simp at a4; omega
  · simpa using a5
  · simpa using a6
  · simp at a8; omega

theorem paint4 {q p : List Hu} {w : Int} {R : V → Prop} (h1 : good q p w = true → R (okV q p w (q.map (col p)))) (h2 : good q p w = false → R errV) : K0G Tryd.prog glX 19 [.lst 3 (hul q), .lst 3 (hul p), iv w] R := by
  refine K0_of_WY0 hmX hcP 100 Tryd.func19 (see (p := ifB (decide ((1 : Int) ≤ w)) (ifB (!decide (w ≤ (8 : Int))) (R (V.tup [V.agg [iv (0 : Int), iv (0 : Int), iv (0 : Int), nilS], iv (2 : Int)])) (ifB (decide ((1 : Int) ≤ (↑(hul q).length : Int))) (ifB (!decide ((↑(hul q).length : Int) ≤ (16 : Int))) (R (V.tup [V.agg [iv (0 : Int), iv (0 : Int), iv (0 : Int), nilS], iv (2 : Int)])) (need (w ≠ (0 : Int)) (ifB ((↑(hul q).length : Int).tmod w != (0 : Int)) (R (V.tup [V.agg [iv (0 : Int), iv (0 : Int), iv (0 : Int), nilS], iv (2 : Int)])) (need (w ≠ (0 : Int)) (ifB (decide (IntKind.i64.wrap ((↑(hul q).length : Int).tdiv w) > (8 : Int))) (R (V.tup [V.agg [iv (0 : Int), iv (0 : Int), iv (0 : Int), nilS], iv (2 : Int)])) (ifB (decide ((1 : Int) ≤ (↑(hul p).length : Int))) (ifB (!decide ((↑(hul p).length : Int) ≤ (15 : Int))) (R (V.tup [V.agg [iv (0 : Int), iv (0 : Int), iv (0 : Int), nilS], iv (2 : Int)])) (need (w ≠ (0 : Int)) (La 0 [(1 : Tmp), (6 : Tmp), (9 : Tmp), (45 : Tmp), (46 : Tmp), (47 : Tmp)] (WY Tryd.prog cfP 91 (Env.mk 0 0 none 63 19 0) (cdAt [1, 1, 1, 1, 1, 0, 1, 0, 0] (bodyOf Tryd.f19))) (Qblk 0 (Qthen (WY Tryd.prog cfP 94 (Env.mk 0 0 none 63 19 0) (cdAt [1, 1, 1, 1, 1, 1] (bodyOf Tryd.f19)) (QendX Tryd.prog Tryd.f19 fun v h => R (frzW h v))) (QendX Tryd.prog Tryd.f19 fun v h => R (frzW h v)))) (St.mk (mkT [(1, V.lst 3 (hul p)), (6, V.ptr (Id.p 0) 0 0), (9, V.ptr (Id.p 1) 0 0), (45, V.lst 3 (hul q)), (46, iv (↑(hul q).length : Int)), (47, iv (0 : Int))]) (Hp.mk [(0, O.rows 4 false [[iv (0 : Int), iv (0 : Int), iv (0 : Int), nilS]]), (1, O.rows 4 false [[iv w, iv (IntKind.i64.wrap ((↑(hul q).length : Int).tdiv w)), iv (1 : Int), nilS]])] 2 []))))) (R (V.tup [V.agg [iv (0 : Int), iv (0 : Int), iv (0 : Int), nilS], iv (2 : Int)])))))))) (R (V.tup [V.agg [iv (0 : Int), iv (0 : Int), iv (0 : Int), nilS], iv (2 : Int)])))) (R (V.tup [V.agg [iv (0 : Int), iv (0 : Int), iv (0 : Int), nilS], iv (2 : Int)]))) (by kernel_rfl) ?_)
  refine conds _ _ _ _ _ _ rfl rfl (by rw [hul_length]) (by rw [hul_length]) (by rw [hul_length]) (by rw [hul_length]) (fun hg => ?_) h2
  obtain ⟨g1, g2, g3, g4, g5, g6, g7, g8⟩ := good_iff.1 hg
  have h1 := h1 hg
  refine La.of (σ := Nat) (fun k => match k with | 0 => sh4a q p w | k + 1 => sh4b q p w ((q.map (col p)).take (k + 1)) (k + 1)) (fun k => k ≤ q.length) (fun k => q.length - k) 0 (by kernel_rfl) (by omega) ?_
  rintro (_ | k) hk J hJ
  · refine see (p := ifB (decide ((0 : Int) < (↑(hul q).length : Int))) (onSome (hul q)[0]? fun row => onCons (List.drop 0 row) fun u r => onIntK IntKind.u8 u fun n => onCons r fun u r => onIntK IntKind.u8 u fun n_1 => onCons r fun u r => onIntK IntKind.u8 u fun n_2 => K0G Tryd.prog glX 59 [V.agg [V.raw (Value.int IntKind.u8 n), V.raw (Value.int IntKind.u8 n_1), V.raw (Value.int IntKind.u8 n_2)], V.lst 3 (hul p)] fun v => onIntK IntKind.i64 v fun n => J (St.mk (mkT [(1, V.lst 3 (hul p)), (6, V.ptr (Id.p 0) 0 0), (9, V.ptr (Id.p 1) 0 0), (45, V.lst 3 (hul q)), (46, iv (↑(hul q).length : Int)), (47, iv (1 : Int))]) (Hp.mk [(0, O.rows 4 false [[iv (0 : Int), iv (0 : Int), iv (0 : Int), nilS]]), (1, O.rows 4 false [[iv w, iv (IntKind.i64.wrap ((↑(hul q).length : Int).tdiv w)), iv (1 : Int), V.sl (Id.p 2) 0 1]]), (2, O.rows 1 true [[V.raw (Value.int IntKind.u8 (IntKind.u8.wrap (IntKind.i64.wrap (n + (1 : Int)))))]])] 3 []))) (R (V.tup [V.agg [iv w, iv (IntKind.i64.wrap ((↑(hul q).length : Int).tdiv w)), iv (1 : Int), nilS], iv (0 : Int)]))) (by kernel_rfl) ?_
    refine ifB_mk (fun hb => ?_) (fun hb => by rw [hul_length] at hb; have := of_decide_eq_false hb; omega)
    have hlt : 0 < q.length := by omega
    refine hel (getD_get hlt) (nearest8 (h := q.getD 0 (0, 0, 0)) (by omega) (onIntK_iv ?_))
    have := hJ 1 hlt (by simp; omega)
    simp only [Nat.zero_add] at this
    rw [take_col (getD_get hlt), List.take_zero, List.nil_append] at this
    exact this
  · refine see (p := ifB (decide ((↑(k + 1) : Int) < (↑(hul q).length : Int))) (onSome (hul q)[k + 1]? fun row => onCons (List.drop 0 row) fun u r => onIntK IntKind.u8 u fun n => onCons r fun u r => onIntK IntKind.u8 u fun n_1 => onCons r fun u r => onIntK IntKind.u8 u fun n_2 => K0G Tryd.prog glX 59 [V.agg [V.raw (Value.int IntKind.u8 n), V.raw (Value.int IntKind.u8 n_1), V.raw (Value.int IntKind.u8 n_2)], V.lst 3 (hul p)] fun v => onIntK IntKind.i64 v fun n_3 => need ((k + 1 + 1) * 1 ≤ 140737488355328) (J (St.mk (mkT [(1, V.lst 3 (hul p)), (6, V.ptr (Id.p 0) 0 0), (9, V.ptr (Id.p 1) 0 0), (45, V.lst 3 (hul q)), (46, iv (↑(hul q).length : Int)), (47, iv (IntKind.i64.wrap ((↑(k + 1) : Int) + (1 : Int))))]) (Hp.mk [(0, O.rows 4 false [[iv (0 : Int), iv (0 : Int), iv (0 : Int), nilS]]), (1, O.rows 4 false [[iv w, iv (IntKind.i64.wrap ((↑(hul q).length : Int).tdiv w)), iv (1 : Int), V.sl (Id.p 2) 0 (k + 1 + 1)]]), (2, O.rows 1 true (List.take (k + 1) (ul (List.take (k + 1) (List.map (col p) q))) ++ [[V.raw (Value.int IntKind.u8 (IntKind.u8.wrap (IntKind.i64.wrap (n_3 + (1 : Int)))))]]))] 3 [])))) (R (V.tup [V.agg [iv w, iv (IntKind.i64.wrap ((↑(hul q).length : Int).tdiv w)), iv (1 : Int), V.lst 1 (sub (ul (List.take (k + 1) (List.map (col p) q))) 0 (k + 1))], iv (0 : Int)]))) (by kernel_rfl) ?_
    have hlen := len_col (p := p) hk
    refine ifB_mk (fun hb => ?_) (fun hb => ?_)
    · have hlt : k + 1 < q.length := by rw [hul_length] at hb; have := of_decide_eq_true hb; omega
      refine hel (getD_get hlt) (nearest8 (h := q.getD (k + 1) (0, 0, 0)) (by omega) (onIntK_iv (need_mk ⟨by omega, ?_⟩)))
      have := hJ (k + 2) hlt (by omega)
      simp only at this
      rw [take_col (getD_get hlt)] at this
      rw [ul_snoc _ _ _ hlen, wr1 hlt (by omega)]
      exact this
    · have hk' : k + 1 = q.length := by rw [hul_length] at hb; have := of_decide_eq_false hb; omega
      rw [ul_sub _ _ hlen, hul_length, hk']
      rw [List.take_of_length_le (by simp)]
      exact h1
end Go.Proofs.YtfhflfppebkmjaaDoor
