/- The distance of hues, and the nearest one of a palette. -/
import Derived.Test.YtfhflfppebkmjaaDoorXQR
import Derived.Test.YtfhflfppebkmjaaDoorXCFaZ
namespace Go.Proofs.YtfhflfppebkmjaaDoor
open Go Go.Proofs.YtfhflfppebkmjaaDoor.Clean
set_option linter.unusedVariables false
set_option linter.unusedSimpArgs false
set_option maxRecDepth 10000

theorem hcP : cfP.ok Tryd.prog := cfgQ_ok knowsY_none
theorem hul_length (l : List Hu) : (hul l).length = l.length := by simp [hul]
theorem hul_get {l : List Hu} {m : Nat} {x : Hu} (h : l[m]? = some x) : (hul l)[m]? = some (hu x) := by simp [hul, h]
theorem hel {p : List Hu} {i : Nat} {x : Hu} {k : Int → Int → Int → Prop} (h : p[i]? = some x) (hk : k x.1 x.2.1 x.2.2) :
    onSome (hul p)[i]? fun row => onCons (List.drop 0 row) fun u r => onIntK IntKind.u8 u fun n => onCons r fun u r => onIntK IntKind.u8 u fun m => onCons r fun u r => onIntK IntKind.u8 u fun o => k n m o :=
  onSome_mk (hul_get h) hk

theorem dist11 {a b : Hu} {R : V → Prop} (h : R (iv (dist a b))) : K0G Tryd.prog glX 83 [.agg (hu a), .agg (hu b)] R := by
  refine K0_of_WY0 hmX hcP 100 Tryd.func83 (see (p := R (iv (IntKind.i64.wrap (IntKind.i64.wrap (IntKind.i64.wrap (IntKind.i64.wrap (IntKind.i64.wrap a.1 - IntKind.i64.wrap b.1) * IntKind.i64.wrap (IntKind.i64.wrap a.1 - IntKind.i64.wrap b.1)) + IntKind.i64.wrap (IntKind.i64.wrap (IntKind.i64.wrap a.2.1 - IntKind.i64.wrap b.2.1) * IntKind.i64.wrap (IntKind.i64.wrap a.2.1 - IntKind.i64.wrap b.2.1))) + IntKind.i64.wrap (IntKind.i64.wrap (IntKind.i64.wrap a.2.2 - IntKind.i64.wrap b.2.2) * IntKind.i64.wrap (IntKind.i64.wrap a.2.2 - IntKind.i64.wrap b.2.2)))))) (by kernel_rfl) ?_)
  exact h
theorem bst_lt {h : Hu} {p : List Hu} : ∀ {i : Nat}, i < p.length → bst h p i < p.length
  | 0, hi => hi
  | i + 1, hi => by
    simp only [bst]
    split
    · omega
    · exact bst_lt (by omega)
theorem getD_get {p : List Hu} {i : Nat} (h : i < p.length) : p[i]? = some (p.getD i (0, 0, 0)) := by simp [List.getD, h]
theorem wr1 {i n : Nat} (h : i < n) (hn : (n : Int) ≤ 9223372036854775807) : IntKind.i64.wrap ((i : Int) + 1) = ((i + 1 : Nat) : Int) := by rw [wr (by omega) (by omega)]; simp

theorem nearest8 {h : Hu} {p : List Hu} {R : V → Prop} (hp : (p.length : Int) ≤ 1000) (hR : R (iv (bst h p p.length : Int))) : K0G Tryd.prog glX 59 [.agg (hu h), .lst 3 (hul p)] R := by
  refine K0_of_WY0 hmX hcP 100 Tryd.func59 (see (p := La 0 [(1 : Tmp), (2 : Tmp), (5 : Tmp), (8 : Tmp), (9 : Tmp), (10 : Tmp)] (WY Tryd.prog cfP 94 (Env.mk 0 0 none 28 59 0) (cdAt [1, 1, 0, 1, 0, 0] (bodyOf Tryd.f59))) (Qblk 0 (Qthen (WY Tryd.prog cfP 97 (Env.mk 0 0 none 28 59 0) (cdAt [1, 1, 1] (bodyOf Tryd.f59)) (QendX Tryd.prog Tryd.f59 fun v h => R (frzW h v))) (QendX Tryd.prog Tryd.f59 fun v h => R (frzW h v)))) (St.mk (mkT [(1, V.lst 3 (hul p)), (2, V.ptr (Id.p 0) 0 0), (5, iv (0 : Int)), (8, V.lst 3 (hul p)), (9, iv (↑(hul p).length : Int)), (10, iv (0 : Int))]) (Hp.mk [(0, O.rows 3 false [[V.raw (Value.int IntKind.u8 h.1), V.raw (Value.int IntKind.u8 h.2.1), V.raw (Value.int IntKind.u8 h.2.2)]])] 1 []))) (by kernel_rfl) ?_)
  refine La.of (σ := Nat) (fun i => sh8 h p i (bst h p i)) (fun i => i ≤ p.length) (fun i => p.length - i) 0 (by kernel_rfl) (by omega) ?_
  rintro i hi J hJ
  refine see (p := ifB (decide ((↑i : Int) < (↑(hul p).length : Int))) (onSome (hul p)[i]? fun row => onCons (List.drop 0 row) fun u r => onIntK IntKind.u8 u fun n => onCons r fun u r => onIntK IntKind.u8 u fun n_1 => onCons r fun u r => onIntK IntKind.u8 u fun n_2 => onSome (hul p)[bst h p i]? fun row => onCons (List.drop 0 row) fun u r => onIntK IntKind.u8 u fun n_3 => onCons r fun u r => onIntK IntKind.u8 u fun n_4 => onCons r fun u r => onIntK IntKind.u8 u fun n_5 => K0G Tryd.prog glX 83 [V.agg [V.raw (Value.int IntKind.u8 h.1), V.raw (Value.int IntKind.u8 h.2.1), V.raw (Value.int IntKind.u8 h.2.2)], V.agg [V.raw (Value.int IntKind.u8 n), V.raw (Value.int IntKind.u8 n_1), V.raw (Value.int IntKind.u8 n_2)]] fun v => onIntK IntKind.i64 v fun n => K0G Tryd.prog glX 83 [V.agg [V.raw (Value.int IntKind.u8 h.1), V.raw (Value.int IntKind.u8 h.2.1), V.raw (Value.int IntKind.u8 h.2.2)], V.agg [V.raw (Value.int IntKind.u8 n_3), V.raw (Value.int IntKind.u8 n_4), V.raw (Value.int IntKind.u8 n_5)]] fun v => onIntK IntKind.i64 v fun n_6 => ifB (decide (n < n_6)) (J (St.mk (mkT [(1, V.lst 3 (hul p)), (2, V.ptr (Id.p 0) 0 0), (5, iv (↑i : Int)), (8, V.lst 3 (hul p)), (9, iv (↑(hul p).length : Int)), (10, iv (IntKind.i64.wrap ((↑i : Int) + (1 : Int))))]) (Hp.mk [(0, O.rows 3 false [[V.raw (Value.int IntKind.u8 h.1), V.raw (Value.int IntKind.u8 h.2.1), V.raw (Value.int IntKind.u8 h.2.2)]])] 1 []))) (J (St.mk (mkT [(1, V.lst 3 (hul p)), (2, V.ptr (Id.p 0) 0 0), (5, iv (↑(bst h p i) : Int)), (8, V.lst 3 (hul p)), (9, iv (↑(hul p).length : Int)), (10, iv (IntKind.i64.wrap ((↑i : Int) + (1 : Int))))]) (Hp.mk [(0, O.rows 3 false [[V.raw (Value.int IntKind.u8 h.1), V.raw (Value.int IntKind.u8 h.2.1), V.raw (Value.int IntKind.u8 h.2.2)]])] 1 [])))) (R (iv (↑(bst h p i) : Int)))) (by kernel_rfl) ?_
  refine ifB_mk (fun hb => ?_) (fun hb => ?_)
  · have hlt : i < p.length := by simpa [hul_length] using hb
    have hbl := bst_lt (h := h) hlt
    refine hel (getD_get hlt) (hel (getD_get hbl) (dist11 (a := h) (b := p.getD i (0, 0, 0)) (onIntK_iv (dist11 (a := h) (b := p.getD (bst h p i) (0, 0, 0)) (onIntK_iv ?_)))))
    have hs : bst h p (i + 1) = if dist h (p.getD i (0, 0, 0)) < dist h (p.getD (bst h p i) (0, 0, 0)) then i else bst h p i := rfl
    have := hJ (i + 1) hlt (by omega)
    rw [wr1 hlt (by omega)]
    refine ifB_mk (fun hc => ?_) (fun hc => ?_)
    · rw [if_pos (of_decide_eq_true hc)] at hs
      rw [hs] at this
      exact this
    · rw [if_neg (of_decide_eq_false hc)] at hs
      rw [hs] at this
      exact this
  · have : ¬ i < p.length := by simpa [hul_length] using hb
    have hi' : i = p.length := by omega
    subst hi'
    exact hR
end Go.Proofs.YtfhflfppebkmjaaDoor
