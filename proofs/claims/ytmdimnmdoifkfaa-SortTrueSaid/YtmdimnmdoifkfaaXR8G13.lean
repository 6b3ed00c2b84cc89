/- A part of the proof. -/
import Derived.Test.YtmdimnmdoifkfaaProg
import Derived.Test.YtmdimnmdoifkfaaXR8G10
import Derived.Test.YtmdimnmdoifkfaaXR8G11
import Derived.Test.YtmdimnmdoifkfaaXR8G12
namespace Go.Proofs.Ytmdimnmdoifkfaa
open Go Go.Proofs.Ytmdimnmdoifkfaa.Clean
set_option linter.unusedVariables false
set_option maxRecDepth 100000
abbrev Sw := Int × Int × Bool
def swr (x : Sw) : List V := [iv x.1, iv x.2.1, bv x.2.2]
def swl (l : List Sw) : List (List V) := l.map swr
def kpV : FuncId → Nat → Option (List Tmp) := slotsOf [(64, 0, [0, 2, 4, 7]), (90, 0, [0, 1, 2]), (90, 2, [0, 1, 2, 4])]
noncomputable def cfV : Cfg := cfgM Try.prog glX moT tyT (inN [54, 94, 93, 109]) kpV
def moI (f : FuncId) : Nat := bif inN [64] f then 3 else 0
noncomputable def postI (f : FuncId) (args : List V) (h : Hp) (us : Us) : Hp := match args with
  | .sl _ _ _ :: .agg x :: _ => ⟨[(3, O.rows 3 true (us.getD 0 [])), (2, O.rows 3 true [x]), (1, O.rows 3 false [x])], 4, []⟩
  | _ :: .agg x :: _ => ⟨[(2, O.rows 3 true (us.getD 0 [])), (1, O.rows 3 true [x]), (0, O.rows 3 false [x])], 3, []⟩
  | _ => h
def rtI (f : FuncId) (args : List V) (us : Us) (v : V) (k : V → Prop) : Prop := match args with
  | .sl _ _ n :: _ => sameV v (.sl (.p 3) 0 (n + 1)) (k (.sl (.p 3) 0 (n + 1)))
  | _ => sameV v (.sl (.p 2) 0 1) (k (.sl (.p 2) 0 1))
noncomputable def cfI : Cfg := cfgG Try.prog glX moI postI rtI (inN [57, 58, 90, 63]) kpV
noncomputable def cfIS : Cfg := { cfI with clean := fun g => !inN [90] g }
noncomputable def sh64 (l : List Sw) (x : Sw) (k : Nat) : St := ⟨mkT [(0, V.sl (Id.p 0) 0 l.length), (2, V.fn (Fn.func 65) [] []), (4, V.ptr (Id.p 1) 0 0), (7, iv (k : Int))], ⟨[(0, O.rows 3 true (swl l)), (1, O.rows 3 false [swr x])], 2, []⟩⟩
noncomputable def sh64n (x : Sw) (k : Nat) : St := ⟨mkT [(0, nilS), (2, V.fn (Fn.func 65) [] []), (4, V.ptr (Id.p 0) 0 0), (7, iv (k : Int))], ⟨[(0, O.rows 3 false [swr x])], 1, []⟩⟩
noncomputable def rec24 (b : Bt) (l : List Fd) (n n' : Int) : Lr := Lr.mk LoopState.ready none (mkT [(0, V.agg (bel b)), (1, V.lst 3 (fdl l)), (2, V.ptr (Id.p 0) 0 0), (4, nilS), (5, iv 0), (6, iv 0), (7, V.ptr (Id.p 2) 0 0), (13, V.agg (bel b)), (14, iv n), (15, V.lst 3 (fdl l)), (16, iv n'), (17, V.sl (Id.p 1) 0 2), (18, iv 0), (19, iv 0), (20, bv false), (22, V.lst 3 (fdl l)), (23, V.ptr (Id.p 0) 0 2), (24, iv b.S), (25, V.fn (Fn.func 90) [] [V.ptr (Id.p 3) 0 0, V.ptr (Id.p 4) 0 0])]) 64 (Array.mk [26]) (rfA (cdAt [1, 1, 1, 0, 1, 0] (bodyOf Try.f24))) (rfB (cdAt [1, 1, 1, 0, 1, 0] (bodyOf Try.f24))) 24
noncomputable def nA (b : Bt) (l : List Fd) (n n' : Int) (r : List (List V)) : Hp := ⟨[(5, O.lp (rec24 b l n n')), (4, O.rows 1 false [[iv b.S]]), (3, O.rows 1 false [[V.lst 3 r]]), (2, O.rows 1 false [[nilS]]), (1, O.rows 1 true [[iv n], [iv n']]), (0, O.rows 5 false [bel b])], 6, []⟩
noncomputable def nB (b : Bt) (l : List Fd) (n n' : Int) (r : List (List V)) : Hp := ⟨[(3, O.rows 1 false [[V.lst 3 r]]), (5, O.lp (rec24 b l n n')), (4, O.rows 1 false [[iv b.S]]), (2, O.rows 1 false [[nilS]]), (1, O.rows 1 true [[iv n], [iv n']]), (0, O.rows 5 false [bel b])], 6, []⟩
noncomputable def nC (b : Bt) (l : List Fd) (n n' : Int) (r : List (List V)) (F : List Sw) : Hp := ⟨[(3, O.rows 1 false [[V.lst 3 r]]), (5, O.lp (rec24 b l n n')), (2, O.rows 1 false [[V.sl (Id.p 6) 0 F.length]]), (4, O.rows 1 false [[iv b.S]]), (1, O.rows 1 true [[iv n], [iv n']]), (0, O.rows 5 false [bel b]), (6, O.rows 3 true (swl F))], 7, []⟩
end Go.Proofs.Ytmdimnmdoifkfaa
namespace Go.Proofs.Ytmdimnmdoifkfaa
open Go Go.Proofs.Ytmdimnmdoifkfaa.Clean
set_option linter.unusedVariables false
set_option linter.unusedSimpArgs false
set_option maxRecDepth 10000
theorem hcV : cfV.ok Try.prog := cfgM_ok
def gtS (x y : Sw) : Prop := y.1 < x.1 ∨ (x.1 = y.1 ∧ y.2.1 < x.2.1)
instance (x y : Sw) : Decidable (gtS x y) := by unfold gtS; infer_instance
theorem cmp65 {x y : Sw} {R : V → Prop} (h : ∀ n : Int, (0 < n ↔ gtS x y) → R (iv n)) : K0G Try.prog glX 65 [.agg (swr x), .agg (swr y)] R := by
  refine K0_of_WY0 hmX hcV 3000 Try.func65 (see (p := ifB (x.1 != x.1) (ifB (y.1 != y.1) (ifB (x.2.1 != x.2.1) (ifB (y.2.1 != y.2.1) (R (iv (0 : Int))) (R (iv (-1 : Int)))) (ifB (y.2.1 != y.2.1) (R (iv (1 : Int))) (ifB (decide (x.2.1 < y.2.1)) (R (iv (-1 : Int))) (ifB (decide (x.2.1 > y.2.1)) (R (iv (1 : Int))) (R (iv (0 : Int))))))) (ifB (x.2.1 != x.2.1) (ifB (y.2.1 != y.2.1) (R (iv (-1 : Int))) (R (iv (-1 : Int)))) (ifB (y.2.1 != y.2.1) (R (iv (-1 : Int))) (ifB (decide (x.2.1 < y.2.1)) (R (iv (-1 : Int))) (ifB (decide (x.2.1 > y.2.1)) (R (iv (-1 : Int))) (R (iv (-1 : Int)))))))) (ifB (y.1 != y.1) (ifB (x.2.1 != x.2.1) (ifB (y.2.1 != y.2.1) (R (iv (1 : Int))) (R (iv (1 : Int)))) (ifB (y.2.1 != y.2.1) (R (iv (1 : Int))) (ifB (decide (x.2.1 < y.2.1)) (R (iv (1 : Int))) (ifB (decide (x.2.1 > y.2.1)) (R (iv (1 : Int))) (R (iv (1 : Int))))))) (ifB (decide (x.1 < y.1)) (ifB (x.2.1 != x.2.1) (ifB (y.2.1 != y.2.1) (R (iv (-1 : Int))) (R (iv (-1 : Int)))) (ifB (y.2.1 != y.2.1) (R (iv (-1 : Int))) (ifB (decide (x.2.1 < y.2.1)) (R (iv (-1 : Int))) (ifB (decide (x.2.1 > y.2.1)) (R (iv (-1 : Int))) (R (iv (-1 : Int))))))) (ifB (decide (x.1 > y.1)) (ifB (x.2.1 != x.2.1) (ifB (y.2.1 != y.2.1) (R (iv (1 : Int))) (R (iv (1 : Int)))) (ifB (y.2.1 != y.2.1) (R (iv (1 : Int))) (ifB (decide (x.2.1 < y.2.1)) (R (iv (1 : Int))) (ifB (decide (x.2.1 > y.2.1)) (R (iv (1 : Int))) (R (iv (1 : Int))))))) (ifB (x.2.1 != x.2.1) (ifB (y.2.1 != y.2.1) (R (iv (0 : Int))) (R (iv (-1 : Int)))) (ifB (y.2.1 != y.2.1) (R (iv (1 : Int))) (ifB (decide (x.2.1 < y.2.1)) (R (iv (-1 : Int))) (ifB (decide (x.2.1 > y.2.1)) (R (iv (1 : Int))) (R (iv (0 : Int))))))))))) (by kernel_rfl) ?_)
  simp only [bne_self_eq_false]
  have no : (x.1 < y.1 ∨ (x.1 = y.1 ∧ x.2.1 ≤ y.2.1)) → ∀ n : Int, n ≤ 0 → R (iv n) := fun hl n hn => h n ⟨fun h0 => by omega, fun hg => by rcases hg with hg | hg <;> omega⟩
  have yes : gtS x y → R (iv 1) := fun hg => h 1 ⟨fun _ => hg, fun _ => by omega⟩
  refine ifB_f rfl (ifB_f rfl (ifB_mk (fun c1 => ?_) (fun c1 => ifB_mk (fun c2 => ?_) (fun c2 => ?_))))
  · have c1 := of_decide_eq_true c1
    have g := no (.inl c1) (-1) (by omega)
    exact ifB_f rfl (ifB_f rfl (ifB_mk (fun _ => g) (fun _ => ifB_mk (fun _ => g) (fun _ => g))))
  · have c2 := of_decide_eq_true c2
    have g := yes (.inl c2)
    exact ifB_f rfl (ifB_f rfl (ifB_mk (fun _ => g) (fun _ => ifB_mk (fun _ => g) (fun _ => g))))
  · have c1 := of_decide_eq_false c1
    have c2 := of_decide_eq_false c2
    refine ifB_f rfl (ifB_f rfl (ifB_mk (fun c3 => ?_) (fun c3 => ifB_mk (fun c4 => ?_) (fun c4 => ?_))))
    · exact no (.inr ⟨by omega, by have := of_decide_eq_true c3; omega⟩) _ (by omega)
    · exact yes (.inr ⟨by omega, of_decide_eq_true c4⟩)
    · exact no (.inr ⟨by omega, by have := of_decide_eq_false c4; omega⟩) _ (by omega)
def insN (l : List Sw) (x : Sw) : Nat → Nat
  | 0 => 0
  | n + 1 => if gtS (l.getD n (0, 0, false)) x then insN l x n else n + 1
theorem insN_le (l : List Sw) (x : Sw) : ∀ n, insN l x n ≤ n
  | 0 => Nat.le_refl _
  | n + 1 => by
    unfold insN
    split
    · have := insN_le l x n; omega
    · omega
def insF (l : List Sw) (x : Sw) : List Sw := l.take (insN l x l.length) ++ [x] ++ l.drop (insN l x l.length)
theorem insF_length (l : List Sw) (x : Sw) : (insF l x).length = l.length + 1 := by
  have := insN_le l x l.length
  simp only [insF, List.length_append, List.length_take, List.length_drop, List.length_cons, List.length_nil]
  omega
theorem swl_length (l : List Sw) : (swl l).length = l.length := by simp [swl]
theorem ins_rows {α : Type} (M : List α) (k n : Nat) (x y : α) (hn : M.length = n) (hk : k ≤ n) (hy : y = x) :
    (List.take (0 + (k + 1)) (List.take n M ++ [x]) ++ List.take (min (sub (List.take n M ++ [x]) (0 + k) (n + 1 - k)).length (n + 1 - (k + 1))) (sub (List.take n M ++ [x]) (0 + k) (n + 1 - k)) ++ List.drop (0 + (k + 1) + min (sub (List.take n M ++ [x]) (0 + k) (n + 1 - k)).length (n + 1 - (k + 1))) (List.take n M ++ [x])).set (0 + k) y = M.take k ++ [x] ++ M.drop k := by
  subst hy
  rw [List.take_of_length_le (by omega : M.length ≤ n), Nat.zero_add, Nat.zero_add]
  have hs : sub (M ++ [y]) k (n + 1 - k) = M.drop k ++ [y] := by
    unfold Clean.sub
    rw [List.drop_append_of_le_length (by omega), List.take_of_length_le (by simp; omega)]
  rw [hs]
  have hmin : min (M.drop k ++ [y]).length (n + 1 - (k + 1)) = n - k := by simp; omega
  have hd : List.drop (n + 1) (M ++ [y]) = [] := List.drop_of_length_le (by simp; omega)
  have ht : List.take (n - k) (M.drop k ++ [y]) = M.drop k := by rw [List.take_append_of_le_length (by simp; omega), List.take_of_length_le (by simp; omega)]
  rw [hmin, show k + 1 + (n - k) = n + 1 from by omega, hd, List.append_nil, ht]
  refine List.ext_getElem? (fun i => ?_)
  have h1 : ((M ++ [y]).take (k + 1)).length = k + 1 := by simp; omega
  have h2 : (M.take k ++ [y]).length = k + 1 := by simp; omega
  rw [List.getElem?_set]
  by_cases hi : k = i
  · subst hi
    rw [if_pos rfl, if_pos (by simp only [List.length_append, h1]; omega), List.getElem?_append_left (by omega), List.getElem?_append_right (by simp; omega)]
    simp [Nat.min_eq_left (show k ≤ M.length by omega)]
  · rw [if_neg hi]
    by_cases hlt : i < k
    · rw [List.getElem?_append_left (by omega), List.getElem?_append_left (by omega), List.getElem?_append_left (by simp; omega), List.getElem?_take_of_lt (by omega), List.getElem?_take_of_lt hlt, List.getElem?_append_left (by omega)]
    · rw [List.getElem?_append_right (by omega), List.getElem?_append_right (by omega), h1, h2]
theorem ins_row {α : Type} (M : List α) (k n : Nat) (x : α) (hn : M.length = n) (hk : k ≤ n) :
    ∃ z, (z ∈ M ∨ z = x) ∧ (List.take (0 + (k + 1)) (List.take n M ++ [x]) ++ List.take (min (sub (List.take n M ++ [x]) (0 + k) (n + 1 - k)).length (n + 1 - (k + 1))) (sub (List.take n M ++ [x]) (0 + k) (n + 1 - k)) ++ List.drop (0 + (k + 1) + min (sub (List.take n M ++ [x]) (0 + k) (n + 1 - k)).length (n + 1 - (k + 1))) (List.take n M ++ [x]))[0 + k]? = some z := by
  rw [List.take_of_length_le (by omega : M.length ≤ n), Nat.zero_add, Nat.zero_add, List.append_assoc, List.getElem?_append_left (by simp; omega), List.getElem?_take_of_lt (by omega)]
  by_cases hlt : k < M.length
  · rw [List.getElem?_append_left hlt, List.getElem?_eq_getElem hlt]
    exact ⟨_, .inl (List.getElem_mem hlt), rfl⟩
  · rw [List.getElem?_append_right (by omega), show k - M.length = 0 from by omega]
    exact ⟨x, .inr rfl, rfl⟩
theorem swl_ins (l : List Sw) (k : Nat) (x : Sw) : (swl l).take k ++ [swr x] ++ (swl l).drop k = swl (l.take k ++ [x] ++ l.drop k) := by simp [swl, List.map_take, List.map_drop]
theorem swl_row {l : List Sw} {x : Sw} {z : List V} (h : z ∈ swl l ∨ z = swr x) : z.length = 3 := by
  rcases h with h | h
  · obtain ⟨y, _, rfl⟩ := List.mem_map.1 h; rfl
  · rw [h]; rfl
theorem ins64 {l : List Sw} {rows : List (List V)} {n : Nat} {x : Sw} {q : Clean.Id} {Q : V → Us → Prop} (hr : rows = swl l) (hn : n = l.length) (hl : l.length ≤ 999) (h : Q (.sl (.p 3) 0 (n + 1)) [swl (insF l x)]) :
    KM Try.prog glX 64 [.sl (.p 0) 0 n, .agg (swr x), .fn (.func 65) [] []] ⟨[(0, O.rows 3 true rows)], 1, []⟩ (postI 64 [.sl q 0 n, .agg (swr x), .fn (.func 65) [] []]) Q := by
  subst hr hn
  refine KM_of_WYKp hmX hcV 100 Try.func64 (fun R hR => see (p := La 1 [(0 : Tmp), (2 : Tmp), (4 : Tmp), (7 : Tmp)] (WY Try.prog cfV 95 (Env.mk (Bs.mk 0 []) 1 none 42 64 0) (cdAt [1, 1, 0, 0, 0] (bodyOf Try.f64))) (Qblk 0 (Qthen (WY Try.prog cfV 97 (Env.mk (Bs.mk 0 []) 1 none 42 64 0) (cdAt [1, 1, 1] (bodyOf Try.f64)) (QendX Try.prog Try.f64 R)) (QendX Try.prog Try.f64 R))) (St.mk (mkT [(0, V.sl (Id.p 0) 0 l.length), (2, V.fn (Fn.func (65 : FuncId)) [] []), (4, V.ptr (Id.p 1) 0 0), (7, iv (↑l.length : Int))]) (Hp.mk [(0, O.rows 3 true (swl l)), (1, O.rows 3 false [[iv x.1, iv x.2.1, bv x.2.2]])] 2 []))) (by kernel_rfl) ?_)
  refine La.of (σ := Nat) (fun k => sh64 l x k) (fun k => k ≤ l.length ∧ insN l x k = insN l x l.length) (fun k => k) l.length (by kernel_rfl) ⟨Nat.le_refl _, rfl⟩ ?_
  rintro k ⟨g1, g2⟩ J hJ
  have fin : k = insN l x l.length → (need ((l.length + 1) * 24 ≤ 140737488355328) (onNat (IntKind.i64.wrap ((↑k : Int) + (1 : Int))) fun a => need (l.length + 1 ≤ l.length + 1) (need (a ≤ l.length + 1) (need (l.length + 1 ≤ l.length + 1) (need (k ≤ l.length + 1) (need (k < l.length + 1) (onSome (List.take (0 + a) (List.take l.length (swl l) ++ [[iv x.1, iv x.2.1, bv x.2.2]]) ++ List.take (min (sub (List.take l.length (swl l) ++ [[iv x.1, iv x.2.1, bv x.2.2]]) (0 + k) (l.length + 1 - k)).length (l.length + 1 - a)) (sub (List.take l.length (swl l) ++ [[iv x.1, iv x.2.1, bv x.2.2]]) (0 + k) (l.length + 1 - k)) ++ List.drop (0 + a + min (sub (List.take l.length (swl l) ++ [[iv x.1, iv x.2.1, bv x.2.2]]) (0 + k) (l.length + 1 - k)).length (l.length + 1 - a)) (List.take l.length (swl l) ++ [[iv x.1, iv x.2.1, bv x.2.2]]))[0 + k]? fun row => guardB ((0 + 3).ble row.length) (R (V.sl (Id.p 3) 0 (l.length + 1)) (Hp.mk [(3, O.rows 3 true ((List.take (0 + a) (List.take l.length (swl l) ++ [[iv x.1, iv x.2.1, bv x.2.2]]) ++ List.take (min (sub (List.take l.length (swl l) ++ [[iv x.1, iv x.2.1, bv x.2.2]]) (0 + k) (l.length + 1 - k)).length (l.length + 1 - a)) (sub (List.take l.length (swl l) ++ [[iv x.1, iv x.2.1, bv x.2.2]]) (0 + k) (l.length + 1 - k)) ++ List.drop (0 + a + min (sub (List.take l.length (swl l) ++ [[iv x.1, iv x.2.1, bv x.2.2]]) (0 + k) (l.length + 1 - k)).length (l.length + 1 - a)) (List.take l.length (swl l) ++ [[iv x.1, iv x.2.1, bv x.2.2]])).set (0 + k) (iv x.1 :: iv x.2.1 :: bv x.2.2 :: (List.append []) (List.drop 3 row)))), (2, O.rows 3 true [[iv x.1, iv x.2.1, bv x.2.2]]), (1, O.rows 3 false [[iv x.1, iv x.2.1, bv x.2.2]])] 4 [])))))))) : Prop) := fun hk => by
    refine need_mk ⟨by omega, onNat_mk (m := k + 1) (by rw [wr (by omega) (by omega)]; omega) (need_mk ⟨Nat.le_refl _, need_mk ⟨by omega, need_mk ⟨Nat.le_refl _, need_mk ⟨by omega, need_mk ⟨by omega, ?_⟩⟩⟩⟩⟩)⟩
    obtain ⟨z, hz, he⟩ := ins_row (swl l) k l.length (swr x) (swl_length l) g1
    refine onSome_mk he (guardB_mk (by rw [swl_row hz]; rfl) ?_)
    have h3 : List.drop 3 z = [] := List.drop_of_length_le (by rw [swl_row hz]; omega)
    have g := hR _ _ h
    rw [h3]
    refine (congrArg (R (.sl (.p 3) 0 (l.length + 1))) ?_).mp g
    show (⟨[(3, O.rows 3 true (swl (insF l x))), (2, O.rows 3 true [swr x]), (1, O.rows 3 false [swr x])], 4, []⟩ : Hp) = _
    rw [insF, ← hk, ← swl_ins, ← ins_rows (swl l) k l.length (swr x) (swr x) (swl_length l) g1 rfl]
    rfl
  refine see (p := ifB (decide ((↑k : Int) > (0 : Int))) (onNat (IntKind.i64.wrap ((↑k : Int) - (1 : Int))) fun m => need (m < l.length) (onSome (swl l)[0 + m]? fun row => onCons (List.drop 0 row) fun u r => onIntK IntKind.i64 u fun n => onCons r fun u r => onIntK IntKind.i64 u fun n_1 => onCons r fun u r => onBool u fun b => K0G Try.prog glX 65 [V.agg [iv n, iv n_1, bv b], V.agg [iv x.1, iv x.2.1, bv x.2.2]] fun v => onIntK IntKind.i64 v fun n => ifB (decide (n > (0 : Int))) (J (St.mk (mkT [(0, V.sl (Id.p 0) 0 l.length), (2, V.fn (Fn.func (65 : FuncId)) [] []), (4, V.ptr (Id.p 1) 0 0), (7, iv (IntKind.i64.wrap ((↑k : Int) - (1 : Int))))]) (Hp.mk [(0, O.rows 3 true (swl l)), (1, O.rows 3 false [[iv x.1, iv x.2.1, bv x.2.2]])] 2 []))) (need ((l.length + 1) * 24 ≤ 140737488355328) (onNat (IntKind.i64.wrap ((↑k : Int) + (1 : Int))) fun a => need (l.length + 1 ≤ l.length + 1) (need (a ≤ l.length + 1) (need (l.length + 1 ≤ l.length + 1) (need (k ≤ l.length + 1) (need (k < l.length + 1) (onSome (List.take (0 + a) (List.take l.length (swl l) ++ [[iv x.1, iv x.2.1, bv x.2.2]]) ++ List.take (min (sub (List.take l.length (swl l) ++ [[iv x.1, iv x.2.1, bv x.2.2]]) (0 + k) (l.length + 1 - k)).length (l.length + 1 - a)) (sub (List.take l.length (swl l) ++ [[iv x.1, iv x.2.1, bv x.2.2]]) (0 + k) (l.length + 1 - k)) ++ List.drop (0 + a + min (sub (List.take l.length (swl l) ++ [[iv x.1, iv x.2.1, bv x.2.2]]) (0 + k) (l.length + 1 - k)).length (l.length + 1 - a)) (List.take l.length (swl l) ++ [[iv x.1, iv x.2.1, bv x.2.2]]))[0 + k]? fun row => guardB ((0 + 3).ble row.length) (R (V.sl (Id.p 3) 0 (l.length + 1)) (Hp.mk [(3, O.rows 3 true ((List.take (0 + a) (List.take l.length (swl l) ++ [[iv x.1, iv x.2.1, bv x.2.2]]) ++ List.take (min (sub (List.take l.length (swl l) ++ [[iv x.1, iv x.2.1, bv x.2.2]]) (0 + k) (l.length + 1 - k)).length (l.length + 1 - a)) (sub (List.take l.length (swl l) ++ [[iv x.1, iv x.2.1, bv x.2.2]]) (0 + k) (l.length + 1 - k)) ++ List.drop (0 + a + min (sub (List.take l.length (swl l) ++ [[iv x.1, iv x.2.1, bv x.2.2]]) (0 + k) (l.length + 1 - k)).length (l.length + 1 - a)) (List.take l.length (swl l) ++ [[iv x.1, iv x.2.1, bv x.2.2]])).set (0 + k) (iv x.1 :: iv x.2.1 :: bv x.2.2 :: (List.append []) (List.drop 3 row)))), (2, O.rows 3 true [[iv x.1, iv x.2.1, bv x.2.2]]), (1, O.rows 3 false [[iv x.1, iv x.2.1, bv x.2.2]])] 4 []))))))))))) (need ((l.length + 1) * 24 ≤ 140737488355328) (onNat (IntKind.i64.wrap ((↑k : Int) + (1 : Int))) fun a => need (l.length + 1 ≤ l.length + 1) (need (a ≤ l.length + 1) (need (l.length + 1 ≤ l.length + 1) (need (k ≤ l.length + 1) (need (k < l.length + 1) (onSome (List.take (0 + a) (List.take l.length (swl l) ++ [[iv x.1, iv x.2.1, bv x.2.2]]) ++ List.take (min (sub (List.take l.length (swl l) ++ [[iv x.1, iv x.2.1, bv x.2.2]]) (0 + k) (l.length + 1 - k)).length (l.length + 1 - a)) (sub (List.take l.length (swl l) ++ [[iv x.1, iv x.2.1, bv x.2.2]]) (0 + k) (l.length + 1 - k)) ++ List.drop (0 + a + min (sub (List.take l.length (swl l) ++ [[iv x.1, iv x.2.1, bv x.2.2]]) (0 + k) (l.length + 1 - k)).length (l.length + 1 - a)) (List.take l.length (swl l) ++ [[iv x.1, iv x.2.1, bv x.2.2]]))[0 + k]? fun row => guardB ((0 + 3).ble row.length) (R (V.sl (Id.p 3) 0 (l.length + 1)) (Hp.mk [(3, O.rows 3 true ((List.take (0 + a) (List.take l.length (swl l) ++ [[iv x.1, iv x.2.1, bv x.2.2]]) ++ List.take (min (sub (List.take l.length (swl l) ++ [[iv x.1, iv x.2.1, bv x.2.2]]) (0 + k) (l.length + 1 - k)).length (l.length + 1 - a)) (sub (List.take l.length (swl l) ++ [[iv x.1, iv x.2.1, bv x.2.2]]) (0 + k) (l.length + 1 - k)) ++ List.drop (0 + a + min (sub (List.take l.length (swl l) ++ [[iv x.1, iv x.2.1, bv x.2.2]]) (0 + k) (l.length + 1 - k)).length (l.length + 1 - a)) (List.take l.length (swl l) ++ [[iv x.1, iv x.2.1, bv x.2.2]])).set (0 + k) (iv x.1 :: iv x.2.1 :: bv x.2.2 :: (List.append []) (List.drop 3 row)))), (2, O.rows 3 true [[iv x.1, iv x.2.1, bv x.2.2]]), (1, O.rows 3 false [[iv x.1, iv x.2.1, bv x.2.2]])] 4 [])))))))))) (by kernel_rfl) ?_
  refine ifB_mk (fun c => ?_) (fun c => ?_)
  · have hk0 : 0 < k := by have := of_decide_eq_true c; omega
    obtain ⟨j, rfl⟩ : ∃ j, k = j + 1 := ⟨k - 1, by omega⟩
    have hj : j < l.length := by omega
    have hx : (swl l)[0 + j]? = some (swr (l.getD j (0, 0, false))) := by rw [Nat.zero_add]; simp [swl, hj]
    refine onNat_mk (m := j) (by rw [wr (by omega) (by omega)]; omega) (need_mk ⟨hj, onSome_mk hx (onCons_cons (onIntK_iv (onCons_cons (onIntK_iv (onCons_cons (onBool_bv ?_))))))⟩)
    rw [insN] at g2
    refine cmp65 (x := l.getD j (0, 0, false)) (y := x) (fun n hn => onIntK_iv (ifB_mk (fun e => ?_) (fun e => ?_)))
    · rw [if_pos (hn.1 (by have := of_decide_eq_true e; omega))] at g2
      rw [show IntKind.i64.wrap (((j + 1 : Nat) : Int) - 1) = (j : Int) from by rw [wr (by omega) (by omega)]; omega]
      exact hJ j ⟨by omega, g2⟩ (by omega)
    · rw [if_neg (fun hg => by have := hn.2 hg; have := of_decide_eq_false e; omega)] at g2
      exact fin g2
  · have hk0 : k = 0 := by have := of_decide_eq_false c; omega
    refine fin ?_
    rw [← g2, hk0]; rfl
theorem ins64n {x : Sw} {Q : V → Us → Prop} (h : Q (.sl (.p 2) 0 1) [swl (insF [] x)]) :
    KM Try.prog glX 64 [nilS, .agg (swr x), .fn (.func 65) [] []] ⟨[], 0, []⟩ (postI 64 [nilS, .agg (swr x), .fn (.func 65) [] []]) Q := by
  refine KM_of_WYKp hmX hcV 100 Try.func64 (fun R hR => see (p := La 0 [(0 : Tmp), (2 : Tmp), (4 : Tmp), (7 : Tmp)] (WY Try.prog cfV 95 (Env.mk (Bs.mk 0 []) 0 none 42 64 0) (cdAt [1, 1, 0, 0, 0] (bodyOf Try.f64))) (Qblk 0 (Qthen (WY Try.prog cfV 97 (Env.mk (Bs.mk 0 []) 0 none 42 64 0) (cdAt [1, 1, 1] (bodyOf Try.f64)) (QendX Try.prog Try.f64 R)) (QendX Try.prog Try.f64 R))) (St.mk (mkT [(0, nilS), (2, V.fn (Fn.func (65 : FuncId)) [] []), (4, V.ptr (Id.p 0) 0 0), (7, iv (0 : Int))]) (Hp.mk [(0, O.rows 3 false [[iv x.1, iv x.2.1, bv x.2.2]])] 1 []))) (by kernel_rfl) ?_)
  refine La.of (σ := Unit) (fun _ => sh64n x 0) (fun _ => True) (fun _ => 0) () (by kernel_rfl) trivial ?_
  rintro _ _ J hJ
  have g := hR _ _ h
  generalize hk0 : 0 = k
  refine see (p := ifB (decide ((↑k : Int) > (0 : Int))) (onNat (IntKind.i64.wrap ((↑k : Int) - (1 : Int))) fun m => False) (onNat (IntKind.i64.wrap ((↑k : Int) + (1 : Int))) fun a => need (a ≤ 1) (need (k ≤ 1) (need (k < 1) (onSome (List.take (0 + a) [[iv x.1, iv x.2.1, bv x.2.2]] ++ List.take (min (sub [[iv x.1, iv x.2.1, bv x.2.2]] (0 + k) (1 - k)).length (1 - a)) (sub [[iv x.1, iv x.2.1, bv x.2.2]] (0 + k) (1 - k)) ++ List.drop (0 + a + min (sub [[iv x.1, iv x.2.1, bv x.2.2]] (0 + k) (1 - k)).length (1 - a)) [[iv x.1, iv x.2.1, bv x.2.2]])[0 + k]? fun row => guardB ((0 + 3).ble row.length) (R (V.sl (Id.p 2) 0 1) (Hp.mk [(2, O.rows 3 true ((List.take (0 + a) [[iv x.1, iv x.2.1, bv x.2.2]] ++ List.take (min (sub [[iv x.1, iv x.2.1, bv x.2.2]] (0 + k) (1 - k)).length (1 - a)) (sub [[iv x.1, iv x.2.1, bv x.2.2]] (0 + k) (1 - k)) ++ List.drop (0 + a + min (sub [[iv x.1, iv x.2.1, bv x.2.2]] (0 + k) (1 - k)).length (1 - a)) [[iv x.1, iv x.2.1, bv x.2.2]]).set (0 + k) (iv x.1 :: iv x.2.1 :: bv x.2.2 :: (List.append []) (List.drop 3 row)))), (1, O.rows 3 true [[iv x.1, iv x.2.1, bv x.2.2]]), (0, O.rows 3 false [[iv x.1, iv x.2.1, bv x.2.2]])] 3 []))))))) (by kernel_rfl) ?_
  subst hk0
  exact ifB_f rfl (onNat_mk (m := 1) rfl (need_mk ⟨by omega, need_mk ⟨by omega, need_mk ⟨by omega, onSome_mk (x := swr x) rfl (guardB_mk rfl g)⟩⟩⟩))
end Go.Proofs.Ytmdimnmdoifkfaa
