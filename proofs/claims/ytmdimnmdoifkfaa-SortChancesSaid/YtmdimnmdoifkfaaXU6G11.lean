/- A part of the proof. -/
import Derived.Test.YtmdimnmdoifkfaaProg
import Derived.Test.YtmdimnmdoifkfaaXU6G10
namespace Go.Proofs.Ytmdimnmdoifkfaa
open Go Go.Proofs.Ytmdimnmdoifkfaa.Clean
set_option linter.unusedVariables false
set_option maxRecDepth 100000
def kpB : FuncId → Nat → Option (List Tmp) := slotsOf [(88, 0, [3, 4, 7, 8, 9]), (100, 0, [0, 1, 2, 3, 4, 5, 6, 7, 33, 34]), (102, 0, [0, 5, 6, 7])]
def moB (f : FuncId) : Nat := bif inN [100] f then 3 else bif inN [88] f then 4 else 0
def poB (f : FuncId) (args : List V) (h : Hp) (us : Us) : Hp := (h.put (.p 2) (.rows 1 true (us.getD 1 []))).put (.p 4) (.rows 1 true (us.getD 0 []))
def rtB (f : FuncId) (args : List V) (us : Us) (v : V) (k : V → Prop) : Prop := onTup v fun vs => onNil vs (k (.tup []))
noncomputable def cfB : Cfg := { cfgG Try.prog glX moB poB rtB (inN [54, 101]) kpB with clean := fun g => !inN [100] g }
def memB (N : Int) (row : List Int) (n m : Nat) (cs ss : List (List V)) : Hp := ⟨[(0, O.rows 1 false [[iv N]]), (1, O.rows 1 false [[V.sl (Id.p 2) 0 m]]), (2, O.rows 1 true cs), (3, O.rows 1 false [[V.sl (Id.p 4) 0 n]]), (4, O.rows 1 true ss), (5, O.rows 1 false [[V.lst 1 (nl row)]]), (6, O.rows 1 false [[V.fn (Fn.func 100) [] [V.ptr (Id.p 0) 0 0, V.ptr (Id.p 1) 0 0, V.ptr (Id.p 3) 0 0, V.ptr (Id.p 5) 0 0, V.ptr (Id.p 6) 0 0]]])], 7, []⟩
noncomputable def sh100 (N : Int) (row : List Int) (n m : Nat) (cs ss : List (List V)) (kind : Nat) (left ways : Int) (k : Nat) : St := ⟨mkT [(0, iv (kind : Int)), (1, iv left), (2, iv ways), (3, V.ptr (Id.p 0) 0 0), (4, V.ptr (Id.p 1) 0 0), (5, V.ptr (Id.p 3) 0 0), (6, V.ptr (Id.p 5) 0 0), (7, V.ptr (Id.p 6) 0 0), (33, iv (IntKind.i64.wrap (left + 1))), (34, iv (k : Int))], memB N row n m cs ss⟩
noncomputable def sh88l (l : List Int) (a b : Int) (k : Nat) : St := ⟨mkT [(3, iv a), (4, iv b), (7, V.lst 1 (nl l)), (8, iv ((nl l).length : Int)), (9, iv (k : Int))], ⟨[], 0, []⟩⟩
noncomputable def sh102 (a n p : Int) (k : Nat) : St := ⟨mkT [(0, iv a), (5, iv p), (6, iv n), (7, iv (k : Int))], ⟨[], 0, []⟩⟩
def memO (N : Int) (row : List Int) (n m : Nat) (cs ss : List (List V)) : Hp := ⟨[(4, O.rows 1 true ss), (2, O.rows 1 true cs), (0, O.rows 1 false [[iv N]]), (1, O.rows 1 false [[V.sl (Id.p 2) 0 m]]), (3, O.rows 1 false [[V.sl (Id.p 4) 0 n]]), (5, O.rows 1 false [[V.lst 1 (nl row)]]), (6, O.rows 1 false [[V.fn (Fn.func 100) [] [V.ptr (Id.p 0) 0 0, V.ptr (Id.p 1) 0 0, V.ptr (Id.p 3) 0 0, V.ptr (Id.p 5) 0 0, V.ptr (Id.p 6) 0 0]]])], 7, []⟩
noncomputable def sh100o (N : Int) (row : List Int) (n m : Nat) (cs ss : List (List V)) (kind : Nat) (left ways : Int) (k : Nat) : St := ⟨mkT [(0, iv (kind : Int)), (1, iv left), (2, iv ways), (3, V.ptr (Id.p 0) 0 0), (4, V.ptr (Id.p 1) 0 0), (5, V.ptr (Id.p 3) 0 0), (6, V.ptr (Id.p 5) 0 0), (7, V.ptr (Id.p 6) 0 0), (33, iv (IntKind.i64.wrap (left + 1))), (34, iv (k : Int))], memO N row n m cs ss⟩
def SameH (a b : Hp) : Prop := a.nxt = b.nxt ∧ a.fs = b.fs ∧ ∀ n, getB a.bs n = getB b.bs n
end Go.Proofs.Ytmdimnmdoifkfaa
namespace Go.Proofs.Ytmdimnmdoifkfaa
open Go Go.Proofs.Ytmdimnmdoifkfaa.Clean
set_option linter.unusedVariables false
set_option linter.unusedSimpArgs false
set_option maxRecDepth 10000
theorem HeapOK_same {ν : Nu} {F : Nat → Prop} {a b : Hp} {w : World} (hs : SameH a b) (k : HeapOK ν F a w) : HeapOK ν F b w := by
  have hg : ∀ x, b.get x = a.get x := fun x => by
    obtain ⟨_, h2, h3⟩ := hs
    cases x with
    | p n => exact (h3 n).symm
    | m B k => unfold Hp.get; rw [h2]
  exact ⟨fun x r s n hx => by rw [hg]; exact k.blk x r s n hx, fun x o hx => k.dom x o (by rw [← hg]; exact hx), k.inj, k.frz, k.nxt.trans hs.1, fun B => by rw [← hs.2.1]; exact k.cnt B⟩
theorem KM_of_WYKe {P : Program} (hm : P.follows .mixedOrders = true) {cfg : Cfg} (hcf : cfg.ok P) (fuel : Nat) {f : FuncId} {fn : Func} (hf : P.funcs[f]? = some fn) {args : List V} {h : Hp} {post : Hp → Us → Hp} {Q : V → Us → Prop} (hw : ∀ R : V → Hp → Prop, (∀ v us h1, Q v us → SameH h1 (post h us) → R v h1) → WYK P cfg fuel f fn args h R) : KM P cfg.glob f args h post Q := by
  unfold KM
  have := K_of_WYK hm hcf fuel hf (hw (fun v h1 => ∃ us, SameH h1 (post h us) ∧ Q v us) fun v us h1 hv hs => ⟨us, hs, hv⟩)
  intro ν F w xs g1 g2 g3
  exact (this ν F w xs g1 g2 g3).mono fun e w' ⟨x, v, ν', F', h', z1, ⟨us, hs, hq⟩, z3, z4, z5, z6⟩ => ⟨x, v, ν', F', _, z1, ⟨us, rfl, hq⟩, HeapOK_same hs z3, z4, z5, z6⟩
theorem rtB_ok : ∀ (f : FuncId) (args : List V) (us : Us) (v : V) (k : V → Prop), rtB f args us v k → ∃ v', k v' ∧ ∀ {F : Nat → Prop} {w : World} {ν : Nu} {x : Value}, rep F w ν v x → rep F w ν v' x := by
  intro f args us v k h
  unfold rtB onTup at h
  split at h
  · rename_i cs
    unfold onNil at h
    split at h
    · exact ⟨_, h, fun h => h⟩
    · exact h.elim
  · exact h.elim
theorem hcB : cfB.ok Try.prog := by
  have h : (cfgG Try.prog glX moB poB rtB (inN [54, 101]) kpB).ok Try.prog := cfgG_ok rtB_ok
  exact ⟨h.1, h.2⟩
theorem most88l {l : List Int} {R : V → Prop} (hl : l.length ≤ 1000) (h : R (iv (mostF l))) : K0G Try.prog glX 88 [.lst 1 (nl l)] R := by
  refine K0_of_WY0 hmX hcB 3000 Try.func88 (see (p := La 0 [(3 : Tmp), (4 : Tmp), (7 : Tmp), (8 : Tmp), (9 : Tmp)] (WY Try.prog cfB 2994 (Env.mk (Bs.mk 0 []) 0 none 24 88 0) (cdAt [1, 1, 0, 1, 0, 0] (bodyOf Try.f88))) (Qblk 0 (Qthen (WY Try.prog cfB 2997 (Env.mk (Bs.mk 0 []) 0 none 24 88 0) (cdAt [1, 1, 1] (bodyOf Try.f88)) (QendX Try.prog Try.f88 fun v h => R (frzW h v))) (QendX Try.prog Try.f88 fun v h => R (frzW h v)))) (St.mk (mkT [(3, iv (-1 : Int)), (4, iv (0 : Int)), (7, V.lst 1 (nl l)), (8, iv (↑(nl l).length : Int)), (9, iv (0 : Int))]) (Hp.mk [] 0 []))) (by kernel_rfl) ?_)
  refine La.of (σ := (Int × Int) × Nat) (fun s => sh88l l s.1.1 s.1.2 s.2) (fun s => s.2 ≤ l.length ∧ mgo (l.drop s.2) s.2 s.1 = mgo l 0 (-1, 0)) (fun s => l.length - s.2) ((-1, 0), 0) (by kernel_rfl) ⟨by simp, rfl⟩ ?_
  rintro ⟨⟨a, b⟩, k⟩ ⟨g1, g2⟩ J hJ
  simp only at g1 g2
  refine see (p := ifB (decide ((↑k : Int) < (↑(nl l).length : Int))) (onSome (nl l)[k]? fun row => onSome row[0]? fun v => onIntK IntKind.i64 v fun n => ifB (decide (n > b)) (J (St.mk (mkT [(3, iv (↑k : Int)), (4, iv n), (7, V.lst 1 (nl l)), (8, iv (↑(nl l).length : Int)), (9, iv (IntKind.i64.wrap ((↑k : Int) + (1 : Int))))]) (Hp.mk [] 0 []))) (ifB (n == b) (J (St.mk (mkT [(3, iv (-1 : Int)), (4, iv b), (7, V.lst 1 (nl l)), (8, iv (↑(nl l).length : Int)), (9, iv (IntKind.i64.wrap ((↑k : Int) + (1 : Int))))]) (Hp.mk [] 0 []))) (J (St.mk (mkT [(3, iv a), (4, iv b), (7, V.lst 1 (nl l)), (8, iv (↑(nl l).length : Int)), (9, iv (IntKind.i64.wrap ((↑k : Int) + (1 : Int))))]) (Hp.mk [] 0 []))))) (R (iv a))) (by kernel_rfl) ?_
  refine ifB_mk (fun hb => ?_) (fun hb => ?_)
  · have hlt : k < l.length := by rw [nl_length] at hb; have := of_decide_eq_true hb; omega
    obtain ⟨x, hx⟩ := getI hlt
    rw [mgo_step hx] at g2
    refine iel hx ?_
    rw [wr1i hlt hl]
    refine ifB_mk (fun c1 => ?_) (fun c1 => ifB_mk (fun c2 => ?_) (fun c2 => ?_))
    · refine hJ ((k, x), k + 1) ⟨by simp only; omega, ?_⟩ (by simp only; omega)
      rw [show mstep (a, b) k x = ((k : Int), x) from if_pos (of_decide_eq_true c1)] at g2
      exact g2
    · refine hJ ((-1, b), k + 1) ⟨by simp only; omega, ?_⟩ (by simp only; omega)
      rw [show mstep (a, b) k x = (-1, b) from (if_neg (of_decide_eq_false c1)).trans (if_pos (by simpa using c2))] at g2
      exact g2
    · refine hJ ((a, b), k + 1) ⟨by simp only; omega, ?_⟩ (by simp only; omega)
      rw [show mstep (a, b) k x = (a, b) from (if_neg (of_decide_eq_false c1)).trans (if_neg (by simpa using c2))] at g2
      exact g2
  · have hk : l.length ≤ k := by rw [nl_length] at hb; have := of_decide_eq_false hb; omega
    rw [mgo_end hk] at g2
    rw [mostF, ← g2] at h
    exact h
theorem p5 {a : Int} {n : Nat} (h0 : 0 ≤ a) (h1 : a ≤ 1000) (hn : n ≤ 5) : a ^ n ≤ 1000000000000000 := by
  have h2 : (1000 : Int) ^ n ≤ 1000 ^ 5 := by
    rcases n with _ | _ | _ | _ | _ | _ | n <;> first | decide | omega
  have := pow_le h0 h1 n
  exact Int.le_trans (Int.le_trans this h2) (by decide)
theorem power102 {a : Int} {n : Nat} {R : V → Prop} (h0 : 0 ≤ a) (h1 : a ≤ 1000) (hn : n ≤ 5) (h : R (iv (a ^ n))) : K0G Try.prog glX 102 [iv a, iv (n : Int)] R := by
  refine K0_of_WY0 hmX hcB 3000 Try.func102 (see (p := La 0 [(0 : Tmp), (5 : Tmp), (6 : Tmp), (7 : Tmp)] (WY Try.prog cfB 2994 (Env.mk (Bs.mk 0 []) 0 none 14 102 0) (cdAt [1, 1, 0, 1, 0, 0] (bodyOf Try.f102))) (Qblk 0 (Qthen (WY Try.prog cfB 2997 (Env.mk (Bs.mk 0 []) 0 none 14 102 0) (cdAt [1, 1, 1] (bodyOf Try.f102)) (QendX Try.prog Try.f102 fun v h => R (frzW h v))) (QendX Try.prog Try.f102 fun v h => R (frzW h v)))) (St.mk (mkT [(0, iv a), (5, iv (1 : Int)), (6, iv (↑n : Int)), (7, iv (0 : Int))]) (Hp.mk [] 0 []))) (by kernel_rfl) ?_)
  refine La.of (σ := Int × Nat) (fun s => sh102 a (n : Int) s.1 s.2) (fun s => s.2 ≤ n ∧ s.1 = a ^ s.2) (fun s => n - s.2) (1, 0) (by kernel_rfl) ⟨by simp, by simp⟩ ?_
  rintro ⟨p, k⟩ ⟨g1, g2⟩ J hJ
  simp only at g1 g2
  refine see (p := ifB (decide ((↑k : Int) < (↑n : Int))) (J (St.mk (mkT [(0, iv a), (5, iv (IntKind.i64.wrap (p * a))), (6, iv (↑n : Int)), (7, iv (IntKind.i64.wrap ((↑k : Int) + (1 : Int))))]) (Hp.mk [] 0 []))) (R (iv p))) (by kernel_rfl) ?_
  subst g2
  refine ifB_mk (fun hb => ?_) (fun hb => ?_)
  · have hlt : k < n := by have := of_decide_eq_true hb; omega
    have b1 := p5 h0 h1 (n := k + 1) (by omega)
    have b2 := pow_nn h0 (k + 1)
    rw [wr1i hlt (by omega), show a ^ k * a = a ^ (k + 1) from (Int.pow_succ a k).symm, wr (by omega) (by omega)]
    exact hJ (a ^ (k + 1), k + 1) ⟨hlt, rfl⟩ (by simp only; omega)
  · have hk : k = n := by have := of_decide_eq_false hb; omega
    subst hk
    exact h
def rg (m : Nat) (g : Nat → Int) : List Int := (List.range m).map g
theorem rg_length (m : Nat) (g : Nat → Int) : (rg m g).length = m := by simp [rg]
theorem rg_get {m p : Nat} {g : Nat → Int} (h : p < m) : (nl (rg m g))[0 + p]? = some [iv (g p)] := by rw [Nat.zero_add]; simp [rg, nl, h]
theorem rg_congr {m : Nat} {f g : Nat → Int} (h : ∀ j, f j = g j) : rg m f = rg m g := by rw [show f = g from funext h]
theorem rg_set {m p : Nat} {g : Nat → Int} {x : Int} (h : p < m) : (nl (rg m g)).set (0 + p) (iv x :: List.append [] (List.drop 1 [iv (g p)])) = nl (rg m (fun j => if p = j then x else g j)) := by
  rw [Nat.zero_add]
  refine List.ext_getElem? (fun i => ?_)
  rw [List.getElem?_set]
  by_cases hi : i < m
  · by_cases hp : p = i
    · subst hp; simp [nl, rg, h]
    · rw [if_neg hp]; simp [nl, rg, hi, hp]
  · rw [if_neg (by omega)]; simp [nl, rg, hi]
theorem nl_set {l : List Int} {k : Nat} {x y : Int} : (nl l).set (0 + k) (iv y :: List.append [] (List.drop 1 [iv x])) = nl (l.set k y) := by
  rw [Nat.zero_add]
  refine List.ext_getElem? (fun i => ?_)
  simp only [nl, List.getElem?_map, List.getElem?_set, List.length_map]
  split
  · split <;> rfl
  · rfl
theorem nl_get {l : List Int} {k : Nat} {x : Int} (h : l[k]? = some x) : (nl l)[0 + k]? = some [iv x] := by rw [Nat.zero_add]; simp [nl, h]
def wv (ways r : Int) (l : Nat) : Nat → Int
  | 0 => ways
  | k + 1 => ways * ch l (k + 1) * r ^ (k + 1)
theorem wv_eq (ways r : Int) (l : Nat) : ∀ k, wv ways r l k = ways * ch l k * r ^ k
  | 0 => by show ways = ways * ch l 0 * r ^ 0; cases l <;> simp [ch]
  | k + 1 => rfl
def gv (g : Nat → Int) (f : Nat → Nat → Int) : Nat → Nat → Int
  | 0 => g
  | k + 1 => fun j => g j + sumN (k + 1) (fun i => f i j)
theorem gv_eq (g : Nat → Int) (f : Nat → Nat → Int) : ∀ k j, gv g f k j = g j + sumN k (fun i => f i j)
  | 0, j => by show g j = g j + 0; omega
  | k + 1, j => rfl
theorem sub_all' (l : List Int) {n : Nat} (h : l.length = n) : sub (nl l) 0 n = nl l := by
  have : n = (nl l).length := by rw [nl_length, h]
  rw [this]; simp [sub]
noncomputable def fam (N : Nat) (row : List Int) (kind left : Nat) (s : Bool × Nat × List Int × List Int × Int) : St := match s.1 with
  | false => sh100 (N : Int) row N (N + 1) (nl s.2.2.2.1) (nl s.2.2.1) kind (left : Int) s.2.2.2.2 s.2.1
  | true => sh100o (N : Int) row N (N + 1) (nl s.2.2.2.1) (nl s.2.2.1) kind (left : Int) s.2.2.2.2 s.2.1
theorem say100 {N : Nat} {row : List Int} (hrow : row.length = N + 1) (hN : N ≤ 100) (hr : ∀ x ∈ row, 0 ≤ x ∧ x ≤ 1000) : ∀ (d kind left : Nat) (ways : Int) (g : Nat → Int) (ss : List Int) {args : List V} {Q : V → Us → Prop}, kind + d = N → ss.length = N → left ≤ 5 → 0 ≤ ways → ways * fac left ≤ 120 * 1000 ^ (5 - left) → (∀ j, 0 ≤ g j) → sumN (N + 1) g + ways * tot (row.drop kind) ^ left ≤ 1000000000000000 →
    (∀ s' : List Int, s'.length = N → s'.take kind = ss.take kind → Q (.tup []) [nl s', nl (rg (N + 1) (fun j => g j + cntA (row.drop kind) (ss.take kind) left ways j))]) →
    KM Try.prog glX 100 [iv (kind : Int), iv (left : Int), iv ways, .ptr (.p 0) 0 0, .ptr (.p 1) 0 0, .ptr (.p 3) 0 0, .ptr (.p 5) 0 0, .ptr (.p 6) 0 0] (memB (N : Int) row N (N + 1) (nl (rg (N + 1) g)) (nl ss)) (poB 100 args) Q := by
  intro d
  induction d with
  | zero =>
    intro kind left ways g ss args Q hk hs hl hw hf hg hb h
    have hk : kind = N := by omega
    obtain ⟨cs, hcs⟩ : ∃ cs, cs = rg (N + 1) g := ⟨_, rfl⟩
    rw [← hcs]
    refine KM_of_WYKe hmX hcB 3000 Try.func100 (fun R hR => ?_)
    refine see (p := ifB ((↑kind : Int) == (↑N : Int)) (onSome (nl row)[N]? fun row_1 => onSome row_1[0]? fun v => onIntK IntKind.i64 v fun n => K0G Try.prog glX 88 [V.lst 1 (sub (nl ss) 0 N)] fun v => onIntK IntKind.i64 v fun n_1 => ifB (n_1 == (-1 : Int)) (need (N < N + 1) (onSome (nl cs)[0 + N]? fun row_2 => onSome row_2[0]? fun v => onIntK IntKind.i64 v fun n_2 => K0G Try.prog glX 102 [iv n, iv (↑left : Int)] fun v => onIntK IntKind.i64 v fun n => need (N < N + 1) (onSome (nl cs)[0 + N]? fun row_3 => guardB ((0 + 1).ble row_3.length) (R (V.tup []) (Hp.mk [(2, O.rows 1 true ((nl cs).set (0 + N) (iv (IntKind.i64.wrap (n_2 + IntKind.i64.wrap (ways * n))) :: (List.append []) (List.drop 1 row_3)))), (0, O.rows 1 false [[iv (↑N : Int)]]), (1, O.rows 1 false [[V.sl (Id.p 2) 0 (N + 1)]]), (3, O.rows 1 false [[V.sl (Id.p 4) 0 N]]), (4, O.rows 1 true (nl ss)), (5, O.rows 1 false [[V.lst 1 (nl row)]]), (6, O.rows 1 false [[V.fn (Fn.func (100 : FuncId)) [] [V.ptr (Id.p 0) 0 0, V.ptr (Id.p 1) 0 0, V.ptr (Id.p 3) 0 0, V.ptr (Id.p 5) 0 0, V.ptr (Id.p 6) 0 0]]])] 7 []))))) (onNat n_1 fun m => need (m < N + 1) (onSome (nl cs)[0 + m]? fun row_2 => onSome row_2[0]? fun v => onIntK IntKind.i64 v fun n_2 => K0G Try.prog glX 102 [iv n, iv (↑left : Int)] fun v => onIntK IntKind.i64 v fun n => onNat n_1 fun m => need (m < N + 1) (onSome (nl cs)[0 + m]? fun row_3 => guardB ((0 + 1).ble row_3.length) (R (V.tup []) (Hp.mk [(2, O.rows 1 true ((nl cs).set (0 + m) (iv (IntKind.i64.wrap (n_2 + IntKind.i64.wrap (ways * n))) :: (List.append []) (List.drop 1 row_3)))), (0, O.rows 1 false [[iv (↑N : Int)]]), (1, O.rows 1 false [[V.sl (Id.p 2) 0 (N + 1)]]), (3, O.rows 1 false [[V.sl (Id.p 4) 0 N]]), (4, O.rows 1 true (nl ss)), (5, O.rows 1 false [[V.lst 1 (nl row)]]), (6, O.rows 1 false [[V.fn (Fn.func (100 : FuncId)) [] [V.ptr (Id.p 0) 0 0, V.ptr (Id.p 1) 0 0, V.ptr (Id.p 3) 0 0, V.ptr (Id.p 5) 0 0, V.ptr (Id.p 6) 0 0]]])] 7 [])))))) (La 7 [(0 : Tmp), (1 : Tmp), (2 : Tmp), (3 : Tmp), (4 : Tmp), (5 : Tmp), (6 : Tmp), (7 : Tmp), (33 : Tmp), (34 : Tmp)] (WY Try.prog cfB 2996 (Env.mk (Bs.mk 0 []) 7 none 63 100 0) (cdAt [1, 1, 0, 0] (bodyOf Try.f100))) (Qblk 0 (QendX Try.prog Try.f100 R)) (St.mk (mkT [(0, iv (↑kind : Int)), (1, iv (↑left : Int)), (2, iv ways), (3, V.ptr (Id.p 0) 0 0), (4, V.ptr (Id.p 1) 0 0), (5, V.ptr (Id.p 3) 0 0), (6, V.ptr (Id.p 5) 0 0), (7, V.ptr (Id.p 6) 0 0), (33, iv (IntKind.i64.wrap ((↑left : Int) + (1 : Int)))), (34, iv (0 : Int))]) (Hp.mk [(0, O.rows 1 false [[iv (↑N : Int)]]), (1, O.rows 1 false [[V.sl (Id.p 2) 0 (N + 1)]]), (2, O.rows 1 true (nl cs)), (3, O.rows 1 false [[V.sl (Id.p 4) 0 N]]), (4, O.rows 1 true (nl ss)), (5, O.rows 1 false [[V.lst 1 (nl row)]]), (6, O.rows 1 false [[V.fn (Fn.func (100 : FuncId)) [] [V.ptr (Id.p 0) 0 0, V.ptr (Id.p 1) 0 0, V.ptr (Id.p 3) 0 0, V.ptr (Id.p 5) 0 0, V.ptr (Id.p 6) 0 0]]])] 7 [])))) (by kernel_rfl) ?_
    subst hk
    subst hcs
    refine ifB_t (by simp) ?_
    obtain ⟨z, hz⟩ := getI (l := row) (k := kind) (by omega)
    have hd : row.drop kind = [z] := by
      rw [List.drop_eq_getElem_cons (by omega), (List.getElem?_eq_some_iff.1 hz).2, List.drop_of_length_le (by omega)]
    have z0 := hr z (mem_at hz)
    have hp := plc_le ss
    rw [hd] at hb h
    rw [List.take_of_length_le (by omega)] at h
    have hzt : tot [z] = z := by simp [tot]
    rw [hzt] at hb
    have hzn := pow_nn z0.1 left
    have hwz := Int.mul_nonneg hw hzn
    have hgp : g (plc ss) ≤ sumN (kind + 1) g := sumN_ge (fun k _ => hg k) (by omega)
    have hg0 := hg (plc ss)
    have hz5 := p5 z0.1 z0.2 hl
    have key : ∀ p : Nat, plc ss = p → SameH (Hp.mk [(2, O.rows 1 true (nl (rg (kind + 1) (fun j => if p = j then g p + ways * z ^ left else g j)))), (0, O.rows 1 false [[iv (kind : Int)]]), (1, O.rows 1 false
        [[V.sl (Id.p 2) 0 (kind + 1)]]), (3, O.rows 1 false [[V.sl (Id.p 4) 0 kind]]), (4, O.rows 1 true (nl ss)), (5, O.rows 1 false [[V.lst 1 (nl row)]]), (6, O.rows 1 false
        [[V.fn (Fn.func 100) [] [V.ptr (Id.p 0) 0 0, V.ptr (Id.p 1) 0 0, V.ptr (Id.p 3) 0 0, V.ptr (Id.p 5) 0 0, V.ptr (Id.p 6) 0 0]]])] 7 [])
        (poB 100 args (memB (kind : Int) row kind (kind + 1) (nl (rg (kind + 1) g)) (nl ss)) [nl ss, nl (rg (kind + 1) (fun j => g j + cntA [z] ss left ways j))]) := fun p hp => by
      have e : rg (kind + 1) (fun j => if p = j then g p + ways * z ^ left else g j) = rg (kind + 1) (fun j => g j + cntA [z] ss left ways j) := rg_congr fun j => by
        simp only [cntA, hp]
        by_cases hj : p = j
        · subst hj; rw [if_pos rfl, if_pos rfl]
        · rw [if_neg hj, if_neg hj]; omega
      rw [e]
      exact ⟨rfl, rfl, fun n => by rcases n with _ | _ | _ | _ | _ | _ | _ | n <;> rfl⟩
    refine (onSome_mk (by simp [nl, hz] : (nl row)[kind]? = some [iv z]) (onSome_mk (rfl : [iv z][0]? = some (iv z)) (onIntK_iv ?_)))
    rw [sub_all' ss hs]
    refine most88l (by omega) (onIntK_iv ?_)
    refine ifB_mk (fun c => ?_) (fun c => ?_)
    · have hpl : plc ss = kind := by unfold plc; rw [if_pos (by simpa using c), hs]
      refine need_mk ⟨by omega, onSome_mk (rg_get (by omega)) (onSome_mk (rfl : [iv (g kind)][0]? = some _) (onIntK_iv ?_))⟩
      refine power102 z0.1 z0.2 hl (onIntK_iv (need_mk ⟨by omega, onSome_mk (rg_get (by omega)) (guardB_mk rfl ?_)⟩))
      rw [hpl] at hgp hg0
      rw [wr (n := ways * z ^ left) (by omega) (by omega), wr (by omega) (by omega), rg_set (by omega)]
      exact hR _ _ _ (h ss hs (List.take_of_length_le (by omega))) (key kind hpl)
    · have hm := mostR ss
      have hne : mostF ss ≠ -1 := by simpa using c
      obtain ⟨p, hp'⟩ : ∃ p : Nat, mostF ss = (p : Int) := ⟨(mostF ss).toNat, by omega⟩
      have hpl : plc ss = p := by unfold plc; rw [if_neg hne, hp']; rfl
      refine onNat_mk (m := p) hp' (need_mk ⟨by omega, onSome_mk (rg_get (by omega)) (onSome_mk (rfl : [iv (g p)][0]? = some _) (onIntK_iv ?_))⟩)
      refine power102 z0.1 z0.2 hl (onIntK_iv (onNat_mk (m := p) hp' (need_mk ⟨by omega, onSome_mk (rg_get (by omega)) (guardB_mk rfl ?_)⟩)))
      rw [hpl] at hgp hg0
      rw [wr (n := ways * z ^ left) (by omega) (by omega), wr (by omega) (by omega), rg_set (by omega)]
      exact hR _ _ _ (h ss hs (List.take_of_length_le (by omega))) (key p hpl)
  | succ d ih =>
    intro kind left ways g ss args Q hk hs hl hw hf hg hb h
    obtain ⟨cs, hcs⟩ : ∃ cs, cs = rg (N + 1) g := ⟨_, rfl⟩
    rw [← hcs]
    refine KM_of_WYKe hmX hcB 3000 Try.func100 (fun R hR => ?_)
    refine see (p := ifB ((↑kind : Int) == (↑N : Int)) (onSome (nl row)[N]? fun row_1 => onSome row_1[0]? fun v => onIntK IntKind.i64 v fun n => K0G Try.prog glX 88 [V.lst 1 (sub (nl ss) 0 N)] fun v => onIntK IntKind.i64 v fun n_1 => ifB (n_1 == (-1 : Int)) (need (N < N + 1) (onSome (nl cs)[0 + N]? fun row_2 => onSome row_2[0]? fun v => onIntK IntKind.i64 v fun n_2 => K0G Try.prog glX 102 [iv n, iv (↑left : Int)] fun v => onIntK IntKind.i64 v fun n => need (N < N + 1) (onSome (nl cs)[0 + N]? fun row_3 => guardB ((0 + 1).ble row_3.length) (R (V.tup []) (Hp.mk [(2, O.rows 1 true ((nl cs).set (0 + N) (iv (IntKind.i64.wrap (n_2 + IntKind.i64.wrap (ways * n))) :: (List.append []) (List.drop 1 row_3)))), (0, O.rows 1 false [[iv (↑N : Int)]]), (1, O.rows 1 false [[V.sl (Id.p 2) 0 (N + 1)]]), (3, O.rows 1 false [[V.sl (Id.p 4) 0 N]]), (4, O.rows 1 true (nl ss)), (5, O.rows 1 false [[V.lst 1 (nl row)]]), (6, O.rows 1 false [[V.fn (Fn.func (100 : FuncId)) [] [V.ptr (Id.p 0) 0 0, V.ptr (Id.p 1) 0 0, V.ptr (Id.p 3) 0 0, V.ptr (Id.p 5) 0 0, V.ptr (Id.p 6) 0 0]]])] 7 []))))) (onNat n_1 fun m => need (m < N + 1) (onSome (nl cs)[0 + m]? fun row_2 => onSome row_2[0]? fun v => onIntK IntKind.i64 v fun n_2 => K0G Try.prog glX 102 [iv n, iv (↑left : Int)] fun v => onIntK IntKind.i64 v fun n => onNat n_1 fun m => need (m < N + 1) (onSome (nl cs)[0 + m]? fun row_3 => guardB ((0 + 1).ble row_3.length) (R (V.tup []) (Hp.mk [(2, O.rows 1 true ((nl cs).set (0 + m) (iv (IntKind.i64.wrap (n_2 + IntKind.i64.wrap (ways * n))) :: (List.append []) (List.drop 1 row_3)))), (0, O.rows 1 false [[iv (↑N : Int)]]), (1, O.rows 1 false [[V.sl (Id.p 2) 0 (N + 1)]]), (3, O.rows 1 false [[V.sl (Id.p 4) 0 N]]), (4, O.rows 1 true (nl ss)), (5, O.rows 1 false [[V.lst 1 (nl row)]]), (6, O.rows 1 false [[V.fn (Fn.func (100 : FuncId)) [] [V.ptr (Id.p 0) 0 0, V.ptr (Id.p 1) 0 0, V.ptr (Id.p 3) 0 0, V.ptr (Id.p 5) 0 0, V.ptr (Id.p 6) 0 0]]])] 7 [])))))) (La 7 [(0 : Tmp), (1 : Tmp), (2 : Tmp), (3 : Tmp), (4 : Tmp), (5 : Tmp), (6 : Tmp), (7 : Tmp), (33 : Tmp), (34 : Tmp)] (WY Try.prog cfB 2996 (Env.mk (Bs.mk 0 []) 7 none 63 100 0) (cdAt [1, 1, 0, 0] (bodyOf Try.f100))) (Qblk 0 (QendX Try.prog Try.f100 R)) (St.mk (mkT [(0, iv (↑kind : Int)), (1, iv (↑left : Int)), (2, iv ways), (3, V.ptr (Id.p 0) 0 0), (4, V.ptr (Id.p 1) 0 0), (5, V.ptr (Id.p 3) 0 0), (6, V.ptr (Id.p 5) 0 0), (7, V.ptr (Id.p 6) 0 0), (33, iv (IntKind.i64.wrap ((↑left : Int) + (1 : Int)))), (34, iv (0 : Int))]) (Hp.mk [(0, O.rows 1 false [[iv (↑N : Int)]]), (1, O.rows 1 false [[V.sl (Id.p 2) 0 (N + 1)]]), (2, O.rows 1 true (nl cs)), (3, O.rows 1 false [[V.sl (Id.p 4) 0 N]]), (4, O.rows 1 true (nl ss)), (5, O.rows 1 false [[V.lst 1 (nl row)]]), (6, O.rows 1 false [[V.fn (Fn.func (100 : FuncId)) [] [V.ptr (Id.p 0) 0 0, V.ptr (Id.p 1) 0 0, V.ptr (Id.p 3) 0 0, V.ptr (Id.p 5) 0 0, V.ptr (Id.p 6) 0 0]]])] 7 [])))) (by kernel_rfl) ?_
    refine ifB_f (by simp; omega) ?_
    obtain ⟨r, hrk⟩ := getI (l := row) (k := kind) (by omega)
    obtain ⟨r2, hr2⟩ := getI (l := row) (k := kind + 1) (by omega)
    have r0 := hr r (mem_at hrk)
    have hd2 : row.drop (kind + 1) = r2 :: row.drop (kind + 2) := by
      rw [List.drop_eq_getElem_cons (by omega), (List.getElem?_eq_some_iff.1 hr2).2]
    have hd : row.drop kind = r :: r2 :: row.drop (kind + 2) := by
      rw [List.drop_eq_getElem_cons (by omega), (List.getElem?_eq_some_iff.1 hrk).2, hd2]
    generalize hff : (fun (i j : Nat) => cntA (row.drop (kind + 1)) (ss.take kind ++ [(i : Int)]) (left - i) (ways * ch left i * r ^ i) j) = f
    have hnn : ∀ x ∈ row.drop (kind + 1), 0 ≤ x := fun x hx => (hr x (List.mem_of_mem_drop hx)).1
    have f0 : ∀ i j, 0 ≤ f i j := fun i j => by
      rw [← hff]
      exact cntA_nn _ _ _ _ _ hnn (way_nn hw r0.1 _ _)
    have fs : ∀ i, i ≤ left → sumN (N + 1) (f i) = ways * ch left i * r ^ i * tot (row.drop (kind + 1)) ^ (left - i) := fun i hi => by
      rw [← hff]
      exact cntA_sum _ _ _ _ _ (by rw [hd2]; simp) (by simp; omega) (by omega)
    have T0 : 0 ≤ tot (row.drop (kind + 1)) := by
      clear hff f0 fs
      generalize row.drop (kind + 1) = l at hnn
      induction l with
      | nil => exact Int.le_refl _
      | cons x l ih2 => have := ih2 (fun y hy => hnn y (by simp [hy])); have := hnn x (by simp); show 0 ≤ x + tot l; omega
    have hall : sumN (left + 1) (fun i => sumN (N + 1) (f i)) = ways * tot (row.drop kind) ^ left := by
      rw [show sumN (left + 1) (fun i => sumN (N + 1) (f i)) = sumN (left + 1) (fun i => ways * ((ch left i : Int) * r ^ i * tot (row.drop (kind + 1)) ^ (left - i))) from sumN_congr (fun i hi => by rw [fs i (by omega), Int.mul_assoc, Int.mul_assoc, Int.mul_assoc]), sumN_mul, binom hl, hd, hd2]
      rfl
    have gsum : ∀ k, sumN (N + 1) (gv g f k) = sumN (N + 1) g + sumN k (fun i => sumN (N + 1) (f i)) := fun k => by
      rw [sumN_congr (g := fun j => g j + sumN k (fun i => f i j)) (fun j _ => gv_eq g f k j), sumN_add, sumN_swap]
    refine La.of (σ := Bool × Nat × List Int × List Int × Int) (fam N row kind left) (fun x => x.2.1 ≤ left + 1 ∧ x.2.2.1.length = N ∧ x.2.2.1.take kind = ss.take kind ∧ x.2.2.2.1 = rg (N + 1) (gv g f x.2.1) ∧ x.2.2.2.2 = wv ways r left x.2.1) (fun x => left + 1 - x.2.1) (false, 0, ss, cs, ways) (by kernel_rfl) ⟨by simp, hs, rfl, hcs, rfl⟩ ?_
    rintro ⟨b, k, s1, cs, w⟩ ⟨g1, g2, g3, g4, g5⟩ J hJ
    simp only at g1 g2 g3 g4 g5
    have wl : IntKind.i64.wrap ((left : Int) + 1) = (left : Int) + 1 := wr (by omega) (by omega)
    have go : k ≤ left → ∀ {args : List V}, KM Try.prog glX 100 [iv ((kind + 1 : Nat) : Int), iv ((left - k : Nat) : Int), iv (wv ways r left k), .ptr (.p 0) 0 0, .ptr (.p 1) 0 0, .ptr (.p 3) 0 0, .ptr (.p 5) 0 0, .ptr (.p 6) 0 0] (memB (N : Int) row N (N + 1) (nl (rg (N + 1) (gv g f k))) (nl (s1.set kind (k : Int)))) (poB 100 args) (fun v us => v = .tup [] ∧ ∃ s' : List Int, s'.length = N ∧ s'.take kind = ss.take kind ∧ us = [nl s', nl (rg (N + 1) (gv g f (k + 1)))]) := fun hkl args => by
      refine ih (kind + 1) (left - k) (wv ways r left k) (gv g f k) (s1.set kind (k : Int)) (by omega) (by simpa using g2) (by omega) ?_ ?_ ?_ ?_ (fun s' hs1 hs2 => ⟨rfl, s', hs1, ?_, ?_⟩)
      · rw [wv_eq]; exact way_nn hw r0.1 _ _
      · rw [wv_eq]; exact way_le hl hkl hw hf r0.1 r0.2
      · intro j
        rw [gv_eq]
        have := hg j
        have := sumN_nn (n := k) (f := fun i => f i j) (fun i _ => f0 i j)
        omega
      · rw [gsum, wv_eq, ← fs k hkl]
        have e : sumN (k + 1) (fun i => sumN (N + 1) (f i)) = sumN k (fun i => sumN (N + 1) (f i)) + sumN (N + 1) (f k) := rfl
        have := sumN_mono (n := k + 1) (m := left + 1) (f := fun i => sumN (N + 1) (f i)) (fun i _ => sumN_nn (fun j _ => f0 i j)) (by omega)
        rw [hall] at this
        omega
      · have : (s'.take (kind + 1)).take kind = ((s1.set kind (k : Int)).take (kind + 1)).take kind := by rw [hs2]
        rw [List.take_take, List.take_take, Nat.min_eq_left (by omega), List.take_set_of_le (Nat.le_refl _)] at this
        rw [this, g3]
      · have e : (s1.set kind (k : Int)).take (kind + 1) = ss.take kind ++ [(k : Int)] := by
          rw [take_succ' (x := (k : Int)) (by rw [List.getElem?_set_self (by omega)]), List.take_set_of_le (Nat.le_refl _), g3]
        rw [e]
        congr 3
        refine rg_congr fun j => ?_
        rw [gv_eq, gv_eq, wv_eq]
        have e2 : sumN (k + 1) (fun i => f i j) = sumN k (fun i => f i j) + f k j := rfl
        have e3 : f k j = cntA (row.drop (kind + 1)) (ss.take kind ++ [(k : Int)]) (left - k) (ways * ch left k * r ^ k) j := by rw [← hff]
        omega
    have stepW : k ≤ left → IntKind.i64.wrap ((IntKind.i64.wrap (IntKind.i64.wrap (wv ways r left k * IntKind.i64.wrap ((left : Int) - (k : Int))) * r)).tdiv (IntKind.i64.wrap ((k : Int) + (1 : Int)))) = wv ways r left (k + 1) := fun hkl => by
      have w0 := way_nn hw r0.1 left k
      have w1 := way_nn hw r0.1 left (k + 1)
      have wb := way_le hl hkl hw hf r0.1 r0.2
      have nx := way_next (ways := ways) (r := r) hl hkl
      rw [wv_eq, wv_eq]
      generalize ways * ch left k * r ^ k = W at w0 wb nx ⊢
      generalize ways * ch left (k + 1) * r ^ (k + 1) = W' at w1 nx ⊢
      have hW : W * ((left : Int) - k) * 1000 ≤ 1000000000000000000 ∧ W * ((left : Int) - k) ≤ 1000000000000000 := by
        have fp := fac_pos (left - k)
        have hWf : W ≤ W * fac (left - k) := by
          have := Int.mul_le_mul_of_nonneg_left (show (1 : Int) ≤ fac (left - k) by omega) w0
          rw [Int.mul_one] at this
          exact this
        have c : left - k = 0 ∨ left - k = 1 ∨ left - k = 2 ∨ left - k = 3 ∨ left - k = 4 ∨ left - k = 5 := by omega
        have hlk : (left : Int) - k = ((left - k : Nat) : Int) := by omega
        rw [hlk]
        rcases c with c | c | c | c | c | c <;> rw [c] at wb hWf ⊢ <;> simp [fac] at wb hWf ⊢ <;> omega
      have hA0 : 0 ≤ W * ((left : Int) - k) := Int.mul_nonneg w0 (by omega)
      have hB : W * ((left : Int) - k) * r ≤ W * ((left : Int) - k) * 1000 := Int.mul_le_mul_of_nonneg_left r0.2 hA0
      have hB0 : 0 ≤ W * ((left : Int) - k) * r := Int.mul_nonneg hA0 r0.1
      rw [wr (n := (left : Int) - k) (by omega) (by omega), wr (n := W * ((left : Int) - k)) (by omega) (by omega), wr (n := W * ((left : Int) - k) * r) (by omega) (by omega), wr (n := (k : Int) + 1) (by omega) (by omega), nx, Int.mul_tdiv_cancel _ (by omega)]
      have : W' ≤ W' * ((k : Int) + 1) := by
        have := Int.mul_le_mul_of_nonneg_left (show (1 : Int) ≤ (k : Int) + 1 by omega) w1
        rw [Int.mul_one] at this
        exact this
      exact wr (by omega) (by omega)
    obtain ⟨x, hx⟩ := getI (l := s1) (k := kind) (by omega)
    have hrow' : (nl row)[kind]? = some [iv r] := by simp [nl, hrk]
    have lk : k ≤ left → IntKind.i64.wrap ((left : Int) - (k : Int)) = ((left - k : Nat) : Int) := fun hkl => by rw [wr (by omega) (by omega)]; omega
    have fin : ∀ h1 : Hp, ¬ (k : Int) < (left : Int) + 1 → SameH h1 (memO (N : Int) row N (N + 1) (nl (rg (N + 1) (gv g f k))) (nl s1)) → R (.tup []) h1 := fun h1 hk1 hs1 => by
      have hk2 : k = left + 1 := by omega
      refine hR _ _ _ (h s1 g2 g3) ?_
      have e : rg (N + 1) (gv g f k) = rg (N + 1) (fun j => g j + cntA (row.drop kind) (ss.take kind) left ways j) := rg_congr fun j => by
        rw [gv_eq, hk2, hd, cntA_step, ← hd2, ← hff]
      rw [e] at hs1
      exact ⟨hs1.1, hs1.2.1, fun n => (hs1.2.2 n).trans (by rcases n with _ | _ | _ | _ | _ | _ | _ | n <;> rfl)⟩
    cases b with
    | false =>
      refine see (p := ifB (decide ((↑k : Int) < IntKind.i64.wrap ((↑left : Int) + (1 : Int)))) (need (kind < N) (onSome (nl s1)[0 + kind]? fun row_1 => guardB ((0 + 1).ble row_1.length) (KM Try.prog glX 100 [iv (IntKind.i64.wrap ((↑kind : Int) + (1 : Int))), iv (IntKind.i64.wrap ((↑left : Int) - (↑k : Int))), iv w, V.ptr (Id.p 0) 0 0, V.ptr (Id.p 1) 0 0, V.ptr (Id.p 3) 0 0, V.ptr (Id.p 5) 0 0, V.ptr (Id.p 6) 0 0] (Hp.mk [(0, O.rows 1 false [[iv (↑N : Int)]]), (1, O.rows 1 false [[V.sl (Id.p 2) 0 (N + 1)]]), (2, O.rows 1 true (nl cs)), (3, O.rows 1 false [[V.sl (Id.p 4) 0 N]]), (4, O.rows 1 true ((nl s1).set (0 + kind) (iv (↑k : Int) :: (List.append []) (List.drop 1 row_1)))), (5, O.rows 1 false [[V.lst 1 (nl row)]]), (6, O.rows 1 false [[V.fn (Fn.func (100 : FuncId)) [] [V.ptr (Id.p 0) 0 0, V.ptr (Id.p 1) 0 0, V.ptr (Id.p 3) 0 0, V.ptr (Id.p 5) 0 0, V.ptr (Id.p 6) 0 0]]])] 7 []) (poB 100 [iv (IntKind.i64.wrap ((↑kind : Int) + (1 : Int))), iv (IntKind.i64.wrap ((↑left : Int) - (↑k : Int))), iv w, V.ptr (Id.p 0) 0 0, V.ptr (Id.p 1) 0 0, V.ptr (Id.p 3) 0 0, V.ptr (Id.p 5) 0 0, V.ptr (Id.p 6) 0 0]) fun v us => onTup v fun vs => onNil vs (onSome (nl row)[kind]? fun row_2 => onSome row_2[0]? fun v => onIntK IntKind.i64 v fun n => need (IntKind.i64.wrap ((↑k : Int) + (1 : Int)) ≠ (0 : Int)) (J (St.mk (mkT [(0, iv (↑kind : Int)), (1, iv (↑left : Int)), (2, iv (IntKind.i64.wrap ((IntKind.i64.wrap (IntKind.i64.wrap (w * IntKind.i64.wrap ((↑left : Int) - (↑k : Int))) * n)).tdiv (IntKind.i64.wrap ((↑k : Int) + (1 : Int)))))), (3, V.ptr (Id.p 0) 0 0), (4, V.ptr (Id.p 1) 0 0), (5, V.ptr (Id.p 3) 0 0), (6, V.ptr (Id.p 5) 0 0), (7, V.ptr (Id.p 6) 0 0), (33, iv (IntKind.i64.wrap ((↑left : Int) + (1 : Int)))), (34, iv (IntKind.i64.wrap ((↑k : Int) + (1 : Int))))]) (Hp.mk [(4, O.rows 1 true (List.getD us 0 [])), (2, O.rows 1 true (List.getD us 1 [])), (0, O.rows 1 false [[iv (↑N : Int)]]), (1, O.rows 1 false [[V.sl (Id.p 2) 0 (N + 1)]]), (3, O.rows 1 false [[V.sl (Id.p 4) 0 N]]), (5, O.rows 1 false [[V.lst 1 (nl row)]]), (6, O.rows 1 false [[V.fn (Fn.func (100 : FuncId)) [] [V.ptr (Id.p 0) 0 0, V.ptr (Id.p 1) 0 0, V.ptr (Id.p 3) 0 0, V.ptr (Id.p 5) 0 0, V.ptr (Id.p 6) 0 0]]])] 7 []))))))) (R (V.tup []) (Hp.mk [(0, O.rows 1 false [[iv (↑N : Int)]]), (1, O.rows 1 false [[V.sl (Id.p 2) 0 (N + 1)]]), (2, O.rows 1 true (nl cs)), (3, O.rows 1 false [[V.sl (Id.p 4) 0 N]]), (4, O.rows 1 true (nl s1)), (5, O.rows 1 false [[V.lst 1 (nl row)]]), (6, O.rows 1 false [[V.fn (Fn.func (100 : FuncId)) [] [V.ptr (Id.p 0) 0 0, V.ptr (Id.p 1) 0 0, V.ptr (Id.p 3) 0 0, V.ptr (Id.p 5) 0 0, V.ptr (Id.p 6) 0 0]]])] 7 []))) (by kernel_rfl) ?_
      subst g4
      subst g5
      refine ifB_mk (fun hb => ?_) (fun hb => fin _ (by rw [wl] at hb; exact of_decide_eq_false hb) ⟨rfl, rfl, fun n => by rcases n with _ | _ | _ | _ | _ | _ | _ | n <;> rfl⟩)
      have hkl : k ≤ left := by rw [wl] at hb; have := of_decide_eq_true hb; omega
      refine need_mk ⟨by omega, onSome_mk (nl_get hx) (guardB_mk rfl ?_)⟩
      rw [nl_set, wr1i (show kind < N from by omega) (by omega), lk hkl]
      refine (go hkl).mono ?_
      rintro v us ⟨rfl, s', hs1, hs2, rfl⟩
      refine onTup_tup (onNil_nil (onSome_mk hrow' (onSome_mk (rfl : [iv r][0]? = some (iv r)) (onIntK_iv (need_mk ⟨by rw [wr (by omega) (by omega)]; omega, ?_⟩)))))
      have sw := stepW hkl
      rw [lk hkl] at sw
      rw [sw, wr1i (show k < 6 from by omega) (by omega)]
      exact hJ (true, k + 1, s', _, _) ⟨by simp only; omega, hs1, hs2, rfl, rfl⟩ (by simp only; omega)
    | true =>
      refine see (p := ifB (decide ((↑k : Int) < IntKind.i64.wrap ((↑left : Int) + (1 : Int)))) (need (kind < N) (onSome (nl s1)[0 + kind]? fun row_1 => guardB ((0 + 1).ble row_1.length) (KM Try.prog glX 100 [iv (IntKind.i64.wrap ((↑kind : Int) + (1 : Int))), iv (IntKind.i64.wrap ((↑left : Int) - (↑k : Int))), iv w, V.ptr (Id.p 0) 0 0, V.ptr (Id.p 1) 0 0, V.ptr (Id.p 3) 0 0, V.ptr (Id.p 5) 0 0, V.ptr (Id.p 6) 0 0] (Hp.mk [(0, O.rows 1 false [[iv (↑N : Int)]]), (1, O.rows 1 false [[V.sl (Id.p 2) 0 (N + 1)]]), (2, O.rows 1 true (nl cs)), (3, O.rows 1 false [[V.sl (Id.p 4) 0 N]]), (4, O.rows 1 true ((nl s1).set (0 + kind) (iv (↑k : Int) :: (List.append []) (List.drop 1 row_1)))), (5, O.rows 1 false [[V.lst 1 (nl row)]]), (6, O.rows 1 false [[V.fn (Fn.func (100 : FuncId)) [] [V.ptr (Id.p 0) 0 0, V.ptr (Id.p 1) 0 0, V.ptr (Id.p 3) 0 0, V.ptr (Id.p 5) 0 0, V.ptr (Id.p 6) 0 0]]])] 7 []) (poB 100 [iv (IntKind.i64.wrap ((↑kind : Int) + (1 : Int))), iv (IntKind.i64.wrap ((↑left : Int) - (↑k : Int))), iv w, V.ptr (Id.p 0) 0 0, V.ptr (Id.p 1) 0 0, V.ptr (Id.p 3) 0 0, V.ptr (Id.p 5) 0 0, V.ptr (Id.p 6) 0 0]) fun v us => onTup v fun vs => onNil vs (onSome (nl row)[kind]? fun row_2 => onSome row_2[0]? fun v => onIntK IntKind.i64 v fun n => need (IntKind.i64.wrap ((↑k : Int) + (1 : Int)) ≠ (0 : Int)) (J (St.mk (mkT [(0, iv (↑kind : Int)), (1, iv (↑left : Int)), (2, iv (IntKind.i64.wrap ((IntKind.i64.wrap (IntKind.i64.wrap (w * IntKind.i64.wrap ((↑left : Int) - (↑k : Int))) * n)).tdiv (IntKind.i64.wrap ((↑k : Int) + (1 : Int)))))), (3, V.ptr (Id.p 0) 0 0), (4, V.ptr (Id.p 1) 0 0), (5, V.ptr (Id.p 3) 0 0), (6, V.ptr (Id.p 5) 0 0), (7, V.ptr (Id.p 6) 0 0), (33, iv (IntKind.i64.wrap ((↑left : Int) + (1 : Int)))), (34, iv (IntKind.i64.wrap ((↑k : Int) + (1 : Int))))]) (Hp.mk [(4, O.rows 1 true (List.getD us 0 [])), (2, O.rows 1 true (List.getD us 1 [])), (0, O.rows 1 false [[iv (↑N : Int)]]), (1, O.rows 1 false [[V.sl (Id.p 2) 0 (N + 1)]]), (3, O.rows 1 false [[V.sl (Id.p 4) 0 N]]), (5, O.rows 1 false [[V.lst 1 (nl row)]]), (6, O.rows 1 false [[V.fn (Fn.func (100 : FuncId)) [] [V.ptr (Id.p 0) 0 0, V.ptr (Id.p 1) 0 0, V.ptr (Id.p 3) 0 0, V.ptr (Id.p 5) 0 0, V.ptr (Id.p 6) 0 0]]])] 7 []))))))) (R (V.tup []) (Hp.mk [(4, O.rows 1 true (nl s1)), (2, O.rows 1 true (nl cs)), (0, O.rows 1 false [[iv (↑N : Int)]]), (1, O.rows 1 false [[V.sl (Id.p 2) 0 (N + 1)]]), (3, O.rows 1 false [[V.sl (Id.p 4) 0 N]]), (5, O.rows 1 false [[V.lst 1 (nl row)]]), (6, O.rows 1 false [[V.fn (Fn.func (100 : FuncId)) [] [V.ptr (Id.p 0) 0 0, V.ptr (Id.p 1) 0 0, V.ptr (Id.p 3) 0 0, V.ptr (Id.p 5) 0 0, V.ptr (Id.p 6) 0 0]]])] 7 []))) (by kernel_rfl) ?_
      subst g4
      subst g5
      refine ifB_mk (fun hb => ?_) (fun hb => fin _ (by rw [wl] at hb; exact of_decide_eq_false hb) ⟨rfl, rfl, fun n => rfl⟩)
      have hkl : k ≤ left := by rw [wl] at hb; have := of_decide_eq_true hb; omega
      refine need_mk ⟨by omega, onSome_mk (nl_get hx) (guardB_mk rfl ?_)⟩
      rw [nl_set, wr1i (show kind < N from by omega) (by omega), lk hkl]
      refine (go hkl).mono ?_
      rintro v us ⟨rfl, s', hs1, hs2, rfl⟩
      refine onTup_tup (onNil_nil (onSome_mk hrow' (onSome_mk (rfl : [iv r][0]? = some (iv r)) (onIntK_iv (need_mk ⟨by rw [wr (by omega) (by omega)]; omega, ?_⟩)))))
      have sw := stepW hkl
      rw [lk hkl] at sw
      rw [sw, wr1i (show k < 6 from by omega) (by omega)]
      exact hJ (true, k + 1, s', _, _) ⟨by simp only; omega, hs1, hs2, rfl, rfl⟩ (by simp only; omega)
end Go.Proofs.Ytmdimnmdoifkfaa
namespace Go.Proofs.Ytmdimnmdoifkfaa
open Go Go.Proofs.Ytmdimnmdoifkfaa.Clean
set_option linter.unusedVariables false
set_option maxRecDepth 100000
def tl (l : List (List Int)) : List (List V) := l.map fun x => [.lst 1 (nl x)]
def kpF : FuncId → Nat → Option (List Tmp) := slotsOf [(78, 0, [3, 6, 7, 8]), (31, 0, [0, 5, 6, 7]), (37, 0, [0, 9, 10, 11]), (12, 0, [0, 1, 7, 8, 10, 11, 44, 45]), (12, 2, [0, 1, 7, 8, 10, 11, 50, 51, 52])]
noncomputable def cfF : Cfg := { cfgG Try.prog glX moB poB rtB (inN [54, 101, 32, 56]) kpF with clean := fun g => !inN [100] g }
noncomputable def sh78 (l : List Int) (t : Int) (k : Nat) : St := ⟨mkT [(3, iv t), (6, V.lst 1 (nl l)), (7, iv ((nl l).length : Int)), (8, iv (k : Int))], ⟨[], 0, []⟩⟩
noncomputable def sh31 (l : List (List Int)) (k : Nat) : St := ⟨mkT [(0, V.lst 1 (tl l)), (5, V.lst 1 (tl l)), (6, iv ((tl l).length : Int)), (7, iv (k : Int))], ⟨[], 0, []⟩⟩
noncomputable def sh37 (l : List (List Int)) (k : Nat) : St := ⟨mkT [(0, V.lst 1 (tl l)), (9, V.lst 1 (tl l)), (10, iv ((tl l).length : Int)), (11, iv (k : Int))], ⟨[], 0, []⟩⟩
end Go.Proofs.Ytmdimnmdoifkfaa
namespace Go.Proofs.Ytmdimnmdoifkfaa
open Go Go.Proofs.Ytmdimnmdoifkfaa.Clean
set_option linter.unusedVariables false
set_option linter.unusedSimpArgs false
set_option maxRecDepth 10000
abbrev Gt := Int × Int
def leadF : List Gt → Int → Nat → Int
  | [], _, _ => -1
  | g :: r, n, k => if g.2 = n then (k : Int) else leadF r n (k + 1)
def lead (b : Bt) (n : Int) : Int := leadF b.gs n 0
end Go.Proofs.Ytmdimnmdoifkfaa
namespace Go.Proofs.Ytmdimnmdoifkfaa
open Go Go.Proofs.Ytmdimnmdoifkfaa.Clean
set_option linter.unusedVariables false
set_option linter.unusedSimpArgs false
set_option maxRecDepth 10000
def F1 (x : Fd) : Prop := 0 ≤ x.1 ∧ x.1 ≤ 1000 ∧ 0 ≤ x.2.1 ∧ x.2.1 ≤ 15 ∧ RdP x.2.2
end Go.Proofs.Ytmdimnmdoifkfaa
namespace Go.Proofs.Ytmdimnmdoifkfaa
open Go Go.Proofs.Ytmdimnmdoifkfaa.Clean
set_option linter.unusedVariables false
set_option maxRecDepth 100000
def moT (f : FuncId) : Nat := 0
def tyT (f : FuncId) : Option TypeId := some 3
end Go.Proofs.Ytmdimnmdoifkfaa
namespace Go.Proofs.Ytmdimnmdoifkfaa
open Go Go.Proofs.Ytmdimnmdoifkfaa.Clean
set_option linter.unusedVariables false
set_option linter.unusedSimpArgs false
set_option maxRecDepth 10000
def gateF (b : Bt) (k : Int) : Int := if k = -1 then -1 else lead b (b.bins.getD k.toNat 0)
def fd (l : List Fd) (i : Nat) : Fd := l.getD i (0, 0, [])
def gk (b : Bt) (x : Fd) : Int := gateF b (kindOf x.2.2)
end Go.Proofs.Ytmdimnmdoifkfaa
namespace Go.Proofs.Ytmdimnmdoifkfaa
open Go Go.Proofs.Ytmdimnmdoifkfaa.Clean
set_option linter.unusedVariables false
set_option linter.unusedSimpArgs false
set_option maxRecDepth 10000
def nearP (S : Int) (l : List Fd) (j : Nat) : Prop := (fd l j).1 - (fd l (j - 1)).1 ≤ 2 * S + 1
end Go.Proofs.Ytmdimnmdoifkfaa
namespace Go.Proofs.Ytmdimnmdoifkfaa
open Go Go.Proofs.Ytmdimnmdoifkfaa.Clean
set_option linter.unusedVariables false
set_option linter.unusedSimpArgs false
set_option maxRecDepth 10000
end Go.Proofs.Ytmdimnmdoifkfaa
