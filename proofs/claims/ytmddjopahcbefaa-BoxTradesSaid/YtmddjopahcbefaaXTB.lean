/- What a group can do with its own lots. -/
import Derived.Test.YtmddjopahcbefaaXTA
namespace Go.Proofs.Ytmddjopahcbefaa
open Go Go.Proofs.Ytmddjopahcbefaa.Clean
set_option linter.unusedVariables false
set_option linter.unusedSimpArgs false
set_option maxRecDepth 10000

theorem nn_length (l : List Nat) : (nn l).length = l.length := by simp [nn]
theorem wn_length (w : List (List Nat)) : (wn w).length = w.length := by simp [wn]
theorem nn_get {l : List Nat} {m : Nat} {x : Nat} (h : l[m]? = some x) : (nn l)[m]? = some [iv (x : Int)] := by simp [nn, h]
theorem wn_get {w : List (List Nat)} {m : Nat} {l : List Nat} (h : w[m]? = some l) : (wn w)[m]? = some [.lst 1 (nn l)] := by simp [wn, h]
theorem nel {l : List Nat} {i x : Nat} {k : Int → Prop} (h : l[i]? = some x) (hk : k (x : Int)) : onSome (nn l)[i]? fun row => onSome row[0]? fun v => onIntK IntKind.i64 v fun n => k n := onSome_mk (nn_get h) hk
theorem wel {w : List (List Nat)} {i : Nat} {l : List Nat} {k : Nat → List (List V) → Prop} (h : w[i]? = some l) (hk : k 1 (nn l)) : onSome (wn w)[i]? fun row => onSome row[0]? fun v => onLst v fun s es => k s es := onSome_mk (wn_get h) hk
theorem getN {l : List Nat} {i : Nat} (h : i < l.length) : l[i]? = some (l.getD i 0) := by simp [List.getD, h]
theorem getW {w : List (List Nat)} {i : Nat} (h : i < w.length) : w[i]? = some (w.getD i []) := by simp [List.getD, h]
theorem wr1 {i n : Nat} (h : i < n) (hn : (n : Int) ≤ 9223372036854775807) : IntKind.i64.wrap ((i : Int) + 1) = ((i + 1 : Nat) : Int) := by rw [wr (by omega) (by omega)]; simp

/-- x comes in l not behind y. -/
def rch (l : List Nat) (x y : Nat) : Prop := ∃ k : Nat, l[k]? = some x ∧ ∀ j : Nat, j < k → l[j]? ≠ some y
/-- The traders of T can get the lots of L so that none gets one that it likes less than the one of the trade, and (or g) one gets another one. -/
def Can (w : List (List Nat)) (tr : List Nat) (T L : Nat) (g : Bool) : Prop := ∃ σ : Nat → Nat, (∀ t, T.testBit t = true → L.testBit (σ t) = true ∧ rch (w.getD t []) (σ t) (tr.getD t 0)) ∧ (∀ t u, T.testBit t = true → T.testBit u = true → σ t = σ u → t = u) ∧ (g = true ∨ ∃ t, T.testBit t = true ∧ σ t ≠ tr.getD t 0)

theorem can_step {w : List (List Nat)} {tr : List Nat} {T L t : Nat} {g : Bool} {l : List Nat} (hT : T < 256) (hL : L < 256) (htb : T.testBit t = true) (hl : w.getD t [] = l) :
    Can w tr T L g ↔ ∃ (k : Nat) (x : Nat), l[k]? = some x ∧ (∀ j : Nat, j < k → l[j]? ≠ some (tr.getD t 0)) ∧ L.testBit x = true ∧ Can w tr (wo T t) (wo L x) (g || x != tr.getD t 0) := by
  have ht8 := bit8 hT htb
  have hwT : wo T t < 256 := Nat.lt_of_le_of_lt (wo_le _ _) hT
  have sub : ∀ {u}, (wo T t).testBit u = true → T.testBit u = true ∧ u ≠ t := fun {u} hu => by
    have hu8 := bit8 hwT hu
    rw [wo_bit T hT t ht8 u hu8] at hu
    simpa using hu
  constructor
  · rintro ⟨σ, h1, h2, h3⟩
    obtain ⟨a1, k, a2, a3⟩ := h1 t htb
    rw [hl] at a2 a3
    refine ⟨k, σ t, a2, a3, a1, σ, fun u hu => ?_, fun u v hu hv => h2 u v (sub hu).1 (sub hv).1, ?_⟩
    · obtain ⟨b1, b2⟩ := sub hu
      obtain ⟨c1, c2⟩ := h1 u b1
      refine ⟨?_, c2⟩
      rw [wo_bit L hL (σ t) (bit8 hL a1) (σ u) (bit8 hL c1), c1]
      have : σ u ≠ σ t := fun he => b2 (h2 u t b1 htb he)
      simpa using this
    · rcases h3 with h3 | ⟨u, h3, h4⟩
      · exact .inl (by simp [h3])
      · by_cases hut : u = t
        · subst hut; exact .inl (by rw [Bool.or_eq_true]; exact .inr (bne_iff_ne.2 h4))
        · refine .inr ⟨u, ?_, h4⟩
          rw [wo_bit T hT t ht8 u (bit8 hT h3), h3]
          simpa using hut
  · rintro ⟨k, x, a2, a3, a1, σ, h1, h2, h3⟩
    have hx8 := bit8 hL a1
    have hwL : wo L x < 256 := Nat.lt_of_le_of_lt (wo_le _ _) hL
    have into : ∀ {u}, T.testBit u = true → u ≠ t → (wo T t).testBit u = true := fun {u} hu hne => by
      rw [wo_bit T hT t ht8 u (bit8 hT hu), hu]
      simpa using hne
    have out : ∀ {u}, T.testBit u = true → u ≠ t → L.testBit (σ u) = true ∧ σ u ≠ x := fun {u} hu hne => by
      obtain ⟨c1, _⟩ := h1 u (into hu hne)
      rw [wo_bit L hL x hx8 (σ u) (bit8 hwL c1)] at c1
      simpa using c1
    refine ⟨fun u => if u = t then x else σ u, fun u hu => ?_, fun u v hu hv he => ?_, ?_⟩
    · by_cases hut : u = t
      · subst hut
        simp only [if_true]
        exact ⟨a1, k, by rw [hl]; exact a2, by rw [hl]; exact a3⟩
      · simp only [if_neg hut]
        exact ⟨(out hu hut).1, (h1 u (into hu hut)).2⟩
    · by_cases hut : u = t
      · by_cases hvt : v = t
        · rw [hut, hvt]
        · simp only [if_pos hut, if_neg hvt] at he
          exact absurd he.symm (out hv hvt).2
      · by_cases hvt : v = t
        · simp only [if_neg hut, if_pos hvt] at he
          exact absurd he (out hu hut).2
        · simp only [if_neg hut, if_neg hvt] at he
          exact h2 u v (into hu hut) (into hv hvt) he
    · rcases h3 with h3 | ⟨u, h3, h4⟩
      · simp only [Bool.or_eq_true] at h3
        rcases h3 with h3 | h3
        · exact .inl h3
        · exact .inr ⟨t, htb, by simpa using h3⟩
      · have := sub h3
        exact .inr ⟨u, this.1, by simp only [if_neg this.2]; exact h4⟩

theorem cast_bne (x y : Nat) : ((x : Int) != (y : Int)) = (x != y) := by
  rw [Bool.eq_iff_iff]; simp; omega
theorem give74 {w : List (List Nat)} {tr : List Nat} (hw : ∀ l ∈ w, l.length ≤ 1000 ∧ ∀ x ∈ l, x < 8) (htr : tr.length = w.length) : ∀ T, T < 256 → (∀ i, T.testBit i = true → i < w.length) → ∀ (L : Nat) (g : Bool) (Q : V → Us → Prop), L < 256 →
    (∀ b, (b = true ↔ Can w tr T L g) → Q (bv b) []) → KM Try.prog glX 121 [sv T, sv L, bv g, .ptr (.p 0) 0 0, .ptr (.p 1) 0 0, .ptr (.p 2) 0 0] (memG w tr) (sameP 121) Q := by
  intro T
  induction T using Nat.strongRecOn with
  | _ T ih =>
  intro hT hbits L g Q hL hQ
  refine KM_of_WYK hmX hcM 100 Try.func121 (fun R hR => see (p := ifB ((↑T : Int) == (0 : Int)) (R (bv g) (Hp.mk [(0, O.rows 1 false [[V.lst 1 (wn w)]]), (1, O.rows 1 false [[V.fn (Fn.func (121 : FuncId)) [] [V.ptr (Id.p 0) 0 0, V.ptr (Id.p 1) 0 0, V.ptr (Id.p 2) 0 0]]]), (2, O.rows 1 false [[V.lst 1 (nn tr)]])] 3 [])) (K0G Try.prog glX 82 [V.raw (Value.int IntKind.u8 (↑T : Int))] fun v => onIntK IntKind.i64 v fun n => onNat n fun m => onSome (wn w)[m]? fun row => onSome row[0]? fun v => onLst v fun s es => La 3 [(0 : Tmp), (1 : Tmp), (2 : Tmp), (4 : Tmp), (5 : Tmp), (10 : Tmp), (21 : Tmp), (22 : Tmp), (23 : Tmp)] (WY Try.prog cfM 93 (Env.mk (Bs.mk 0 []) 3 none 56 121 0) (cdAt [1, 1, 1, 0, 1, 0, 0] (bodyOf Try.f121))) (Qblk 0 (Qthen (WY Try.prog cfM 96 (Env.mk (Bs.mk 0 []) 3 none 56 121 0) (cdAt [1, 1, 1, 1] (bodyOf Try.f121)) (QendX Try.prog Try.f121 R)) (QendX Try.prog Try.f121 R))) (St.mk (mkT [(0, V.raw (Value.int IntKind.u8 (↑T : Int))), (1, V.raw (Value.int IntKind.u8 (↑L : Int))), (2, bv g), (4, V.ptr (Id.p 1) 0 0), (5, V.ptr (Id.p 2) 0 0), (10, iv n), (21, V.lst s es), (22, iv (↑es.length : Int)), (23, iv (0 : Int))]) (Hp.mk [(0, O.rows 1 false [[V.lst 1 (wn w)]]), (1, O.rows 1 false [[V.fn (Fn.func (121 : FuncId)) [] [V.ptr (Id.p 0) 0 0, V.ptr (Id.p 1) 0 0, V.ptr (Id.p 2) 0 0]]]), (2, O.rows 1 false [[V.lst 1 (nn tr)]])] 3 [])))) (by kernel_rfl) ?_)
  refine ifB_mk (fun hc => ?_) (fun hc => ?_)
  · have hT0 : T = 0 := by simpa using hc
    subst hT0
    exact hR _ (hQ g ⟨fun h => ⟨fun _ => 0, fun t ht => by simp at ht, fun t u ht => by simp at ht, .inl h⟩, fun ⟨σ, _, _, h3⟩ => h3.elim id (fun ⟨t, ht, _⟩ => by simp at ht)⟩)
  · have hT0 : T ≠ 0 := by simpa using hc
    obtain ⟨ht8, htb⟩ := fi_bit T hT hT0
    refine first45 hT (onIntK_iv (onNat_mk rfl ?_))
    generalize fi T = t at ht8 htb ⊢
    have htw := hbits t htb
    have hlw := getW htw
    generalize hl : w.getD t [] = l at hlw
    obtain ⟨hl1, hl8⟩ := hw l (List.mem_of_getElem? hlw)
    refine wel hlw ?_
    have hy := getN (l := tr) (i := t) (by omega)
    have hcs := can_step (tr := tr) (g := g) hT hL htb hl
    generalize hyy : tr.getD t 0 = y at hy hcs
    refine La.of (σ := Nat) (fun k => shG w tr T L g t l k) (fun k => k ≤ l.length ∧ (∀ j, j < k → l[j]? ≠ some y) ∧ ∀ j x, j < k → l[j]? = some x → L.testBit x = true → ¬ Can w tr (wo T t) (wo L x) (g || x != y)) (fun k => l.length - k) 0 (by kernel_rfl) ⟨by omega, by omega, by omega⟩ ?_
    rintro k ⟨hk, hk1, hk2⟩ J hJ
    refine see (p := ifB (decide ((↑k : Int) < (↑(nn l).length : Int))) (onSome (nn l)[k]? fun row => onSome row[0]? fun v => onIntK IntKind.i64 v fun n => K0G Try.prog glX 84 [V.raw (Value.int IntKind.u8 (↑L : Int)), iv n] fun v => onBool v fun b => ifB b (K0G Try.prog glX 116 [V.raw (Value.int IntKind.u8 (↑T : Int)), iv (↑t : Int)] fun v => onIntK IntKind.u8 v fun n_1 => K0G Try.prog glX 116 [V.raw (Value.int IntKind.u8 (↑L : Int)), iv n] fun v => onIntK IntKind.u8 v fun n_2 => ifB g (KM Try.prog glX 121 [V.raw (Value.int IntKind.u8 n_1), V.raw (Value.int IntKind.u8 n_2), bv true, V.ptr (Id.p 0) 0 0, V.ptr (Id.p 1) 0 0, V.ptr (Id.p 2) 0 0] (Hp.mk [(0, O.rows 1 false [[V.lst 1 (wn w)]]), (1, O.rows 1 false [[V.fn (Fn.func (121 : FuncId)) [] [V.ptr (Id.p 0) 0 0, V.ptr (Id.p 1) 0 0, V.ptr (Id.p 2) 0 0]]]), (2, O.rows 1 false [[V.lst 1 (nn tr)]])] 3 []) (fun h x => h) fun v us => onBool v fun b => ifB b (R (bv true) (Hp.mk [(0, O.rows 1 false [[V.lst 1 (wn w)]]), (1, O.rows 1 false [[V.fn (Fn.func (121 : FuncId)) [] [V.ptr (Id.p 0) 0 0, V.ptr (Id.p 1) 0 0, V.ptr (Id.p 2) 0 0]]]), (2, O.rows 1 false [[V.lst 1 (nn tr)]])] 3 [])) (onSome (nn tr)[t]? fun row => onSome row[0]? fun v => onIntK IntKind.i64 v fun n_3 => ifB (n == n_3) (R (bv false) (Hp.mk [(0, O.rows 1 false [[V.lst 1 (wn w)]]), (1, O.rows 1 false [[V.fn (Fn.func (121 : FuncId)) [] [V.ptr (Id.p 0) 0 0, V.ptr (Id.p 1) 0 0, V.ptr (Id.p 2) 0 0]]]), (2, O.rows 1 false [[V.lst 1 (nn tr)]])] 3 [])) (J (St.mk (mkT [(0, V.raw (Value.int IntKind.u8 (↑T : Int))), (1, V.raw (Value.int IntKind.u8 (↑L : Int))), (2, bv g), (4, V.ptr (Id.p 1) 0 0), (5, V.ptr (Id.p 2) 0 0), (10, iv (↑t : Int)), (21, V.lst 1 (nn l)), (22, iv (↑(nn l).length : Int)), (23, iv (IntKind.i64.wrap ((↑k : Int) + (1 : Int))))]) (Hp.mk [(0, O.rows 1 false [[V.lst 1 (wn w)]]), (1, O.rows 1 false [[V.fn (Fn.func (121 : FuncId)) [] [V.ptr (Id.p 0) 0 0, V.ptr (Id.p 1) 0 0, V.ptr (Id.p 2) 0 0]]]), (2, O.rows 1 false [[V.lst 1 (nn tr)]])] 3 []))))) (onSome (nn tr)[t]? fun row => onSome row[0]? fun v => onIntK IntKind.i64 v fun n_3 => KM Try.prog glX 121 [V.raw (Value.int IntKind.u8 n_1), V.raw (Value.int IntKind.u8 n_2), bv (n != n_3), V.ptr (Id.p 0) 0 0, V.ptr (Id.p 1) 0 0, V.ptr (Id.p 2) 0 0] (Hp.mk [(0, O.rows 1 false [[V.lst 1 (wn w)]]), (1, O.rows 1 false [[V.fn (Fn.func (121 : FuncId)) [] [V.ptr (Id.p 0) 0 0, V.ptr (Id.p 1) 0 0, V.ptr (Id.p 2) 0 0]]]), (2, O.rows 1 false [[V.lst 1 (nn tr)]])] 3 []) (fun h x => h) fun v us => onBool v fun b => ifB b (R (bv true) (Hp.mk [(0, O.rows 1 false [[V.lst 1 (wn w)]]), (1, O.rows 1 false [[V.fn (Fn.func (121 : FuncId)) [] [V.ptr (Id.p 0) 0 0, V.ptr (Id.p 1) 0 0, V.ptr (Id.p 2) 0 0]]]), (2, O.rows 1 false [[V.lst 1 (nn tr)]])] 3 [])) (onSome (nn tr)[t]? fun row => onSome row[0]? fun v => onIntK IntKind.i64 v fun n_4 => ifB (n == n_4) (R (bv false) (Hp.mk [(0, O.rows 1 false [[V.lst 1 (wn w)]]), (1, O.rows 1 false [[V.fn (Fn.func (121 : FuncId)) [] [V.ptr (Id.p 0) 0 0, V.ptr (Id.p 1) 0 0, V.ptr (Id.p 2) 0 0]]]), (2, O.rows 1 false [[V.lst 1 (nn tr)]])] 3 [])) (J (St.mk (mkT [(0, V.raw (Value.int IntKind.u8 (↑T : Int))), (1, V.raw (Value.int IntKind.u8 (↑L : Int))), (2, bv g), (4, V.ptr (Id.p 1) 0 0), (5, V.ptr (Id.p 2) 0 0), (10, iv (↑t : Int)), (21, V.lst 1 (nn l)), (22, iv (↑(nn l).length : Int)), (23, iv (IntKind.i64.wrap ((↑k : Int) + (1 : Int))))]) (Hp.mk [(0, O.rows 1 false [[V.lst 1 (wn w)]]), (1, O.rows 1 false [[V.fn (Fn.func (121 : FuncId)) [] [V.ptr (Id.p 0) 0 0, V.ptr (Id.p 1) 0 0, V.ptr (Id.p 2) 0 0]]]), (2, O.rows 1 false [[V.lst 1 (nn tr)]])] 3 [])))))) (onSome (nn tr)[t]? fun row => onSome row[0]? fun v => onIntK IntKind.i64 v fun n_1 => ifB (n == n_1) (R (bv false) (Hp.mk [(0, O.rows 1 false [[V.lst 1 (wn w)]]), (1, O.rows 1 false [[V.fn (Fn.func (121 : FuncId)) [] [V.ptr (Id.p 0) 0 0, V.ptr (Id.p 1) 0 0, V.ptr (Id.p 2) 0 0]]]), (2, O.rows 1 false [[V.lst 1 (nn tr)]])] 3 [])) (J (St.mk (mkT [(0, V.raw (Value.int IntKind.u8 (↑T : Int))), (1, V.raw (Value.int IntKind.u8 (↑L : Int))), (2, bv g), (4, V.ptr (Id.p 1) 0 0), (5, V.ptr (Id.p 2) 0 0), (10, iv (↑t : Int)), (21, V.lst 1 (nn l)), (22, iv (↑(nn l).length : Int)), (23, iv (IntKind.i64.wrap ((↑k : Int) + (1 : Int))))]) (Hp.mk [(0, O.rows 1 false [[V.lst 1 (wn w)]]), (1, O.rows 1 false [[V.fn (Fn.func (121 : FuncId)) [] [V.ptr (Id.p 0) 0 0, V.ptr (Id.p 1) 0 0, V.ptr (Id.p 2) 0 0]]]), (2, O.rows 1 false [[V.lst 1 (nn tr)]])] 3 []))))) (R (bv false) (Hp.mk [(0, O.rows 1 false [[V.lst 1 (wn w)]]), (1, O.rows 1 false [[V.fn (Fn.func (121 : FuncId)) [] [V.ptr (Id.p 0) 0 0, V.ptr (Id.p 1) 0 0, V.ptr (Id.p 2) 0 0]]]), (2, O.rows 1 false [[V.lst 1 (nn tr)]])] 3 []))) (by kernel_rfl) ?_
    refine ifB_mk (fun hb => ?_) (fun hb => ?_)
    · have hlt : k < l.length := by rw [nn_length] at hb; have := of_decide_eq_true hb; omega
      have hx := getN hlt
      generalize l.getD k 0 = x at hx
      have hx8 := hl8 x (List.mem_of_getElem? hx)
      have tailR : (L.testBit x = true → ¬ Can w tr (wo T t) (wo L x) (g || x != y)) → x = y → R (bv false) (memG w tr) := fun hn he => hR _ (hQ false ⟨(fun h => by cases h), fun hc => by
        obtain ⟨k', x', b1, b2, b3, b4⟩ := hcs.1 hc
        rcases Nat.lt_trichotomy k' k with h | h | h
        · exact (hk2 k' x' h b1 b3 b4).elim
        · subst h; rw [hx] at b1; cases b1; exact (hn b3 b4).elim
        · exact (b2 k h (by rw [hx, he])).elim⟩)
      have tailJ : (L.testBit x = true → ¬ Can w tr (wo T t) (wo L x) (g || x != y)) → x ≠ y → J (shG w tr T L g t l (k + 1)) := fun hn he => hJ (k + 1) ⟨hlt, (fun j hj => by
        rcases Nat.lt_succ_iff_lt_or_eq.1 hj with h | h
        · exact hk1 j h
        · subst h; rw [hx]; simpa using he), (fun j x' hj hx' => by
        rcases Nat.lt_succ_iff_lt_or_eq.1 hj with h | h
        · exact hk2 j x' h hx'
        · subst h; rw [hx] at hx'; cases hx'; exact hn)⟩ (by omega)
      have tail : (L.testBit x = true → ¬ Can w tr (wo T t) (wo L x) (g || x != y)) → (onSome (nn tr)[t]? fun row => onSome row[0]? fun v => onIntK IntKind.i64 v fun n => ifB ((x : Int) == n) (R (bv false) (memG w tr)) (J ⟨mkT [(0, sv T), (1, sv L), (2, bv g), (4, V.ptr (Id.p 1) 0 0), (5, V.ptr (Id.p 2) 0 0), (10, iv (t : Int)), (21, V.lst 1 (nn l)), (22, iv ((nn l).length : Int)), (23, iv (IntKind.i64.wrap ((k : Int) + (1 : Int))))], memG w tr⟩)) := fun hn => by
        refine nel hy (ifB_mk (fun he => tailR hn (by have := beq_iff_eq.1 he; omega)) (fun he => ?_))
        rw [wr1 hlt (by omega)]
        exact tailJ hn (fun h => by subst h; simp at he)
      refine nel hx (has47 hL hx8 (onBool_bv (ifB_mk (fun hLx => ?_) (fun hLx => tail (fun h => by rw [h] at hLx; cases hLx)))))
      refine without70 hT ht8 (onIntK_u8 (without70 hL hx8 (onIntK_u8 ?_)))
      have rec_ : ∀ (g' : Bool), (g || x != y) = g' → ∀ Q' : V → Us → Prop, (∀ b, (b = true ↔ Can w tr (wo T t) (wo L x) (g || x != y)) → Q' (bv b) []) → KM Try.prog glX 121 [sv (wo T t), sv (wo L x), bv g', .ptr (.p 0) 0 0, .ptr (.p 1) 0 0, .ptr (.p 2) 0 0] (memG w tr) (sameP 121) Q' := fun g' hg Q' hQ' =>
        ih (wo T t) (wo_lt htb) (Nat.lt_of_le_of_lt (wo_le _ _) hT) (fun i hi => hbits i (by
          have := wo_bit T hT t ht8 i (bit8 (Nat.lt_of_le_of_lt (wo_le _ _) hT) hi)
          rw [this] at hi
          simp at hi
          exact hi.1)) (wo L x) g' Q' (Nat.lt_of_le_of_lt (wo_le _ _) hL) (by rw [← hg]; exact hQ')
      have fin : ∀ b, (b = true ↔ Can w tr (wo T t) (wo L x) (g || x != y)) → b = true → R (bv true) (memG w tr) := fun b hb hbt => hR _ (hQ true ⟨fun _ => hcs.2 ⟨k, x, hx, hk1, hLx, hb.1 hbt⟩, fun _ => rfl⟩)
      refine ifB_mk (fun hg => ?_) (fun hg => ?_)
      · exact rec_ true (by simp [hg]) _ (fun b hb => onBool_bv (ifB_mk (fun hbt => fin b hb hbt) (fun hbf => tail (fun _ hc => by have := hb.2 hc; rw [this] at hbf; cases hbf))))
      · refine nel hy ?_
        rw [cast_bne]
        exact rec_ (x != y) (by simp [hg]) _ (fun b hb => onBool_bv (ifB_mk (fun hbt => fin b hb hbt) (fun hbf => tail (fun _ hc => by have := hb.2 hc; rw [this] at hbf; cases hbf))))
    · have hkl : k = l.length := by rw [nn_length] at hb; have := of_decide_eq_false hb; omega
      exact hR _ (hQ false ⟨(fun h => by cases h), fun hc => by
        obtain ⟨k', x', b1, b2, b3, b4⟩ := hcs.1 hc
        have : k' < l.length := (List.getElem?_eq_some_iff.1 b1).1
        exact (hk2 k' x' (by omega) b1 b3 b4).elim⟩)
end Go.Proofs.Ytmddjopahcbefaa
