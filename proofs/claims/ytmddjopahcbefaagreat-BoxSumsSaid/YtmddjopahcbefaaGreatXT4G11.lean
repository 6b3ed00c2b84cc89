/- A part of the proof. -/
import Derived.Shelf.SlSortCmp.WholeK
import Derived.Test.YtmddjopahcbefaaGreatProg
import Derived.Shelf.SlLaysF0
import Derived.Shelf.SlGeneric
import Derived.Test.YtmddjopahcbefaaGreatXT4G10
namespace Go.Proofs.YtmddjopahcbefaaGreat.Clean
open Go.Proofs Go.Shelf Go.RowKit Go.Lib Go.Sort
set_option linter.unusedVariables false
set_option linter.unusedSimpArgs false
set_option maxRecDepth 10000
def rowV (vs : List Value) : List V := vs.map V.raw
section
variable {ν : Nu} {F : Nat → Prop} {h : Hp} {w w' : World}
theorem heap_growA {os : Array Obj} (k : HeapOK ν F h w) (hw : w' = grow w os) : HeapOK ν F h w' ∧ Evo ν F w ν F w' := by
  have hpre : ∀ r, r < w.heap.size → w'.heap[r]? = w.heap[r]? := fun r hlt => by
    subst hw; show (w.heap ++ os)[r]? = _; rw [Array.getElem?_append_left hlt]
  have hsize : w.heap.size ≤ w'.heap.size := by subst hw; show _ ≤ (w.heap ++ os).size; simp
  have e : Evo ν F w ν F w' := ⟨by rw [hw]; rfl, by rw [hw]; rfl, by rw [hw]; rfl, hsize, fun r hlt _ => hpre r hlt, fun _ h => h, fun _ h => .inl h, fun _ h => .inl h, fun _ _ _ h => h, Nat.le_refl _, fun _ => Nat.le_refl _, fun _ _ h => h,
    fun b r s n hb _ c e fr hc => ⟨c, by rw [hpre r (lt_of_some hc)]; exact hc, rfl⟩, by subst hw; exact Nat.le_refl _⟩
  refine ⟨⟨fun b r s n hb => ?_, k.dom, k.inj, fun r hr => ⟨Nat.lt_of_lt_of_le (k.frz r hr).1 hsize, (k.frz r hr).2⟩, k.nxt, k.cnt⟩, e⟩
  obtain ⟨o, g1, g2⟩ := k.blk b r s n hb
  exact ⟨o, g1, obl_evo k e (hpre r (k.at_lt hb)) g2⟩
theorem world_grow {W w' : World} (h1 : w'.os = W.os) (h2 : w'.tape = W.tape) (h3 : w'.output = W.output) (h4 : W.drawn ≤ w'.drawn) (h5 : W.heap.size ≤ w'.heap.size) (h6 : ∀ r, r < W.heap.size → w'.heap[r]? = W.heap[r]?) : ∃ q os', w' = grow (W.drewN q) os' := by
  refine ⟨w'.drawn - W.drawn, w'.heap.extract W.heap.size w'.heap.size, ?_⟩
  obtain ⟨heap, tape, drawn, os, out⟩ := w'
  simp only at h1 h2 h3 h4 h5 h6
  have hh : heap = W.heap ++ heap.extract W.heap.size heap.size := by
    refine Array.ext_getElem? fun i => ?_
    by_cases hi : i < W.heap.size
    · rw [Array.getElem?_append_left hi, h6 i hi]
    · rw [Array.getElem?_append_right (by omega), Array.getElem?_extract]
      split
      · rw [show W.heap.size + (i - W.heap.size) = i from by omega]
      · rw [Array.getElem?_eq_none (by omega)]
  show World.mk heap tape drawn os out = World.mk (W.heap ++ heap.extract W.heap.size heap.size) W.tape (W.drawn + (drawn - W.drawn)) W.os W.output
  rw [← hh, ← h1, ← h2, ← h3, show W.drawn + (drawn - W.drawn) = drawn from by omega]
variable {α : Type} [Inhabited α]
theorem flat_get {enc : α → List Value} {k : Nat} (hk : ∀ x, (enc x).length = k) (l : List α) {i j : Nat} {x : α} (hx : l[i]? = some x) (hj : j < k) : (flatK enc k l.toArray)[i * k + j]! = (enc x)[j]! ∧ i * k + j < l.length * k := by
  have hi := (List.getElem?_eq_some_iff.1 hx).1
  have lt : i * k + j < l.length * k := by
    have := Nat.mul_le_mul_right k (show i + 1 ≤ l.length from hi); rw [Nat.add_mul, Nat.one_mul] at this; omega
  refine ⟨?_, lt⟩
  rw [get_flatK _ _ _ _ (by simpa using lt)]
  have e1 : (i * k + j) / k = i := (blk_iff k i _ (by omega)).1 ⟨by omega, by omega⟩
  have e2 : (i * k + j) % k = j := by rw [Nat.mod_eq_sub_div_mul, e1]; omega
  rw [e1, e2]
  have : l.toArray[i]! = x := by
    rw [getElem!_pos _ i (by simpa using hi)]
    have := (List.getElem?_eq_some_iff.1 hx).2
    simpa using this
  rw [this]
theorem holds_of {enc : α → List Value} {k : Nat} (hk : ∀ x, (enc x).length = k) {l : List α} {r : Nat} {c : Array Value} {el : TypeId} {p : Bool} (hc : w.heap[r]? = some (.cells c el (0, 0))) (hr : rowsC (repO F w ν p) c k (l.map fun x => rowV (enc x)) 0) : HoldsK enc k w r 0 l.toArray := by
  intro t ht
  rw [size_flatK] at ht
  have ht : t < l.length * k := by simpa using ht
  have k0 : 0 < k := by rcases Nat.eq_zero_or_pos k with h | h
                        · subst h; simp at ht
                        · exact h
  have hi : t / k < l.length := Nat.div_lt_of_lt_mul (by rw [Nat.mul_comm]; exact ht)
  have hj : t % k < k := Nat.mod_lt _ k0
  have et : t / k * k + t % k = t := Nat.div_add_mod' t k
  obtain ⟨x, hx⟩ : ∃ x, l[t / k]? = some x := ⟨_, List.getElem?_eq_getElem hi⟩
  have hf := (flat_get hk l hx hj).1
  rw [et] at hf
  obtain ⟨_, q⟩ := rowsC_iff.1 hr (t / k) (rowV (enc x)) (by rw [List.getElem?_map, hx]; rfl)
  have hje : t % k < (enc x).length := by rw [hk]; exact hj
  obtain ⟨y, y1, _, y2⟩ := q (t % k) (V.raw (enc x)[t % k]!) (by rw [rowV, List.getElem?_map, List.getElem?_eq_getElem hje]; simp [hje])
  have hy : y = (enc x)[t % k]! := by
    unfold repO at y2
    split at y2 <;> simpa [ri, rep] using y2
  rw [Nat.zero_add, et] at y1
  constructor
  · show w.cell? ⟨r, 0 + t, none⟩ = some (flatK enc k l.toArray)[t]!
    rw [hf, ← hy, Nat.zero_add]
    simp [World.cell?, hc, y1]
  · rw [Nat.zero_add]
    simp [World.frozen?, hc]
theorem sort_world {enc : α → List Value} {k : Nat} (hk : ∀ x, (enc x).length = k) (h1 : ∀ x, ∀ v ∈ enc x, v.oneCell' = true) {l : List α} {b r n' : Nat} {p : Bool} (hh : HeapOK ν F h w) (hget : h.get (.p b) = some (.rows k p (l.map fun x => rowV (enc x)))) (hat : ν.at_ (.p b) = some (r, k, n')) (m : Nat) (dk : Array α) (os : Array Obj) (hs : dk.size = l.length) :
    HeapOK ν F (h.put (.p b) (.rows k p (dk.toList.map fun x => rowV (enc x)))) (sortWorldK enc k w r 0 m dk os) ∧ Evo ν F w ν F (sortWorldK enc k w r 0 m dk os) ∧ ∀ q, q ≠ r → q < w.heap.size → (sortWorldK enc k w r 0 m dk os).heap[q]? = w.heap[q]? := by
  obtain ⟨_, g2, c, e, hc, hn, hr⟩ := hh.blkR hget hat
  obtain ⟨k1, e1⟩ := heap_same (w' := Sort.ahead w m) hh rfl rfl rfl rfl (Nat.le_add_right _ _)
  have hsz : (flatK enc k dk).size = l.length * k := by rw [size_flatK, hs]
  have g2 : l.length = n' := by simpa using g2
  have hc' : (putRowK enc k (Sort.ahead w m) r 0 dk).heap[r]? = some (.cells (putCells id 0 (flatK enc k dk) c) e (0, 0)) := by
    show (w.heap.modify r (onCells (putCells id 0 (flatK enc k dk))))[r]? = _
    rw [Array.getElem?_modify, if_pos rfl, hc]; rfl
  have hoth : ∀ q, q ≠ r → (putRowK enc k (Sort.ahead w m) r 0 dk).heap[q]? = w.heap[q]? := fun q hq => by
    show (w.heap.modify r (onCells (putCells id 0 (flatK enc k dk))))[q]? = _
    rw [Array.getElem?_modify, if_neg (Ne.symm hq)]
  have hrow : rowsC (repO F (Sort.ahead w m) ν p) (putCells id 0 (flatK enc k dk) c) k (dk.toList.map fun x => rowV (enc x)) 0 := by
    refine rowsC_iff.2 fun i row hrow => ?_
    rw [List.getElem?_map, Option.map_eq_some_iff] at hrow
    obtain ⟨x, hx, rfl⟩ := hrow
    refine ⟨by rw [rowV, List.length_map, hk], fun j v hj => ?_⟩
    rw [rowV, List.getElem?_map, Option.map_eq_some_iff] at hj
    obtain ⟨y, hy, rfl⟩ := hj
    have hjk : j < k := by rw [← hk x]; exact (List.getElem?_eq_some_iff.1 hy).1
    obtain ⟨f1, f2⟩ := flat_get hk dk.toList hx hjk
    rw [Array.toArray_toList] at f1
    rw [Array.length_toList, hs] at f2
    have hy' : (enc x)[j]! = y := by
      rw [getElem!_pos _ j (by rw [hk]; exact hjk)]
      exact (List.getElem?_eq_some_iff.1 hy).2
    refine ⟨y, ?_, h1 x y (List.mem_of_getElem? hy), ?_⟩
    · rw [Nat.zero_add]
      simp only [putCells, Array.getElem?_mapIdx]
      rw [Array.getElem?_eq_getElem (show i * k + j < c.size by rw [← g2] at hn; omega)]
      simp only [Option.map_some, Nat.zero_le, true_and, Nat.zero_add, hsz, f2, if_true, Nat.sub_zero, id, f1, hy']
    · unfold repO
      split <;> simp [ri, rep]
  have hcp : (putCells id 0 (flatK enc k dk) c).size = c.size := by simp [putCells]
  obtain ⟨k2, e2⟩ := heap_set (w' := putRowK enc k (Sort.ahead w m) r 0 dk) (es := l.map fun x => rowV (enc x)) (es' := dk.toList.map fun x => rowV (enc x)) (p := p) k1 hget rfl (by rw [List.length_map, g2]; exact hat) (by simp [hs]) hc hc' hcp hoth (by show (w.heap.modify _ _).size = _; rw [Array.size_modify]; rfl) rfl rfl rfl (by rw [List.length_map, g2]; exact hn) hrow (Nat.le_refl _)
  obtain ⟨k3, e3⟩ := heap_growA (w' := sortWorldK enc k w r 0 m dk os) k2 rfl
  refine ⟨k3, (e1.trans e2).trans e3, fun q hq hlt => ?_⟩
  show ((putRowK enc k (Sort.ahead w m) r 0 dk).heap ++ os)[q]? = _
  rw [Array.getElem?_append_left (by show q < (w.heap.modify _ _).size; rw [Array.size_modify]; exact hlt), hoth q hq]
end
section
variable {ν : Nu} {F : Nat → Prop} {h : Hp} {w w' : World} {α : Type} [Inhabited α]
theorem repL_raws {vs : List Value} : repL F w ν (rowV vs) vs := by
  induction vs with
  | nil => simp [rowV, repL]
  | cons a t ih => simp only [rowV, List.map_cons, repL] at ih ⊢; exact ⟨a, t, rfl, by simp [rep], ih⟩
theorem perm_of {d d' : Array α} (h : PermIn 0 d.size d d') : d'.toList.Perm d.toList := by
  obtain ⟨h1, _, h3⟩ := h
  have e1 : d'.extract 0 d.size = d' := by rw [← h1]; simp
  have e2 : d.extract 0 d.size = d := by simp
  rw [e1, e2] at h3
  exact h3
theorem K_sort {P : Program} {G : Nat → Option (List V)} {ρ : Ren} (L : SlLaysF0.n6 P ρ) {k : Nat} (aE : ∀ w, (isAgg (ρ.t 24)).run P w = .ok true w) (zE : ∀ w, (Go.sizeOf (ρ.t 24)).run P w = .ok k w) {enc : α → List Value} (hk : ∀ x, (enc x).length = k) (h1 : ∀ x, ∀ v ∈ enc x, v.oneCell' = true) {cf : α → α → Int} (hO : SWO (ltOf cf))
    {g : FuncId} {caps : List V} {h : Hp} {b : Nat} {p : Bool} {l : List α} (hl0 : l ≠ []) (hlt : l.length < 4611686018427387904) (hget : h.get (.p b) = some (.rows k p (l.map fun x => rowV (enc x))))
    (eg : ∀ args w, (callFunc g args).run P w = .ok (.enter g args) w)
    (hcmp : ∀ l' : List α, l'.length = l.length → ∀ x y, K P G g ([.agg (rowV (enc x)), .agg (rowV (enc y))] ++ caps) (h.put (.p b) (.rows k p (l'.map fun x => rowV (enc x)))) (fun b' => !b'.low h.nxt) fun v _ => v = .raw (.int .i64 (cf x y))) (hfs : h.fs = []) :
    K P G (ρ.f 6) [.sl (.p b) 0 l.length, .fn (.func g) [] caps] h (fun b' => (Id.p b).beq b') fun v h' => v = .tup [] ∧ ∃ l' : List α, l'.Perm l ∧ (∀ (i j : Nat) (x y : α), i < j → l'[i]? = some x → l'[j]? = some y → ¬ cf y x < 0) ∧ h' = h.put (.p b) (.rows k p (l'.map fun x => rowV (enc x))) := by
  intro ν F w xs hh hG hl
  simp only [repL, rep] at hl
  obtain ⟨x1, _, rfl, hx1, x2, _, rfl, ⟨fa, cs, rfl, has, hcs⟩, rfl⟩ := hl
  obtain ⟨⟨r, k', n'⟩, hat⟩ : ∃ x, ν.at_ (.p b) = some x := by
    rcases hh.dom _ _ hget with h | ⟨_, s, p', h⟩
    · exact h
    · simp at h
      exact (hl0 h.2.2).elim
  obtain ⟨rfl, g2, c, e, hc, hn, hr⟩ := hh.blkR hget hat
  have g2 : l.length = n' := by simpa using g2
  obtain ⟨-, cap, hcap, ⟨o, ho, rfl⟩, -⟩ := hx1.2 _ _ _ hat
  have ho : o = 0 := by
    rcases ho with ho | ho
    · simpa using ho
    · exact absurd rfl ho.2
  subst ho
  have has : fa = #[] := by
    have : fa.toList = [] := by simpa [repL] using has
    exact Array.toList_eq_nil_iff.1 this
  subst has
  have hblk : r < w.heap.size := hh.at_lt hat
  have key : CmpLays P g cs enc k cf r 0 l.toArray.size w := by
    intro m os dk hs x y
    have hs : dk.size = l.length := by simpa using hs
    obtain ⟨q1, q2, _⟩ := sort_world (enc := enc) hk h1 hh hget hat m dk os hs
    have hG' : GlobOK G F (sortWorldK enc k w r 0 m dk os) := fun g cs hg => HeapOK.riEvo hh q2 (hG g cs hg)
    have hargs : repL F (sortWorldK enc k w r 0 m dk os) ν ([.agg (rowV (enc x)), .agg (rowV (enc y))] ++ caps) ([.agg (enc x).toArray, .agg (enc y).toArray] ++ cs.toList) := by
      simp only [List.cons_append, List.nil_append, repL, rep]
      exact ⟨_, _, rfl, ⟨_, rfl, by simpa using repL_raws⟩, _, _, rfl, ⟨_, rfl, by simpa using repL_raws⟩, repL_evo hh q2 _ _ hcs⟩
    have := hcmp dk.toList (by simpa using hs) x y ν F _ _ q1 hG' hargs
    have harr : ([.agg (enc x).toArray, .agg (enc y).toArray] ++ cs.toList : List Value).toArray = #[.agg (enc x).toArray, .agg (enc y).toArray] ++ cs := by simp
    rw [harr] at this
    refine this.mono fun e' w' ⟨v, u, ν', F', h', z1, z2, z3, z4, z5, z6⟩ => ?_
    subst z1; subst z2
    have hv : v = .int .i64 (cf x y) := by simpa [rep] using z4
    refine ⟨by rw [hv], world_grow z5.os z5.tape z5.output z5.drawn z5.size fun q hq => ?_⟩
    by_cases ho : ν.own q
    · obtain ⟨b', s', n'', hb'⟩ := ho
      refine (z6 b' _ hb' ?_).1
      have hlt := ν.lt _ _ hb'
      cases b' with
      | p a =>
        have : a < h.nxt := by have h2 : a < ν.nxt := hlt; rw [hh.nxt] at h2; exact h2
        show (!Nat.blt a h.nxt) = false
        rw [show Nat.blt a h.nxt = true from Nat.ble_eq_true_of_le this]; rfl
      | m B j =>
        have h2 : j < ν.cnt B := hlt
        rw [hh.cnt B, hfs] at h2
        exact absurd h2 (Nat.not_lt_zero _)
    · exact z5.old q hq ho
  have hH : HoldsK enc k w r 0 l.toArray := holds_of hk hc hr
  have main := AnyQ.slices_SortFunc L k aE zE enc hk h1 cf hO g cs r 0 cap l.toArray w eg key hH hblk (by simpa using hlt)
  refine main.mono fun e' w' ⟨he, d', n, os, hp, hs, hw⟩ => ?_
  subst he; subst hw
  have hsz : d'.size = l.length := by simpa using hp.1
  obtain ⟨q1, q2, q3⟩ := sort_world (enc := enc) hk h1 hh hget hat n d' os hsz
  refine ⟨.tuple #[], .tup [], ν, F, _, rfl, ⟨rfl, d'.toList, by simpa using perm_of hp, fun i j x y hij hx hy => ?_, rfl⟩, q1, by simp [rep, repL], q2, fun b' y hy hb' => ⟨?_, hy⟩⟩
  · have hj : j < l.length := by rw [← hsz]; simpa using (List.getElem?_eq_some_iff.1 hy).1
    have := hs i j (Nat.zero_le _) hij (by simpa using hj)
    have e1 : d'[i]! = x := by
      rw [getElem!_pos d' i (by omega)]
      have := (List.getElem?_eq_some_iff.1 hx).2
      simpa using this
    have e2 : d'[j]! = y := by
      rw [getElem!_pos d' j (by omega)]
      have := (List.getElem?_eq_some_iff.1 hy).2
      simpa using this
    rw [e1, e2] at this
    unfold ltOf at this
    exact of_decide_eq_false this
  · obtain ⟨r', s', n''⟩ := y
    refine q3 r' (fun he => ?_) (hh.at_lt hy)
    subst he
    have := hh.inj b' _ _ _ _ _ _ hy hat
    subst this
    simp at hb'
end
end Go.Proofs.YtmddjopahcbefaaGreat.Clean
namespace Go.Proofs.YtmddjopahcbefaaGreat
open Go Go.Proofs.YtmddjopahcbefaaGreat.Clean
set_option linter.unusedVariables false
set_option maxRecDepth 100000
def memC (l : List It) : Hp := ⟨[(0, O.rows 3 true (itl l)), (1, O.rows 1 false [[V.fn (Fn.func 73) [] []]])], 2, []⟩
def postS (f : FuncId) (args : List V) (h : Hp) (us : Us) : Hp := h.put (.p 0) (.rows 3 true (us.getD 0 []))
def rtS (f : FuncId) (args : List V) (us : Us) (v : V) (k : V → Prop) : Prop := onTup v fun vs => onNil vs (k (.tup []))
def moA (f : FuncId) : Nat := bif inN [126] f then 3 else bif inN [59, 43] f then 1 else bif inN [26] f then 4 else 0
noncomputable def cfA : Cfg := { cfgG Tryz.prog glX moA postS rtS (inN [42, 58, 73, 106]) kpD with clean := fun g => !inN [58, 106] g }
noncomputable def cfK : Cfg := cfgG Tryz.prog glX moD postS rtS (inN [73]) kpD
noncomputable def cfO : Cfg := cfgM Tryz.prog glX moD tyD (fun _ => true) (fun _ _ => none)
noncomputable def cfN : Cfg := cfgG Tryz.prog glX moD postS rtS (inN [107]) kpD
def mem2 (a b : List It) : Hp := ⟨[(0, O.rows 1 true [[V.lst 3 (itl a)], [V.lst 3 (itl b)]])], 1, []⟩
end Go.Proofs.YtmddjopahcbefaaGreat
namespace Go.Proofs.YtmddjopahcbefaaGreat
open Go Go.Shelf
set_option linter.unusedVariables false
set_option maxRecDepth 100000
def LSi_ren : Go.Shelf.Ren := ⟨fun | 6 => 126 | 15 => 135 | 14 => 134 | 28 => 146 | 29 => 147 | 20 => 138 | 21 => 139 | 22 => 140 | 23 => 141 | 24 => 142 | 25 => 143 | 26 => 144 | 27 => 145 | 46 => 157 | 47 => 158 | 48 => 159 | 49 => 160 | 50 => 161 | 57 => 165 | n => n, fun | 22 => 22 | 24 => 27 | 25 => 187 | 3 => 3 | 39 => 195 | 0 => 0 | 53 => 205 | 55 => 207 | 4 => 4 | 46 => 199 | 45 => 198 | 50 => 65 | 5 => 5 | 9 => 9 | 66 => 213 | 70 => 217 | 76 => 221 | 77 => 222 | n => n, fun | n => n⟩
theorem LSi : Go.Proofs.SlLaysF0.n6 Tryz.prog LSi_ren := {
  mixed := by kernel_rfl
  f6 := ⟨Tryz.f126.name, by decide, Tryz.func126.trans (congrArg some (by kernel_rfl))⟩
  f14 := ⟨Tryz.f134.name, by decide, Tryz.func134.trans (congrArg some (by kernel_rfl))⟩
  f15 := Tryz.func135.trans (congrArg some (by kernel_rfl))
  f20 := ⟨Tryz.f138.name, by decide, Tryz.func138.trans (congrArg some (by kernel_rfl))⟩
  f21 := ⟨Tryz.f139.name, by decide, Tryz.func139.trans (congrArg some (by kernel_rfl))⟩
  f22 := ⟨Tryz.f140.name, by decide, Tryz.func140.trans (congrArg some (by kernel_rfl))⟩
  f23 := ⟨Tryz.f141.name, by decide, Tryz.func141.trans (congrArg some (by kernel_rfl))⟩
  f24 := ⟨Tryz.f142.name, by decide, Tryz.func142.trans (congrArg some (by kernel_rfl))⟩
  f25 := ⟨Tryz.f143.name, by decide, Tryz.func143.trans (congrArg some (by kernel_rfl))⟩
  f26 := ⟨Tryz.f144.name, by decide, Tryz.func144.trans (congrArg some (by kernel_rfl))⟩
  f27 := ⟨Tryz.f145.name, by decide, Tryz.func145.trans (congrArg some (by kernel_rfl))⟩
  f28 := Tryz.func146.trans (congrArg some (by kernel_rfl))
  f29 := Tryz.func147.trans (congrArg some (by kernel_rfl))
  f46 := ⟨Tryz.f157.name, by decide, Tryz.func157.trans (congrArg some (by kernel_rfl))⟩
  f47 := Tryz.func158.trans (congrArg some (by kernel_rfl))
  f48 := Tryz.func159.trans (congrArg some (by kernel_rfl))
  f49 := ⟨Tryz.f160.name, by decide, Tryz.func160.trans (congrArg some (by kernel_rfl))⟩
  f50 := ⟨Tryz.f161.name, by decide, Tryz.func161.trans (congrArg some (by kernel_rfl))⟩
  f57 := ⟨Tryz.f165.name, by decide, Tryz.func165.trans (congrArg some (by kernel_rfl))⟩
  t0 := Tryz.underlying0
  a0 := Tryz.isAgg0
  z0 := Tryz.sizeOf0
  v0 := Tryz.zeroValue0
  t3 := Tryz.underlying3
  a3 := Tryz.isAgg3
  z3 := Tryz.sizeOf3
  v3 := Tryz.zeroValue3
  t4 := Tryz.underlying4
  a4 := Tryz.isAgg4
  z4 := Tryz.sizeOf4
  v4 := Tryz.zeroValue4
  t5 := Tryz.underlying5
  a5 := Tryz.isAgg5
  z5 := Tryz.sizeOf5
  v5 := Tryz.zeroValue5
  t9 := Tryz.underlying9
  a9 := Tryz.isAgg9
  z9 := Tryz.sizeOf9
  v9 := Tryz.zeroValue9
  t22 := Tryz.underlying22
  a22 := Tryz.isAgg22
  z22 := Tryz.sizeOf22
  v22 := Tryz.zeroValue22
  t25 := Tryz.underlying187
  a25 := Tryz.isAgg187
  z25 := Tryz.sizeOf187
  v25 := Tryz.zeroValue187
  t39 := Tryz.underlying195
  a39 := Tryz.isAgg195
  z39 := Tryz.sizeOf195
  v39 := Tryz.zeroValue195
  t45 := Tryz.underlying198
  a45 := Tryz.isAgg198
  z45 := Tryz.sizeOf198
  v45 := Tryz.zeroValue198
  t46 := Tryz.underlying199
  a46 := Tryz.isAgg199
  z46 := Tryz.sizeOf199
  v46 := Tryz.zeroValue199
  t50 := Tryz.underlying65
  a50 := Tryz.isAgg65
  z50 := Tryz.sizeOf65
  v50 := Tryz.zeroValue65
  t53 := Tryz.underlying205
  a53 := Tryz.isAgg205
  z53 := Tryz.sizeOf205
  v53 := Tryz.zeroValue205
  t55 := Tryz.underlying207
  a55 := Tryz.isAgg207
  z55 := Tryz.sizeOf207
  v55 := Tryz.zeroValue207
  t66 := Tryz.underlying213
  a66 := Tryz.isAgg213
  z66 := Tryz.sizeOf213
  v66 := Tryz.zeroValue213
  t70 := Tryz.underlying217
  a70 := Tryz.isAgg217
  z70 := Tryz.sizeOf217
  v70 := Tryz.zeroValue217
  t76 := Tryz.underlying221
  a76 := Tryz.isAgg221
  z76 := Tryz.sizeOf221
  v76 := Tryz.zeroValue221
  t77 := Tryz.underlying222
  a77 := Tryz.isAgg222
  z77 := Tryz.sizeOf222
  v77 := Tryz.zeroValue222 }
end Go.Proofs.YtmddjopahcbefaaGreat
namespace Go.Proofs.YtmddjopahcbefaaGreat
open Go Go.Proofs.YtmddjopahcbefaaGreat.Clean
set_option linter.unusedVariables false
set_option linter.unusedSimpArgs false
set_option maxRecDepth 10000
theorem rtS_ok : ∀ (f : FuncId) (args : List V) (us : Us) (v : V) (k : V → Prop), rtS f args us v k → ∃ v', k v' ∧ ∀ {F : Nat → Prop} {w : World} {ν : Nu} {x : Value}, rep F w ν v x → rep F w ν v' x := by
  intro f args us v k h
  unfold rtS onTup at h
  split at h
  · rename_i cs
    unfold onNil at h
    split at h
    · exact ⟨_, h, fun h => h⟩
    · exact h.elim
  · exact h.elim
theorem hcA : cfA.ok Tryz.prog := by
  have h : (cfgG Tryz.prog glX moA postS rtS (inN [42, 58, 73, 106]) kpD).ok Tryz.prog := cfgG_ok rtS_ok
  exact ⟨h.1, h.2⟩
theorem hcK : cfK.ok Tryz.prog := cfgG_ok rtS_ok
theorem hcN : cfN.ok Tryz.prog := cfgG_ok rtS_ok
theorem hcO : cfO.ok Tryz.prog := cfgM_ok
def encI (x : It) : List Value := [.int .i64 x.1, .int .u8 x.2.1, .int .i64 x.2.2]
theorem cmp124 {x y : It} {l : List It} {R : V → Prop} (h : R (.raw (.int .i64 (cfP x y)))) : K Tryz.prog glX 127 [.agg (itm x), .agg (itm y), .ptr (.p 1) 0 0] (memC l) (fun b => !b.low 2) fun v _ => R v := by
  refine K_of_WYKc hmX hcK 3000 Tryz.func127 (see (p := K0G Tryz.prog glX 112 [V.agg [iv x.1, V.raw (Value.int IntKind.u8 x.2.1)], V.agg [iv y.1, V.raw (Value.int IntKind.u8 y.2.1)]] fun v => onIntK IntKind.i64 v fun n => R (iv n)) (by kernel_rfl) ?_)
  exact parts97 (onIntK_iv h)
theorem swoP : Go.Sort.SWO (Go.Proofs.ltOf cfP) where
  irrefl x := by
    unfold Go.Proofs.ltOf
    exact decide_eq_false (fun h => by have := cfP_lt.1 h; unfold Bef at this; omega)
  trans x y z h1 h2 := by
    unfold Go.Proofs.ltOf at *
    have h1 := cfP_lt.1 (of_decide_eq_true h1)
    have h2 := cfP_lt.1 (of_decide_eq_true h2)
    exact decide_eq_true (cfP_lt.2 (by unfold Bef at *; omega))
  ntrans x y z h1 h2 := by
    unfold Go.Proofs.ltOf at *
    have h1 : ¬ Bef x y := fun h => (of_decide_eq_false h1) (cfP_lt.2 h)
    have h2 : ¬ Bef y z := fun h => (of_decide_eq_false h2) (cfP_lt.2 h)
    exact decide_eq_false (fun h => by
      have h3 := cfP_lt.1 h
      unfold Bef at *
      omega)
def Srt (l : List It) : Prop := ∀ (i j : Nat) (x y : It), i < j → l[i]? = some x → l[j]? = some y → ¬ Bef y x
theorem sort123 {es : List (List V)} {l : List It} (he : es = itl l) (hl : l.length < 1000000) {args : List V} {Q : V → Us → Prop} (h : ∀ l' : List It, l'.Perm l → Srt l' → Q (.tup []) [itl l']) : KM Tryz.prog glX 126 [.sl (.p 0) 0 es.length, .fn (.func 127) [] [.ptr (.p 1) 0 0]] ⟨[(0, O.rows 3 true es), (1, O.rows 1 false [[V.fn (Fn.func 73) [] []]])], 2, []⟩ (postS 126 args) Q := by
  subst he
  rw [itl_length]
  by_cases h0 : l = []
  · subst h0
    refine KM_of_WYKp hmX hcO 3000 Tryz.func126 (fun R hR => ?_)
    exact see (p := R (V.tup []) (Hp.mk [(0, O.rows 3 true []), (1, O.rows 1 false [[V.fn (Fn.func (73 : FuncId)) [] []]])] 2 [])) (by kernel_rfl) (hR (.tup []) [itl []] (h [] (List.Perm.refl _) (fun i j x y _ hx => by simp at hx)))
  · unfold KM
    have key := K_sort (P := Tryz.prog) (G := glX) (ρ := LSi_ren) LSi (k := 3) Tryz.isAgg27 Tryz.sizeOf27 (enc := encI) (fun _ => rfl) (fun x v hv => by simp [encI] at hv; rcases hv with rfl | rfl | rfl <;> rfl) (cf := cfP) swoP (g := 127) (caps := [.ptr (.p 1) 0 0]) (h := memC l) (b := 0) (p := true) (l := l) h0 (by omega) rfl
      (enters_of Tryz.func127 (by kernel_rfl) rfl) (fun l' _ x y => cmp124 (x := x) (y := y) (l := l') rfl) rfl
    intro ν F w xs g1 g2 g3
    refine (key ν F w xs g1 g2 g3).mono fun e w' ⟨x, v, ν', F', h', z1, ⟨z2, l', z7, z8, z9⟩, z3, z4, z5, z6⟩ => ?_
    refine ⟨x, v, ν', F', h', z1, ⟨[itl l'], z9, by rw [z2]; exact h l' z7 (fun i j a b hij ha hb hbef => z8 i j a b hij ha hb (cfP_lt.2 hbef))⟩, z3, z4, z5, fun b y hb ht => by cases ht⟩
theorem itl_app (a b : List It) : itl (a ++ b) = itl a ++ itl b := by simp [itl]
theorem concat38 {a b : List It} {R : V → Prop} (ha : a.length ≤ 1000) (hb : b.length ≤ 1000) (h : R (.lst 3 (itl (a ++ b)))) : KB Tryz.prog glX 59 [.sl (.p 0) 0 2] (mem2 a b) R := by
  refine KB_of_WYB hmX hcN 3000 Tryz.func59 rfl (see (p := ifB (decide (IntKind.i64.wrap ((0 : Int) + (↑(itl a).length : Int)) < (0 : Int))) False (ifB (decide (IntKind.i64.wrap (IntKind.i64.wrap ((0 : Int) + (↑(itl a).length : Int)) + (↑(itl b).length : Int)) < (0 : Int))) False (ifB (decide (IntKind.i64.wrap (IntKind.i64.wrap ((0 : Int) + (↑(itl a).length : Int)) + (↑(itl b).length : Int)) < (0 : Int))) False (ifB (decide (IntKind.i64.wrap (IntKind.i64.wrap (IntKind.i64.wrap ((0 : Int) + (↑(itl a).length : Int)) + (↑(itl b).length : Int)) - IntKind.i64.wrap ((↑(0 : Nat) : Int) - (↑(0 : Nat) : Int))) > (0 : Int))) (onNat (IntKind.i64.wrap (IntKind.i64.wrap (IntKind.i64.wrap ((0 : Int) + (↑(itl a).length : Int)) + (↑(itl b).length : Int)) - IntKind.i64.wrap ((↑(0 : Nat) : Int) - (↑(0 : Nat) : Int)))) fun n => need (n * 24 ≤ 140737488355328) (need ((0 + (itl a).length) * 24 ≤ 140737488355328) (need ((0 + (itl a).length + (itl b).length) * 24 ≤ 140737488355328) (R (V.lst 3 (sub (List.take (0 + (itl a).length) ([] ++ itl a) ++ itl b) 0 (0 + (itl a).length + (itl b).length))))))) (need ((itl a).length * 24 ≤ 140737488355328) (need (((itl a).length + (itl b).length) * 24 ≤ 140737488355328) (R (V.lst 3 (sub (List.take (itl a).length (itl a) ++ itl b) 0 ((itl a).length + (itl b).length)))))))))) (by kernel_rfl) ?_)
  rw [itl_length, itl_length]
  have w1 : IntKind.i64.wrap ((0 : Int) + (a.length : Int)) = (a.length : Int) := by rw [wr (by omega) (by omega)]; omega
  have w2 : IntKind.i64.wrap ((a.length : Int) + (b.length : Int)) = (a.length : Int) + b.length := wr (by omega) (by omega)
  have w3 : IntKind.i64.wrap (((0 : Nat) : Int) - ((0 : Nat) : Int)) = 0 := rfl
  have w4 : IntKind.i64.wrap ((a.length : Int) + (b.length : Int) - 0) = (a.length : Int) + b.length := by rw [wr (by omega) (by omega)]; omega
  rw [w1, w2, w3, w4]
  have e1 : sub (List.take a.length (itl a) ++ itl b) 0 (a.length + b.length) = itl (a ++ b) := by
    rw [itl_take, ← itl_app, sub, List.drop_zero, List.take_of_length_le (by rw [itl_length]; simp)]
  refine ifB_f (decide_eq_false (by omega)) (ifB_f (decide_eq_false (by omega)) (ifB_f (decide_eq_false (by omega)) (ifB_mk (fun hp => ?_) (fun hp => ?_))))
  · refine onNat_mk (m := a.length + b.length) (by omega) (need_mk ⟨by omega, need_mk ⟨by omega, need_mk ⟨by omega, ?_⟩⟩⟩)
    rw [Nat.zero_add, List.nil_append, e1]
    exact h
  · refine need_mk ⟨by omega, need_mk ⟨by omega, ?_⟩⟩
    rw [e1]
    exact h
end Go.Proofs.YtmddjopahcbefaaGreat
namespace Go.Proofs.YtmddjopahcbefaaGreat
open Go Go.Proofs.YtmddjopahcbefaaGreat.Clean
set_option linter.unusedVariables false
set_option linter.unusedSimpArgs false
set_option maxRecDepth 10000
def Nok (x : It) : Prop := 0 ≤ x.2.2 ∧ x.2.2 ≤ 1000000
def takeF (x : It) : List It → Int × List It
  | [] => (x.2.2, [])
  | y :: o => if y.1 = x.1 ∧ y.2.1 = x.2.1 then (x.2.2 - y.2.2, o) else (x.2.2, y :: o)
def keepF (x : It) (n : Int) : List It := if 0 < n then [(x.1, x.2.1, n)] else []
def restF : List It → List It → Option (List It × List It)
  | [], o => some ([], o)
  | x :: a, o => if (takeF x o).1 < 0 then none else (restF a (takeF x o).2).map fun p => (keepF x (takeF x o).1 ++ p.1, p.2)
def restV : Option (List It × List It) → V
  | none => .tup [nilS, bv false]
  | some (l, o) => .tup [lsI l, bv o.isEmpty]
theorem takeF_ok {x : It} {o : List It} (hx : Nok x) (ho : ∀ y ∈ o, Nok y) : -1000000 ≤ (takeF x o).1 ∧ (takeF x o).1 ≤ 1000000 ∧ ∀ y ∈ (takeF x o).2, Nok y := by
  cases o with
  | nil => exact ⟨by have := hx.1; show _ ≤ x.2.2; omega, hx.2, fun y h => by cases h⟩
  | cons y o =>
    have h1 := ho y (by simp)
    by_cases hc : y.1 = x.1 ∧ y.2.1 = x.2.1
    · rw [show takeF x (y :: o) = (x.2.2 - y.2.2, o) from if_pos hc]
      exact ⟨by have := hx.1; have := h1.2; show _ ≤ x.2.2 - y.2.2; omega, by have := hx.2; have := h1.1; show x.2.2 - y.2.2 ≤ _; omega, fun z hz => ho z (by simp [show z ∈ o from hz])⟩
    · rw [show takeF x (y :: o) = (x.2.2, y :: o) from if_neg hc]
      exact ⟨by have := hx.1; show _ ≤ x.2.2; omega, hx.2, ho⟩
theorem Bef.trans {x y z : It} (h : Bef x y) (g : Bef y z) : Bef x z := by unfold Bef at *; omega
theorem Bef.ne {x y : It} (h : Bef x y) : ¬ (y.1 = x.1 ∧ y.2.1 = x.2.1) := by unfold Bef at h; omega
theorem Ord.tail {x : It} {l : List It} (h : Ord (x :: l)) : Ord l := fun i a b ha hb => h (i + 1) a b (by simpa using ha) (by simpa using hb)
theorem Ord.pair : ∀ {l : List It}, Ord l → l.Pairwise Bef
  | [], _ => .nil
  | [x], _ => by simp
  | x :: y :: l, h => by
    have ih := Ord.pair h.tail
    have hxy : Bef x y := h 0 x y rfl rfl
    refine List.Pairwise.cons (fun z hz => ?_) ih
    rcases List.mem_cons.1 hz with rfl | hz
    · exact hxy
    · exact hxy.trans ((List.pairwise_cons.1 ih).1 z hz)
def G (l : List It) : Prop := l.Pairwise Bef ∧ ∀ x ∈ l, 1 ≤ x.2.2
theorem G.tail {x : It} {l : List It} (h : G (x :: l)) : G l := ⟨(List.pairwise_cons.1 h.1).2, fun y hy => h.2 y (by simp [hy])⟩
theorem G.nil : G [] := ⟨.nil, by simp⟩
theorem G.pos {l : List It} (h : G l) (a b : Int) : 0 ≤ hasF l a b := by
  induction l with
  | nil => simp [hasF]
  | cons y r ih =>
    simp only [hasF]
    split
    · have := h.2 y (by simp); omega
    · exact ih h.tail
theorem has_none {l : List It} {a b : Int} (h : ∀ y ∈ l, ¬ (y.1 = a ∧ y.2.1 = b)) : hasF l a b = 0 := by
  induction l with
  | nil => rfl
  | cons y r ih =>
    simp only [hasF]
    rw [if_neg (h y (by simp))]
    exact ih (fun z hz => h z (by simp [hz]))
theorem G.head {x : It} {l : List It} (h : G (x :: l)) : hasF l x.1 x.2.1 = 0 := has_none fun y hy e => ((List.pairwise_cons.1 h.1).1 y hy).ne e
theorem has_mem {l : List It} {a b : Int} (h : hasF l a b ≠ 0) : ∃ y ∈ l, y.1 = a ∧ y.2.1 = b := by
  induction l with
  | nil => exact (h rfl).elim
  | cons y r ih =>
    simp only [hasF] at h
    split at h
    · rename_i e
      exact ⟨y, by simp, e⟩
    · obtain ⟨z, h1, h2⟩ := ih h
      exact ⟨z, by simp [h1], h2⟩
theorem G.has {l : List It} (h : G l) {x : It} (hx : x ∈ l) : hasF l x.1 x.2.1 = x.2.2 := by
  induction l with
  | nil => cases hx
  | cons y r ih =>
    simp only [hasF]
    rcases List.mem_cons.1 hx with rfl | hx'
    · rw [if_pos ⟨rfl, rfl⟩]
    · rw [if_neg (fun e => ((List.pairwise_cons.1 h.1).1 x hx').ne ⟨e.1.symm, e.2.symm⟩)]
      exact ih h.tail hx'
theorem has_cons (x : It) (l : List It) (a b : Int) : hasF (x :: l) a b = if x.1 = a ∧ x.2.1 = b then x.2.2 else hasF l a b := rfl
def allF (l : List It) : Int := (l.map fun x => x.2.2).sum
theorem rest_G : ∀ {l o m p : List It}, G l → G o → restF l o = some (m, p) → G m ∧ (∀ z ∈ m, ∃ w ∈ l, w.1 = z.1 ∧ w.2.1 = z.2.1) ∧ allF m ≤ allF l ∧ G p
  | [], o, m, p, hl, ho, h => by simp only [restF, Option.some.injEq, Prod.mk.injEq] at h; obtain ⟨rfl, rfl⟩ := h; exact ⟨G.nil, by simp, Int.le_refl _, ho⟩
  | x :: l, o, m, p, hl, ho, h => by
    have hx := hl.2 x (by simp)
    have ht : G (takeF x o).2 ∧ (takeF x o).1 ≤ x.2.2 := by
      cases o with
      | nil => exact ⟨G.nil, Int.le_refl _⟩
      | cons y o =>
        by_cases hc : y.1 = x.1 ∧ y.2.1 = x.2.1
        · rw [show takeF x (y :: o) = (x.2.2 - y.2.2, o) from if_pos hc]
          have := ho.2 y (by simp)
          exact ⟨ho.tail, by simp only; omega⟩
        · rw [show takeF x (y :: o) = (x.2.2, y :: o) from if_neg hc]
          exact ⟨ho, Int.le_refl _⟩
    simp only [restF] at h
    generalize takeF x o = t at h ht
    obtain ⟨n, o'⟩ := t
    simp only at h ht
    split at h
    · cases h
    · cases hr : restF l o' with
      | none => rw [hr] at h; cases h
      | some q =>
        rw [hr] at h
        simp only [Option.map_some, Option.some.injEq, Prod.mk.injEq] at h
        obtain ⟨rfl, rfl⟩ := h
        obtain ⟨i1, i2, i3, i4⟩ := rest_G hl.tail ht.1 (show restF l o' = some (q.1, q.2) from hr)
        unfold keepF
        split
        · rename_i hn
          refine ⟨⟨List.Pairwise.cons (fun z hz => ?_) i1.1, fun z hz => ?_⟩, fun z hz => ?_, ?_, i4⟩
          · obtain ⟨w, w1, w2⟩ := i2 z hz
            have := (List.pairwise_cons.1 hl.1).1 w w1
            unfold Bef at *
            simp only
            omega
          · rcases List.mem_cons.1 hz with rfl | hz
            · simp only; omega
            · exact i1.2 z hz
          · rcases List.mem_cons.1 hz with rfl | hz
            · exact ⟨x, by simp, rfl, rfl⟩
            · obtain ⟨w, w1, w2⟩ := i2 z hz
              exact ⟨w, by simp [w1], w2⟩
          · simp only [allF, List.map_cons, List.sum_cons, List.singleton_append] at *
            omega
        · refine ⟨i1, fun z hz => ?_, ?_, i4⟩
          · obtain ⟨w, w1, w2⟩ := i2 z hz
            exact ⟨w, by simp [w1], w2⟩
          · simp only [allF, List.map_cons, List.sum_cons, List.nil_append] at *
            omega
theorem rest_sub : ∀ {l o m : List It}, G l → G o → restF l o = some (m, []) → ∀ a b, hasF m a b = hasF l a b - hasF o a b
  | [], o, m, hl, ho, h, a, b => by simp only [restF, Option.some.injEq, Prod.mk.injEq] at h; obtain ⟨rfl, rfl⟩ := h; simp [hasF]
  | x :: l, o, m, hl, ho, h, a, b => by
    have hx := hl.2 x (by simp)
    have key : ∀ n o', ¬ n < 0 → ∀ m, (restF l o').map (fun p => (keepF x n ++ p.1, p.2)) = some (m, []) → ∃ m', restF l o' = some (m', []) ∧ m = keepF x n ++ m' := by
      intro n o' hn m h
      cases hr : restF l o' with
      | none => rw [hr] at h; cases h
      | some q =>
        rw [hr] at h
        simp only [Option.map_some, Option.some.injEq, Prod.mk.injEq] at h
        exact ⟨q.1, by rw [← h.2], h.1.symm⟩
    simp only [restF] at h
    have same : ∀ y o', o = y :: o' → (y.1 = x.1 ∧ y.2.1 = x.2.1) → hasF m a b = hasF (x :: l) a b - hasF o a b := by
      rintro y o' rfl hc
      rw [show takeF x (y :: o') = (x.2.2 - y.2.2, o') from if_pos hc] at h
      simp only at h
      split at h
      · cases h
      · rename_i hn
        obtain ⟨m', h1, rfl⟩ := key _ _ hn _ h
        obtain ⟨i1, i2, _, _⟩ := rest_G hl.tail ho.tail h1
        have ih := rest_sub hl.tail ho.tail h1 a b
        have hh := hl.head
        have hh' := ho.head
        rw [has_cons, has_cons, hc.1, hc.2]
        unfold keepF
        by_cases e : x.1 = a ∧ x.2.1 = b
        · rw [if_pos e, if_pos e]
          split
          · rw [List.singleton_append, has_cons, if_pos e]
          · rw [List.nil_append, ih, ← e.1, ← e.2, hh, ← hc.1, ← hc.2, hh']
            omega
        · rw [if_neg e, if_neg e, ← ih]
          split
          · rw [List.singleton_append, has_cons, if_neg e]
          · rfl
    have other : takeF x o = (x.2.2, o) → hasF m a b = hasF (x :: l) a b - hasF o a b := by
      intro ht
      rw [ht] at h
      simp only at h
      split at h
      · cases h
      · rename_i hn
        obtain ⟨m', h1, rfl⟩ := key _ _ hn _ h
        obtain ⟨i1, i2, _, _⟩ := rest_G hl.tail ho h1
        have ih := rest_sub hl.tail ho h1
        rw [show keepF x x.2.2 = [(x.1, x.2.1, x.2.2)] from if_pos (by omega), List.singleton_append, has_cons, has_cons]
        by_cases e : x.1 = a ∧ x.2.1 = b
        · rw [if_pos e, if_pos e]
          have q := ih x.1 x.2.1
          rw [hl.head] at q
          have q1 := i1.pos x.1 x.2.1
          have q2 := ho.pos x.1 x.2.1
          rw [← e.1, ← e.2]
          simp only
          omega
        · rw [if_neg e, if_neg e]
          exact ih a b
    cases o with
    | nil => exact other rfl
    | cons y o' =>
      by_cases hc : y.1 = x.1 ∧ y.2.1 = x.2.1
      · exact same y o' rfl hc
      · exact other (if_neg hc)
theorem rest_all : ∀ {l o : List It}, G l → G o → (∀ a b, hasF o a b ≤ hasF l a b) → ∃ m, restF l o = some (m, [])
  | [], o, hl, ho, h => by
    cases o with
    | nil => exact ⟨[], rfl⟩
    | cons y o =>
      have := h y.1 y.2.1
      rw [ho.has (by simp)] at this
      have := ho.2 y (by simp)
      simp only [hasF] at *
      omega
  | x :: l, o, hl, ho, h => by
    have hx := hl.2 x (by simp)
    have ext : ∀ n o', ¬ n < 0 → takeF x o = (n, o') → G o' → (∀ a b, hasF o' a b ≤ hasF l a b) → ∃ m, restF (x :: l) o = some (m, []) := by
      intro n o' hn ht go hh
      obtain ⟨m, hm⟩ := rest_all hl.tail go hh
      refine ⟨keepF x n ++ m, ?_⟩
      simp only [restF, ht]
      rw [if_neg hn, hm]
      rfl
    cases o with
    | nil => exact ext x.2.2 [] (by omega) rfl G.nil (fun a b => hl.tail.pos a b)
    | cons y o =>
      by_cases hc : y.1 = x.1 ∧ y.2.1 = x.2.1
      · have h0 := h x.1 x.2.1
        rw [has_cons, has_cons, if_pos hc, if_pos ⟨rfl, rfl⟩] at h0
        refine ext (x.2.2 - y.2.2) o (by omega) (if_pos hc) ho.tail (fun a b => ?_)
        have := h a b
        rw [has_cons, has_cons, hc.1, hc.2] at this
        by_cases e : x.1 = a ∧ x.2.1 = b
        · have hh' := ho.head
          rw [hc.1, hc.2, e.1, e.2] at hh'
          rw [hh']
          exact hl.tail.pos a b
        · rw [if_neg e, if_neg e] at this
          exact this
      · refine ext x.2.2 (y :: o) (by omega) (if_neg hc) ho (fun a b => ?_)
        have := h a b
        rw [has_cons x] at this
        by_cases e : x.1 = a ∧ x.2.1 = b
        ·
          have hy := h y.1 y.2.1
          rw [ho.has (by simp), has_cons, if_neg (fun e => hc ⟨e.1.symm, e.2.symm⟩)] at hy
          have hy1 := ho.2 y (by simp)
          obtain ⟨w, w1, w2⟩ := has_mem (l := l) (a := y.1) (b := y.2.1) (by omega)
          have hxw := (List.pairwise_cons.1 hl.1).1 w w1
          have hxy : Bef x y := by unfold Bef at *; omega
          rw [has_none (l := y :: o) (fun z hz => ?_)]
          · exact hl.tail.pos a b
          · have hxz : Bef x z := by
              rcases List.mem_cons.1 hz with rfl | hz
              · exact hxy
              · exact hxy.trans ((List.pairwise_cons.1 ho.1).1 z hz)
            have := hxz.ne
            rw [e.1, e.2] at this
            exact this
        · rw [if_neg e] at this
          exact this
theorem Stk.g {l : List It} (h : Stk l) : G l := ⟨h.2.1.pair, fun x hx => (h.2.2.2 x hx).1⟩
theorem bef_irr {x : It} : ¬ Bef x x := by unfold Bef; omega
theorem bef_asym {x y : It} (h : Bef x y) (g : Bef y x) : False := by unfold Bef at *; omega
theorem pw_eq : ∀ {l m : List It}, l.Pairwise Bef → m.Pairwise Bef → (∀ x, x ∈ l ↔ x ∈ m) → l = m
  | [], m, _, _, h => by
    cases m with
    | nil => rfl
    | cons y m => exact absurd ((h y).2 (by simp)) (by simp)
  | x :: l, [], _, _, h => absurd ((h x).1 (by simp)) (by simp)
  | x :: l, y :: m, hl, hm, h => by
    obtain ⟨l1, l2⟩ := List.pairwise_cons.1 hl
    obtain ⟨m1, m2⟩ := List.pairwise_cons.1 hm
    have hxy : x = y := by
      rcases List.mem_cons.1 ((h x).1 (by simp)) with e | e
      · exact e
      · rcases List.mem_cons.1 ((h y).2 (by simp)) with e2 | e2
        · exact e2.symm
        · exact (bef_asym (m1 x e) (l1 y e2)).elim
    subst hxy
    rw [pw_eq l2 m2 (fun z => ⟨fun hz => by
      rcases List.mem_cons.1 ((h z).1 (by simp [hz])) with e | e
      · exact absurd (l1 z hz) (by rw [e]; exact bef_irr)
      · exact e, fun hz => by
      rcases List.mem_cons.1 ((h z).2 (by simp [hz])) with e | e
      · exact absurd (m1 z hz) (by rw [e]; exact bef_irr)
      · exact e⟩)]
theorem g_ext {l m : List It} (hl : G l) (hm : G m) (h : ∀ a b, hasF l a b = hasF m a b) : l = m := by
  have key : ∀ {l m : List It}, G l → G m → (∀ a b, hasF l a b = hasF m a b) → ∀ x ∈ l, x ∈ m := by
    intro l m hl hm h x hx
    have h1 := hl.has hx
    have h2 := hl.2 x hx
    rw [h] at h1
    obtain ⟨y, hy, e1, e2⟩ := has_mem (l := m) (a := x.1) (b := x.2.1) (by omega)
    have h3 := hm.has hy
    rw [e1, e2, h1] at h3
    have : y = x := Prod.ext e1 (Prod.ext e2 h3.symm)
    rw [← this]; exact hy
  exact pw_eq hl.1 hm.1 (fun x => ⟨key hl hm h x, key hm hl (fun a b => (h a b).symm) x⟩)
def cntF : List It → Int → Int → Int
  | [], _, _ => 0
  | x :: l, a, b => (if x.1 = a ∧ x.2.1 = b then x.2.2 else 0) + cntF l a b
theorem cnt_app (l m : List It) (a b : Int) : cntF (l ++ m) a b = cntF l a b + cntF m a b := by
  induction l with
  | nil => simp [cntF]
  | cons x l ih => simp only [List.cons_append, cntF, ih]; omega
theorem cnt_perm {l m : List It} (h : l.Perm m) (a b : Int) : cntF l a b = cntF m a b := by
  induction h with
  | nil => rfl
  | cons x _ ih => simp only [cntF, ih]
  | swap x y l => simp only [cntF]; omega
  | trans _ _ ih1 ih2 => exact ih1.trans ih2
theorem cnt_none {l : List It} {a b : Int} (h : ∀ y ∈ l, ¬ (y.1 = a ∧ y.2.1 = b)) : cntF l a b = 0 := by
  induction l with
  | nil => rfl
  | cons y r ih => simp only [cntF]; rw [if_neg (h y (by simp)), ih (fun z hz => h z (by simp [hz]))]; rfl
theorem G.cnt : ∀ {l : List It}, G l → ∀ a b, cntF l a b = hasF l a b
  | [], _, _, _ => rfl
  | x :: l, h, a, b => by
    simp only [cntF, hasF]
    split
    · rename_i e
      have : cntF l a b = 0 := cnt_none (fun y hy q => ((List.pairwise_cons.1 h.1).1 y hy).ne ⟨q.1.trans e.1.symm, q.2.trans e.2.symm⟩)
      omega
    · rw [G.cnt h.tail]; omega
theorem has_app_none {l m : List It} {a b : Int} (h : ∀ y ∈ l, ¬ (y.1 = a ∧ y.2.1 = b)) : hasF (l ++ m) a b = hasF m a b := by
  induction l with
  | nil => rfl
  | cons y r ih => rw [List.cons_append, hasF, if_neg (h y (by simp)), ih (fun z hz => h z (by simp [hz]))]
theorem has_app_some {l m : List It} {a b : Int} (h : ∃ y ∈ l, y.1 = a ∧ y.2.1 = b) : hasF (l ++ m) a b = hasF l a b := by
  induction l with
  | nil => obtain ⟨y, hy, _⟩ := h; cases hy
  | cons y r ih =>
    rw [List.cons_append, hasF, hasF]
    split
    · rfl
    · rename_i hn
      obtain ⟨z, hz, e⟩ := h
      rcases List.mem_cons.1 hz with q | q
      · subst q; exact (hn e).elim
      · exact ih ⟨z, q, e⟩
structure MI (l m : List It) : Prop where
  pw : m.Pairwise Bef
  cnt : ∀ a b, hasF m a b = cntF l a b
  pos : ∀ y ∈ m, 1 ≤ y.2.2 ∧ y.2.2 ≤ 1000 * (l.length : Int)
  last : ∀ x, l.getLast? = some x → ∃ c y, m = c ++ [y] ∧ y.1 = x.1 ∧ y.2.1 = x.2.1
  len : m.length ≤ l.length
  sub : ∀ y ∈ m, ∃ x ∈ l, x.1 = y.1 ∧ x.2.1 = y.2.1
theorem MI.nil : MI [] [] := ⟨.nil, fun _ _ => rfl, by simp, by simp, by simp, by simp⟩
theorem MI.same {l c : List It} {x y : It} (h : MI l (c ++ [y])) (hx : 1 ≤ x.2.2 ∧ x.2.2 ≤ 1000) (he : y.1 = x.1 ∧ y.2.1 = x.2.1) : MI (l ++ [x]) (c ++ [(y.1, y.2.1, y.2.2 + x.2.2)]) := by
  have hp := List.pairwise_append.1 h.pw
  have hcy : ∀ z ∈ c, Bef z y := fun z hz => hp.2.2 z hz y (by simp)
  refine ⟨List.pairwise_append.2 ⟨hp.1, by simp, fun z hz w hw => ?_⟩, fun a b => ?_, fun z hz => ?_, fun w hw => ?_, ?_, fun z hz => ?_⟩
  · have hw : w = (y.1, y.2.1, y.2.2 + x.2.2) := by simpa using hw
    subst hw
    exact hcy z hz
  · have hc := h.cnt a b
    rw [cnt_app, ← hc]
    simp only [cntF]
    by_cases e : x.1 = a ∧ x.2.1 = b
    · have hn : ∀ z ∈ c, ¬ (z.1 = a ∧ z.2.1 = b) := fun z hz q => (hcy z hz).ne ⟨he.1.trans (e.1.trans q.1.symm), he.2.trans (e.2.trans q.2.symm)⟩
      have e1 : hasF [(y.1, y.2.1, y.2.2 + x.2.2)] a b = y.2.2 + x.2.2 := by rw [hasF, if_pos ⟨he.1.trans e.1, he.2.trans e.2⟩]
      have e2 : hasF [y] a b = y.2.2 := by rw [hasF, if_pos ⟨he.1.trans e.1, he.2.trans e.2⟩]
      rw [has_app_none hn, has_app_none hn, if_pos e, e1, e2]
      omega
    · rw [if_neg e]
      by_cases q : ∃ z ∈ c, z.1 = a ∧ z.2.1 = b
      · rw [has_app_some q, has_app_some q]; omega
      · have hn : ∀ z ∈ c, ¬ (z.1 = a ∧ z.2.1 = b) := fun z hz r => q ⟨z, hz, r⟩
        have e1 : hasF [(y.1, y.2.1, y.2.2 + x.2.2)] a b = 0 := by rw [hasF, if_neg (fun r => e ⟨he.1.symm.trans r.1, he.2.symm.trans r.2⟩)]; rfl
        have e2 : hasF [y] a b = 0 := by rw [hasF, if_neg (fun r => e ⟨he.1.symm.trans r.1, he.2.symm.trans r.2⟩)]; rfl
        rw [has_app_none hn, has_app_none hn, e1, e2]
        rfl
  · rw [List.length_append, List.length_singleton]
    rcases List.mem_append.1 hz with hz | hz
    · have := h.pos z (by simp [hz]); omega
    · have hz : z = (y.1, y.2.1, y.2.2 + x.2.2) := by simpa using hz
      subst hz
      have := h.pos y (by simp)
      simp only
      omega
  · have hw : x = w := by simpa using hw
    subst hw
    exact ⟨c, _, rfl, he.1, he.2⟩
  · have := h.len
    simp only [List.length_append, List.length_singleton] at *
    omega
  · rcases List.mem_append.1 hz with hz | hz
    · obtain ⟨w, h1, h2⟩ := h.sub z (by simp [hz])
      exact ⟨w, by simp [h1], h2⟩
    · have hz : z = (y.1, y.2.1, y.2.2 + x.2.2) := by simpa using hz
      subst hz
      exact ⟨x, by simp, he.1.symm, he.2.symm⟩
theorem MI.new {l m : List It} {x : It} (h : MI l m) (hx : 1 ≤ x.2.2 ∧ x.2.2 ≤ 1000) (hb : ∀ y ∈ m, Bef y x) : MI (l ++ [x]) (m ++ [x]) := by
  refine ⟨List.pairwise_append.2 ⟨h.pw, by simp, fun z hz w hw => ?_⟩, fun a b => ?_, fun z hz => ?_, fun w hw => ?_, ?_, fun z hz => ?_⟩
  · have hw : w = x := by simpa using hw
    subst hw
    exact hb z hz
  · rw [cnt_app, ← h.cnt a b]
    simp only [cntF]
    by_cases e : x.1 = a ∧ x.2.1 = b
    · have hn : ∀ z ∈ m, ¬ (z.1 = a ∧ z.2.1 = b) := fun z hz q => (hb z hz).ne ⟨e.1.trans q.1.symm, e.2.trans q.2.symm⟩
      rw [has_app_none hn, if_pos e, hasF, if_pos e, has_none hn]; omega
    · rw [if_neg e]
      by_cases q : ∃ z ∈ m, z.1 = a ∧ z.2.1 = b
      · rw [has_app_some q]; omega
      · have hn : ∀ z ∈ m, ¬ (z.1 = a ∧ z.2.1 = b) := fun z hz r => q ⟨z, hz, r⟩
        rw [has_app_none hn, hasF, if_neg e, has_none hn]; rfl
  · rw [List.length_append, List.length_singleton]
    rcases List.mem_append.1 hz with hz | hz
    · have := h.pos z hz; omega
    · have hz : z = x := by simpa using hz
      subst hz
      omega
  · have hw : x = w := by simpa using hw
    subst hw
    exact ⟨m, _, rfl, rfl, rfl⟩
  · have := h.len
    simp only [List.length_append, List.length_singleton] at *
    omega
  · rcases List.mem_append.1 hz with hz | hz
    · obtain ⟨w, h1, h2⟩ := h.sub z hz
      exact ⟨w, by simp [h1], h2⟩
    · have hz : z = x := by simpa using hz
      subst hz
      exact ⟨z, by simp, rfl, rfl⟩
theorem MI.cases {l m : List It} {x : It} (h : MI l m) (hs : ∀ z, l.getLast? = some z → ¬ Bef x z) (c : List It) (y : It) (hm : m = c ++ [y]) (hne : ¬ (y.1 = x.1 ∧ y.2.1 = x.2.1)) : ∀ z ∈ m, Bef z x := by
  have hl : l ≠ [] := fun e => by have := h.len; rw [e, hm] at this; simp at this
  obtain ⟨w, hw⟩ : ∃ w, l.getLast? = some w := by
    cases hq : l.getLast? with
    | none => exact (hl (List.getLast?_eq_none_iff.1 hq)).elim
    | some w => exact ⟨w, rfl⟩
  obtain ⟨c', y', e, e1, e2⟩ := h.last w hw
  have := hs w hw
  rw [hm] at e
  obtain ⟨rfl, e⟩ := List.append_inj' e rfl
  have e : y = y' := by simpa using e
  subst e
  have hyx : Bef y x := by unfold Bef at *; omega
  intro z hz
  rw [hm] at hz
  rcases List.mem_append.1 hz with hz | hz
  · have hp := h.pw
    rw [hm] at hp
    exact ((List.pairwise_append.1 hp).2.2 z hz y (by simp)).trans hyx
  · have hz : z = y := by simpa using hz
    subst hz
    exact hyx
end Go.Proofs.YtmddjopahcbefaaGreat
namespace Go.Proofs.YtmddjopahcbefaaGreat
open Go Go.Proofs.YtmddjopahcbefaaGreat.Clean
set_option linter.unusedVariables false
set_option maxRecDepth 100000
noncomputable def mem9 (l : List It) (a b : List It) : List (Nat × O) := [(2, O.rows 3 true (itl l)), (1, O.rows 1 true [[V.lst 3 (itl a)], [V.lst 3 (itl b)]]), (0, O.rows 1 true [[V.lst 3 (itl a)], [V.lst 3 (itl b)]])]
noncomputable def sh37a (l a b : List It) (N : Nat) (k : Nat) : St := ⟨mkT [(4, nilS), (10, V.sl (Id.p 2) 0 N), (11, iv (N : Int)), (12, iv (k : Int))], ⟨mem9 l a b, 3, []⟩⟩
noncomputable def sh37b (l a b : List It) (N : Nat) (m : List It) (k : Nat) : St := ⟨mkT [(4, V.sl (Id.p 3) 0 m.length), (10, V.sl (Id.p 2) 0 N), (11, iv (N : Int)), (12, iv (k : Int))], ⟨mem9 l a b ++ [(3, O.rows 3 true (itl m))], 4, []⟩⟩
noncomputable def sh41a (a o : List It) (k : Nat) : St := ⟨mkT [(1, V.lst 3 (itl o)), (6, nilS), (9, V.lst 3 (itl a)), (10, iv ((itl a).length : Int)), (11, iv (k : Int))], ⟨[], 0, []⟩⟩
noncomputable def sh41b (a o l : List It) (k : Nat) : St := ⟨mkT [(1, V.lst 3 (itl o)), (6, V.sl (Id.p 0) 0 l.length), (9, V.lst 3 (itl a)), (10, iv ((itl a).length : Int)), (11, iv (k : Int))], ⟨[(0, O.rows 3 true (itl l))], 1, []⟩⟩
noncomputable def sh41 (a : List It) (s : List It × List It × Nat) : St := match s.2.1 with | [] => sh41a a s.1 s.2.2 | x :: r => sh41b a s.1 (x :: r) s.2.2
noncomputable def cfR : Cfg := cfgG Tryz.prog glX moD postS rtS (inN [73]) kpD
noncomputable def sh37 (l a b : List It) (N : Nat) (m : List It) (k : Nat) : St := match m with | [] => sh37a l a b N k | x :: r => sh37b l a b N (x :: r) k
noncomputable def cfT : Cfg := cfgG Tryz.prog glX moA postS rtS (inN [42]) kpD
end Go.Proofs.YtmddjopahcbefaaGreat
