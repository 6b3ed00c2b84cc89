/- What package-level variables hold, out of what is laid. Nothing here speaks of the program. -/
import Derived.Test.YtjcmjadimdokkaaGreatDoorXCO
import Derived.OpenShut
import Derived.MakeChecks
import Derived.FnData
import Derived.Deep.Strs
namespace Go.Proofs.YtjcmjadimdokkaaGreatDoor.Clean
set_option linter.unusedVariables false
set_option linter.unusedSimpArgs false

/-! data without references, as cells -/
mutual
def litC {H : Type} (P : Program) : Nat → TypeId → DataW H → Option (List V)
  | 0, _, _ => none
  | f + 1, t, d => match P.underlying t with
    | some (.int k) => match d with
      | .lit (.int k' n) => some [.raw (.int k n)]
      | _ => none
    | some (.struct fs) => match d with
      | .agg xs => litF P f (P.cellsOf t) fs.toList xs 0
      | _ => none
    | some (.array n e) => match d with
      | .agg xs => if P.cellsOf t = n * P.cellsOf e then litA P f e xs else none
      | _ => none
    | _ => none
def litF {H : Type} (P : Program) : Nat → Nat → List Field → List (DataW H) → Nat → Option (List V)
  | 0, _, _, _, _ => none
  | _ + 1, n, [], [], o => if n = o then some [] else none
  | f + 1, n, fd :: fs, x :: xs, o => if fd.offset = o then (litC P f fd.type x).bind fun a => (litF P f n fs xs (o + P.cellsOf fd.type)).bind fun b => if a.length = P.cellsOf fd.type then some (a ++ b) else none else none
  | _, _, _, _, _ => none
def litA {H : Type} (P : Program) : Nat → TypeId → List (DataW H) → Option (List V)
  | 0, _, _ => none
  | _ + 1, _, [] => some []
  | f + 1, e, x :: xs => (litC P f e x).bind fun a => (litA P f e xs).bind fun b => if a.length = P.cellsOf e then some (a ++ b) else none
end
section
variable {H : Type} {enc : TypeId × Value → H} {P : Program} {w : World} {b0 : Nat} {sp : Nat → Bool} {held : Bool}
def CellsOK (w : World) (vs : List V) (cs : List Value) : Prop := cs.length = vs.length ∧ ∀ (i : Nat) v x, vs[i]? = some v → cs[i]? = some x → x.oneCell' = true ∧ ri (FW w) w v x
theorem CellsOK.append {vs us : List V} {cs ds : List Value} (h : CellsOK w vs cs) (k : CellsOK w us ds) : CellsOK w (vs ++ us) (cs ++ ds) := by
  refine ⟨by simp [h.1, k.1], fun i v x hv hx => ?_⟩
  by_cases hi : i < vs.length
  · rw [List.getElem?_append_left hi] at hv
    rw [List.getElem?_append_left (by rw [h.1]; exact hi)] at hx
    exact h.2 i v x hv hx
  · rw [List.getElem?_append_right (by omega)] at hv
    rw [List.getElem?_append_right (by rw [h.1]; omega), h.1] at hx
    exact k.2 _ v x hv hx
theorem take_split (cs : List Value) (o n : Nat) : cs.drop o = (cs.drop o).take n ++ cs.drop (o + n) := by rw [← List.drop_drop, List.take_append_drop]
theorem lit_ok (f : Nat) :
    (∀ (t : TypeId) (d : DataW H) (vs : List V), litC P f t d = some vs → ∀ fuel cs x, DataW.trod enc P w b0 sp held fuel t cs = some x → x.1 = d → CellsOK w vs cs) ∧
    (∀ (fs : List Field) (xs : List (DataW H)) (o : Nat) (vs : List V) (cs : List Value), litF P f cs.length fs xs o = some vs → ∀ m (ys : List (DataW H × List MemPlace)), ys.map (·.1) = xs → (∀ (i : Nat) fd, fs[i]? = some fd → DataW.trod enc P w b0 sp held m fd.type ((cs.drop fd.offset).take (P.cellsOf fd.type)) = ys[i]?) → CellsOK w vs (cs.drop o)) ∧
    (∀ (e : TypeId) (xs : List (DataW H)) (o : Nat) (vs : List V) (cs : List Value), litA P f e xs = some vs → cs.length = o + xs.length * P.cellsOf e → ∀ m (ys : List (DataW H × List MemPlace)), ys.map (·.1) = xs → (∀ (i : Nat), i < xs.length → DataW.trod enc P w b0 sp held m e ((cs.drop (o + i * P.cellsOf e)).take (P.cellsOf e)) = ys[i]?) → CellsOK w vs (cs.drop o)) := by
  induction f with
  | zero => exact ⟨fun t d vs h => by simp [litC] at h, fun fs xs o vs cs h => by simp [litF] at h, fun e xs o vs cs h => by simp [litA] at h⟩
  | succ f ih =>
    obtain ⟨ihC, ihF, ihA⟩ := ih
    refine ⟨fun t d vs h fuel cs x hx hd => ?_, fun fs xs o vs cs h m ys hys hf => ?_, fun e xs o vs cs h hl m ys hys hf => ?_⟩
    · simp only [litC] at h
      split at h
      · rename_i k hk
        split at h
        · rename_i k' n
          cases h
          obtain ⟨m, rfl, h2, _⟩ := DataW.trod_int hk hx
          have hxd : x.1 = .lit (.int k m) := by rw [h2]
          rw [hd] at hxd
          simp only [DataW.lit.injEq, Lit.int.injEq] at hxd
          obtain ⟨_, rfl⟩ := hxd
          refine ⟨rfl, fun i v x hv hx => ?_⟩
          cases i with
          | zero => simp at hv hx; subst hv; subst hx; exact ⟨rfl, by simp [ri]⟩
          | succ i => simp at hv
        · cases h
      · rename_i fs hs
        split at h
        · rename_i xs
          obtain ⟨ys, n, _, hy, hl, hyl, hf⟩ := DataW.trod_struct hs hx
          have hxs : ys.map (·.1) = xs := by
            have := hd
            rw [hy] at this
            simpa using this
          rw [← hl] at h
          have := ihF fs.toList xs 0 vs cs h n ys hxs (fun i fd hi => hf i fd (by simpa using hi))
          simpa using this
        · cases h
      · rename_i n e ha
        split at h
        · rename_i xs
          split at h
          · rename_i hn
            obtain ⟨ys, m, _, hy, hl, hyl, hf⟩ := DataW.trod_array ha hx
            have hxs : ys.map (·.1) = xs := by
              have := hd
              rw [hy] at this
              simpa using this
            have hxl : xs.length = n := by rw [← hxs]; simpa using hyl
            have := ihA e xs 0 vs cs h (by rw [hl, hn, hxl]; omega) m ys hxs (fun i hi => by rw [Nat.zero_add]; exact hf i (by omega))
            simpa using this
          · cases h
        · cases h
      · cases h
    · cases fs with
      | nil =>
        cases xs with
        | nil =>
          simp only [litF] at h
          split at h
          · rename_i hn
            cases h
            subst hn
            refine ⟨by simp, fun i v x hv hx => by simp at hv⟩
          · cases h
        | cons x xs => simp [litF] at h
      | cons fd fs =>
        cases xs with
        | nil => simp [litF] at h
        | cons x xs =>
          simp only [litF] at h
          split at h
          · rename_i ho
            cases ha : litC P f fd.type x with
            | none => rw [ha] at h; cases h
            | some a =>
              cases hb : litF P f cs.length fs xs (o + P.cellsOf fd.type) with
              | none => rw [ha, hb] at h; cases h
              | some b =>
                rw [ha, hb] at h
                simp only [Option.bind_some] at h
                split at h
                · rename_i hal
                  cases h
                  cases ys with
                  | nil => simp at hys
                  | cons y ys =>
                    simp only [List.map_cons, List.cons.injEq] at hys
                    have h0 := hf 0 fd rfl
                    rw [ho] at h0
                    rw [take_split cs o (P.cellsOf fd.type)]
                    exact (ihC _ _ _ ha _ _ _ h0 hys.1).append (ihF fs xs _ b cs hb m ys hys.2 (fun i fd' hi => hf (i + 1) fd' (by simpa using hi)))
                · cases h
          · cases h
    · cases xs with
      | nil =>
        simp only [litA, Option.some.injEq] at h
        subst h
        refine ⟨by simp at hl ⊢; omega, fun i v x hv hx => by simp at hv⟩
      | cons x xs =>
        simp only [litA] at h
        cases ha : litC P f e x with
        | none => rw [ha] at h; cases h
        | some a =>
          cases hb : litA P f e xs with
          | none => rw [ha, hb] at h; cases h
          | some b =>
            rw [ha, hb] at h
            simp only [Option.bind_some] at h
            split at h
            · rename_i hal
              cases h
              cases ys with
              | nil => simp at hys
              | cons y ys =>
                simp only [List.map_cons, List.cons.injEq] at hys
                have h0 := hf 0 (by simp)
                rw [Nat.zero_mul, Nat.add_zero] at h0
                rw [take_split cs o (P.cellsOf e)]
                refine (ihC _ _ _ ha _ _ _ h0 hys.1).append (ihA e xs _ b cs hb (by rw [hl, List.length_cons, Nat.add_mul]; omega) m ys hys.2 (fun i hi => ?_))
                have := hf (i + 1) (by simpa using hi)
                rw [Nat.add_mul, Nat.one_mul] at this
                rw [show o + P.cellsOf e + i * P.cellsOf e = o + (i * P.cellsOf e + P.cellsOf e) by omega]
                simpa using this
            · cases h
end

/-- One variable. -/
structure LaidOne (P : Program) (g : Nat) (n : String) (d : DataW Unit) (vs : List V) : Prop where
  name : P.globalNamed n = some g
  cells : (((P.globals[g]?).map (·.type)).bind fun t => litC P 64 t d) = some vs
theorem riCells_of {F : Nat → Prop} {w : World} {b : Nat} : ∀ (vs : List V) (o : Nat), (∀ i v, vs[i]? = some v → ∃ x, w.cell? ⟨b, o + i, none⟩ = some x ∧ x.oneCell' = true ∧ ri F w v x) → riCells F w b vs o
  | [], o, _ => by simp only [riCells]
  | v :: vs, o, h => by
    simp only [riCells]
    refine ⟨by simpa using h 0 v rfl, riCells_of vs (o + 1) fun i v hi => ?_⟩
    have := h (i + 1) v (by simpa using hi)
    rwa [show o + (i + 1) = o + 1 + i by omega] at this
theorem laid_adr {P : Program} {w : World} {laid : List (String × DataW Unit)} (hp : (laid.all fun x => x.2.handleName?.isNone) = true) (h : laidMetH P laid w) {g : Nat} {n : String} {d : DataW Unit} {vs : List V} (hm : (n, d) ∈ laid) (ho : LaidOne P g n d vs) (hne : vs ≠ []) :
    ri (FW w) w (.adr vs 0) (.pointer (some ⟨g, 0, none⟩)) := by
  rw [MakeChecks.laidMetH_plain _ _ _ hp] at h
  obtain ⟨ps, hl, _⟩ := h
  have key : ∀ (l : List (String × DataW Unit)) (ps : List MemPlace), DataW.LaidVars P w l ps → (n, d) ∈ l → ∃ t cs fuel p, (P.globals[g]?).map (·.type) = some t ∧ w.var? P n = some cs ∧ DataW.trod (fun _ => ()) P w 0 (fun _ => true) false fuel t cs.toList = some (d, p) := by
    intro l
    induction l with
    | nil => intro ps _ hm; cases hm
    | cons a r ih =>
      obtain ⟨n', d'⟩ := a
      intro ps hl hm
      obtain ⟨g', t, cs, fuel, p, q, h1, h2, h3, h4, h5, _⟩ := hl
      rcases List.mem_cons.1 hm with he | he
      · cases he
        obtain rfl := Option.some.inj (ho.name.symm.trans h1)
        exact ⟨t, cs, fuel, p, h2, h3, h4⟩
      · exact ih q h5 he
  obtain ⟨t, cs, fuel, p, h1, h2, h3⟩ := key laid ps hl hm
  have k2 := ho.cells
  rw [h1, Option.bind_some] at k2
  have hc := (lit_ok 64).1 _ _ _ k2 _ _ _ h3 rfl
  have hv := World.var?_cell ho.name h2
  simp only [ri]
  have cell : ∀ i v, vs[i]? = some v → ∃ x, w.cell? ⟨g, 0 + i, none⟩ = some x ∧ x.oneCell' = true ∧ ri (FW w) w v x := by
    intro i v hi
    have hlt : i < vs.length := (List.getElem?_eq_some_iff.1 hi).1
    have hlt' : i < cs.toList.length := by rw [hc.1]; exact hlt
    obtain ⟨q1, q2⟩ := hc.2 i v _ hi (List.getElem?_eq_getElem hlt')
    refine ⟨cs.toList[i], ?_, q1, q2⟩
    rw [Nat.zero_add, hv i]
    simp at hlt' ⊢
  refine ⟨g, 0, by simp, ?_, riCells_of vs 0 cell⟩
  obtain ⟨v, r, rfl⟩ := List.exists_cons_of_ne_nil hne
  obtain ⟨x, hx, _⟩ := cell 0 v rfl
  show g < w.heap.size
  simp only [World.cell?] at hx
  cases hh : w.heap[0 + g]? with
  | none => rw [Nat.zero_add] at hh; rw [hh] at hx; simp at hx
  | some o => rw [Nat.zero_add] at hh; exact lt_of_some hh
end Go.Proofs.YtjcmjadimdokkaaGreatDoor.Clean
