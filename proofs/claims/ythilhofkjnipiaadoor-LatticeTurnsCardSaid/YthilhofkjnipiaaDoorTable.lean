/- What the row's list gives the walks: the cells of the package's table of steps hold its literal; and a world in which they do. -/
import Derived.Test.YthilhofkjnipiaaDoorCards
import Derived.Test.YthilhofkjnipiaaDoorDirs
import Derived.ProofKit
import Derived.OpenShut
import Derived.Deep.Strs
import Derived.LaidHandle
import Derived.MakeChecks
import Derived.Deep.DeepHandedRow
namespace Go.Proofs.YthilhofkjnipiaaDoor
open Go.ChangeShapes Go.WideShapes Go.ChangeAt Go.RowKit Go.Deep

theorem own : ownKnob Tryd.prog.godebug = none := by kernel_rfl
theorem laidOut : laidOutB Tryd.prog = true := by kernel_rfl
theorem gSteps : Tryd.prog.globalNamed "studwork/lattice.steps" = some 0 := by kernel_rfl
theorem gStepsType : (Tryd.prog.globals[0]?).map (·.type) = some 97 := by kernel_rfl
theorem cellsSteps : Tryd.prog.cellsOf 97 = 18 := by kernel_rfl
theorem cellsCell : Tryd.prog.cellsOf 23 = 3 := by kernel_rfl
theorem cellsInt : Tryd.prog.cellsOf 3 = 1 := by kernel_rfl

/-- The row's list. -/
def laidL {H : Type} : List (String × DataW H) := [("studwork/lattice.steps", Rows.laid_studwork_lattice_steps)]

def stepD {H : Type} (d : Nat) : DataW H := .agg [.lit (.int .i64 (step d).1), .lit (.int .i64 (step d).2.1), .lit (.int .i64 (step d).2.2)]

theorem list3 {α : Type} {l : List α} (h : l.length = 3) : ∃ a b c, l = [a, b, c] := by
  match l, h with
  | [a, b, c], _ => exact ⟨a, b, c, rfl⟩

theorem three_of {H : Type} {enc : TypeId × Value → H} {W : World} {base : Nat} {sp : Nat → Bool} {held : Bool} {m : Nat} {cs : List Value} {x : DataW H × List MemPlace} {d : Nat}
    (h : DataW.trod enc Tryd.prog W base sp held m 23 cs = some x) (hx : x.1 = stepD d) : cs = [.int .i64 (step d).1, .int .i64 (step d).2.1, .int .i64 (step d).2.2] := by
  obtain ⟨y0, y1, y2, n, rfl, hl, t0, t1, t2⟩ := trod_struct3 Tryd.underlying23 h
  rw [cellsCell] at hl
  obtain ⟨c0, c1, c2, rfl⟩ := list3 hl
  simp only [cellsInt] at t0 t1 t2
  obtain ⟨a0, e0, rfl, _⟩ := DataW.trod_int Tryd.underlying3 t0
  obtain ⟨a1, e1, rfl, _⟩ := DataW.trod_int Tryd.underlying3 t1
  obtain ⟨a2, e2, rfl, _⟩ := DataW.trod_int Tryd.underlying3 t2
  simp at e0 e1 e2
  subst e0 e1 e2
  simp only [stepD, DataW.agg.injEq, List.cons.injEq, DataW.lit.injEq, Lit.int.injEq, true_and, and_true] at hx
  obtain ⟨rfl, rfl, rfl⟩ := hx
  rfl

theorem steps_of_laid {W : World} (hlt : 0 < W.heap.size) (h : laidMetH Tryd.prog laidL W) : StepsIn W := by
  rw [MakeChecks.laidMetH_plain _ _ _ (by kernel_rfl)] at h
  obtain ⟨ps, ⟨g, t, cs, fuel, p, q, hg, ht, hvar, hd, _, _⟩, _⟩ := h
  obtain rfl := Option.some.inj (gSteps.symm.trans hg)
  obtain rfl := Option.some.inj (gStepsType.symm.trans ht)
  obtain ⟨xs, m, _, hx, hlen, hn, hel⟩ := DataW.trod_array Tryd.underlying97 hd
  rw [cellsSteps] at hlen
  simp only [Prod.mk.injEq] at hx
  have hx1 := hx.1
  simp only [Rows.laid_studwork_lattice_steps, DataW.agg.injEq] at hx1
  refine ⟨hlt, fun d hd6 => ?_⟩
  have he := hel d hd6
  rw [cellsCell] at he
  have hxd : xs[d]? = some (xs[d]'(by omega)) := List.getElem?_eq_getElem (by omega)
  rw [hxd] at he
  have hdat : (xs[d]'(by omega)).1 = stepD d := by
    have e : (xs.map (·.1))[d]? = some ((xs[d]'(by omega)).1) := by rw [List.getElem?_map, hxd]; rfl
    rw [← hx1] at e
    have h6 : d = 0 ∨ d = 1 ∨ d = 2 ∨ d = 3 ∨ d = 4 ∨ d = 5 := by omega
    rcases h6 with rfl | rfl | rfl | rfl | rfl | rfl <;> exact (Option.some.inj e).symm
  have h3 := three_of he hdat
  have hc := World.var?_cell hg hvar
  have at_ : ∀ j, j < 3 → cs[d * 3 + j]? = ((cs.toList.drop (d * 3)).take 3)[j]? := fun j hj => by
    rw [List.getElem?_take_of_lt hj, List.getElem?_drop, Array.getElem?_toList]
  refine ⟨?_, ?_, ?_⟩
  · have := at_ 0 (by omega); rw [h3] at this; exact (hc _).trans this
  · have := at_ 1 (by omega); rw [h3] at this; exact (hc _).trans this
  · have := at_ 2 (by omega); rw [h3] at this; exact (hc _).trans this

theorem laid_lt {W : World} (h : laidMetH Tryd.prog laidL W) : 0 < W.heap.size := by
  rw [MakeChecks.laidMetH_plain _ _ _ (by kernel_rfl)] at h
  obtain ⟨ps, ⟨g, t, cs, fuel, p, q, hg, ht, hvar, hd, _, _⟩, _⟩ := h
  obtain rfl := Option.some.inj (gSteps.symm.trans hg)
  rcases Nat.eq_zero_or_pos W.heap.size with h0 | h0
  · simp only [World.var?, hg, Option.bind_some] at hvar
    rw [Array.getElem?_eq_none (by omega)] at hvar
    cases hvar
  · exact h0

/-- A world for the witnesses: the settled one, the table holding what its initialiser lays. -/
noncomputable def laidWorld (os : Os) : World :=
  { World.holding Tryd.prog os ⟨#[], #[], []⟩ with heap := (World.holding Tryd.prog os ⟨#[], #[], []⟩).heap.modify 0 fun
      | .cells _ t frozen => .cells #[.int .i64 1, .int .i64 0, .int .i64 0, .int .i64 (-1), .int .i64 0, .int .i64 0, .int .i64 0, .int .i64 1, .int .i64 0, .int .i64 0, .int .i64 (-1), .int .i64 0, .int .i64 0, .int .i64 0, .int .i64 1, .int .i64 0, .int .i64 0, .int .i64 (-1)] t frozen
      | o => o }
end Go.Proofs.YthilhofkjnipiaaDoor
