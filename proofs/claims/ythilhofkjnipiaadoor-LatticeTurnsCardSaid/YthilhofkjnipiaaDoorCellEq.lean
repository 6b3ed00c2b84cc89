/- The comparison of two cells, as the model runs it. -/
import Derived.Test.YthilhofkjnipiaaDoorSpin
import Derived.Laws.StructEq
import Derived.Shelf.SlicesE.Kit
namespace Go.Proofs.YthilhofkjnipiaaDoor
open Go.RowKit

/-- Whether two cells are equal. -/
def same (a b : Cell) : Bool := decide (a = b)
theorem same_iff (a b : Cell) : same a b = (a.1 == b.1 && (a.2.1 == b.2.1 && a.2.2 == b.2.2)) := by
  obtain ⟨x, y, z⟩ := a
  obtain ⟨x', y', z'⟩ := b
  unfold same
  simp only [Prod.mk.injEq, Bool.decide_and]
  rfl
theorem same_true {a b : Cell} : same a b = true ↔ a = b := by simp [same]
theorem same_false {a b : Cell} : same a b = false ↔ a ≠ b := by simp [same]

theorem eqCellAt : EqlAt Tryd.prog 23 (fun c : Cell => .agg #[.int .i64 c.1, .int .i64 c.2.1, .int .i64 c.2.2]) same := by
  refine ⟨fun x y w => ?_, GuardAt.agg _ (by kernel_rfl)⟩
  have u3 := Tryd.underlying3
  have a3 := Tryd.isAgg3
  have z3 := Tryd.sizeOf3
  have hS : Tryd.prog.underlying 23 = some (.struct (Tryd.prog.fieldsOf 23)) := by kernel_rfl
  have hp : Tryd.prog.stoodInHeld 23 = false := by kernel_rfl
  rw [run_eql_struct, show (10000 : Nat) = 9999 + 1 from rfl, run_equalIn_agg w 9999 23 _ _ hS hp]
  simp only [Program.fieldsOf, Tryd.underlying23]
  rw [same_iff]
  go_simp
  by_cases h1 : x.fst = y.fst <;> by_cases h2 : x.snd.fst = y.snd.fst <;> by_cases h3 : x.snd.snd = y.snd.snd <;> simp [h1, h2, h3]
theorem eqCell (a b : Cell) (w : World) : (binOp .eql 23 (.agg #[.int .i64 a.1, .int .i64 a.2.1, .int .i64 a.2.2]) (.agg #[.int .i64 b.1, .int .i64 b.2.1, .int .i64 b.2.2])).run Tryd.prog w = .ok (.bool (same a b)) w := eqCellAt.1 a b w
theorem neqCell (a b : Cell) (w : World) : (binOp .neq 23 (.agg #[.int .i64 a.1, .int .i64 a.2.1, .int .i64 a.2.2]) (.agg #[.int .i64 b.1, .int .i64 b.2.1, .int .i64 b.2.2])).run Tryd.prog w = .ok (.bool (!same a b)) w := by
  have h := eqCell a b w
  rw [run_eql_struct] at h
  rw [run_neq_struct]
  revert h
  generalize (Op.equalIn 10000 23 _ _).run Tryd.prog w = r
  intro h
  cases r with
  | ok x w1 =>
    simp only [Result.andThen_ok, Result.ok.injEq, Value.bool.injEq] at h ⊢
    exact ⟨by rw [h.1], h.2⟩
  | halt x w1 => simp [Result.andThen] at h
theorem guardCell (op : BinOp) (o1 o2 : Operand) (a b : Cell) (w : World) : (eqGuard op 23 o1 o2 (.agg #[.int .i64 a.1, .int .i64 a.2.1, .int .i64 a.2.2]) (.agg #[.int .i64 b.1, .int .i64 b.2.1, .int .i64 b.2.2])).run Tryd.prog w = .ok () w := eqCellAt.2 op o1 o2 a b w
end Go.Proofs.YthilhofkjnipiaaDoor
