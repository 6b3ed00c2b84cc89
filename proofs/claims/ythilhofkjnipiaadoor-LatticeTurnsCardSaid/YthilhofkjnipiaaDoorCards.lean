/-
  DERIVED. GIVEN WITH THE SEED: THE CARDS: each row of YthilhofkjnipiaaDoorRows.lean that lists a variable, with what it lists TIED to the program's text (the seventh form; the later family's looks); each row that meets fmt, with fmt's text TOLD by the authors' own Lean function (tested against real Go, not proved from fmt's source: count such statements apart). THE CARD IS WHAT COUNTS. Prove the row's statement (the work); the ties are given (YthilhofkjnipiaaDoorTie.lean); close each card by the builder's one call (the guide's Derived/Test/ToyasCard.lean, 'card_holds'). Laid BY PROGRAM, IN A SANDBOX (cutbox-door.mjs). By AI agents, Wed Nov 11 2026. No macro, syntax, notation, axiom, sorry.
-/
import Derived.Test.YthilhofkjnipiaaDoorRows
import GoSem.ClaimSeven
namespace Go.Proofs.YthilhofkjnipiaaDoor
namespace Rows

/-- THE TIED CARD OF 'studworklaw01.LatticeTurns'. -/
def latticeTurnsCard : Claim7 := { stood := { row := latticeTurnsRow, standIns := [], harness := (true, "f90db9e5d7529fd4f0f4e4c096d542e83c066bd4041d9cfd46f0aac8ab954fa6"), looks := false }, kinds := [], alts := [], laidByText := true, laidKinds := [.data], laidTests := true, laidLooks := .later }
def LatticeTurnsCardSaid : Prop := Claim7.holds Tryd.pinned (.plain (OpenSpec.ofChange latticeTurnsSpec)) latticeTurnsCard

/-- THE TIED CARD OF 'studworklaw01.LatticeModels'. -/
def latticeModelsCard : Claim7 := { stood := { row := latticeModelsRow, standIns := [], harness := (true, "f90db9e5d7529fd4f0f4e4c096d542e83c066bd4041d9cfd46f0aac8ab954fa6"), looks := false }, kinds := [], alts := [], laidByText := true, laidKinds := [.data], laidTests := true, laidLooks := .later }
def LatticeModelsCardSaid : Prop := Claim7.holds Tryd.pinned (.plain (OpenSpec.ofChange latticeModelsSpec)) latticeModelsCard

/-- THE SECOND FORM's CARD OF 'studworklaw01.LatticeTurns'. -/
def latticeTurnsUptoCard : Claim7 := { stood := { row := latticeTurnsUptoRow, standIns := [], harness := (true, "f90db9e5d7529fd4f0f4e4c096d542e83c066bd4041d9cfd46f0aac8ab954fa6"), looks := false }, kinds := [], alts := [], laidByText := true, laidKinds := [.data], laidTests := true, laidLooks := .later }
def LatticeTurnsUptoCardSaid : Prop := Claim7.holds Tryd.pinned (.plain (OpenSpec.upto latticeTurnsSpec)) latticeTurnsUptoCard

/-- THE SECOND FORM's CARD OF 'studworklaw01.LatticeModels'. -/
def latticeModelsUptoCard : Claim7 := { stood := { row := latticeModelsUptoRow, standIns := [], harness := (true, "f90db9e5d7529fd4f0f4e4c096d542e83c066bd4041d9cfd46f0aac8ab954fa6"), looks := false }, kinds := [], alts := [], laidByText := true, laidKinds := [.data], laidTests := true, laidLooks := .later }
def LatticeModelsUptoCardSaid : Prop := Claim7.holds Tryd.pinned (.plain (OpenSpec.upto latticeModelsSpec)) latticeModelsUptoCard
end Rows
end Go.Proofs.YthilhofkjnipiaaDoor
