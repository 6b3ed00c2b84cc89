/-
  DERIVED. GIVEN WITH THE SEED: THE CARDS: each row of YtbionhgjgcpogaaDoorRows.lean that lists a variable, with what it lists TIED to the program's text (the seventh form; the later family's looks); each row that meets fmt, with fmt's text TOLD by the authors' own Lean function (tested against real Go, not proved from fmt's source: count such statements apart). THE CARD IS WHAT COUNTS. Prove the row's statement (the work); the ties are given (YtbionhgjgcpogaaDoorTie.lean); close each card by the builder's one call (the guide's Derived/Test/ToyasCard.lean, 'card_holds'). Laid BY PROGRAM, IN A SANDBOX (cutbox-door.mjs). By AI agents, Wed Nov 11 2026. No macro, syntax, notation, axiom, sorry.
-/
import Derived.Test.YtbionhgjgcpogaaDoorRows
import GoSem.ClaimSeven
namespace Go.Proofs.YtbionhgjgcpogaaDoor
namespace Rows

/-- THE TIED CARD OF 'studworklaw01.LatticeModels'. -/
def latticeModelsCard : Claim7 := { stood := { row := latticeModelsRow, standIns := [], harness := (true, "e69740765aced6087982834c976b8b5931c8a169a6dc2d4b6203a110dc989c7c"), looks := false }, kinds := [], alts := [], laidByText := true, laidKinds := [.data], laidTests := true, laidLooks := .later }
def LatticeModelsCardSaid : Prop := Claim7.holds Tryd.pinned (.plain (OpenSpec.ofChange latticeModelsSpec)) latticeModelsCard

/-- THE SECOND FORM's CARD OF 'studworklaw01.LatticeModels'. -/
def latticeModelsUptoCard : Claim7 := { stood := { row := latticeModelsUptoRow, standIns := [], harness := (true, "e69740765aced6087982834c976b8b5931c8a169a6dc2d4b6203a110dc989c7c"), looks := false }, kinds := [], alts := [], laidByText := true, laidKinds := [.data], laidTests := true, laidLooks := .later }
def LatticeModelsUptoCardSaid : Prop := Claim7.holds Tryd.pinned (.plain (OpenSpec.upto latticeModelsSpec)) latticeModelsUptoCard
end Rows
end Go.Proofs.YtbionhgjgcpogaaDoor
