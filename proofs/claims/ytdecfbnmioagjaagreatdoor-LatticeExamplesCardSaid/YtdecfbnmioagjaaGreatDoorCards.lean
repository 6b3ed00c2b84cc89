/-
  DERIVED. GIVEN WITH THE SEED: THE CARDS: each row of YtdecfbnmioagjaaGreatDoorRows.lean that lists a variable, with what it lists TIED to the program's text (the seventh form; the later family's looks); each row that meets fmt, with fmt's text TOLD by the authors' own Lean function (tested against real Go, not proved from fmt's source: count such statements apart). THE CARD IS WHAT COUNTS. Prove the row's statement (the work); the ties are given (YtdecfbnmioagjaaGreatDoorTie.lean); close each card by the builder's one call (the guide's Derived/Test/ToyasCard.lean, 'card_holds'). Laid BY PROGRAM, IN A SANDBOX (cutbox-door.mjs). By AI agents, Wed Nov 11 2026. No macro, syntax, notation, axiom, sorry.
-/
import Derived.Test.YtdecfbnmioagjaaGreatDoorRows
import GoSem.ClaimSeven
namespace Go.Proofs.YtdecfbnmioagjaaGreatDoor
namespace Rows

/-- THE TIED CARD OF 'studworklaw01.LatticeExamples'. -/
def latticeExamplesCard : Claim7 := { stood := { row := latticeExamplesRow, standIns := [], harness := (true, "86801e763f5604634ca164f32080d00076ab0bfc6b95bd97b6dd9055fa04ccb4"), looks := false }, kinds := [], alts := [], laidByText := true, laidKinds := [.data], laidTests := true, laidLooks := .later }
def LatticeExamplesCardSaid : Prop := Claim7.holds Tryz.pinned (.plain (OpenSpec.ofChange latticeExamplesSpec)) latticeExamplesCard

/-- THE TIED CARD OF 'studworklaw01.LatticeGroup'. -/
def latticeGroupCard : Claim7 := { stood := { row := latticeGroupRow, standIns := [], harness := (true, "86801e763f5604634ca164f32080d00076ab0bfc6b95bd97b6dd9055fa04ccb4"), looks := false }, kinds := [], alts := [], laidByText := true, laidKinds := [.data], laidTests := true, laidLooks := .later }
def LatticeGroupCardSaid : Prop := Claim7.holds Tryz.pinned (.plain (OpenSpec.ofChange latticeGroupSpec)) latticeGroupCard

/-- THE TIED CARD OF 'studworklaw01.LatticeDirections'. -/
def latticeDirectionsCard : Claim7 := { stood := { row := latticeDirectionsRow, standIns := [], harness := (true, "86801e763f5604634ca164f32080d00076ab0bfc6b95bd97b6dd9055fa04ccb4"), looks := false }, kinds := [], alts := [], laidByText := true, laidKinds := [.data], laidTests := true, laidLooks := .later }
def LatticeDirectionsCardSaid : Prop := Claim7.holds Tryz.pinned (.plain (OpenSpec.ofChange latticeDirectionsSpec)) latticeDirectionsCard

/-- THE SECOND FORM's CARD OF 'studworklaw01.LatticeExamples'. -/
def latticeExamplesUptoCard : Claim7 := { stood := { row := latticeExamplesUptoRow, standIns := [], harness := (true, "86801e763f5604634ca164f32080d00076ab0bfc6b95bd97b6dd9055fa04ccb4"), looks := false }, kinds := [], alts := [], laidByText := true, laidKinds := [.data], laidTests := true, laidLooks := .later }
def LatticeExamplesUptoCardSaid : Prop := Claim7.holds Tryz.pinned (.plain (OpenSpec.upto latticeExamplesSpec)) latticeExamplesUptoCard

/-- THE SECOND FORM's CARD OF 'studworklaw01.LatticeGroup'. -/
def latticeGroupUptoCard : Claim7 := { stood := { row := latticeGroupUptoRow, standIns := [], harness := (true, "86801e763f5604634ca164f32080d00076ab0bfc6b95bd97b6dd9055fa04ccb4"), looks := false }, kinds := [], alts := [], laidByText := true, laidKinds := [.data], laidTests := true, laidLooks := .later }
def LatticeGroupUptoCardSaid : Prop := Claim7.holds Tryz.pinned (.plain (OpenSpec.upto latticeGroupSpec)) latticeGroupUptoCard

/-- THE SECOND FORM's CARD OF 'studworklaw01.LatticeDirections'. -/
def latticeDirectionsUptoCard : Claim7 := { stood := { row := latticeDirectionsUptoRow, standIns := [], harness := (true, "86801e763f5604634ca164f32080d00076ab0bfc6b95bd97b6dd9055fa04ccb4"), looks := false }, kinds := [], alts := [], laidByText := true, laidKinds := [.data], laidTests := true, laidLooks := .later }
def LatticeDirectionsUptoCardSaid : Prop := Claim7.holds Tryz.pinned (.plain (OpenSpec.upto latticeDirectionsSpec)) latticeDirectionsUptoCard
end Rows
end Go.Proofs.YtdecfbnmioagjaaGreatDoor
