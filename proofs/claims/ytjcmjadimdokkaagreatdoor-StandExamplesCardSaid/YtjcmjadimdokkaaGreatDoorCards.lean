/-
  DERIVED. GIVEN WITH THE SEED: THE CARDS: each row of YtjcmjadimdokkaaGreatDoorRows.lean that lists a variable, with what it lists TIED to the program's text (the seventh form; the later family's looks); each row that meets fmt, with fmt's text TOLD by the authors' own Lean function (tested against real Go, not proved from fmt's source: count such statements apart). THE CARD IS WHAT COUNTS. Prove the row's statement (the work); the ties are given (YtjcmjadimdokkaaGreatDoorTie.lean); close each card by the builder's one call (the guide's Derived/Test/ToyasCard.lean, 'card_holds'). Laid BY PROGRAM, IN A SANDBOX (cutbox-door.mjs). By AI agents, Wed Nov 11 2026. No macro, syntax, notation, axiom, sorry.
-/
import Derived.Test.YtjcmjadimdokkaaGreatDoorRows
import GoSem.ClaimSeven
namespace Go.Proofs.YtjcmjadimdokkaaGreatDoor
namespace Rows

/-- THE TIED CARD OF 'studworklaw03.StandExamples'. -/
def standExamplesCard : Claim7 := { stood := { row := standExamplesRow, standIns := [], harness := (true, "9945a9b382aeee0f9b30ddb7afc6dad9773c145529848df1fef34d1558b1cbf3"), looks := false }, kinds := [], alts := [], laidByText := true, laidKinds := [.data], laidTests := true, laidLooks := .later }
def StandExamplesCardSaid : Prop := Claim7.holds Tryz.pinned (.plain (OpenSpec.ofChange standExamplesSpec)) standExamplesCard

/-- THE SECOND FORM's CARD OF 'studworklaw03.StandExamples'. -/
def standExamplesUptoCard : Claim7 := { stood := { row := standExamplesUptoRow, standIns := [], harness := (true, "9945a9b382aeee0f9b30ddb7afc6dad9773c145529848df1fef34d1558b1cbf3"), looks := false }, kinds := [], alts := [], laidByText := true, laidKinds := [.data], laidTests := true, laidLooks := .later }
def StandExamplesUptoCardSaid : Prop := Claim7.holds Tryz.pinned (.plain (OpenSpec.upto standExamplesSpec)) standExamplesUptoCard
end Rows
end Go.Proofs.YtjcmjadimdokkaaGreatDoor
