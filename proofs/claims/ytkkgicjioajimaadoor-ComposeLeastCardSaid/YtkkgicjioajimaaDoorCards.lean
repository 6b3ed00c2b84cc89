/-
  DERIVED. GIVEN WITH THE SEED: THE CARDS: each row of YtkkgicjioajimaaDoorRows.lean that lists a variable, with what it lists TIED to the program's text (the seventh form; the later family's looks); each row that meets fmt, with fmt's text TOLD by the authors' own Lean function (tested against real Go, not proved from fmt's source: count such statements apart). THE CARD IS WHAT COUNTS. Prove the row's statement (the work); the ties are given (YtkkgicjioajimaaDoorTie.lean); close each card by the builder's one call (the guide's Derived/Test/ToyasCard.lean, 'card_holds'). Laid BY PROGRAM, IN A SANDBOX (cutbox-door.mjs). By AI agents, Wed Nov 11 2026. No macro, syntax, notation, axiom, sorry.
-/
import Derived.Test.YtkkgicjioajimaaDoorRows
import GoSem.ClaimSeven
namespace Go.Proofs.YtkkgicjioajimaaDoor
namespace Rows

/-- THE TIED CARD OF 'studworklaw07.ComposeChecks'. -/
def composeChecksCard : Claim7 := { stood := { row := composeChecksRow, standIns := [], harness := (true, "47372e1e16957eba7f22dd8b8dc995dbfa99cf6fbac160d5d56f94e3aec4b6b0"), looks := false }, kinds := [], alts := [], laidByText := true, laidKinds := [.data], laidTests := true, laidLooks := .later }
def ComposeChecksCardSaid : Prop := Claim7.holds Tryd.pinned (.plain (OpenSpec.ofChange composeChecksSpec)) composeChecksCard

/-- THE TIED CARD OF 'studworklaw07.ComposeSearches'. -/
def composeSearchesCard : Claim7 := { stood := { row := composeSearchesRow, standIns := [], harness := (true, "47372e1e16957eba7f22dd8b8dc995dbfa99cf6fbac160d5d56f94e3aec4b6b0"), looks := false }, kinds := [], alts := [], laidByText := true, laidKinds := [.data], laidTests := true, laidLooks := .later }
def ComposeSearchesCardSaid : Prop := Claim7.holds Tryd.pinned (.plain (OpenSpec.ofChange composeSearchesSpec)) composeSearchesCard

/-- THE TIED CARD OF 'studworklaw07.ComposeModels'. -/
def composeModelsCard : Claim7 := { stood := { row := composeModelsRow, standIns := [], harness := (true, "47372e1e16957eba7f22dd8b8dc995dbfa99cf6fbac160d5d56f94e3aec4b6b0"), looks := false }, kinds := [], alts := [], laidByText := true, laidKinds := [.data], laidTests := true, laidLooks := .later }
def ComposeModelsCardSaid : Prop := Claim7.holds Tryd.pinned (.plain (OpenSpec.ofChange composeModelsSpec)) composeModelsCard

/-- THE TIED CARD OF 'studworklaw07.ComposeBest'. -/
def composeBestCard : Claim7 := { stood := { row := composeBestRow, standIns := [], harness := (true, "47372e1e16957eba7f22dd8b8dc995dbfa99cf6fbac160d5d56f94e3aec4b6b0"), looks := false }, kinds := [], alts := [], laidByText := true, laidKinds := [.data], laidTests := true, laidLooks := .later }
def ComposeBestCardSaid : Prop := Claim7.holds Tryd.pinned (.plain (OpenSpec.ofChange composeBestSpec)) composeBestCard

/-- THE TIED CARD OF 'studworklaw07.ComposeLeast'. -/
def composeLeastCard : Claim7 := { stood := { row := composeLeastRow, standIns := [], harness := (true, "47372e1e16957eba7f22dd8b8dc995dbfa99cf6fbac160d5d56f94e3aec4b6b0"), looks := false }, kinds := [], alts := [], laidByText := true, laidKinds := [.data], laidTests := true, laidLooks := .later }
def ComposeLeastCardSaid : Prop := Claim7.holds Tryd.pinned (.plain (OpenSpec.ofChange composeLeastSpec)) composeLeastCard

/-- THE TIED CARD OF 'studworklaw07.ComposeTurned'. -/
def composeTurnedCard : Claim7 := { stood := { row := composeTurnedRow, standIns := [], harness := (true, "47372e1e16957eba7f22dd8b8dc995dbfa99cf6fbac160d5d56f94e3aec4b6b0"), looks := false }, kinds := [], alts := [], laidByText := true, laidKinds := [.data], laidTests := true, laidLooks := .later }
def ComposeTurnedCardSaid : Prop := Claim7.holds Tryd.pinned (.plain (OpenSpec.ofChange composeTurnedSpec)) composeTurnedCard

/-- THE TIED CARD OF 'studworklaw07.ComposeMore'. -/
def composeMoreCard : Claim7 := { stood := { row := composeMoreRow, standIns := [], harness := (true, "47372e1e16957eba7f22dd8b8dc995dbfa99cf6fbac160d5d56f94e3aec4b6b0"), looks := false }, kinds := [], alts := [], laidByText := true, laidKinds := [.data], laidTests := true, laidLooks := .later }
def ComposeMoreCardSaid : Prop := Claim7.holds Tryd.pinned (.plain (OpenSpec.ofChange composeMoreSpec)) composeMoreCard

/-- THE TIED CARD OF 'studworklaw07.ComposeRow'. -/
def composeRowCard : Claim7 := { stood := { row := composeRowRow, standIns := [], harness := (true, "47372e1e16957eba7f22dd8b8dc995dbfa99cf6fbac160d5d56f94e3aec4b6b0"), looks := false }, kinds := [], alts := [], laidByText := true, laidKinds := [.data], laidTests := true, laidLooks := .later }
def ComposeRowCardSaid : Prop := Claim7.holds Tryd.pinned (.plain (OpenSpec.ofChange composeRowSpec)) composeRowCard

/-- THE SECOND FORM's CARD OF 'studworklaw07.ComposeChecks'. -/
def composeChecksUptoCard : Claim7 := { stood := { row := composeChecksUptoRow, standIns := [], harness := (true, "47372e1e16957eba7f22dd8b8dc995dbfa99cf6fbac160d5d56f94e3aec4b6b0"), looks := false }, kinds := [], alts := [], laidByText := true, laidKinds := [.data], laidTests := true, laidLooks := .later }
def ComposeChecksUptoCardSaid : Prop := Claim7.holds Tryd.pinned (.plain (OpenSpec.upto composeChecksSpec)) composeChecksUptoCard

/-- THE SECOND FORM's CARD OF 'studworklaw07.ComposeSearches'. -/
def composeSearchesUptoCard : Claim7 := { stood := { row := composeSearchesUptoRow, standIns := [], harness := (true, "47372e1e16957eba7f22dd8b8dc995dbfa99cf6fbac160d5d56f94e3aec4b6b0"), looks := false }, kinds := [], alts := [], laidByText := true, laidKinds := [.data], laidTests := true, laidLooks := .later }
def ComposeSearchesUptoCardSaid : Prop := Claim7.holds Tryd.pinned (.plain (OpenSpec.upto composeSearchesSpec)) composeSearchesUptoCard

/-- THE SECOND FORM's CARD OF 'studworklaw07.ComposeModels'. -/
def composeModelsUptoCard : Claim7 := { stood := { row := composeModelsUptoRow, standIns := [], harness := (true, "47372e1e16957eba7f22dd8b8dc995dbfa99cf6fbac160d5d56f94e3aec4b6b0"), looks := false }, kinds := [], alts := [], laidByText := true, laidKinds := [.data], laidTests := true, laidLooks := .later }
def ComposeModelsUptoCardSaid : Prop := Claim7.holds Tryd.pinned (.plain (OpenSpec.upto composeModelsSpec)) composeModelsUptoCard

/-- THE SECOND FORM's CARD OF 'studworklaw07.ComposeBest'. -/
def composeBestUptoCard : Claim7 := { stood := { row := composeBestUptoRow, standIns := [], harness := (true, "47372e1e16957eba7f22dd8b8dc995dbfa99cf6fbac160d5d56f94e3aec4b6b0"), looks := false }, kinds := [], alts := [], laidByText := true, laidKinds := [.data], laidTests := true, laidLooks := .later }
def ComposeBestUptoCardSaid : Prop := Claim7.holds Tryd.pinned (.plain (OpenSpec.upto composeBestSpec)) composeBestUptoCard

/-- THE SECOND FORM's CARD OF 'studworklaw07.ComposeLeast'. -/
def composeLeastUptoCard : Claim7 := { stood := { row := composeLeastUptoRow, standIns := [], harness := (true, "47372e1e16957eba7f22dd8b8dc995dbfa99cf6fbac160d5d56f94e3aec4b6b0"), looks := false }, kinds := [], alts := [], laidByText := true, laidKinds := [.data], laidTests := true, laidLooks := .later }
def ComposeLeastUptoCardSaid : Prop := Claim7.holds Tryd.pinned (.plain (OpenSpec.upto composeLeastSpec)) composeLeastUptoCard

/-- THE SECOND FORM's CARD OF 'studworklaw07.ComposeTurned'. -/
def composeTurnedUptoCard : Claim7 := { stood := { row := composeTurnedUptoRow, standIns := [], harness := (true, "47372e1e16957eba7f22dd8b8dc995dbfa99cf6fbac160d5d56f94e3aec4b6b0"), looks := false }, kinds := [], alts := [], laidByText := true, laidKinds := [.data], laidTests := true, laidLooks := .later }
def ComposeTurnedUptoCardSaid : Prop := Claim7.holds Tryd.pinned (.plain (OpenSpec.upto composeTurnedSpec)) composeTurnedUptoCard

/-- THE SECOND FORM's CARD OF 'studworklaw07.ComposeMore'. -/
def composeMoreUptoCard : Claim7 := { stood := { row := composeMoreUptoRow, standIns := [], harness := (true, "47372e1e16957eba7f22dd8b8dc995dbfa99cf6fbac160d5d56f94e3aec4b6b0"), looks := false }, kinds := [], alts := [], laidByText := true, laidKinds := [.data], laidTests := true, laidLooks := .later }
def ComposeMoreUptoCardSaid : Prop := Claim7.holds Tryd.pinned (.plain (OpenSpec.upto composeMoreSpec)) composeMoreUptoCard

/-- THE SECOND FORM's CARD OF 'studworklaw07.ComposeRow'. -/
def composeRowUptoCard : Claim7 := { stood := { row := composeRowUptoRow, standIns := [], harness := (true, "47372e1e16957eba7f22dd8b8dc995dbfa99cf6fbac160d5d56f94e3aec4b6b0"), looks := false }, kinds := [], alts := [], laidByText := true, laidKinds := [.data], laidTests := true, laidLooks := .later }
def ComposeRowUptoCardSaid : Prop := Claim7.holds Tryd.pinned (.plain (OpenSpec.upto composeRowSpec)) composeRowUptoCard
end Rows
end Go.Proofs.YtkkgicjioajimaaDoor
