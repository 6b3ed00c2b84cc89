/-
  DERIVED. GIVEN WITH THE SEED: THE CARDS: each row of YtbionhgjgcpogaaGreatDoorRows.lean that lists a variable, with what it lists TIED to the program's text (the seventh form; the later family's looks); each row that meets fmt, with fmt's text TOLD by the authors' own Lean function (tested against real Go, not proved from fmt's source: count such statements apart). THE CARD IS WHAT COUNTS. Prove the row's statement (the work); the ties are given (YtbionhgjgcpogaaGreatDoorTie.lean); close each card by the builder's one call (the guide's Derived/Test/ToyasCard.lean, 'card_holds'). Laid BY PROGRAM, IN A SANDBOX (cutbox-door.mjs). By AI agents, Wed Nov 11 2026. No macro, syntax, notation, axiom, sorry.
-/
import Derived.Test.YtbionhgjgcpogaaGreatDoorRows
import GoSem.ClaimSeven
namespace Go.Proofs.YtbionhgjgcpogaaGreatDoor
namespace Rows

/-- THE TIED CARD OF 'studworklaw01.LatticeKinds'. -/
def latticeKindsCard : Claim7 := { stood := { row := latticeKindsRow, standIns := [], harness := (true, "c94dac158e4417d37e32779c2c5d5eaae7b0b1ad1c5c9e876348a8a1944b9563"), looks := false }, kinds := [], alts := [], laidByText := true, laidKinds := [.data], laidTests := true, laidLooks := .later }
def LatticeKindsCardSaid : Prop := Claim7.holds Tryz.pinned (.plain (OpenSpec.ofChange latticeKindsSpec)) latticeKindsCard

/-- THE TIED CARD OF 'studworklaw01.LatticeLinks'. -/
def latticeLinksCard : Claim7 := { stood := { row := latticeLinksRow, standIns := [], harness := (true, "c94dac158e4417d37e32779c2c5d5eaae7b0b1ad1c5c9e876348a8a1944b9563"), looks := false }, kinds := [], alts := [], laidByText := true, laidKinds := [.data], laidTests := true, laidLooks := .later }
def LatticeLinksCardSaid : Prop := Claim7.holds Tryz.pinned (.plain (OpenSpec.ofChange latticeLinksSpec)) latticeLinksCard

/-- THE TIED CARD OF 'studworklaw01.LatticeMoved'. -/
def latticeMovedCard : Claim7 := { stood := { row := latticeMovedRow, standIns := [], harness := (true, "c94dac158e4417d37e32779c2c5d5eaae7b0b1ad1c5c9e876348a8a1944b9563"), looks := false }, kinds := [], alts := [], laidByText := true, laidKinds := [.data], laidTests := true, laidLooks := .later }
def LatticeMovedCardSaid : Prop := Claim7.holds Tryz.pinned (.plain (OpenSpec.ofChange latticeMovedSpec)) latticeMovedCard

/-- THE TIED CARD OF 'studworklaw01.LatticeApart'. -/
def latticeApartCard : Claim7 := { stood := { row := latticeApartRow, standIns := [], harness := (true, "c94dac158e4417d37e32779c2c5d5eaae7b0b1ad1c5c9e876348a8a1944b9563"), looks := false }, kinds := [], alts := [], laidByText := true, laidKinds := [.data], laidTests := true, laidLooks := .later }
def LatticeApartCardSaid : Prop := Claim7.holds Tryz.pinned (.plain (OpenSpec.ofChange latticeApartSpec)) latticeApartCard

/-- THE TIED CARD OF 'studworklaw01.LatticeTouch'. -/
def latticeTouchCard : Claim7 := { stood := { row := latticeTouchRow, standIns := [], harness := (true, "c94dac158e4417d37e32779c2c5d5eaae7b0b1ad1c5c9e876348a8a1944b9563"), looks := false }, kinds := [], alts := [], laidByText := true, laidKinds := [.data], laidTests := true, laidLooks := .later }
def LatticeTouchCardSaid : Prop := Claim7.holds Tryz.pinned (.plain (OpenSpec.ofChange latticeTouchSpec)) latticeTouchCard

/-- THE TIED CARD OF 'studworklaw01.LatticeParted'. -/
def latticePartedCard : Claim7 := { stood := { row := latticePartedRow, standIns := [], harness := (true, "c94dac158e4417d37e32779c2c5d5eaae7b0b1ad1c5c9e876348a8a1944b9563"), looks := false }, kinds := [], alts := [], laidByText := true, laidKinds := [.data], laidTests := true, laidLooks := .later }
def LatticePartedCardSaid : Prop := Claim7.holds Tryz.pinned (.plain (OpenSpec.ofChange latticePartedSpec)) latticePartedCard

/-- THE TIED CARD OF 'studworklaw01.LatticeAdded'. -/
def latticeAddedCard : Claim7 := { stood := { row := latticeAddedRow, standIns := [], harness := (true, "c94dac158e4417d37e32779c2c5d5eaae7b0b1ad1c5c9e876348a8a1944b9563"), looks := false }, kinds := [], alts := [], laidByText := true, laidKinds := [.data], laidTests := true, laidLooks := .later }
def LatticeAddedCardSaid : Prop := Claim7.holds Tryz.pinned (.plain (OpenSpec.ofChange latticeAddedSpec)) latticeAddedCard

/-- THE TIED CARD OF 'studworklaw01.LatticeSymmetric'. -/
def latticeSymmetricCard : Claim7 := { stood := { row := latticeSymmetricRow, standIns := [], harness := (true, "c94dac158e4417d37e32779c2c5d5eaae7b0b1ad1c5c9e876348a8a1944b9563"), looks := false }, kinds := [], alts := [], laidByText := true, laidKinds := [.data], laidTests := true, laidLooks := .later }
def LatticeSymmetricCardSaid : Prop := Claim7.holds Tryz.pinned (.plain (OpenSpec.ofChange latticeSymmetricSpec)) latticeSymmetricCard

/-- THE TIED CARD OF 'studworklaw01.LatticeNormal'. -/
def latticeNormalCard : Claim7 := { stood := { row := latticeNormalRow, standIns := [], harness := (true, "c94dac158e4417d37e32779c2c5d5eaae7b0b1ad1c5c9e876348a8a1944b9563"), looks := false }, kinds := [], alts := [], laidByText := true, laidKinds := [.data], laidTests := true, laidLooks := .later }
def LatticeNormalCardSaid : Prop := Claim7.holds Tryz.pinned (.plain (OpenSpec.ofChange latticeNormalSpec)) latticeNormalCard

/-- THE SECOND FORM's CARD OF 'studworklaw01.LatticeKinds'. -/
def latticeKindsUptoCard : Claim7 := { stood := { row := latticeKindsUptoRow, standIns := [], harness := (true, "c94dac158e4417d37e32779c2c5d5eaae7b0b1ad1c5c9e876348a8a1944b9563"), looks := false }, kinds := [], alts := [], laidByText := true, laidKinds := [.data], laidTests := true, laidLooks := .later }
def LatticeKindsUptoCardSaid : Prop := Claim7.holds Tryz.pinned (.plain (OpenSpec.upto latticeKindsSpec)) latticeKindsUptoCard

/-- THE SECOND FORM's CARD OF 'studworklaw01.LatticeLinks'. -/
def latticeLinksUptoCard : Claim7 := { stood := { row := latticeLinksUptoRow, standIns := [], harness := (true, "c94dac158e4417d37e32779c2c5d5eaae7b0b1ad1c5c9e876348a8a1944b9563"), looks := false }, kinds := [], alts := [], laidByText := true, laidKinds := [.data], laidTests := true, laidLooks := .later }
def LatticeLinksUptoCardSaid : Prop := Claim7.holds Tryz.pinned (.plain (OpenSpec.upto latticeLinksSpec)) latticeLinksUptoCard

/-- THE SECOND FORM's CARD OF 'studworklaw01.LatticeMoved'. -/
def latticeMovedUptoCard : Claim7 := { stood := { row := latticeMovedUptoRow, standIns := [], harness := (true, "c94dac158e4417d37e32779c2c5d5eaae7b0b1ad1c5c9e876348a8a1944b9563"), looks := false }, kinds := [], alts := [], laidByText := true, laidKinds := [.data], laidTests := true, laidLooks := .later }
def LatticeMovedUptoCardSaid : Prop := Claim7.holds Tryz.pinned (.plain (OpenSpec.upto latticeMovedSpec)) latticeMovedUptoCard

/-- THE SECOND FORM's CARD OF 'studworklaw01.LatticeApart'. -/
def latticeApartUptoCard : Claim7 := { stood := { row := latticeApartUptoRow, standIns := [], harness := (true, "c94dac158e4417d37e32779c2c5d5eaae7b0b1ad1c5c9e876348a8a1944b9563"), looks := false }, kinds := [], alts := [], laidByText := true, laidKinds := [.data], laidTests := true, laidLooks := .later }
def LatticeApartUptoCardSaid : Prop := Claim7.holds Tryz.pinned (.plain (OpenSpec.upto latticeApartSpec)) latticeApartUptoCard

/-- THE SECOND FORM's CARD OF 'studworklaw01.LatticeTouch'. -/
def latticeTouchUptoCard : Claim7 := { stood := { row := latticeTouchUptoRow, standIns := [], harness := (true, "c94dac158e4417d37e32779c2c5d5eaae7b0b1ad1c5c9e876348a8a1944b9563"), looks := false }, kinds := [], alts := [], laidByText := true, laidKinds := [.data], laidTests := true, laidLooks := .later }
def LatticeTouchUptoCardSaid : Prop := Claim7.holds Tryz.pinned (.plain (OpenSpec.upto latticeTouchSpec)) latticeTouchUptoCard

/-- THE SECOND FORM's CARD OF 'studworklaw01.LatticeParted'. -/
def latticePartedUptoCard : Claim7 := { stood := { row := latticePartedUptoRow, standIns := [], harness := (true, "c94dac158e4417d37e32779c2c5d5eaae7b0b1ad1c5c9e876348a8a1944b9563"), looks := false }, kinds := [], alts := [], laidByText := true, laidKinds := [.data], laidTests := true, laidLooks := .later }
def LatticePartedUptoCardSaid : Prop := Claim7.holds Tryz.pinned (.plain (OpenSpec.upto latticePartedSpec)) latticePartedUptoCard

/-- THE SECOND FORM's CARD OF 'studworklaw01.LatticeAdded'. -/
def latticeAddedUptoCard : Claim7 := { stood := { row := latticeAddedUptoRow, standIns := [], harness := (true, "c94dac158e4417d37e32779c2c5d5eaae7b0b1ad1c5c9e876348a8a1944b9563"), looks := false }, kinds := [], alts := [], laidByText := true, laidKinds := [.data], laidTests := true, laidLooks := .later }
def LatticeAddedUptoCardSaid : Prop := Claim7.holds Tryz.pinned (.plain (OpenSpec.upto latticeAddedSpec)) latticeAddedUptoCard

/-- THE SECOND FORM's CARD OF 'studworklaw01.LatticeSymmetric'. -/
def latticeSymmetricUptoCard : Claim7 := { stood := { row := latticeSymmetricUptoRow, standIns := [], harness := (true, "c94dac158e4417d37e32779c2c5d5eaae7b0b1ad1c5c9e876348a8a1944b9563"), looks := false }, kinds := [], alts := [], laidByText := true, laidKinds := [.data], laidTests := true, laidLooks := .later }
def LatticeSymmetricUptoCardSaid : Prop := Claim7.holds Tryz.pinned (.plain (OpenSpec.upto latticeSymmetricSpec)) latticeSymmetricUptoCard

/-- THE SECOND FORM's CARD OF 'studworklaw01.LatticeNormal'. -/
def latticeNormalUptoCard : Claim7 := { stood := { row := latticeNormalUptoRow, standIns := [], harness := (true, "c94dac158e4417d37e32779c2c5d5eaae7b0b1ad1c5c9e876348a8a1944b9563"), looks := false }, kinds := [], alts := [], laidByText := true, laidKinds := [.data], laidTests := true, laidLooks := .later }
def LatticeNormalUptoCardSaid : Prop := Claim7.holds Tryz.pinned (.plain (OpenSpec.upto latticeNormalSpec)) latticeNormalUptoCard
end Rows
end Go.Proofs.YtbionhgjgcpogaaGreatDoor
