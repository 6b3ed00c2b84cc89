/-
  NARROWER THAN 'FOR EVERY INPUT', by the rows' own cells (each row's printed sentence says how): LatticeKinds: laid · LatticeLinks: laid · LatticeMoved: laid · LatticeApart: laid · LatticeTouch: laid · LatticeParted: laid · LatticeAdded: laid · LatticeSymmetric: laid · LatticeNormal: laid.
  DERIVED. THE GIVEN ROWS OF THIS SEAT. 9 by the template 'for every input the law returns true; each argument reads behind the call as it read before'; 0 by the template 'total and deterministic' (their statements: YtbionhgjgcpogaaGreatDoorTotals.lean).
  GIVEN WITH THE SEED: the statements are not yours to turn. If you find one false, say at which input.
  Laid BY PROGRAM, IN A SANDBOX (cutbox-rows.mjs): the forced cells as the released guide's own fill.sh prints them over the translation 6d2a7d49aeae6416… (all of the seat's roots in one cut). By AI agents, Wed Nov 11 2026. No macro, syntax, notation, axiom, sorry.
-/
import Derived.Test.YtbionhgjgcpogaaGreatDoorChecked
import GoSem.Claim
import GoSem.ClaimJoined
import GoSem.ClaimMapViews
import Derived.JoinedTies
import Derived.KernelRfl
namespace Go.Proofs.YtbionhgjgcpogaaGreatDoor
/- THE CELL 'sum', in the pinned program and in every row, IS THE sha256 OF THE DUMP (.gsa) THAT YtbionhgjgcpogaaGreatDoorProg.lean LOADS. Nothing in Lean hashes anything: it is a label: what it is worth is what the hold of that sum in a sandbox is worth. -/
noncomputable def Tryz.pinned : Pinned := { name := "ytbionhgjgcpogaagreatdoor", sum := "6d2a7d49aeae6416dc6aa86739feda0c8cf095161d4a851eb4c4854c2a034323", checked := Tryz.checked }
namespace Rows
def none {H : Type} : Left H := { results := [], args := [] }

/- WHAT THE LISTED PACKAGE-LEVEL VARIABLES READ AS WHEN THE CALL BEGINS. Each datum BY PROGRAM (the guide's laid-datum.mjs) off the statement by which the dump's own 'gosem.cut.vars' lays the variable. In a bare row this is a premise. The card (YtbionhgjgcpogaaGreatDoorCards.lean) ties it to the program's text. -/
def laid_studwork_lattice_steps {H : Type} : DataW H := .agg [.agg [.lit (.int .i64 1), .lit (.int .i64 0), .lit (.int .i64 0)], .agg [.lit (.int .i64 (-1)), .lit (.int .i64 0), .lit (.int .i64 0)], .agg [.lit (.int .i64 0), .lit (.int .i64 1), .lit (.int .i64 0)], .agg [.lit (.int .i64 0), .lit (.int .i64 (-1)), .lit (.int .i64 0)], .agg [.lit (.int .i64 0), .lit (.int .i64 0), .lit (.int .i64 1)], .agg [.lit (.int .i64 0), .lit (.int .i64 0), .lit (.int .i64 (-1))]]

/-- 'studworklaw01.LatticeKinds': WHATEVER THE INPUT: true; the input reads as it did. -/
def latticeKindsSpec : ChangeSpec := { name := "latticeKinds", fn := fun _ => fun
  | [d1, d2, d3] => { results := [.lit (.bool true)], args := [d1, d2, d3] }
  | _ => none }
def latticeKindsRow : OpenClaim := { program := "ytbionhgjgcpogaagreatdoor", sum := "6d2a7d49aeae6416dc6aa86739feda0c8cf095161d4a851eb4c4854c2a034323", func := "studwork/studworklaw01.LatticeKinds", spec := "latticeKinds", unfollowed := true, recurses := true, named := ["studwork/lattice.steps"], plainKeys := false, apart := false, laid := [("studwork/lattice.steps", laid_studwork_lattice_steps)] }
def LatticeKindsSaid : Prop := latticeKindsRow.holds Tryz.pinned (OpenSpec.ofChange latticeKindsSpec)

/-- ITS FALSE NEIGHBOUR: 'it returns false'. Refute it at one input. -/
def latticeKindsWrong : ChangeSpec := { name := "latticeKinds", fn := fun _ => fun
  | [d1, d2, d3] => { results := [.lit (.bool false)], args := [d1, d2, d3] }
  | _ => none }
def LatticeKindsWrongFalsely : Prop := latticeKindsRow.holds Tryz.pinned (OpenSpec.ofChange latticeKindsWrong)

/-- 'studworklaw01.LatticeLinks': WHATEVER THE INPUT: true; the input reads as it did. -/
def latticeLinksSpec : ChangeSpec := { name := "latticeLinks", fn := fun _ => fun
  | [d1, d2] => { results := [.lit (.bool true)], args := [d1, d2] }
  | _ => none }
def latticeLinksRow : OpenClaim := { program := "ytbionhgjgcpogaagreatdoor", sum := "6d2a7d49aeae6416dc6aa86739feda0c8cf095161d4a851eb4c4854c2a034323", func := "studwork/studworklaw01.LatticeLinks", spec := "latticeLinks", unfollowed := true, recurses := true, named := ["studwork/lattice.steps"], plainKeys := false, apart := false, laid := [("studwork/lattice.steps", laid_studwork_lattice_steps)] }
def LatticeLinksSaid : Prop := latticeLinksRow.holds Tryz.pinned (OpenSpec.ofChange latticeLinksSpec)

/-- ITS FALSE NEIGHBOUR: 'it returns false'. Refute it at one input. -/
def latticeLinksWrong : ChangeSpec := { name := "latticeLinks", fn := fun _ => fun
  | [d1, d2] => { results := [.lit (.bool false)], args := [d1, d2] }
  | _ => none }
def LatticeLinksWrongFalsely : Prop := latticeLinksRow.holds Tryz.pinned (OpenSpec.ofChange latticeLinksWrong)

/-- 'studworklaw01.LatticeMoved': WHATEVER THE INPUT: true; the input reads as it did. -/
def latticeMovedSpec : ChangeSpec := { name := "latticeMoved", fn := fun _ => fun
  | [d1, d2, d3, d4] => { results := [.lit (.bool true)], args := [d1, d2, d3, d4] }
  | _ => none }
def latticeMovedRow : OpenClaim := { program := "ytbionhgjgcpogaagreatdoor", sum := "6d2a7d49aeae6416dc6aa86739feda0c8cf095161d4a851eb4c4854c2a034323", func := "studwork/studworklaw01.LatticeMoved", spec := "latticeMoved", unfollowed := true, recurses := true, named := ["studwork/lattice.steps"], plainKeys := false, apart := false, laid := [("studwork/lattice.steps", laid_studwork_lattice_steps)] }
def LatticeMovedSaid : Prop := latticeMovedRow.holds Tryz.pinned (OpenSpec.ofChange latticeMovedSpec)

/-- ITS FALSE NEIGHBOUR: 'it returns false'. Refute it at one input. -/
def latticeMovedWrong : ChangeSpec := { name := "latticeMoved", fn := fun _ => fun
  | [d1, d2, d3, d4] => { results := [.lit (.bool false)], args := [d1, d2, d3, d4] }
  | _ => none }
def LatticeMovedWrongFalsely : Prop := latticeMovedRow.holds Tryz.pinned (OpenSpec.ofChange latticeMovedWrong)

/-- 'studworklaw01.LatticeApart': WHATEVER THE INPUT: true; the input reads as it did. -/
def latticeApartSpec : ChangeSpec := { name := "latticeApart", fn := fun _ => fun
  | [d1, d2] => { results := [.lit (.bool true)], args := [d1, d2] }
  | _ => none }
def latticeApartRow : OpenClaim := { program := "ytbionhgjgcpogaagreatdoor", sum := "6d2a7d49aeae6416dc6aa86739feda0c8cf095161d4a851eb4c4854c2a034323", func := "studwork/studworklaw01.LatticeApart", spec := "latticeApart", unfollowed := true, recurses := true, named := ["studwork/lattice.steps"], plainKeys := false, apart := false, laid := [("studwork/lattice.steps", laid_studwork_lattice_steps)] }
def LatticeApartSaid : Prop := latticeApartRow.holds Tryz.pinned (OpenSpec.ofChange latticeApartSpec)

/-- ITS FALSE NEIGHBOUR: 'it returns false'. Refute it at one input. -/
def latticeApartWrong : ChangeSpec := { name := "latticeApart", fn := fun _ => fun
  | [d1, d2] => { results := [.lit (.bool false)], args := [d1, d2] }
  | _ => none }
def LatticeApartWrongFalsely : Prop := latticeApartRow.holds Tryz.pinned (OpenSpec.ofChange latticeApartWrong)

/-- 'studworklaw01.LatticeTouch': WHATEVER THE INPUT: true; the input reads as it did. -/
def latticeTouchSpec : ChangeSpec := { name := "latticeTouch", fn := fun _ => fun
  | [d1, d2] => { results := [.lit (.bool true)], args := [d1, d2] }
  | _ => none }
def latticeTouchRow : OpenClaim := { program := "ytbionhgjgcpogaagreatdoor", sum := "6d2a7d49aeae6416dc6aa86739feda0c8cf095161d4a851eb4c4854c2a034323", func := "studwork/studworklaw01.LatticeTouch", spec := "latticeTouch", unfollowed := true, recurses := true, named := ["studwork/lattice.steps"], plainKeys := false, apart := false, laid := [("studwork/lattice.steps", laid_studwork_lattice_steps)] }
def LatticeTouchSaid : Prop := latticeTouchRow.holds Tryz.pinned (OpenSpec.ofChange latticeTouchSpec)

/-- ITS FALSE NEIGHBOUR: 'it returns false'. Refute it at one input. -/
def latticeTouchWrong : ChangeSpec := { name := "latticeTouch", fn := fun _ => fun
  | [d1, d2] => { results := [.lit (.bool false)], args := [d1, d2] }
  | _ => none }
def LatticeTouchWrongFalsely : Prop := latticeTouchRow.holds Tryz.pinned (OpenSpec.ofChange latticeTouchWrong)

/-- 'studworklaw01.LatticeParted': WHATEVER THE INPUT: true; the input reads as it did. -/
def latticePartedSpec : ChangeSpec := { name := "latticeParted", fn := fun _ => fun
  | [d1, d2] => { results := [.lit (.bool true)], args := [d1, d2] }
  | _ => none }
def latticePartedRow : OpenClaim := { program := "ytbionhgjgcpogaagreatdoor", sum := "6d2a7d49aeae6416dc6aa86739feda0c8cf095161d4a851eb4c4854c2a034323", func := "studwork/studworklaw01.LatticeParted", spec := "latticeParted", unfollowed := true, recurses := true, named := ["studwork/lattice.steps"], plainKeys := false, apart := false, laid := [("studwork/lattice.steps", laid_studwork_lattice_steps)] }
def LatticePartedSaid : Prop := latticePartedRow.holds Tryz.pinned (OpenSpec.ofChange latticePartedSpec)

/-- ITS FALSE NEIGHBOUR: 'it returns false'. Refute it at one input. -/
def latticePartedWrong : ChangeSpec := { name := "latticeParted", fn := fun _ => fun
  | [d1, d2] => { results := [.lit (.bool false)], args := [d1, d2] }
  | _ => none }
def LatticePartedWrongFalsely : Prop := latticePartedRow.holds Tryz.pinned (OpenSpec.ofChange latticePartedWrong)

/-- 'studworklaw01.LatticeAdded': WHATEVER THE INPUT: true; the input reads as it did. -/
def latticeAddedSpec : ChangeSpec := { name := "latticeAdded", fn := fun _ => fun
  | [d1, d2, d3] => { results := [.lit (.bool true)], args := [d1, d2, d3] }
  | _ => none }
def latticeAddedRow : OpenClaim := { program := "ytbionhgjgcpogaagreatdoor", sum := "6d2a7d49aeae6416dc6aa86739feda0c8cf095161d4a851eb4c4854c2a034323", func := "studwork/studworklaw01.LatticeAdded", spec := "latticeAdded", unfollowed := true, recurses := true, named := ["studwork/lattice.steps"], plainKeys := false, apart := false, laid := [("studwork/lattice.steps", laid_studwork_lattice_steps)] }
def LatticeAddedSaid : Prop := latticeAddedRow.holds Tryz.pinned (OpenSpec.ofChange latticeAddedSpec)

/-- ITS FALSE NEIGHBOUR: 'it returns false'. Refute it at one input. -/
def latticeAddedWrong : ChangeSpec := { name := "latticeAdded", fn := fun _ => fun
  | [d1, d2, d3] => { results := [.lit (.bool false)], args := [d1, d2, d3] }
  | _ => none }
def LatticeAddedWrongFalsely : Prop := latticeAddedRow.holds Tryz.pinned (OpenSpec.ofChange latticeAddedWrong)

/-- 'studworklaw01.LatticeSymmetric': WHATEVER THE INPUT: true; the input reads as it did. -/
def latticeSymmetricSpec : ChangeSpec := { name := "latticeSymmetric", fn := fun _ => fun
  | [d] => { results := [.lit (.bool true)], args := [d] }
  | _ => none }
def latticeSymmetricRow : OpenClaim := { program := "ytbionhgjgcpogaagreatdoor", sum := "6d2a7d49aeae6416dc6aa86739feda0c8cf095161d4a851eb4c4854c2a034323", func := "studwork/studworklaw01.LatticeSymmetric", spec := "latticeSymmetric", unfollowed := true, recurses := true, named := ["studwork/lattice.steps"], plainKeys := false, apart := false, laid := [("studwork/lattice.steps", laid_studwork_lattice_steps)] }
def LatticeSymmetricSaid : Prop := latticeSymmetricRow.holds Tryz.pinned (OpenSpec.ofChange latticeSymmetricSpec)

/-- ITS FALSE NEIGHBOUR: 'it returns false'. Refute it at one input. -/
def latticeSymmetricWrong : ChangeSpec := { name := "latticeSymmetric", fn := fun _ => fun
  | [d] => { results := [.lit (.bool false)], args := [d] }
  | _ => none }
def LatticeSymmetricWrongFalsely : Prop := latticeSymmetricRow.holds Tryz.pinned (OpenSpec.ofChange latticeSymmetricWrong)

/-- 'studworklaw01.LatticeNormal': WHATEVER THE INPUT: true; the input reads as it did. -/
def latticeNormalSpec : ChangeSpec := { name := "latticeNormal", fn := fun _ => fun
  | [d1, d2, d3, d4] => { results := [.lit (.bool true)], args := [d1, d2, d3, d4] }
  | _ => none }
def latticeNormalRow : OpenClaim := { program := "ytbionhgjgcpogaagreatdoor", sum := "6d2a7d49aeae6416dc6aa86739feda0c8cf095161d4a851eb4c4854c2a034323", func := "studwork/studworklaw01.LatticeNormal", spec := "latticeNormal", unfollowed := true, recurses := true, named := ["studwork/lattice.steps"], plainKeys := false, apart := false, laid := [("studwork/lattice.steps", laid_studwork_lattice_steps)] }
def LatticeNormalSaid : Prop := latticeNormalRow.holds Tryz.pinned (OpenSpec.ofChange latticeNormalSpec)

/-- ITS FALSE NEIGHBOUR: 'it returns false'. Refute it at one input. -/
def latticeNormalWrong : ChangeSpec := { name := "latticeNormal", fn := fun _ => fun
  | [d1, d2, d3, d4] => { results := [.lit (.bool false)], args := [d1, d2, d3, d4] }
  | _ => none }
def LatticeNormalWrongFalsely : Prop := latticeNormalRow.holds Tryz.pinned (OpenSpec.ofChange latticeNormalWrong)

/- THE SECOND FORM. 'bulk': how many values and letters a reading holds, each counted each time it is reached (what is shared counts as often as it is met; a slice's spare places count too). A statement '..UptoSaid' is the law's where the arguments, and the package variables that the reading takes, are together of bulk at most 1048576: NARROWER than '..Said'. Prove '..Said' where nothing that the law and all that it calls make is longer than what came in: it says more and counts as full. Else prove '..UptoSaid'. A law counts once. -/
mutual
def uptoBulk {H : Type} : DataW H → Nat
  | .lit (.string bytes) => bytes.length + 1
  | .lit _ => 1
  | .nil => 1
  | .ptr d => uptoBulk d + 1
  | .slice elems spare => uptoBulkAll elems + uptoBulkAll spare + 1
  | .agg parts => uptoBulkAll parts + 1
  | .iface _ d => uptoBulk d + 1
  | .map entries => uptoBulkEntries entries + 1
  | .held _ => 1
def uptoBulkAll {H : Type} : List (DataW H) → Nat
  | [] => 0
  | d :: r => uptoBulk d + uptoBulkAll r
def uptoBulkEntries {H : Type} : List (Lit × DataW H) → Nat
  | [] => 0
  | x :: r => uptoBulkEntry x + uptoBulkEntries r
def uptoBulkEntry {H : Type} : Lit × DataW H → Nat
  | (.string bytes, d) => bytes.length + uptoBulk d + 1
  | (_, d) => uptoBulk d + 1
 end
def uptoSmall : (H : Type) → List (DataW H) → Bool := fun _ ds => decide (uptoBulkAll ds ≤ 1048576)
def OpenSpec.upto (s : _root_.Go.ChangeSpec) : _root_.Go.OpenSpec := { _root_.Go.OpenSpec.ofChange s with cond := some uptoSmall }

/-- 'studworklaw01.LatticeKinds', WHERE WHAT IT READS IS OF BULK AT MOST 1048576: true; the input reads as it did. -/
def latticeKindsUptoRow : OpenClaim := { program := "ytbionhgjgcpogaagreatdoor", sum := "6d2a7d49aeae6416dc6aa86739feda0c8cf095161d4a851eb4c4854c2a034323", func := "studwork/studworklaw01.LatticeKinds", spec := "latticeKinds", unfollowed := true, recurses := true, named := ["studwork/lattice.steps"], plainKeys := false, apart := false, laid := [("studwork/lattice.steps", laid_studwork_lattice_steps)], narrowed := true }
def LatticeKindsUptoSaid : Prop := latticeKindsUptoRow.holds Tryz.pinned (OpenSpec.upto latticeKindsSpec)

/-- 'studworklaw01.LatticeLinks', WHERE WHAT IT READS IS OF BULK AT MOST 1048576: true; the input reads as it did. -/
def latticeLinksUptoRow : OpenClaim := { program := "ytbionhgjgcpogaagreatdoor", sum := "6d2a7d49aeae6416dc6aa86739feda0c8cf095161d4a851eb4c4854c2a034323", func := "studwork/studworklaw01.LatticeLinks", spec := "latticeLinks", unfollowed := true, recurses := true, named := ["studwork/lattice.steps"], plainKeys := false, apart := false, laid := [("studwork/lattice.steps", laid_studwork_lattice_steps)], narrowed := true }
def LatticeLinksUptoSaid : Prop := latticeLinksUptoRow.holds Tryz.pinned (OpenSpec.upto latticeLinksSpec)

/-- 'studworklaw01.LatticeMoved', WHERE WHAT IT READS IS OF BULK AT MOST 1048576: true; the input reads as it did. -/
def latticeMovedUptoRow : OpenClaim := { program := "ytbionhgjgcpogaagreatdoor", sum := "6d2a7d49aeae6416dc6aa86739feda0c8cf095161d4a851eb4c4854c2a034323", func := "studwork/studworklaw01.LatticeMoved", spec := "latticeMoved", unfollowed := true, recurses := true, named := ["studwork/lattice.steps"], plainKeys := false, apart := false, laid := [("studwork/lattice.steps", laid_studwork_lattice_steps)], narrowed := true }
def LatticeMovedUptoSaid : Prop := latticeMovedUptoRow.holds Tryz.pinned (OpenSpec.upto latticeMovedSpec)

/-- 'studworklaw01.LatticeApart', WHERE WHAT IT READS IS OF BULK AT MOST 1048576: true; the input reads as it did. -/
def latticeApartUptoRow : OpenClaim := { program := "ytbionhgjgcpogaagreatdoor", sum := "6d2a7d49aeae6416dc6aa86739feda0c8cf095161d4a851eb4c4854c2a034323", func := "studwork/studworklaw01.LatticeApart", spec := "latticeApart", unfollowed := true, recurses := true, named := ["studwork/lattice.steps"], plainKeys := false, apart := false, laid := [("studwork/lattice.steps", laid_studwork_lattice_steps)], narrowed := true }
def LatticeApartUptoSaid : Prop := latticeApartUptoRow.holds Tryz.pinned (OpenSpec.upto latticeApartSpec)

/-- 'studworklaw01.LatticeTouch', WHERE WHAT IT READS IS OF BULK AT MOST 1048576: true; the input reads as it did. -/
def latticeTouchUptoRow : OpenClaim := { program := "ytbionhgjgcpogaagreatdoor", sum := "6d2a7d49aeae6416dc6aa86739feda0c8cf095161d4a851eb4c4854c2a034323", func := "studwork/studworklaw01.LatticeTouch", spec := "latticeTouch", unfollowed := true, recurses := true, named := ["studwork/lattice.steps"], plainKeys := false, apart := false, laid := [("studwork/lattice.steps", laid_studwork_lattice_steps)], narrowed := true }
def LatticeTouchUptoSaid : Prop := latticeTouchUptoRow.holds Tryz.pinned (OpenSpec.upto latticeTouchSpec)

/-- 'studworklaw01.LatticeParted', WHERE WHAT IT READS IS OF BULK AT MOST 1048576: true; the input reads as it did. -/
def latticePartedUptoRow : OpenClaim := { program := "ytbionhgjgcpogaagreatdoor", sum := "6d2a7d49aeae6416dc6aa86739feda0c8cf095161d4a851eb4c4854c2a034323", func := "studwork/studworklaw01.LatticeParted", spec := "latticeParted", unfollowed := true, recurses := true, named := ["studwork/lattice.steps"], plainKeys := false, apart := false, laid := [("studwork/lattice.steps", laid_studwork_lattice_steps)], narrowed := true }
def LatticePartedUptoSaid : Prop := latticePartedUptoRow.holds Tryz.pinned (OpenSpec.upto latticePartedSpec)

/-- 'studworklaw01.LatticeAdded', WHERE WHAT IT READS IS OF BULK AT MOST 1048576: true; the input reads as it did. -/
def latticeAddedUptoRow : OpenClaim := { program := "ytbionhgjgcpogaagreatdoor", sum := "6d2a7d49aeae6416dc6aa86739feda0c8cf095161d4a851eb4c4854c2a034323", func := "studwork/studworklaw01.LatticeAdded", spec := "latticeAdded", unfollowed := true, recurses := true, named := ["studwork/lattice.steps"], plainKeys := false, apart := false, laid := [("studwork/lattice.steps", laid_studwork_lattice_steps)], narrowed := true }
def LatticeAddedUptoSaid : Prop := latticeAddedUptoRow.holds Tryz.pinned (OpenSpec.upto latticeAddedSpec)

/-- 'studworklaw01.LatticeSymmetric', WHERE WHAT IT READS IS OF BULK AT MOST 1048576: true; the input reads as it did. -/
def latticeSymmetricUptoRow : OpenClaim := { program := "ytbionhgjgcpogaagreatdoor", sum := "6d2a7d49aeae6416dc6aa86739feda0c8cf095161d4a851eb4c4854c2a034323", func := "studwork/studworklaw01.LatticeSymmetric", spec := "latticeSymmetric", unfollowed := true, recurses := true, named := ["studwork/lattice.steps"], plainKeys := false, apart := false, laid := [("studwork/lattice.steps", laid_studwork_lattice_steps)], narrowed := true }
def LatticeSymmetricUptoSaid : Prop := latticeSymmetricUptoRow.holds Tryz.pinned (OpenSpec.upto latticeSymmetricSpec)

/-- 'studworklaw01.LatticeNormal', WHERE WHAT IT READS IS OF BULK AT MOST 1048576: true; the input reads as it did. -/
def latticeNormalUptoRow : OpenClaim := { program := "ytbionhgjgcpogaagreatdoor", sum := "6d2a7d49aeae6416dc6aa86739feda0c8cf095161d4a851eb4c4854c2a034323", func := "studwork/studworklaw01.LatticeNormal", spec := "latticeNormal", unfollowed := true, recurses := true, named := ["studwork/lattice.steps"], plainKeys := false, apart := false, laid := [("studwork/lattice.steps", laid_studwork_lattice_steps)], narrowed := true }
def LatticeNormalUptoSaid : Prop := latticeNormalUptoRow.holds Tryz.pinned (OpenSpec.upto latticeNormalSpec)

end Rows
end Go.Proofs.YtbionhgjgcpogaaGreatDoor
