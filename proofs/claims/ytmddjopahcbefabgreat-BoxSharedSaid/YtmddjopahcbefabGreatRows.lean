/-
  No cell of these rows narrows 'for every input' (looked for: loops, veiled, ifaces, maps, wideKeys, modest, calm, conditions, laid).
  DERIVED. THE GIVEN ROWS OF THIS SEAT. 3 by the template 'for every input the law returns true; each argument reads behind the call as it read before'; 0 by the template 'total and deterministic' (their statements: YtmddjopahcbefabGreatTotals.lean).
  GIVEN WITH THE SEED: the statements are not yours to turn. If you find one false, say at which input.
  Laid BY PROGRAM, IN A SANDBOX (cutbox-rows.mjs): the forced cells as the released guide's own fill.sh prints them over the translation 56e403a9f9d886cb… (all of the seat's roots in one cut). By AI agents, Wed Nov 11 2026. No macro, syntax, notation, axiom, sorry.
-/
import Derived.Test.YtmddjopahcbefabGreatChecked
import GoSem.Claim
import GoSem.ClaimJoined
import GoSem.ClaimMapViews
import Derived.JoinedTies
import Derived.KernelRfl
namespace Go.Proofs.YtmddjopahcbefabGreat
/- THE CELL 'sum', in the pinned program and in every row, IS THE sha256 OF THE DUMP (.gsa) THAT YtmddjopahcbefabGreatProg.lean LOADS. Nothing in Lean hashes anything: it is a label: what it is worth is what the hold of that sum in a sandbox is worth. -/
noncomputable def Tryz.pinned : Pinned := { name := "ytmddjopahcbefabgreat", sum := "56e403a9f9d886cbf18f26866f590b281a85add36abf4faa713d03fd33d44bb7", checked := Tryz.checked }
namespace Rows
def none {H : Type} : Left H := { results := [], args := [] }

/-- 'studworklaw08.BoxShared': WHATEVER THE INPUT: true; the input reads as it did. -/
def boxSharedSpec : ChangeSpec := { name := "boxShared", fn := fun _ => fun
  | [d1, d2, d3, d4] => { results := [.lit (.bool true)], args := [d1, d2, d3, d4] }
  | _ => none }
def boxSharedRow : OpenClaim := { program := "ytmddjopahcbefabgreat", sum := "56e403a9f9d886cbf18f26866f590b281a85add36abf4faa713d03fd33d44bb7", func := "studwork/studworklaw08.BoxShared", spec := "boxShared", unfollowed := true, recurses := true, plainKeys := false, apart := false }
def BoxSharedSaid : Prop := boxSharedRow.holds Tryz.pinned (OpenSpec.ofChange boxSharedSpec)

/-- ITS FALSE NEIGHBOUR: 'it returns false'. Refute it at one input. -/
def boxSharedWrong : ChangeSpec := { name := "boxShared", fn := fun _ => fun
  | [d1, d2, d3, d4] => { results := [.lit (.bool false)], args := [d1, d2, d3, d4] }
  | _ => none }
def BoxSharedWrongFalsely : Prop := boxSharedRow.holds Tryz.pinned (OpenSpec.ofChange boxSharedWrong)

/-- 'studworklaw08.BoxCore': WHATEVER THE INPUT: true; the input reads as it did. -/
def boxCoreSpec : ChangeSpec := { name := "boxCore", fn := fun _ => fun
  | [d1, d2] => { results := [.lit (.bool true)], args := [d1, d2] }
  | _ => none }
def boxCoreRow : OpenClaim := { program := "ytmddjopahcbefabgreat", sum := "56e403a9f9d886cbf18f26866f590b281a85add36abf4faa713d03fd33d44bb7", func := "studwork/studworklaw08.BoxCore", spec := "boxCore", unfollowed := true, recurses := true, plainKeys := false, apart := false }
def BoxCoreSaid : Prop := boxCoreRow.holds Tryz.pinned (OpenSpec.ofChange boxCoreSpec)

/-- ITS FALSE NEIGHBOUR: 'it returns false'. Refute it at one input. -/
def boxCoreWrong : ChangeSpec := { name := "boxCore", fn := fun _ => fun
  | [d1, d2] => { results := [.lit (.bool false)], args := [d1, d2] }
  | _ => none }
def BoxCoreWrongFalsely : Prop := boxCoreRow.holds Tryz.pinned (OpenSpec.ofChange boxCoreWrong)

/-- 'studworklaw08.BoxGroups': WHATEVER THE INPUT: true; the input reads as it did. -/
def boxGroupsSpec : ChangeSpec := { name := "boxGroups", fn := fun _ => fun
  | [d1, d2, d3, d4] => { results := [.lit (.bool true)], args := [d1, d2, d3, d4] }
  | _ => none }
def boxGroupsRow : OpenClaim := { program := "ytmddjopahcbefabgreat", sum := "56e403a9f9d886cbf18f26866f590b281a85add36abf4faa713d03fd33d44bb7", func := "studwork/studworklaw08.BoxGroups", spec := "boxGroups", unfollowed := true, recurses := true, plainKeys := false, apart := false }
def BoxGroupsSaid : Prop := boxGroupsRow.holds Tryz.pinned (OpenSpec.ofChange boxGroupsSpec)

/-- ITS FALSE NEIGHBOUR: 'it returns false'. Refute it at one input. -/
def boxGroupsWrong : ChangeSpec := { name := "boxGroups", fn := fun _ => fun
  | [d1, d2, d3, d4] => { results := [.lit (.bool false)], args := [d1, d2, d3, d4] }
  | _ => none }
def BoxGroupsWrongFalsely : Prop := boxGroupsRow.holds Tryz.pinned (OpenSpec.ofChange boxGroupsWrong)

/- THE SECOND FORM. 'bulk': how many values and letters a reading holds, each counted each time it is reached (what is shared counts as often as it is met; a slice's spare places count too). A statement '..UptoSaid' is the law's where the arguments, and the package variables that the reading takes, are together of bulk at most 1048576: NARROWER than '..Said'. Prove '..Said' where nothing that the law and all that it calls make is longer than what came in: it says more and counts as full. Else prove '..UptoSaid'. A law counts once. -/
mutual
def uptoBulk {H : Type} : DataW H → Nat
  | .lit (.string bytes) => bytes.length + 1
  | .lit _ => 1
  | .nil => 1
  | .ptr d => uptoBulk d + 1
  | .slice elems spare => uptoBulkAll elems + uptoBulkAll spare + 1
  | .agg parts => uptoBulkAll parts + 1
  | .iface _ d => uptoBulk d + 1
  | .map entries => uptoBulkEntries entries + 1
  | .held _ => 1
def uptoBulkAll {H : Type} : List (DataW H) → Nat
  | [] => 0
  | d :: r => uptoBulk d + uptoBulkAll r
def uptoBulkEntries {H : Type} : List (Lit × DataW H) → Nat
  | [] => 0
  | x :: r => uptoBulkEntry x + uptoBulkEntries r
def uptoBulkEntry {H : Type} : Lit × DataW H → Nat
  | (.string bytes, d) => bytes.length + uptoBulk d + 1
  | (_, d) => uptoBulk d + 1
 end
def uptoSmall : (H : Type) → List (DataW H) → Bool := fun _ ds => decide (uptoBulkAll ds ≤ 1048576)
def OpenSpec.upto (s : _root_.Go.ChangeSpec) : _root_.Go.OpenSpec := { _root_.Go.OpenSpec.ofChange s with cond := some uptoSmall }

/-- 'studworklaw08.BoxShared', WHERE WHAT IT READS IS OF BULK AT MOST 1048576: true; the input reads as it did. -/
def boxSharedUptoRow : OpenClaim := { program := "ytmddjopahcbefabgreat", sum := "56e403a9f9d886cbf18f26866f590b281a85add36abf4faa713d03fd33d44bb7", func := "studwork/studworklaw08.BoxShared", spec := "boxShared", unfollowed := true, recurses := true, plainKeys := false, apart := false, narrowed := true }
def BoxSharedUptoSaid : Prop := boxSharedUptoRow.holds Tryz.pinned (OpenSpec.upto boxSharedSpec)

/-- 'studworklaw08.BoxCore', WHERE WHAT IT READS IS OF BULK AT MOST 1048576: true; the input reads as it did. -/
def boxCoreUptoRow : OpenClaim := { program := "ytmddjopahcbefabgreat", sum := "56e403a9f9d886cbf18f26866f590b281a85add36abf4faa713d03fd33d44bb7", func := "studwork/studworklaw08.BoxCore", spec := "boxCore", unfollowed := true, recurses := true, plainKeys := false, apart := false, narrowed := true }
def BoxCoreUptoSaid : Prop := boxCoreUptoRow.holds Tryz.pinned (OpenSpec.upto boxCoreSpec)

/-- 'studworklaw08.BoxGroups', WHERE WHAT IT READS IS OF BULK AT MOST 1048576: true; the input reads as it did. -/
def boxGroupsUptoRow : OpenClaim := { program := "ytmddjopahcbefabgreat", sum := "56e403a9f9d886cbf18f26866f590b281a85add36abf4faa713d03fd33d44bb7", func := "studwork/studworklaw08.BoxGroups", spec := "boxGroups", unfollowed := true, recurses := true, plainKeys := false, apart := false, narrowed := true }
def BoxGroupsUptoSaid : Prop := boxGroupsUptoRow.holds Tryz.pinned (OpenSpec.upto boxGroupsSpec)

end Rows
end Go.Proofs.YtmddjopahcbefabGreat
