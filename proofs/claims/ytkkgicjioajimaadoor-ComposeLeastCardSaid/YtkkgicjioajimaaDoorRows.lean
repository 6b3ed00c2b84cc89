/-
  NARROWER THAN 'FOR EVERY INPUT', by the rows' own cells (each row's printed sentence says how): ComposeChecks: laid · ComposeSearches: laid · ComposeModels: laid · ComposeBest: laid · ComposeLeast: laid · ComposeTurned: laid · ComposeMore: laid · ComposeRow: laid.
  DERIVED. THE GIVEN ROWS OF THIS SEAT. 8 by the template 'for every input the law returns true; each argument reads behind the call as it read before'; 0 by the template 'total and deterministic' (their statements: YtkkgicjioajimaaDoorTotals.lean).
  GIVEN WITH THE SEED: the statements are not yours to turn. If you find one false, say at which input.
  Laid BY PROGRAM, IN A SANDBOX (cutbox-rows.mjs): the forced cells as the released guide's own fill.sh prints them over the translation 24978f88a8f13dda… (all of the seat's roots in one cut). By AI agents, Wed Nov 11 2026. No macro, syntax, notation, axiom, sorry.
-/
import Derived.Test.YtkkgicjioajimaaDoorChecked
import GoSem.Claim
import GoSem.ClaimJoined
import GoSem.ClaimMapViews
import Derived.JoinedTies
import Derived.KernelRfl
namespace Go.Proofs.YtkkgicjioajimaaDoor
/- THE CELL 'sum', in the pinned program and in every row, IS THE sha256 OF THE DUMP (.gsa) THAT YtkkgicjioajimaaDoorProg.lean LOADS. Nothing in Lean hashes anything: it is a label: what it is worth is what the hold of that sum in a sandbox is worth. -/
noncomputable def Tryd.pinned : Pinned := { name := "ytkkgicjioajimaadoor", sum := "24978f88a8f13dda54a9a2006adee3bb09e906d8b7b2830bc64ea108f88eef84", checked := Tryd.checked }
namespace Rows
def none {H : Type} : Left H := { results := [], args := [] }

/- WHAT THE LISTED PACKAGE-LEVEL VARIABLES READ AS WHEN THE CALL BEGINS. Each datum BY PROGRAM (the guide's laid-datum.mjs) off the statement by which the dump's own 'gosem.cut.vars' lays the variable. In a bare row this is a premise. The card (YtkkgicjioajimaaDoorCards.lean) ties it to the program's text. -/
def laid_math_bits_deBruijn32tab {H : Type} : DataW H := .agg [.lit (.int .u8 0), .lit (.int .u8 1), .lit (.int .u8 28), .lit (.int .u8 2), .lit (.int .u8 29), .lit (.int .u8 14), .lit (.int .u8 24), .lit (.int .u8 3), .lit (.int .u8 30), .lit (.int .u8 22), .lit (.int .u8 20), .lit (.int .u8 15), .lit (.int .u8 25), .lit (.int .u8 17), .lit (.int .u8 4), .lit (.int .u8 8), .lit (.int .u8 31), .lit (.int .u8 27), .lit (.int .u8 13), .lit (.int .u8 23), .lit (.int .u8 21), .lit (.int .u8 19), .lit (.int .u8 16), .lit (.int .u8 7), .lit (.int .u8 26), .lit (.int .u8 12), .lit (.int .u8 18), .lit (.int .u8 6), .lit (.int .u8 11), .lit (.int .u8 5), .lit (.int .u8 10), .lit (.int .u8 9)]

/-- 'studworklaw07.ComposeChecks': WHATEVER THE INPUT: true; the input reads as it did. -/
def composeChecksSpec : ChangeSpec := { name := "composeChecks", fn := fun _ => fun
  | [d1, d2, d3] => { results := [.lit (.bool true)], args := [d1, d2, d3] }
  | _ => none }
def composeChecksRow : OpenClaim := { program := "ytkkgicjioajimaadoor", sum := "24978f88a8f13dda54a9a2006adee3bb09e906d8b7b2830bc64ea108f88eef84", func := "studwork/studworklaw07.ComposeChecks", spec := "composeChecks", unfollowed := true, recurses := true, named := ["math/bits.deBruijn32tab"], plainKeys := false, apart := false, laid := [("math/bits.deBruijn32tab", laid_math_bits_deBruijn32tab)] }
def ComposeChecksSaid : Prop := composeChecksRow.holds Tryd.pinned (OpenSpec.ofChange composeChecksSpec)

/-- ITS FALSE NEIGHBOUR: 'it returns false'. Refute it at one input. -/
def composeChecksWrong : ChangeSpec := { name := "composeChecks", fn := fun _ => fun
  | [d1, d2, d3] => { results := [.lit (.bool false)], args := [d1, d2, d3] }
  | _ => none }
def ComposeChecksWrongFalsely : Prop := composeChecksRow.holds Tryd.pinned (OpenSpec.ofChange composeChecksWrong)

/-- 'studworklaw07.ComposeSearches': WHATEVER THE INPUT: true; the input reads as it did. -/
def composeSearchesSpec : ChangeSpec := { name := "composeSearches", fn := fun _ => fun
  | [d1, d2] => { results := [.lit (.bool true)], args := [d1, d2] }
  | _ => none }
def composeSearchesRow : OpenClaim := { program := "ytkkgicjioajimaadoor", sum := "24978f88a8f13dda54a9a2006adee3bb09e906d8b7b2830bc64ea108f88eef84", func := "studwork/studworklaw07.ComposeSearches", spec := "composeSearches", unfollowed := true, recurses := true, named := ["math/bits.deBruijn32tab"], plainKeys := false, apart := false, laid := [("math/bits.deBruijn32tab", laid_math_bits_deBruijn32tab)] }
def ComposeSearchesSaid : Prop := composeSearchesRow.holds Tryd.pinned (OpenSpec.ofChange composeSearchesSpec)

/-- ITS FALSE NEIGHBOUR: 'it returns false'. Refute it at one input. -/
def composeSearchesWrong : ChangeSpec := { name := "composeSearches", fn := fun _ => fun
  | [d1, d2] => { results := [.lit (.bool false)], args := [d1, d2] }
  | _ => none }
def ComposeSearchesWrongFalsely : Prop := composeSearchesRow.holds Tryd.pinned (OpenSpec.ofChange composeSearchesWrong)

/-- 'studworklaw07.ComposeModels': WHATEVER THE INPUT: true; the input reads as it did. -/
def composeModelsSpec : ChangeSpec := { name := "composeModels", fn := fun _ => fun
  | [d1, d2, d3] => { results := [.lit (.bool true)], args := [d1, d2, d3] }
  | _ => none }
def composeModelsRow : OpenClaim := { program := "ytkkgicjioajimaadoor", sum := "24978f88a8f13dda54a9a2006adee3bb09e906d8b7b2830bc64ea108f88eef84", func := "studwork/studworklaw07.ComposeModels", spec := "composeModels", unfollowed := true, recurses := true, named := ["math/bits.deBruijn32tab"], plainKeys := false, apart := false, laid := [("math/bits.deBruijn32tab", laid_math_bits_deBruijn32tab)] }
def ComposeModelsSaid : Prop := composeModelsRow.holds Tryd.pinned (OpenSpec.ofChange composeModelsSpec)

/-- ITS FALSE NEIGHBOUR: 'it returns false'. Refute it at one input. -/
def composeModelsWrong : ChangeSpec := { name := "composeModels", fn := fun _ => fun
  | [d1, d2, d3] => { results := [.lit (.bool false)], args := [d1, d2, d3] }
  | _ => none }
def ComposeModelsWrongFalsely : Prop := composeModelsRow.holds Tryd.pinned (OpenSpec.ofChange composeModelsWrong)

/-- 'studworklaw07.ComposeBest': WHATEVER THE INPUT: true; the input reads as it did. -/
def composeBestSpec : ChangeSpec := { name := "composeBest", fn := fun _ => fun
  | [d1, d2, d3] => { results := [.lit (.bool true)], args := [d1, d2, d3] }
  | _ => none }
def composeBestRow : OpenClaim := { program := "ytkkgicjioajimaadoor", sum := "24978f88a8f13dda54a9a2006adee3bb09e906d8b7b2830bc64ea108f88eef84", func := "studwork/studworklaw07.ComposeBest", spec := "composeBest", unfollowed := true, recurses := true, named := ["math/bits.deBruijn32tab"], plainKeys := false, apart := false, laid := [("math/bits.deBruijn32tab", laid_math_bits_deBruijn32tab)] }
def ComposeBestSaid : Prop := composeBestRow.holds Tryd.pinned (OpenSpec.ofChange composeBestSpec)

/-- ITS FALSE NEIGHBOUR: 'it returns false'. Refute it at one input. -/
def composeBestWrong : ChangeSpec := { name := "composeBest", fn := fun _ => fun
  | [d1, d2, d3] => { results := [.lit (.bool false)], args := [d1, d2, d3] }
  | _ => none }
def ComposeBestWrongFalsely : Prop := composeBestRow.holds Tryd.pinned (OpenSpec.ofChange composeBestWrong)

/-- 'studworklaw07.ComposeLeast': WHATEVER THE INPUT: true; the input reads as it did. -/
def composeLeastSpec : ChangeSpec := { name := "composeLeast", fn := fun _ => fun
  | [d1, d2, d3] => { results := [.lit (.bool true)], args := [d1, d2, d3] }
  | _ => none }
def composeLeastRow : OpenClaim := { program := "ytkkgicjioajimaadoor", sum := "24978f88a8f13dda54a9a2006adee3bb09e906d8b7b2830bc64ea108f88eef84", func := "studwork/studworklaw07.ComposeLeast", spec := "composeLeast", unfollowed := true, recurses := true, named := ["math/bits.deBruijn32tab"], plainKeys := false, apart := false, laid := [("math/bits.deBruijn32tab", laid_math_bits_deBruijn32tab)] }
def ComposeLeastSaid : Prop := composeLeastRow.holds Tryd.pinned (OpenSpec.ofChange composeLeastSpec)

/-- ITS FALSE NEIGHBOUR: 'it returns false'. Refute it at one input. -/
def composeLeastWrong : ChangeSpec := { name := "composeLeast", fn := fun _ => fun
  | [d1, d2, d3] => { results := [.lit (.bool false)], args := [d1, d2, d3] }
  | _ => none }
def ComposeLeastWrongFalsely : Prop := composeLeastRow.holds Tryd.pinned (OpenSpec.ofChange composeLeastWrong)

/-- 'studworklaw07.ComposeTurned': WHATEVER THE INPUT: true; the input reads as it did. -/
def composeTurnedSpec : ChangeSpec := { name := "composeTurned", fn := fun _ => fun
  | [d1, d2] => { results := [.lit (.bool true)], args := [d1, d2] }
  | _ => none }
def composeTurnedRow : OpenClaim := { program := "ytkkgicjioajimaadoor", sum := "24978f88a8f13dda54a9a2006adee3bb09e906d8b7b2830bc64ea108f88eef84", func := "studwork/studworklaw07.ComposeTurned", spec := "composeTurned", unfollowed := true, recurses := true, named := ["math/bits.deBruijn32tab"], plainKeys := false, apart := false, laid := [("math/bits.deBruijn32tab", laid_math_bits_deBruijn32tab)] }
def ComposeTurnedSaid : Prop := composeTurnedRow.holds Tryd.pinned (OpenSpec.ofChange composeTurnedSpec)

/-- ITS FALSE NEIGHBOUR: 'it returns false'. Refute it at one input. -/
def composeTurnedWrong : ChangeSpec := { name := "composeTurned", fn := fun _ => fun
  | [d1, d2] => { results := [.lit (.bool false)], args := [d1, d2] }
  | _ => none }
def ComposeTurnedWrongFalsely : Prop := composeTurnedRow.holds Tryd.pinned (OpenSpec.ofChange composeTurnedWrong)

/-- 'studworklaw07.ComposeMore': WHATEVER THE INPUT: true; the input reads as it did. -/
def composeMoreSpec : ChangeSpec := { name := "composeMore", fn := fun _ => fun
  | [d1, d2, d3] => { results := [.lit (.bool true)], args := [d1, d2, d3] }
  | _ => none }
def composeMoreRow : OpenClaim := { program := "ytkkgicjioajimaadoor", sum := "24978f88a8f13dda54a9a2006adee3bb09e906d8b7b2830bc64ea108f88eef84", func := "studwork/studworklaw07.ComposeMore", spec := "composeMore", unfollowed := true, recurses := true, named := ["math/bits.deBruijn32tab"], plainKeys := false, apart := false, laid := [("math/bits.deBruijn32tab", laid_math_bits_deBruijn32tab)] }
def ComposeMoreSaid : Prop := composeMoreRow.holds Tryd.pinned (OpenSpec.ofChange composeMoreSpec)

/-- ITS FALSE NEIGHBOUR: 'it returns false'. Refute it at one input. -/
def composeMoreWrong : ChangeSpec := { name := "composeMore", fn := fun _ => fun
  | [d1, d2, d3] => { results := [.lit (.bool false)], args := [d1, d2, d3] }
  | _ => none }
def ComposeMoreWrongFalsely : Prop := composeMoreRow.holds Tryd.pinned (OpenSpec.ofChange composeMoreWrong)

/-- 'studworklaw07.ComposeRow': WHATEVER THE INPUT: true; the input reads as it did. -/
def composeRowSpec : ChangeSpec := { name := "composeRow", fn := fun _ => fun
  | [d1, d2, d3] => { results := [.lit (.bool true)], args := [d1, d2, d3] }
  | _ => none }
def composeRowRow : OpenClaim := { program := "ytkkgicjioajimaadoor", sum := "24978f88a8f13dda54a9a2006adee3bb09e906d8b7b2830bc64ea108f88eef84", func := "studwork/studworklaw07.ComposeRow", spec := "composeRow", unfollowed := true, recurses := true, named := ["math/bits.deBruijn32tab"], plainKeys := false, apart := false, laid := [("math/bits.deBruijn32tab", laid_math_bits_deBruijn32tab)] }
def ComposeRowSaid : Prop := composeRowRow.holds Tryd.pinned (OpenSpec.ofChange composeRowSpec)

/-- ITS FALSE NEIGHBOUR: 'it returns false'. Refute it at one input. -/
def composeRowWrong : ChangeSpec := { name := "composeRow", fn := fun _ => fun
  | [d1, d2, d3] => { results := [.lit (.bool false)], args := [d1, d2, d3] }
  | _ => none }
def ComposeRowWrongFalsely : Prop := composeRowRow.holds Tryd.pinned (OpenSpec.ofChange composeRowWrong)

/- THE SECOND FORM. 'bulk': how many values and letters a reading holds, each counted each time it is reached (what is shared counts as often as it is met; a slice's spare places count too). A statement '..UptoSaid' is the law's where the arguments, and the package variables that the reading takes, are together of bulk at most 1048576: NARROWER than '..Said'. Prove '..Said' where nothing that the law and all that it calls make is longer than what came in: it says more and counts as full. Else prove '..UptoSaid'. A law counts once. -/
mutual
def uptoBulk {H : Type} : DataW H → Nat
  | .lit (.string bytes) => bytes.length + 1
  | .lit _ => 1
  | .nil => 1
  | .ptr d => uptoBulk d + 1
  | .slice elems spare => uptoBulkAll elems + uptoBulkAll spare + 1
  | .agg parts => uptoBulkAll parts + 1
  | .iface _ d => uptoBulk d + 1
  | .map entries => uptoBulkEntries entries + 1
  | .held _ => 1
def uptoBulkAll {H : Type} : List (DataW H) → Nat
  | [] => 0
  | d :: r => uptoBulk d + uptoBulkAll r
def uptoBulkEntries {H : Type} : List (Lit × DataW H) → Nat
  | [] => 0
  | x :: r => uptoBulkEntry x + uptoBulkEntries r
def uptoBulkEntry {H : Type} : Lit × DataW H → Nat
  | (.string bytes, d) => bytes.length + uptoBulk d + 1
  | (_, d) => uptoBulk d + 1
 end
def uptoSmall : (H : Type) → List (DataW H) → Bool := fun _ ds => decide (uptoBulkAll ds ≤ 1048576)
def OpenSpec.upto (s : _root_.Go.ChangeSpec) : _root_.Go.OpenSpec := { _root_.Go.OpenSpec.ofChange s with cond := some uptoSmall }

/-- 'studworklaw07.ComposeChecks', WHERE WHAT IT READS IS OF BULK AT MOST 1048576: true; the input reads as it did. -/
def composeChecksUptoRow : OpenClaim := { program := "ytkkgicjioajimaadoor", sum := "24978f88a8f13dda54a9a2006adee3bb09e906d8b7b2830bc64ea108f88eef84", func := "studwork/studworklaw07.ComposeChecks", spec := "composeChecks", unfollowed := true, recurses := true, named := ["math/bits.deBruijn32tab"], plainKeys := false, apart := false, laid := [("math/bits.deBruijn32tab", laid_math_bits_deBruijn32tab)], narrowed := true }
def ComposeChecksUptoSaid : Prop := composeChecksUptoRow.holds Tryd.pinned (OpenSpec.upto composeChecksSpec)

/-- 'studworklaw07.ComposeSearches', WHERE WHAT IT READS IS OF BULK AT MOST 1048576: true; the input reads as it did. -/
def composeSearchesUptoRow : OpenClaim := { program := "ytkkgicjioajimaadoor", sum := "24978f88a8f13dda54a9a2006adee3bb09e906d8b7b2830bc64ea108f88eef84", func := "studwork/studworklaw07.ComposeSearches", spec := "composeSearches", unfollowed := true, recurses := true, named := ["math/bits.deBruijn32tab"], plainKeys := false, apart := false, laid := [("math/bits.deBruijn32tab", laid_math_bits_deBruijn32tab)], narrowed := true }
def ComposeSearchesUptoSaid : Prop := composeSearchesUptoRow.holds Tryd.pinned (OpenSpec.upto composeSearchesSpec)

/-- 'studworklaw07.ComposeModels', WHERE WHAT IT READS IS OF BULK AT MOST 1048576: true; the input reads as it did. -/
def composeModelsUptoRow : OpenClaim := { program := "ytkkgicjioajimaadoor", sum := "24978f88a8f13dda54a9a2006adee3bb09e906d8b7b2830bc64ea108f88eef84", func := "studwork/studworklaw07.ComposeModels", spec := "composeModels", unfollowed := true, recurses := true, named := ["math/bits.deBruijn32tab"], plainKeys := false, apart := false, laid := [("math/bits.deBruijn32tab", laid_math_bits_deBruijn32tab)], narrowed := true }
def ComposeModelsUptoSaid : Prop := composeModelsUptoRow.holds Tryd.pinned (OpenSpec.upto composeModelsSpec)

/-- 'studworklaw07.ComposeBest', WHERE WHAT IT READS IS OF BULK AT MOST 1048576: true; the input reads as it did. -/
def composeBestUptoRow : OpenClaim := { program := "ytkkgicjioajimaadoor", sum := "24978f88a8f13dda54a9a2006adee3bb09e906d8b7b2830bc64ea108f88eef84", func := "studwork/studworklaw07.ComposeBest", spec := "composeBest", unfollowed := true, recurses := true, named := ["math/bits.deBruijn32tab"], plainKeys := false, apart := false, laid := [("math/bits.deBruijn32tab", laid_math_bits_deBruijn32tab)], narrowed := true }
def ComposeBestUptoSaid : Prop := composeBestUptoRow.holds Tryd.pinned (OpenSpec.upto composeBestSpec)

/-- 'studworklaw07.ComposeLeast', WHERE WHAT IT READS IS OF BULK AT MOST 1048576: true; the input reads as it did. -/
def composeLeastUptoRow : OpenClaim := { program := "ytkkgicjioajimaadoor", sum := "24978f88a8f13dda54a9a2006adee3bb09e906d8b7b2830bc64ea108f88eef84", func := "studwork/studworklaw07.ComposeLeast", spec := "composeLeast", unfollowed := true, recurses := true, named := ["math/bits.deBruijn32tab"], plainKeys := false, apart := false, laid := [("math/bits.deBruijn32tab", laid_math_bits_deBruijn32tab)], narrowed := true }
def ComposeLeastUptoSaid : Prop := composeLeastUptoRow.holds Tryd.pinned (OpenSpec.upto composeLeastSpec)

/-- 'studworklaw07.ComposeTurned', WHERE WHAT IT READS IS OF BULK AT MOST 1048576: true; the input reads as it did. -/
def composeTurnedUptoRow : OpenClaim := { program := "ytkkgicjioajimaadoor", sum := "24978f88a8f13dda54a9a2006adee3bb09e906d8b7b2830bc64ea108f88eef84", func := "studwork/studworklaw07.ComposeTurned", spec := "composeTurned", unfollowed := true, recurses := true, named := ["math/bits.deBruijn32tab"], plainKeys := false, apart := false, laid := [("math/bits.deBruijn32tab", laid_math_bits_deBruijn32tab)], narrowed := true }
def ComposeTurnedUptoSaid : Prop := composeTurnedUptoRow.holds Tryd.pinned (OpenSpec.upto composeTurnedSpec)

/-- 'studworklaw07.ComposeMore', WHERE WHAT IT READS IS OF BULK AT MOST 1048576: true; the input reads as it did. -/
def composeMoreUptoRow : OpenClaim := { program := "ytkkgicjioajimaadoor", sum := "24978f88a8f13dda54a9a2006adee3bb09e906d8b7b2830bc64ea108f88eef84", func := "studwork/studworklaw07.ComposeMore", spec := "composeMore", unfollowed := true, recurses := true, named := ["math/bits.deBruijn32tab"], plainKeys := false, apart := false, laid := [("math/bits.deBruijn32tab", laid_math_bits_deBruijn32tab)], narrowed := true }
def ComposeMoreUptoSaid : Prop := composeMoreUptoRow.holds Tryd.pinned (OpenSpec.upto composeMoreSpec)

/-- 'studworklaw07.ComposeRow', WHERE WHAT IT READS IS OF BULK AT MOST 1048576: true; the input reads as it did. -/
def composeRowUptoRow : OpenClaim := { program := "ytkkgicjioajimaadoor", sum := "24978f88a8f13dda54a9a2006adee3bb09e906d8b7b2830bc64ea108f88eef84", func := "studwork/studworklaw07.ComposeRow", spec := "composeRow", unfollowed := true, recurses := true, named := ["math/bits.deBruijn32tab"], plainKeys := false, apart := false, laid := [("math/bits.deBruijn32tab", laid_math_bits_deBruijn32tab)], narrowed := true }
def ComposeRowUptoSaid : Prop := composeRowUptoRow.holds Tryd.pinned (OpenSpec.upto composeRowSpec)

end Rows
end Go.Proofs.YtkkgicjioajimaaDoor
