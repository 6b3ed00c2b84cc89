/- A call that may write to what it is lent: which of its blocks is which of the caller's. Nothing here speaks of the program. -/
import Derived.Test.YtahoindkdkhpmaaXCW
namespace Go.Proofs.Ytahoindkdkhpmaa.Clean

/-- What is not known of the memory behind a call. -/
abbrev Us := List (List (List V))
def back1 : List (Nat × Nat) → Nat → Tr
  | [], _ => .drop
  | (a, b) :: r, i => bif b.beq i then .ren a else back1 r i
/-- Which block of the caller's is the callee's block i. -/
def backT (bs : List (Nat × Nat)) (n m i : Nat) : Tr := bif Nat.blt i n then back1 bs i else .ren (m + (i - n))
def backO (τ : Nat → Tr) : O → O
  | .rows s true es => .rows s true es
  | .rows s false es => .rows s false (es.map (trL τ))
def backBs (τ : Nat → Tr) : List (Nat × O) → List (Nat × O)
  | [] => []
  | (i, o) :: r => match τ i with
    | .ren b => (b, backO τ o) :: backBs τ r
    | _ => backBs τ r
/-- The caller's memory behind the call. -/
def mergeH (h : Hp) (kp : Keep) (h1 : Hp) : Hp := ⟨backBs (backT kp.blocks kp.nxt h.nxt) h1.bs ++ (delAll h (kp.blocks.map (·.1))).bs, h.nxt + (h1.nxt - kp.nxt)⟩
def lentH (h : Hp) (kp : Keep) : Hp := ⟨keepBs (renOf kp.blocks) [] h kp.blocks, kp.nxt⟩
def bsOK (h : Hp) : Bool := h.bs.all fun p => Nat.blt p.1 h.nxt
def getO (h : Hp) (b : Nat) : O := (h.get b).getD (.rows 0 true [])
/-- The result is this. -/
def sameV (v w : V) (k : Prop) : Prop := v = w ∧ k
def typedR (P : Program) (t : Option TypeId) (v : V) (k : V → Prop) : Prop := match t with | some t => typedT P false t v k | none => k v
/-- What stays of a function's memory behind it. -/
noncomputable def QendK (P : Program) (fn : Func) (kp : Keep) (R : V → Hp → Prop) : Post := fun e st => match e with
  | .norm | .ret => wRes P fn.results st fun v => guardB (kp.at st).ok (R (v.tr (renOf (kp.at st).blocks)) ((kp.at st).st st).h)
  | _ => False
/-- The body of a function that may write to what it is lent. -/
noncomputable def WK (P : Program) (C : Calling) (kps : Nat → Keep) (kp : Keep) (fn : Func) (args : List V) (h : Hp) (R : V → Hp → Prop) : Prop :=
  match fn.body with
  | some c => guardB (Nat.ble args.length fn.ntmps && Nat.ble args.length 1000) <| W P C fn.ntmps kps 0 c (QendK P fn kp R) ⟨start args, h⟩
  | none => False
end Go.Proofs.Ytahoindkdkhpmaa.Clean
