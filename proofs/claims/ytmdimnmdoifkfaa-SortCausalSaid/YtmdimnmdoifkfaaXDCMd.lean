/- A call that may write to what it is lent: which of its blocks is which of the caller's. Nothing here speaks of the program. -/
import Derived.Test.YtmdimnmdoifkfaaXDCW
namespace Go.Proofs.Ytmdimnmdoifkfaa.Clean

/-- What is not known of the memory behind a call. -/
abbrev Us := List (List (List V))
def back1 : List (Id × Nat) → Nat → Tr
  | [], _ => .drop
  | (a, b) :: r, i => bif b.beq i then .ren a else back1 r i
/-- Which block of the caller's is the callee's block i. -/
def backT (bs : List (Id × Nat)) (n m : Nat) : Id → Tr
  | .p i => bif Nat.blt i n then back1 bs i else .ren (.p (m + (i - n)))
  | .m _ _ => .drop
noncomputable def backO (τ : Id → Tr) : O → O
  | .rows s true es => .rows s true es
  | .rows s false es => .rows s false (es.map (trL τ))
  | .mp es => .mp (es.map fun kv => (kv.1.tr τ, kv.2.tr τ))
  | .lp q => .lp (q.mapV (V.tr τ))
  | .it x n seen => .it (x.tr τ) n seen
noncomputable def backBs (τ : Id → Tr) : List (Nat × O) → List (Nat × O)
  | [] => []
  | (i, o) :: r => match τ (.p i) with
    | .ren (.p b) => (b, backO τ o) :: backBs τ r
    | _ => backBs τ r
def pureOf : Option O → Option (List (List V))
  | some (.rows _ true es) => some es
  | _ => none
/-- Members that were lent, as they came back. -/
def mergeFs (h1 : Hp) : List (Id × Nat) → List (Nat × Fam) → List (Nat × Fam)
  | [], fs => fs
  | (.m B k, i) :: r, fs => setF (mergeFs h1 r fs) B k (pureOf (getB h1.bs i))
  | (.p _, _) :: r, fs => mergeFs h1 r fs
/-- What was a member comes back as rows of the same kind, or not at all. -/
def mfit (h : Hp) (h1 : Hp) (bs : List (Id × Nat)) : Bool := h1.fs.isEmpty && bs.all fun p => match p.1 with
  | .p _ => true
  | .m B _ => match getF h.fs B with
    | some f => match getB h1.bs p.2 with
      | some (.rows s true _) => s.beq f.s
      | some _ => false
      | none => true
    | none => false
/-- The caller's memory behind the call. -/
noncomputable def mergeH (h : Hp) (kp : Keep) (h1 : Hp) : Hp := ⟨backBs (backT kp.blocks kp.nxt h.nxt) h1.bs ++ (delAll h (kp.blocks.map (·.1))).bs, h.nxt + (h1.nxt - kp.nxt), mergeFs h1 kp.blocks h.fs⟩
noncomputable def lentH (h : Hp) (kp : Keep) : Hp := ⟨keepBs (renOf kp.blocks) [] h kp.blocks, kp.nxt, []⟩
def bsOK (h : Hp) : Bool := h.bs.all fun p => Nat.blt p.1 h.nxt
def getO (h : Hp) (b : Nat) : O := (h.get (.p b)).getD (.rows 0 true [])
/-- The result is this. -/
def sameV (v w : V) (k : Prop) : Prop := v = w ∧ k
def typedR (P : Program) (t : Option TypeId) (v : V) (k : V → Prop) : Prop := match t with | some t => typedT P false t v k | none => k v
/-- What stays of a function's memory behind it. -/
noncomputable def QendK (P : Program) (fn : Func) (kp : Keep) (R : V → Hp → Prop) : Post := fun e st => match e with
  | .norm | .ret => wRes P fn.results st fun v => guardB (kp.at st).ok (guardB (kp.at st).fams.isEmpty (R (v.tr (renOf (kp.at st).blocks)) ((kp.at st).st st).h))
  | _ => False
/-- The body of a function that may write to what it is lent. -/
noncomputable def WK (P : Program) (C : Calling) (kps : Nat → Keep) (kp : Keep) (fn : Func) (args : List V) (h : Hp) (R : V → Hp → Prop) : Prop :=
  match fn.body with
  | some c => guardB h.fs.isEmpty <| guardB (Nat.ble args.length fn.ntmps && Nat.ble args.length 1000) <| W P C fn.ntmps kps 0 c (QendK P fn kp R) ⟨start args, h⟩
  | none => False
end Go.Proofs.Ytmdimnmdoifkfaa.Clean
