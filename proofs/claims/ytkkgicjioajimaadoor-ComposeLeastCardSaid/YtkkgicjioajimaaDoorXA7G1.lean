/- A part of the proof. -/
import Derived.Test.YtkkgicjioajimaaDoorXA7G0
namespace Go.Proofs.YtkkgicjioajimaaDoor.Clean
@[simp] def nope:Prop:=False
def onSome {α:Type} (o:Option α) (k:α→Prop):Prop:=match o with | some x=>k x | none=>nope
def guardB (b:Bool) (p:Prop):Prop:=match b with | true=>p | false=>nope
noncomputable def ifB (b:Bool) (p q:Prop):Prop:=Bool.rec q p b
def onBool (v:V) (k:Bool→Prop):Prop:=match v with | .raw (.bool b)=>k b | _=>nope
def need (c:Prop) [Decidable c] (p:Prop):Prop:=match decide c with | true=>p | false=>False
def onIntK (kk:IntKind) (v:V) (k:Int→Prop):Prop:=match v with | .raw (.int kk' n)=>guardB (kk' == kk) (k n) | _=>False
def onStr (v:V) (k:ByteArray→Prop):Prop:=match v with | .raw (.string s)=>k s | _=>False
def onLst (v:V) (k:Nat→List (List V)→Prop):Prop:=match v with | .lst s es=>k s es | .raw (.slice none 0 0)=>k 0 [] | _=>False
def onAgg (v:V) (k:List V→Prop):Prop:=match v with | .agg cs=>k cs | _=>False
def onFmp (v:V) (p:Prop) (q:List (V×V)→Prop):Prop:=match v with | .fmp es=>q es | .raw (.map none)=>p | _=>False
def onTup (v:V) (k:List V→Prop):Prop:=match v with | .tup cs=>k cs | _=>False
def onCons (l:List V) (k:V→List V→Prop):Prop:=match l with | v::r=>k v r | []=>False
def onNat (n:Int) (k:Nat→Prop):Prop:=match n with | .ofNat m=>k m | .negSucc _=>nope
def onNil (l:List V) (k:Prop):Prop:=match l with | []=>k | _::_=>nope
def nilN (n:Nat) (k:Bool→Prop):Prop:=match n with | 0=>k true∧k false | _+1=>k false
def forceL:List V→(List V→Prop)→Prop
 | [],k=>k []
 | v::r,k=>forceL r fun r=>k (v::r)
theorem forceL_eq : ∀ (l:List V) (k:List V→Prop),forceL l k=k l
 | [],_=>rfl
 | v::r,k=>by rw [forceL,forceL_eq r]
def forceIf (b:Bool) (l:List V) (k:List V→Prop):Prop:=bif b then k l else forceL l k
theorem forceIf_eq (b:Bool) (l:List V) (k:List V→Prop):forceIf b l k=k l:=by cases b; exact forceL_eq l k; rfl
def memV (B:Nat) (v:V):Option (Option (Nat×Nat)) :=
 match v with
 | .raw (.slice none 0 0)=>some none
 | .sl b lo len=>match b with
  | .m B' j=>bif B'.beq B&&lo.beq 0 then some (some (j,len)) else none
  | .p _=>none
 | _=>none
def onMem (B:Nat) (v:V) (p:Prop) (q:Nat→Nat→Prop):Prop:=match memV B v with | some none=>p | some (some jl)=>q jl.1 jl.2 | none=>nope
def onRows (h:Hp) (b:Id) (k:Nat→Bool→List (List V)→Prop):Prop :=
 match b with
 | .p n=>match getB h.bs n with
  | some (.rows s p es)=>k s p es
  | _=>nope
 | .m B j=>match getF h.fs B with
  | some f=>onSome (memb f.ms j) fun es=>k f.s true es
  | none=>nope
def onMap (h:Hp) (x:V) (k:List (V×V)→Prop):Prop :=
 match x with
 | .mp b=>match b with
  | .p n=>match getB h.bs n with
   | some (.mp es)=>k es
   | _=>nope
  | .m _ _=>nope
 | .raw (.map none)=>k []
 | _=>False
def onMapB (h:Hp) (x:V) (k:Nat→List (V×V)→Prop):Prop :=
 match x with
 | .mp b=>match b with
  | .p n=>match getB h.bs n with
   | some (.mp es)=>k n es
   | _=>nope
  | .m _ _=>nope
 | _=>False
def onMapF (h:Hp) (x:V) (k:List (V×V)→Prop):Prop :=
 match x with
 | .fmp es=>k es
 | .mp b=>onMap h (.mp b) k
 | .raw v=>onMap h (.raw v) k
 | _=>False
def onIt (h:Hp) (x:V) (k:Nat→V→Nat→List Nat→Prop):Prop :=
 match x with
 | .ptr b 0 0=>match b with
  | .p c=>match getB h.bs c with
   | some (.it m n seen)=>k c m n seen
   | _=>nope
  | .m _ _=>nope
 | _=>False
def allIn:List Nat→(Nat→Prop)→Prop
 | [],_=>True
 | i::r,k=>k i∧allIn r k
def leftN (n:Nat) (seen:List Nat):List Nat:=(List.range n).filter fun i => !seen.any i.beq
def Hp.has (h:Hp) (b:Id):Bool :=
 match b with
 | .p n=>(getB h.bs n).isSome
 | .m B j=>match getF h.fs B with
  | some f=>(memb f.ms j).isSome
  | none=>false
def Hp.hasM (h:Hp) (b:Id):Bool :=
 match b with
 | .p n=>match getB h.bs n with | some (.mp _)=>true | _=>false
 | .m _ _=>false
def V.ofValue:Value→V
 | .agg cs => .agg (cs.toList.map .raw)
 | .tuple cs => .tup (cs.toList.map .raw)
 | v => .raw v
def V.one (h:Hp):V→Bool
 | .raw v=>v.oneCell'
 | .ptr b _ _ | .sl b _ _=>h.has b
 | .mp b=>h.hasM b
 | .lst _ _ | .fmp _ | .adr _ _ | .fn _ _ _=>true
 | _=>false
def allOne (h:Hp) (cs:List V):Bool:=cs.all (V.one h)
def V.cells:V→Option (List V)
 | .agg cs=>some cs
 | .tup _ | .junk=>none
 | v=>some [v]
def sub {α:Type} (l:List α) (off n:Nat):List α:=(l.drop off).take n
def typed (d:TypeDesc) (pure:Bool) (v:V) (k:V→Prop):Prop :=
 match d with
 | .int kk=>onIntK kk v fun n=>k (.raw (.int kk n))
 | .bool=>onBool v fun b=>k (.raw (.bool b))
 | .string=>onStr v fun s=>k (.raw (.string s))
 | .slice _=>match pure with
  | true=>onLst v fun s es=>k (.lst s es)
  | false=>k v
 | .map _ _=>match pure with
  | true=>onFmp v (k (.raw (.map none))) fun es=>k (.fmp es)
  | false=>k v
 | .struct _ | .array _ _=>onAgg v fun cs=>k (.agg cs)
 | .tuple _=>onTup v fun vs=>k (.tup vs)
 | _=>k v
def kinds (P:Program):Nat→TypeId→List TypeDesc
 | 0,_=>[]
 | f+1,t=>match P.underlying t with
  | some (.struct fs)=>fs.toList.flatMap fun fd=>kinds P f fd.type
  | some (.array n e)=>(List.replicate n (kinds P f e)).flatten
  | some d=>[d]
  | none=>[]
def onTyped (p:Bool):List TypeDesc→List V→(List V→Prop)→Prop
 | [],_,k=>k []
 | d::ds,l,k=>onCons l fun v r=>typed d p v fun v=>onTyped p ds r fun cs=>k (v::cs)
def onTypedE (p:Bool):List TypeDesc→List V→(List V→Prop)→Prop
 | [],l,k=>onNil l (k [])
 | d::ds,l,k=>onCons l fun v r=>typed d p v fun v=>onTypedE p ds r fun cs=>k (v::cs)
def typedS (P:Program) (p:Bool) (t:TypeId) (v:V) (k:V→Prop):Prop :=
 onSome (P.underlying t) fun d=>match d with
  | .struct _ | .array _ _=>onAgg v fun cs=>onTypedE p (kinds P 8 t) cs fun cs=>k (.agg cs)
  | .tuple _=>False
  | d=>typed d p v k
def typedL (P:Program) (p:Bool):List TypeId→List V→(List V→Prop)→Prop
 | [],l,k=>onNil l (k [])
 | t::ts,l,k=>onCons l fun v r=>typedS P p t v fun v=>typedL P p ts r fun vs=>k (v::vs)
def typedT (P:Program) (p:Bool) (t:TypeId) (v:V) (k:V→Prop):Prop :=
 onSome (P.underlying t) fun d=>match d with
  | .tuple ts=>onTup v fun vs=>typedL P p ts.toList vs fun vs=>k (.tup vs)
  | _=>typedS P p t v k
def thawD (P:Program) (d:TypeDesc) (v:V) (h:Hp) (k:V→Hp→Prop):Prop :=
 match d with
 | .slice e=>onSome (P.info? e) fun inf=>onLst v fun s es=>guardB (s.beq inf.size || s.beq 0) (k (.sl (.p h.nxt) 0 es.length) (h.add (.rows inf.size true es)))
 | .int kk=>onIntK kk v fun n=>k (.raw (.int kk n)) h
 | .bool=>onBool v fun b=>k (.raw (.bool b)) h
 | .string=>onStr v fun s=>k (.raw (.string s)) h
 | _=>False
def thawE (P:Program):List TypeDesc→List V→Hp→(List V→Hp→Prop)→Prop
 | [],l,h,k=>onNil l (k [] h)
 | d::ds,l,h,k=>onCons l fun v r=>thawD P d v h fun v h=>thawE P ds r h fun cs h=>k (v::cs) h
def thawS (P:Program) (t:TypeId) (v:V) (h:Hp) (k:V→Hp→Prop):Prop :=
 onSome (P.underlying t) fun d=>match d with
  | .struct _ | .array _ _=>onAgg v fun cs=>thawE P (kinds P 8 t) cs h fun cs h=>k (.agg cs) h
  | .tuple _=>False
  | d=>thawD P d v h k
def thawL (P:Program):List TypeId→List V→Hp→(List V→Hp→Prop)→Prop
 | [],l,h,k=>onNil l (k [] h)
 | t::ts,l,h,k=>onCons l fun v r=>thawS P t v h fun v h=>thawL P ts r h fun vs h=>k (v::vs) h
def thawT (P:Program) (t:TypeId) (v:V) (h:Hp) (k:V→Hp→Prop):Prop :=
 onSome (P.underlying t) fun d=>match d with
  | .tuple ts=>onTup v fun vs=>thawL P ts.toList vs h fun vs h=>k (.tup vs) h
  | _=>thawS P t v h k
inductive Tr where
 | drop
 | ren (b:Id)
 | frz (s:Nat) (es:List (List V))
 | frzm (es:List (V×V))
def fmpV (es:List (V×V)):V:=bif es.all fun kv=>kv.1.closed&&kv.2.closed then .fmp es else .junk
mutual
def V.tr (τ:Id→Tr):V→V
 | .mp b=>match τ b with
  | .ren b' => .mp b'
  | .frzm es=>fmpV es
  | _ => .junk
 | .yl b=>match τ b with
  | .ren b' => .yl b'
  | _ => .junk
 | .ptr b i off=>match τ b with
  | .ren b' => .ptr b' i off
  | .frz _ es => .adr (es.getD i []) off
  | _ => .junk
 | .sla b i off len=>match τ b with
  | .ren b' => .sla b' i off len
  | _ => .junk
 | .sl b lo len=>match τ b with
  | .ren b' => .sl b' lo len
  | .frz s es => .lst s (sub es lo len)
  | _ => .junk
 | .agg cs => .agg (trL τ cs)
 | .tup cs => .tup (trL τ cs)
 | .fn f a c => .fn f (trL τ a) (trL τ c)
 | v=>v
def trL (τ:Id→Tr):List V→List V
 | []=>[]
 | v::vs=>v.tr τ::trL τ vs
end
mutual
def V.refs:V→List Id
 | .ptr b _ _ | .sl b _ _ | .sla b _ _ _ | .mp b | .yl b=>[b]
 | .agg cs | .tup cs=>refsL cs
 | .fn _ a c=>refsL a++refsL c
 | _=>[]
def refsL:List V→List Id
 | []=>[]
 | v::vs=>v.refs++refsL vs
end
def refsO:Option O→List Id
 | some (.rows _ false [row])=>refsL row
 | _=>[]
def reach:Nat→Hp→List Id→List Id→List Id
 | 0,_,_,seen=>seen
 | _+1,_,[],seen=>seen
 | f+1,h,b::r,seen=>bif seen.any b.beq then reach f h r seen else reach f h (refsO (h.get b)++r) (seen++[b])
structure Fk where
 of:Option Nat
 to:Nat
 s:Nat
 take:List Nat
structure Keep where
 slots:List Tmp
 blocks:List (Id×Nat)
 nxt:Nat
 nils:List (Tmp×Nat×Nat):=[]
 pu:List Nat:=[]
 fams:List Fk:=[]
def renOf:List (Id×Nat)→Id→Tr
 | [],_ => .drop
 | (a,b)::r,x=>bif a.beq x then .ren (.p b) else renOf r x
def Fk.old (h:Hp) (f:Fk):List (Option (List (List V))) :=
 match f.of with
 | none=>[]
 | some B=>match getF h.fs B with
  | some g=>bif g.s.beq f.s then g.ms else []
  | none=>[]
def takeB (h:Hp) (s:Nat) (a:Nat):Option (List (List V)) :=
 match getB h.bs a with
 | some (.rows s' true es)=>bif s'.beq s then some es else none
 | _=>none
def Fk.ms (h:Hp) (f:Fk):List (Option (List (List V))):=f.old h++f.take.map (takeB h f.s)
def posOf:List Nat→Nat→Option Nat
 | [],_=>none
 | a::r,x=>bif a.beq x then some 0 else (posOf r x).map (· + 1)
def renFs (h:Hp):List Fk→Id→Tr
 | [],_ => .drop
 | f::r,.p a=>match posOf f.take a with
  | some j => .ren (.m f.to ((f.old h).length+j))
  | none=>renFs h r (.p a)
 | f::r,.m B k=>match f.of with
  | some B' => bif B'.beq B then (match getF h.fs B with | some g=>bif g.s.beq f.s then .ren (.m f.to k) else .drop | none => .drop) else renFs h r (.m B k)
  | none=>renFs h r (.m B k)
def Keep.ren (kp:Keep) (h:Hp) (x:Id):Tr:=match renOf kp.blocks x with
 | .drop=>renFs h kp.fams x
 | t=>t
def keepFs (h:Hp):List Fk→List (Nat×Fam)
 | []=>[]
 | f::r=>(f.to,⟨f.s,f.ms h⟩)::keepFs h r
noncomputable def keepBs (τ:Id→Tr) (pu:List Nat) (h:Hp):List (Id×Nat)→List (Nat×O)
 | []=>[]
 | (a,b)::r=>match h.get a with
  | some (.rows s true es)=>(b,.rows s true es)::keepBs τ pu h r
  | some (.rows s false es)=>(b,bif pu.any b.beq&&es.all closedL then .rows s true es else .rows s false (es.map (trL τ)))::keepBs τ pu h r
  | some (.mp es)=>(b,.mp (es.map fun kv=>(kv.1.tr τ,kv.2.tr τ)))::keepBs τ pu h r
  | some (.lp q)=>(b,.lp (q.mapV (V.tr τ)))::keepBs τ pu h r
  | some (.it x n seen)=>(b,.it (x.tr τ) n seen)::keepBs τ pu h r
  | none=>keepBs τ pu h r
def nodupB:List Nat→Bool
 | []=>true
 | x::r => !r.any x.beq&&nodupB r
def nodupI:List Id→Bool
 | []=>true
 | x::r => !r.any x.beq&&nodupI r
def Id.plain:Id→Bool
 | .p _=>true
 | .m _ _=>false
def famsOK (kp:Keep):Bool:=kp.fams.isEmpty || (kp.blocks.all (fun p=>p.1.plain)&&nodupI (kp.blocks.map (·.1)++kp.fams.flatMap fun f=>f.take.map .p)&&nodupB (kp.fams.map (·.to))&&nodupB (kp.fams.filterMap (·.of)))
def Keep.ok (kp:Keep):Bool:=nodupI (kp.blocks.map (·.1))&&nodupB (kp.nils.map (·.2.1)++kp.blocks.map (·.2))&&kp.blocks.all (fun p=>Nat.blt p.2 kp.nxt)&&kp.nils.all (fun p=>Nat.blt p.2.1 kp.nxt&&Nat.blt p.1 1000000)&&kp.slots.all (fun t=>Nat.blt t 1000000)&&famsOK kp
def lentOf (h:Hp) (vs:List V):Keep:=let bs:=(reach 200 h (refsL vs) []).filter fun b=>h.has b
 ⟨[],bs.zipIdx,bs.length,[],[],[]⟩
def wLoad (P:Program) (t:TypeId) (row:List V) (off:Nat) (pure:Bool) (k:V→Prop):Prop :=
 onSome (P.underlying t) fun d=>match d with
  | .struct _ | .array _ _=>onSome (P.info? t) fun i=>guardB ((kinds P 8 t).length.beq i.size) (onTyped pure (kinds P 8 t) (row.drop off) fun cs=>k (.agg cs))
  | d=>onSome row[off]? fun v=>typed d pure v k
def wAt (h:Hp) (x:V) (k:List V→Nat→Bool→Prop):Prop :=
 match x with
 | .ptr b i off=>onRows h b fun _ p es=>onSome es[i]? fun row=>k row off p
 | .adr cs off=>k cs off true
 | _=>False
def wStore (P:Program) (h:Hp) (t:TypeId) (x v:V) (k:Hp→Prop):Prop :=
 match x with
 | .ptr b i off=>onRows h b fun s p es=>onSome es[i]? fun row=>onSome v.cells fun cs=>onSome (P.info? t) fun inf =>
   guardB (putOK b (p&&closedL cs)) <| guardB (cs.length.beq inf.size) <| guardB (allOne h cs) <| guardB (Nat.ble (off+cs.length) row.length)
    (forceIf (p || s.beq 1) (row.take off++cs++row.drop (off+cs.length)) fun row=>k (h.put b (.rows s (p&&closedL cs) (es.set i row))))
 | _=>False
def intV (kk:IntKind) (n:Int):V := .raw (.int kk n)
def boolV (b:Bool):V := .raw (.bool b)
def wInt (op:BinOp) (kk:IntKind) (a:Int) (kk' : IntKind) (b:Int) (k:V→Prop):Prop :=
 match op with
 | .shl=>need (0≤b) (k (.raw (.int kk (kk.wrap (a * 2 ^ (min b.toNat kk.bits))))))
 | .shr=>need (0≤b) (k (.raw (.int kk (a.fdiv (2 ^ (min b.toNat kk.bits))))))
 | op=>guardB (kk==kk') <| match op with
  | .add=>k (.raw (.int kk (kk.wrap (a+b))))
  | .sub=>k (.raw (.int kk (kk.wrap (a - b))))
  | .mul=>k (.raw (.int kk (kk.wrap (a * b))))
  | .quo=>need (b≠0) (k (.raw (.int kk (kk.wrap (a.tdiv b)))))
  | .rem=>need (b≠0) (k (.raw (.int kk (a.tmod b))))
  | .and=>k (.raw (.int kk (kk.wrap (BitVec.ofInt kk.bits a &&& BitVec.ofInt kk.bits b).toNat)))
  | .or=>k (.raw (.int kk (kk.wrap (BitVec.ofInt kk.bits a ||| BitVec.ofInt kk.bits b).toNat)))
  | .xor=>k (.raw (.int kk (kk.wrap (BitVec.ofInt kk.bits a ^^^ BitVec.ofInt kk.bits b).toNat)))
  | .andNot=>k (.raw (.int kk (kk.wrap (BitVec.ofInt kk.bits a &&& ~~~ BitVec.ofInt kk.bits b).toNat)))
  | .eql=>k (.raw (.bool (a==b)))
  | .neq=>k (.raw (.bool (a != b)))
  | .lss=>k (.raw (.bool (a<b)))
  | .leq=>k (.raw (.bool (a≤b)))
  | .gtr=>k (.raw (.bool (a > b)))
  | .geq=>k (.raw (.bool (a ≥ b)))
  | _=>False
def partV (P:Program) (t:TypeId) (cs:List V) (off:Nat):Option V :=
 match P.underlying t with
 | some (.struct _) | some (.array _ _)=>(P.info? t).bind fun i=>bif ((cs.drop off).take i.size).length.beq i.size then some (.agg ((cs.drop off).take i.size)) else none
 | some _=>cs[off]?
 | none=>none
def eqFs (E:TypeId→V→V→Option Bool) (P:Program) (xs ys:List V):List Field→Option Bool
 | []=>some true
 | fd :: r => bif fd.name == "_" then none else (partV P fd.type xs fd.offset).bind fun x => (partV P fd.type ys fd.offset).bind fun y => (E fd.type x y).bind fun a => (eqFs E P xs ys r).map fun b => a && b
def eqAs (E:V→V→Option Bool) (P:Program) (e:TypeId) (n:Nat) (xs ys:List V):List Nat→Option Bool
 | []=>some true
 | i::r=>(partV P e xs (i * n)).bind fun x=>(partV P e ys (i * n)).bind fun y=>(E x y).bind fun a=>(eqAs E P e n xs ys r).map fun b=>a&&b
def eqC (P:Program):Nat→TypeId→V→V→Option Bool
 | 0,_,_,_=>none
 | f+1,t,x,y=>match P.underlying t with
  | some (.int _)=>match x,y with
   | .raw (.int k a),.raw (.int k' b)=>bif k==k' then some (a==b) else none
   | _,_=>none
  | some .bool=>match x,y with
   | .raw (.bool a),.raw (.bool b)=>some (a==b)
   | _,_=>none
  | some .string=>match x,y with
   | .raw (.string a),.raw (.string b)=>some (a.data.toList==b.data.toList)
   | _,_=>none
  | some (.struct fs)=>match x,y with
   | .agg xs,.agg ys=>bif P.stoodInHeld t then none else eqFs (eqC P f) P xs ys fs.toList
   | _,_=>none
  | some (.array len e)=>match x,y with
   | .agg xs,.agg ys=>(P.info? e).bind fun i=>eqAs (eqC P f e) P e i.size xs ys (List.range len)
   | _,_=>none
  | _=>none
def wBin (P:Program) (op:BinOp) (t:TypeId) (x y:V) (k:V→Prop):Prop :=
 match x,y with
 | .raw (.int kk a),.raw (.int kk' b)=>wInt op kk a kk' b k
 | .raw (.bool a),.raw (.bool b)=>onSome (P.underlying t) fun d=>match d,op with
  | .bool,.eql=>k (.raw (.bool (a==b)))
  | .bool,.neq=>k (.raw (.bool (!(a==b))))
  | _,_=>False
 | .raw (.string a),.raw (.string b)=>match op with
  | .add=>need (a.size+b.size≤9223372036854775807) (k (.raw (.string (a++b))))
  | .eql=>k (.raw (.bool (a.data.toList==b.data.toList)))
  | .neq=>k (.raw (.bool (!(a.data.toList==b.data.toList))))
  | .lss=>k (.raw (.bool (Op.bytesLess a.data.toList b.data.toList)))
  | .gtr=>k (.raw (.bool (!(Op.bytesLess a.data.toList b.data.toList || a.data.toList==b.data.toList))))
  | .leq=>k (.raw (.bool (Op.bytesLess a.data.toList b.data.toList || a.data.toList==b.data.toList)))
  | .geq=>k (.raw (.bool (!(Op.bytesLess a.data.toList b.data.toList))))
  | _=>False
 | .agg xs,.agg ys=>guardB (!P.eqGuardType P.depth t) <| onSome (eqC P 8 t (.agg xs) (.agg ys)) fun b=>match op with
  | .eql=>k (.raw (.bool b))
  | .neq=>k (.raw (.bool (!b)))
  | _=>False
 | _,_=>False
def wNil (P:Program) (h:Hp) (t:TypeId) (fn:Bool) (x:V) (k:Bool→Prop):Prop :=
 onSome (P.underlying t) fun d=>match d,fn,x with
  | .slice _,false,.raw (.slice none _ _)=>k true
  | .slice _,false,.lst _ es=>nilN es.length k
  | .slice _,false,.sl b _ len=>guardB (h.has b) (nilN len k)
  | .func _ _ _,true,.raw .nilFunc=>k true
  | .func _ _ _,true,.fn _ _ _=>k false
  | _,_,_=>False
def wUn (op:UnOp) (x:V) (k:V→Prop):Prop :=
 match op,x with
 | .neg,.raw (.int kk n)=>k (.raw (.int kk (kk.wrap (0 - n))))
 | .not,.raw (.bool b)=>k (.raw (.bool (!b)))
 | _,_=>False
def byteV:V→Option Int
 | .raw (.int kk n)=>match kk with | .u8=>some n | _=>none
 | _=>none
def byteL:List (List V)→Option (List Int)
 | []=>some []
 | row::r=>match row with
  | [v]=>(byteV v).bind fun n=>(byteL r).map fun l=>n::l
  | _=>none
def strOf (ns:List Int):ByteArray:=⟨⟨ns.map fun n=>UInt8.ofNat n.toNat⟩⟩
def wBytes (h:Hp) (x:V) (k:List Int→Prop):Prop :=
 match x with
 | .lst _ es=>onSome (byteL es) k
 | .sl b lo len=>onRows h b fun s _ es=>guardB (s.beq 1) (onSome (byteL (sub es lo len)) k)
 | .raw (.slice none 0 0)=>k []
 | _=>False
def wConv (P:Program) (h:Hp) (ds:TypeDesc) (dst:TypeId) (x:V) (k:V→Prop):Prop :=
 onSome (P.underlying dst) fun d=>match d with
  | .int kk=>(match x with | .raw (.int _ n)=>k (.raw (.int kk (kk.wrap n))) | _=>False)
  | .string=>(match ds with
   | .slice e=>onSome (P.underlying e) fun de=>match de with
    | .int kk=>(match kk with | .u8=>wBytes h x fun l=>k (.raw (.string (strOf l))) | _=>False)
    | _=>False
   | _=>False)
  | _=>False
def wFieldAddr (P:Program) (h:Hp) (s:TypeId) (x:V) (f:Nat) (k:V→Prop):Prop :=
 onSome (P.underlying s) fun d=>match d with
  | .struct fs=>onSome fs[f]? fun fd=>onSome (P.info? fd.type) fun inf=>guardB (!inf.size.beq 0) <| match x with
   | .ptr b i off=>guardB (h.has b) (k (.ptr b i (off+fd.offset)))
   | .adr cs off=>k (.adr cs (off+fd.offset))
   | _=>False
  | _=>False
def wField (P:Program) (s:TypeId) (x:V) (f:Nat) (k:V→Prop):Prop :=
 onSome (P.underlying s) fun d=>match d with
  | .struct fs=>onSome fs[f]? fun fd=>match x with
   | .agg cs=>wLoad P fd.type cs fd.offset false k
   | _=>False
  | _=>False
def wIndexAddr (P:Program) (h:Hp) (t:TypeId) (x i:V) (k:V→Prop):Prop :=
 match i with
 | .raw (.int _ n)=>onNat n fun m=>onSome (P.underlying t) fun d=>match d with
  | .slice e=>onSome (P.info? e) fun inf=>match x with
   | .lst s es=>need (s=inf.size) (onSome es[m]? fun row=>k (.adr row 0))
   | .sl b lo len=>onRows h b fun s _ _=>guardB (s.beq inf.size) (need (m<len) (k (.ptr b (lo+m) 0)))
   | .sla b i off len=>guardB (h.has b) (need (m<len) (k (.ptr b i (off+m * inf.size))))
   | _=>False
  | .array len e=>onSome (P.info? e) fun inf=>need (m<len) <| match x with
   | .ptr b i off=>guardB (h.has b) (k (.ptr b i (off+m * inf.size)))
   | .adr cs off=>k (.adr cs (off+m * inf.size))
   | _=>False
  | _=>False
 | _=>False
def wIndex (P:Program) (t:TypeId) (x i:V) (k:V→Prop):Prop :=
 match i with
 | .raw (.int _ n)=>onNat n fun m=>onSome (P.underlying t) fun d=>match d,x with
  | .array len e,.agg cs=>onSome (P.info? e) fun inf=>need (m<len) (wLoad P e cs (m * inf.size) false k)
  | .string,.raw (.string s)=>onSome s[m]? fun b=>k (.raw (.int .u8 b.toNat))
  | _,_=>False
 | _=>False
def zeroRow (i:TypeInfo):Option (List V):=i.zero.bind fun z=>(V.ofValue z).cells
def fillRows (p:Bool) (s:Nat) (h:Hp):List (List V)→List (Nat×V)→(List (List V)→Prop)→Prop
 | es,[],k=>k es
 | es,(i,v)::r,k=>onSome v.cells fun cs=>guardB (cs.length.beq s&&Nat.blt i es.length&&allOne h cs&&(!p || closedL cs)) (fillRows p s h (es.set i cs) r k)
def partsClosed:List (Nat×V)→Bool
 | []=>true
 | (_,v)::r=>v.closed&&partsClosed r
def wBuildSlice (P:Program) (h:Hp) (t:TypeId) (len:Nat) (parts:List (Nat×V)) (k:V→Hp→Prop):Prop :=
 onSome (P.underlying t) fun d=>match d with
  | .slice e=>onSome (P.info? e) fun inf=>onSome (zeroRow inf) fun z=>guardB (z.length.beq inf.size&&allOne h z&&Nat.ble (len * inf.size) 16777216) <|
   fillRows (partsClosed parts) inf.size h (List.replicate len z) parts fun es=>k (.sl (.p h.nxt) 0 len) (h.add (.rows inf.size (partsClosed parts) es))
  | _=>False
def placeOf (P:Program) (d:TypeDesc) (i:Nat):Option (Nat×Nat) :=
 match d with
 | .struct fs=>(fs[i]?).bind fun fd=>(P.info? fd.type).map fun inf=>(fd.offset,inf.size)
 | .array _ e=>(P.info? e).map fun inf=>(i * inf.size,inf.size)
 | _=>none
def placesOK (P:Program) (d:TypeDesc):Bool :=
 match d with
 | .struct fs=>fs.toList.all fun fd=>(P.info? fd.type).isSome
 | .array _ e=>(P.info? e).isSome
 | _=>false
def fillCells (h:Hp) (pl:Nat→Option (Nat×Nat)):List V→List (Nat×V)→(List V→Prop)→Prop
 | cells,[],k=>k cells
 | cells,(i,v)::r,k=>onSome (pl i) fun at_=>onSome v.cells fun cs=>guardB (cs.length.beq at_.2&&Nat.ble (at_.1+at_.2) cells.length&&allOne h cs)
   (forceL (cells.take at_.1++cs++cells.drop (at_.1+at_.2)) fun cells=>fillCells h pl cells r k)
def wBuild (P:Program) (h:Hp) (t:TypeId) (parts:List (Nat×V)) (k:V→Prop):Prop :=
 onSome (P.underlying t) fun d=>onSome (P.info? t) fun inf=>onSome (zeroRow inf) fun z=>guardB (placesOK P d&&allOne h z) <|
  fillCells h (placeOf P d) z parts fun cs=>k (.agg cs)
def flatZ (z:List V):Bool:=Nat.ble 2 z.length || z.all fun v=>match v with | .raw (.slice ..)=>false | _=>true
def wMakeSlice (P:Program) (h:Hp) (t:TypeId) (l c:V) (k:V→Hp→Prop):Prop :=
 match l,c with
 | .raw (.int _ l),.raw (.int _ c)=>onNat l fun n=>onNat c fun m=>onSome (P.underlying t) fun d=>match d with
  | .slice e=>onSome (P.info? e) fun inf=>onSome (zeroRow inf) fun z=>guardB (z.length.beq inf.size&&allOne h z)
   (need (n≤m) <| need (inf.bytes * m≤140737488355328) <| need (m≤9223372036854775807) <| k (.sl (.p h.nxt) 0 n) (h.add (.rows inf.size (flatZ z) (List.replicate n z))))
  | _=>False
 | _,_=>False
def wBound (d:Nat) (x:Option V) (k:Nat→Prop):Prop :=
 match x with
 | none=>k d
 | some (.raw (.int _ n))=>onNat n k
 | some _=>False
def wSlice (P:Program) (h:Hp) (t:TypeId) (x:V) (lo hi mx:Option V) (k:V→Prop):Prop :=
 match mx with
 | none=>onSome (P.underlying t) fun d=>match d,x with
  | .string,.raw (.string s)=>wBound s.size hi fun b=>wBound 0 lo fun a=>need (b≤s.size) <| need (a≤b) <| k (.raw (.string (s.extract a b)))
  | .slice e,.lst s es=>onSome (P.info? e) fun inf=>wBound es.length hi fun b=>wBound 0 lo fun a=>need (b≤es.length) <| need (a≤b) <| guardB (s.beq inf.size || es.isEmpty) <| k (.lst s (sub es a (b - a)))
  | .slice e,.sl bl off len=>onSome (P.info? e) fun inf=>onRows h bl fun s _ _=>guardB (s.beq inf.size) (wBound len hi fun b=>wBound 0 lo fun a=>need (b≤len) <| need (a≤b) <| k (.sl bl (off+a) (b - a)))
  | .slice e,.raw (.slice none 0 0)=>onSome (P.info? e) fun _=>wBound 0 hi fun b=>wBound 0 lo fun a=>need (b=0) <| need (a=0) <| k (.raw (.slice none 0 0))
  | .array n e,.ptr bl i off=>onSome (P.info? e) fun inf=>guardB (h.has bl) (wBound n hi fun b=>wBound 0 lo fun a=>need (b≤n) <| need (a<b) <| k (.sla bl i (off+a * inf.size) (b - a)))
  | _,_=>False
 | some (.raw (.int _ c))=>onNat c fun c=>onSome (P.underlying t) fun d=>match hi with
  | none=>False
  | some hi=>match d,x with
   | .slice e,.lst s es=>onSome (P.info? e) fun inf=>wBound 0 (some hi) fun b=>wBound 0 lo fun a=>need (c≤es.length) <| need (b=c) <| need (a≤b) <| guardB (s.beq inf.size || es.isEmpty) <| k (.lsx s (sub es a (b - a)))
   | .slice e,.sl bl off len=>onSome (P.info? e) fun inf=>onRows h bl fun s _ _=>guardB (s.beq inf.size) (wBound 0 (some hi) fun b=>wBound 0 lo fun a=>need (c≤len) <| need (b≤c) <| need (a≤b) <| k (.sl bl (off+a) (b - a)))
   | _,_=>False
 | some _=>False
def wRows (h:Hp) (s:Nat) (x:V) (k:Bool→List (List V)→Prop):Prop :=
 match x with
 | .lst s' es=>guardB (s'.beq s || es.isEmpty) (k true es)
 | .sl b lo len=>onRows h b fun s' p es=>guardB (s'.beq s) (k p (sub es lo len))
 | .raw (.slice none 0 _)=>k true []
 | _=>False
def wAppend (P:Program) (h:Hp) (t:TypeId) (x y:V) (k:V→Hp→Prop):Prop :=
 onSome (P.underlying t) fun d=>match d with
  | .slice e=>onSome (P.info? e) fun inf=>onSome (zeroRow inf) fun z=>guardB (z.length.beq inf.size && !inf.size.beq 0 && !inf.bytes.beq 0) <|
   wRows h inf.size y fun q ys=>match x with
    | .sl b lo len=>onRows h b fun s p es=>guardB (s.beq inf.size) (need ((len+ys.length) * inf.bytes≤140737488355328) <| ifB (lo.beq 0) (k (.sl (.p h.nxt) 0 (len+ys.length)) ((h.del b).add (.rows s (p&&q) (es.take len++ys))))
      (guardB (!ys.isEmpty) <| k (.sl (.p h.nxt) lo (len+ys.length)) ((h.del b).add (.rows s (p&&q) (es.take (lo+len)++ys)))∧k (.sl (.p h.nxt) 0 (len+ys.length)) ((h.del b).add (.rows s (p&&q) (sub es lo len++ys)))))
    | .raw (.slice none 0 0)=>need (ys.length * inf.bytes≤140737488355328) <| k (.sl (.p h.nxt) 0 ys.length) (h.add (.rows inf.size q ys))
    | .lsx s es=>guardB ((s.beq inf.size || es.isEmpty)&&q) <| need ((es.length+ys.length) * inf.bytes≤140737488355328) <| k (.lst inf.size (es++ys)) h
    | _=>False
  | _=>False
def wAppendZ (P:Program) (h:Hp) (t:TypeId) (x y:V) (k:V→Hp→Prop):Prop :=
 match x,y with
 | .raw (.slice none 0 0),.raw (.int _ n)=>onNat n fun n=>onSome (P.underlying t) fun d=>match d with
  | .slice e=>onSome (P.info? e) fun inf=>onSome (zeroRow inf) fun z=>guardB (z.length.beq inf.size && !inf.size.beq 0 && !inf.bytes.beq 0&&allOne h z) <|
   need (n * inf.bytes≤140737488355328) <| k (.sl (.p h.nxt) 0 n) (h.add (.rows inf.size true (List.replicate n z)))
  | _=>False
 | _,_=>False
def wCap (P:Program) (t:TypeId) (x:V) (k:V→Prop):Prop :=
 onSome (P.underlying t) fun d=>match d,x with
  | .slice _,.raw (.slice none _ n)=>k (.raw (.int .i64 n))
  | _,_=>False
def wCopy (P:Program) (h:Hp) (t:TypeId) (x y:V) (k:V→Hp→Prop):Prop :=
 onSome (P.underlying t) fun d=>match d with
  | .slice e=>onSome (P.info? e) fun inf=>guardB (!inf.size.beq 0) <| wRows h inf.size y fun q ys=>match x with
   | .sl b lo len=>onRows h b fun s p es=>guardB (s.beq inf.size) <| guardB (putOK b (p&&q)) (k (.raw (.int .i64 (min ys.length len:Nat))) (h.put b (.rows s (p&&q) (es.take lo++ys.take (min ys.length len)++es.drop (lo+min ys.length len)))))
   | .lst _ []=>k (.raw (.int .i64 0)) h
   | _=>False
  | _=>False
def wLen (P:Program) (h:Hp) (t:TypeId) (x:V) (k:V→Prop):Prop :=
 onSome (P.underlying t) fun d=>match d,x with
  | .string,.raw (.string s)=>k (.raw (.int .i64 s.size))
  | .slice _,.lst _ es=>k (.raw (.int .i64 es.length))
  | .slice _,.sl b _ len=>guardB (h.has b) (k (.raw (.int .i64 len)))
  | .slice _,.sla b _ _ len=>guardB (h.has b) (k (.raw (.int .i64 len)))
  | .map _ _,_=>onMapF h x fun es=>k (.raw (.int .i64 es.length))
  | .slice _,.raw (.slice _ n _)=>k (.raw (.int .i64 n))
  | _,_=>False
def frzT (h:Hp) (b:Id):Tr :=
 match b with
 | .p b=>match getB h.bs b with
  | some (.rows s true es) => .frz s es
  | some (.rows s false es)=>bif es.all closedL then .frz s es else .drop
  | _ => .drop
 | .m _ _ => .drop
def handT (h:Hp) (bs:List Id) (b:Id):Tr:=bif bs.any b.beq then frzT h b else .drop
def delAll (h:Hp):List Id→Hp
 | []=>h
 | b::r=>delAll (h.del b) r
def keyC (P:Program):Nat→TypeId→V→Bool
 | 0,_,_=>false
 | f+1,t,x=>match P.underlying t with
  | some (.int _) | some .bool | some .string=>true
  | some (.struct fs)=>match x with
   | .agg xs=>fs.toList.all fun fd=>match partV P fd.type xs fd.offset with | some v=>keyC P f fd.type v | none=>false
   | _=>false
  | some (.array len e)=>match x,P.info? e with
   | .agg xs,some i=>(List.range len).all fun j=>match partV P e xs (j * i.size) with | some v=>keyC P f e v | none=>false
   | _,_=>false
  | _=>false
def sameR:V→V→Bool
 | .raw (.int k a),.raw (.int k' b)=>k==k' && a==b
 | .raw (.bool a),.raw (.bool b)=>a==b
 | .raw (.string a),.raw (.string b)=>a==b
 | _,_=>false
def sameRs:List V→List V→Bool
 | [],[]=>true
 | a::as,b::bs=>sameR a b&&sameRs as bs
 | _,_=>false
def sameC:V→V→Bool
 | .agg as,.agg bs=>sameRs as bs
 | a,b=>sameR a b
def findK (P:Program) (kt:TypeId) (k:V):List (V×V)→Nat→Option (Option (Nat×V×V))
 | [],_=>some none
 | (k', v)::r,i=>(eqC P 8 kt k k').bind fun b=>bif b then some (some (i,k', v)) else findK P kt k r (i+1)
def onFind (o:Option (Option (Nat×V×V))) (k:Nat→V→V→Prop) (n:Prop):Prop:=match o with | some (some (i,k', v))=>k i k' v | some none=>n | none=>nope
def zeroV (P:Program) (t:TypeId):Option V:=(P.info? t).bind fun i=>i.zero.map V.ofValue
def wLookup (P:Program) (h:Hp) (t:TypeId) (x key:V) (ok:Bool) (k:V→Prop):Prop :=
 onSome (P.underlying t) fun d=>match d with
  | .map kt et=>guardB (keyC P 8 kt key) <| onSome (zeroV P et) fun z=>onMapF h x fun es=>onFind (findK P kt key es 0)
    (fun _ _ v=>typedS P false et v fun v=>k (bif ok then .tup [v,boolV true] else v)) (k (bif ok then .tup [z,boolV false] else z))
  | _=>False
def wMapUpdate (P:Program) (h:Hp) (t:TypeId) (x key v:V) (k:Hp→Prop):Prop :=
 onSome (P.underlying t) fun d=>match d with
  | .map kt _=>guardB (keyC P 8 kt key) <| onMapB h x fun b es=>onFind (findK P kt key es 0)
    (fun i k' _=>guardB (sameC k' key) (k (h.put (.p b) (.mp (es.set i (key,v)))))) (k (h.put (.p b) (.mp (es++[(key,v)]))))
  | _=>False
def wMapEntry (P:Program) (h:Hp) (t:TypeId) (x key:V) (k:V→Hp→Prop):Prop :=
 onSome (P.underlying t) fun d=>match d with
  | .map kt et=>guardB (keyC P 8 kt key) <| onSome (zeroV P et) fun z=>onMapB h x fun b es=>onFind (findK P kt key es 0)
    (fun i k' v=>guardB (sameC k' key) (typedS P false et v fun v=>k (.tup [v,intV .i64 i]) (h.put (.p b) (.mp (es.set i (key,v))))))
    (k (.tup [z,intV .i64 es.length]) (h.put (.p b) (.mp (es++[(key,z)]))))
  | _=>False
def wEntryStore (h:Hp) (x stamp v:V) (k:Hp→Prop):Prop :=
 match stamp with
 | .raw (.int _ n)=>onNat n fun i=>onMapB h x fun b es=>onSome es[i]? fun kv=>k (h.put (.p b) (.mp (es.set i (kv.1,v))))
 | _=>False
def wMakeMap (P:Program) (h:Hp) (t:TypeId) (r:Option V) (k:V→Hp→Prop):Prop :=
 match r with
 | none=>k (.mp (.p h.nxt)) (h.add (.mp []))
 | some (.raw (.int _ _))=>onSome (P.underlying t) fun d=>match d with
  | .map _ _=>k (.mp (.p h.nxt)) (h.add (.mp []))
  | _=>False
 | some _=>False
def anySl (k:Option Addr→Nat→Nat→Prop):Prop := ∀ a n c,k a n c
mutual
def V.blur:V→(V→Prop)→Prop
 | .raw v,k=>k (.raw v)
 | .agg cs,k=>blurL cs fun cs=>k (.agg cs)
 | .tup cs,k=>blurL cs fun cs=>k (.tup cs)
 | .lst _ _,k=>anySl fun a n c=>k (.raw (.slice a n c))
 | _,k=>k .junk
def blurL:List V→(List V→Prop)→Prop
 | [],k=>k []
 | v::vs,k=>v.blur fun v=>blurL vs fun vs=>k (v::vs)
end
def wRange (P:Program) (h:Hp) (t:TypeId) (x:V) (k:V→Hp→Prop):Prop :=
 onSome (P.underlying t) fun d=>match d with
  | .map _ _=>onMap h x fun es=>k (.ptr (.p h.nxt) 0 0) (h.add (.it x es.length []))
  | _=>False
def onNext (n:Nat) (seen:List Nat) (p:Prop) (q:Nat→Prop):Prop:=match leftN n seen with
 | []=>p
 | l=>allIn l q
def wNext (h:Hp) (x:V) (k:V→Hp→Prop):Prop :=
 onIt h x fun c m n seen=>onMap h m fun es=>guardB (n.beq es.length) (onNext n seen (k (.tup [.raw (.bool false)]) h)
  fun i=>onSome es[i]? fun kv=>k (.tup [.raw (.bool true),kv.1,kv.2]) (h.put (.p c) (.it m n (seen++[i]))))
def wEntry (h:Hp) (x:V) (k:V→Prop):Prop :=
 onIt h x fun _ m n seen=>onMap h m fun es=>guardB (n.beq es.length) (onSome seen.getLast? fun i=>onSome es[i]? fun kv=>k (.tup [kv.1,kv.2]))
structure Calling where
 kn:FuncId→Option V
 mode:FuncId→Nat
 fz:Tmp→Bool
 cb:FuncId→List V→Hp→(V→Prop)→Prop
 c0:FuncId→List V→(V→Prop)→Prop
 c:FuncId→List V→Hp→(V→Hp→Prop)→Prop
 t:FuncId→List V→Hp→Id→Bool
 strict:Bool
 base:Nat
 glob:Nat→Option (List V)
 y:Id→List V→Hp→(V→Hp→Prop)→Prop:=fun _ _ _ _=>False
 ty:Id→Bool:=fun _=>true
def sub64 (x y c:Nat):Nat:=(x+18446744073709551616 - y - c) % 18446744073709551616
def bor64 (x y c:Nat):Nat:=if x<y+c then 1 else 0
def add64 (x y c:Nat):Nat:=(x+y+c) % 18446744073709551616
def car64 (x y c:Nat):Nat:=(x+y+c) / 18446744073709551616
def onSub (x y c:Nat) (k:Nat→Nat→Prop):Prop:=k (sub64 x y c) (bor64 x y c)
def onAdd (x y c:Nat) (k:Nat→Nat→Prop):Prop:=k (add64 x y c) (car64 x y c)
def wExt (name:String) (args:List V) (k:V→Prop):Prop :=
 match args with
 | [.raw (.int .u64 x), .raw (.int .u64 y), .raw (.int .u64 c)] => onNat x fun x => onNat y fun y => onNat c fun c => need (c ≤ 1) <| match name == "math/bits.Sub64", name == "math/bits.Add64" with
  | true,_=>onSub x y c fun r b=>k (.tup [.raw (.int .u64 r),.raw (.int .u64 b)])
  | _,true=>onAdd x y c fun r b=>k (.tup [.raw (.int .u64 r),.raw (.int .u64 b)])
  | _,_=>False
 | _=>False
def wCall (P:Program) (C:Calling) (ρ:Operand→V) (h:Hp) (ty:TypeId) (c:Call) (k:V→Hp→Prop):Prop :=
 match c.callee with
 | .value f=>match ρ f with
  | .fn (.func g) first caps=>onSome P.funcs[g]? fun fn=>match fn.body with
   | some _ => guardB (fn.name != "runtime.NumGoroutine") (match C.kn g, first ++ c.args.toList.map ρ ++ caps with
    | some r,[]=>k r h
    | _,vs=>match C.mode g with
     | 0=>match closedL vs with
      | true=>C.c0 g vs fun v=>typedT P true ty v fun v=>k v h
      | false=>C.c0 g (trL (handT h (refsL vs)) vs) fun v=>typedT P true ty v fun v=>k v (delAll h (refsL vs))
     | 1=>guardB ((lentOf h vs).ok) (C.cb g (trL (renOf (lentOf h vs).blocks) vs) ⟨keepBs (renOf (lentOf h vs).blocks) [] h (lentOf h vs).blocks,(lentOf h vs).nxt,[]⟩ fun v=>thawT P ty v h k)
     | 4=>C.c0 g (trL (handT h (refsL vs)) vs) fun v=>typedT P true ty v fun v=>v.blur fun v=>k v h
     | _=>C.c g vs h k)
   | none => guardB (fn.origin == "") <| wExt fn.name (first ++ c.args.toList.map ρ ++ caps) fun v => k v h
  | .yl b=>C.y b (c.args.toList.map ρ) h k
  | _=>False
 | .builtin .len=>match c.argTypes.toList,c.args.toList with
  | t::_,[x]=>wLen P h t (ρ x) fun v=>k v h
  | _,_=>False
 | .builtin .append=>match c.argTypes.toList,c.args.toList with
  | [t,t'],[x,y]=>onSome (P.underlying t') fun d=>match d with
   | .slice _=>wAppend P h t (ρ x) (ρ y) k
   | .int _=>wAppendZ P h t (ρ x) (ρ y) k
   | _=>False
  | _,_=>False
 | .builtin .cap=>match c.argTypes.toList,c.args.toList with
  | t::_,[x]=>wCap P t (ρ x) fun v=>k v h
  | _,_=>False
 | .builtin .copy=>match c.argTypes.toList,c.args.toList with
  | t::_,[x,y]=>wCopy P h t (ρ x) (ρ y) k
  | _,_=>False
 | .builtin .min=>match c.args.toList.map ρ with
  | [.raw (.int kk a),.raw (.int _ b)]=>k (.raw (.int kk (if b<a then b else a))) h
  | [.raw (.int kk a),.raw (.int _ b),.raw (.int _ c)]=>k (.raw (.int kk (if c<(if b<a then b else a) then c else (if b<a then b else a)))) h
  | _=>False
 | .builtin .max=>match c.args.toList.map ρ with
  | [.raw (.int kk a),.raw (.int _ b)]=>k (.raw (.int kk (if b > a then b else a))) h
  | [.raw (.int kk a),.raw (.int _ b),.raw (.int _ c)]=>k (.raw (.int kk (if c > (if b > a then b else a) then c else (if b > a then b else a)))) h
  | _=>False
 | _=>False
def wop (P:Program) (C:Calling) (ρ:Operand→V) (h:Hp) (ty:TypeId) (o:Op) (k:V→Hp→Prop):Prop :=
 match o with
 | .move x | .assign x=>k (ρ x) h
 | .pick c a b=>onBool (ρ c) fun t=>k (bif t then ρ a else ρ b) h
 | .box _ x=>onSome (ρ x).cells fun cs=>guardB (allOne h cs) (k (.ptr (.p h.nxt) 0 0) (h.add (.rows cs.length false [cs])))
 | .alloc t=>onSome (P.info? t) fun inf=>onSome (zeroRow inf) fun cs=>guardB (allOne h cs) (k (.ptr (.p h.nxt) 0 0) (h.add (.rows cs.length false [cs])))
 | .buildSlice t len parts=>wBuildSlice P h t len (parts.toList.map fun p=>(p.1,ρ p.2)) k
 | .build t parts=>wBuild P h t (parts.toList.map fun p=>(p.1,ρ p.2)) fun v=>k v h
 | .makeSlice t l c=>wMakeSlice P h t (ρ l) (ρ c) k
 | .slice t x lo hi mx=>wSlice P h t (ρ x) (lo.map ρ) (hi.map ρ) (mx.map ρ) fun v=>k v h
 | .load t x=>wAt h (ρ x) fun row off p=>wLoad P t row off (p&&C.strict) fun v=>k v h
 | .store t x v=>wStore P h t (ρ x) (ρ v) fun h=>k .junk h
 | .makeMap t r=>wMakeMap P h t (r.map ρ) k
 | .lookup t x i ok=>wLookup P h t (ρ x) (ρ i) ok fun v=>k v h
 | .mapUpdate t m x v | .insert t m x v=>wMapUpdate P h t (ρ m) (ρ x) (ρ v) fun h=>k .junk h
 | .mapEntry t m x=>wMapEntry P h t (ρ m) (ρ x) k
 | .entryStore _ m s v=>wEntryStore h (ρ m) (ρ s) (ρ v) fun h=>k .junk h
 | .range t x=>wRange P h t (ρ x) k
 | .next x s=>match s with
  | false=>wNext h (ρ x) k
  | true=>False
 | .entry x=>wEntry h (ρ x) fun v=>k v h
 | .nilCheck x=>match ρ x with
  | .ptr b i off=>guardB (h.has b) (k (.ptr b i off) h)
  | .adr cs off=>k (.adr cs off) h
  | _=>False
 | .binOp op t x y _=>match op,ρ y with
  | .eql,.raw (.slice none 0 0)=>wNil P h t false (ρ x) fun b=>k (.raw (.bool b)) h
  | .neq,.raw (.slice none 0 0)=>wNil P h t false (ρ x) fun b=>k (.raw (.bool (!b))) h
  | .eql,.raw .nilFunc=>wNil P h t true (ρ x) fun b=>k (.raw (.bool b)) h
  | .neq,.raw .nilFunc=>wNil P h t true (ρ x) fun b=>k (.raw (.bool (!b))) h
  | _,_=>wBin P op t (ρ x) (ρ y) fun v=>k v h
 | .unOp op _ x=>wUn op (ρ x) fun v=>k v h
 | .convert src dst x=>onSome (P.underlying src) fun ds=>wConv P h ds dst (ρ x) fun v=>k v h
 | .makeFunc f first caps=>k (.fn f (first.toList.map ρ) (caps.toList.map ρ)) h
 | .fieldAddr s x f=>wFieldAddr P h s (ρ x) f fun v=>k v h
 | .field s x f=>wField P s (ρ x) f fun v=>k v h
 | .indexAddr t x i=>wIndexAddr P h t (ρ x) (ρ i) fun v=>k v h
 | .index t x i=>wIndex P t (ρ x) (ρ i) fun v=>k v h
 | .extract x i=>match ρ x with
  | .tup vs=>onSome vs[i]? fun v=>k v h
  | _=>False
 | .call c=>wCall P C ρ h ty c k
 | _=>False
structure St where
 tm:T V
 h:Hp
noncomputable def ev (G:Nat→Option (List V)) (tm:T V):Operand→V
 | .tmp t=>(tm.get t).getD .junk
 | .const v => .ofValue v
 | .global g=>match G g with | some cs => .adr cs 0 | none => .junk
 | .func f => .fn (.func f) [] []
noncomputable def putT (N:Nat) (tm:T V) (d:Option Tmp) (v:V) (k:T V→Prop):Prop :=
 match d with
 | some d=>guardB (Nat.blt d N&&Nat.blt d 1000000) (k (T.setF (some v) 20 tm d))
 | none=>k tm
def dstOf (ops:List Oper) (j:Nat):Option Tmp:=(ops[j]?).bind (·.dst)
def guardV (v:V) (p:Prop) (k:Bool→Prop):Prop:=match v with | .raw (.tuple _)=>p | v=>onBool v k
def quietOp:Op→Bool
 | .move _ | .assign _ | .pick .. | .load .. | .nilCheck _ | .binOp .. | .unOp .. | .convert .. | .makeFunc .. | .fieldAddr .. | .field .. | .indexAddr .. | .index .. | .extract .. | .build .. | .slice .. | .lookup .. => true
 | .call { callee := .builtin .len,.. } | .call { callee := .builtin .cap,.. } | .call { callee := .builtin .min,.. } | .call { callee := .builtin .max,.. }=>true
 | _=>false
def allocOp:Op→Bool
 | .alloc _ | .box .. | .buildSlice .. | .makeSlice .. => true
 | _=>false
abbrev Ask:=(Operand→V)→Hp→Op→Bool
def fzOn (C:Calling) (d:Option Tmp):Bool:=match d with | some d=>C.fz d | none=>false
def fzDoes (C:Calling) (o:Oper):Bool:=fzOn C o.dst && !quietOp o.op && !allocOp o.op
def isCut:Op→Bool
 | .slice .. => true
 | _=>false
def unx (keep:Bool):V→V
 | .lsx s es=>bif keep then .lsx s es else .lst s es
 | v=>v
def isLoad:Op→Bool
 | .load .. | .lookup .. | .extract .. => true
 | _=>false
def famOf (C:Calling) (d:Option Tmp):Option Nat :=
 match d with
 | some d=>bif C.fz (1000000+d) then some 0 else bif C.fz (2000000+d) then some 1 else none
 | none=>none
def intOn (C:Calling) (d:Option Tmp):Bool:=match d with
 | some d=>C.fz (3000000+d)
 | none=>false
def genOn (C:Calling) (d:Option Tmp):Bool:=match d with
 | some d=>C.fz (7000000+d)
 | none=>false
def isBin:Op→Bool
 | .binOp .. => true
 | _=>false
def genI (v:V) (k:IntKind→Int→Prop):Prop := ∃ kk n,v = .raw (.int kk n)∧k kk n
def memNew (C:Calling) (o:Oper) (v:V) (k:V→Prop):Prop :=
 bif isLoad o.op then match famOf C o.dst with
  | some B=>onMem B v (k (.raw (.slice none 0 0))) fun j len=>k (.sl (.m B j) 0 len)
  | none=>bif intOn C o.dst then onIntK .i64 v fun n=>k (.raw (.int .i64 n)) else k v
 else bif isBin o.op&&genOn C o.dst then genI v fun kk n=>k (.raw (.int kk n)) else k v
def fzNew (C:Calling) (n:Nat) (o:Oper) (v:V) (h:Hp) (k:V→Hp→Prop):Prop :=
 bif isCut o.op then k (unx (fzOn C o.dst) v) h else bif fzDoes C o then match v with
  | .sl (.p b) lo len=>bif Nat.ble n b then onRows h (.p b) fun s p es=>guardB (p || es.all closedL) (k (.lst s (sub es lo len)) (h.del (.p b)))
   else k v h
  | _=>k v h
 else memNew C o v fun v=>k v h
noncomputable def fzL (C:Calling) (X:Ask):List V→Hp→(List V→Hp→Prop)→Prop
 | [],h,k=>k [] h
 | .sl b lo len::r,h,k=>guardB (X (fun _ => .ptr b 0 0) h (.store 0 (.tmp 0) (.tmp 0))) <| onRows h b fun s p es=>guardB (p || es.all closedL) (fzL C X r (h.del b) fun vs h=>k (.lst s (sub es lo len)::vs) h)
 | v::r,h,k=>fzL C X r h fun vs h=>k (v::vs) h
noncomputable def fzOld (C:Calling) (X:Ask) (o:Oper) (st:St) (k:St→Prop):Prop :=
 match o.dst with
 | none=>k st
 | some d=>bif C.fz d then match st.tm.get d with
   | some (.sl b lo len)=>guardB (X (fun _ => .ptr b 0 0) st.h (.store 0 (.tmp 0) (.tmp 0))) <| onRows st.h b fun s p es=>guardB (Nat.blt d 1000000&&(p || es.all closedL)) (k ⟨T.setF (some (.lst s (sub es lo len))) 20 st.tm d,st.h.del b⟩)
   | some (.agg vs)=>guardB (Nat.blt d 1000000) (fzL C X vs st.h fun vs h=>k ⟨T.setF (some (.agg vs)) 20 st.tm d,h⟩)
   | _=>k st
  else k st
noncomputable def wOper (P:Program) (C:Calling) (N:Nat) (all:List Oper) (chk:(Operand→V)→Bool) (o:Oper) (st:St) (k:St→Prop):Prop :=
 let run (tm:T V):Prop:=guardB (chk (ev C.glob tm)) (wop P C (ev C.glob tm) st.h o.type o.op fun v h=>fzNew C st.h.nxt o v h fun v h=>putT N tm o.dst v fun tm=>k ⟨tm,h⟩)
 let pass (tm:T V):Prop:=putT N tm o.dst (.raw (.tuple #[])) fun tm=>k ⟨tm,st.h⟩
 match o.guard with
 | none=>run st.tm
 | some (j,want)=>onSome (dstOf all j) fun d=>onSome (st.tm.get d) fun v=>guardV v (pass st.tm) fun b =>
   ifB b (putT N st.tm (some d) (.raw (.bool true)) fun tm=>match want with | true=>run tm | false=>pass tm)
    (putT N st.tm (some d) (.raw (.bool false)) fun tm=>match want with | true=>pass tm | false=>run tm)
def askB (C:Calling):Ask:=fun ρ _ o=>match C.base with
 | 0=>true
 | base=>match o with
 | .box .. | .alloc _ | .buildSlice .. | .makeSlice .. => true
 | .store _ x _=>match ρ x with | .ptr b _ _=>b.ge base | _=>false
 | .makeMap .. | .range .. | .entry _=>true
 | .next x _=>match ρ x with | .ptr b _ _=>b.ge base | _=>false
 | .mapUpdate _ m _ _ | .insert _ m _ _ | .mapEntry _ m _ | .entryStore _ m _ _=>match ρ m with | .mp b=>b.ge base | _=>false
 | .call c=>match c.callee with
  | .builtin .append=>match c.args.toList.map ρ with | .sl b _ _::_=>b.ge base | .raw _::_=>true | .lsx _ _::_=>true | _=>false
  | .builtin .copy=>match c.args.toList.map ρ with | .sl b _ _::_=>b.ge base | .lst _ _::_=>true | _=>false
  | .value f=>match ρ f with | .fn (.func g) first caps=>(match C.kn g,first++c.args.toList.map ρ++caps with
    | some _,[]=>true
    | _,vs=>match C.mode g with | 0=>(refsL vs).all (·.ge base) | 1=>true | 4=>true | _=>false) | _=>false
  | _=>quietOp o
 | _=>quietOp o
noncomputable def wOps (P:Program) (C:Calling) (X:Ask) (N:Nat) (all:List Oper):List Oper→St→(St→Prop)→Prop
 | [],st,k=>k st
 | o::r,st,k=>wOper P C N all (fun ρ=>X ρ st.h o.op) o st fun st=>fzOld C X o st fun st=>wOps P C X N all r st k
inductive Ex where
 | norm
 | exit (id:Nat)
 | ret
noncomputable def mkT:List (Tmp×V)→T V
 | [] => .e
 | (t,v)::r=>T.setF (some v) 20 (mkT r) t
def isNilV:Option V→Bool
 | some (.raw (.slice none 0 0))=>true
 | _=>false
def nilBs:List (Tmp×Nat×Nat)→List (Nat×O)
 | []=>[]
 | (_,b,s)::r=>(b,.rows s true [])::nilBs r
def nilTs:List (Tmp×Nat×Nat)→List (Tmp×V)
 | []=>[]
 | (t,b,_)::r=>(t,.sl (.p b) 0 0)::nilTs r
noncomputable def Keep.st (kp:Keep) (st:St):St :=
 ⟨mkT (nilTs kp.nils++(kp.slots.filterMap fun t=>(st.tm.get t).map fun v=>(t,v.tr (kp.ren st.h)))),⟨nilBs kp.nils++keepBs (kp.ren st.h) kp.pu st.h kp.blocks,kp.nxt,keepFs st.h kp.fams⟩⟩
noncomputable def Keep.at (kp:Keep) (st:St):Keep:=⟨kp.slots.filter fun t => !(isNilV (st.tm.get t)&&kp.nils.any fun p=>p.1.beq t),kp.blocks.filter fun p=>st.h.has p.1,kp.nxt,kp.nils.filter fun p=>isNilV (st.tm.get p.1),kp.pu,kp.fams⟩
noncomputable def Keep.go (kp:Keep) (st:St) (k:St→Prop):Prop:=guardB (kp.at st).ok (k ((kp.at st).st st))
abbrev Post:=Ex→St→Prop
def Qseq (X:Post→St→Prop) (Q:Post):Post:=fun e s=>(fun _:Prop=>match e with | .norm=>X Q s | e=>Q e s) nope
def Qblk (id:Nat) (Q:Post):Post:=fun e s=>match e with | .exit i=>(match i.beq id with | true=>Q .norm s | false=>Q (.exit i) s) | e=>Q e s
noncomputable def Qlp (kp:Keep) (I:St→Prop) (Q:Post):Post:=fun e s=>match e with | .norm=>kp.go s I | e=>Q e s
structure Lp (kp:Keep) (B:Post→St→Prop) (Q:Post) (st:St):Prop where
 out : ∀ I:St→Prop,(∀ s,B (Qlp kp I Q) s→I s)→I st
def readsB (ρ:Operand→V):Op→Option Id
 | .load _ x=>match ρ x with | .ptr b _ _=>some b | _=>none
 | .lookup _ x _ _=>match ρ x with | .mp b=>some b | _=>none
 | .convert _ _ x=>match ρ x with | .sl b _ _=>some b | _=>none
 | .call c=>match c.callee,c.args.toList.map ρ with
  | .builtin .len,.mp b::_=>some b
  | _,_=>none
 | _=>none
def touches (C:Calling) (ρ:Operand→V) (h:Hp) (o:Op) (b:Id):Bool :=
 match o with
 | .box .. | .alloc _ | .buildSlice .. | .makeSlice .. => false
 | .store _ x _=>match ρ x with | .ptr b' _ _=>b'.beq b | _=>true
 | .makeMap .. | .range .. | .entry _=>false
 | .next x _=>match ρ x with | .ptr b' _ _=>b'.beq b | _=>true
 | .mapUpdate _ m _ _ | .insert _ m _ _ | .mapEntry _ m _ | .entryStore _ m _ _=>match ρ m with | .mp b' => b'.beq b | _=>true
 | .call c=>match c.callee with
  | .builtin .append=>match c.args.toList.map ρ with | .sl b' _ _::_=>b'.beq b | .raw _::_=>false | .lsx _ _::_=>false | _=>true
  | .builtin .copy=>match c.args.toList.map ρ with | .sl b' _ _::_=>b'.beq b | .lst _ _::_=>false | _=>true
  | .value f=>match ρ f with | .fn (.func g) first caps=>(match C.kn g,first++c.args.toList.map ρ++caps with
    | some _,[]=>false
    | _,vs=>match C.mode g with | 0=>(refsL vs).any b.beq | 1=>false | 4=>false | _=>C.t g vs h b) | .yl _=>C.ty b | _=>true
  | _ => !quietOp o
 | _ => !quietOp o
structure Prep where
 i:Nat
 o:Oper
 quiet:Bool
 on:Nat
 bef:Nat
def onMask (o:Oper):Nat:=o.after.toList.foldl (fun m e=>bif Region.binds .any e then m ||| 2 ^ e.on else m) 0
def befMask (befs:List Nat) (o:Oper):Nat:=o.after.toList.foldl (fun m e=>bif Region.binds .any e then m ||| 2 ^ e.on ||| befs.getD e.on 0 else m) 0
def seqN (n:Nat) (k:Nat→List Nat):List Nat:=match n with | 0=>k 0 | m+1=>k (m+1)
def befsGo:List Oper→List Nat→List Nat
 | [],acc=>acc
 | o::r,acc=>seqN (befMask acc o) fun n=>befsGo r (acc++[n])
def befsOf (ops:List Oper):List Nat:=befsGo ops []
def isReady (m:Nat) (i on:Nat):Bool := !m.testBit i&&(on &&& m).beq on
def firstQuiet (m:Nat):List Prep→Option Prep
 | []=>none
 | p::r=>bif p.quiet&&isReady m p.i p.on then some p else firstQuiet m r
def readyOnes (m:Nat):List Prep→List Prep
 | []=>[]
 | p::r=>bif isReady m p.i p.on then p::readyOnes m r else readyOnes m r
def prepAll (ops:List Oper):List Prep:=ops.zipIdx.map fun (o,i)=>⟨i,o,quietOp o.op,onMask o,(befsOf ops).getD i 0⟩
def regionOK (ops:Array Oper) (ps:List Prep):Bool :=
 Region.noSelect ops&&ps.all fun p => !p.quiet || ps.all fun q=>q.i.beq p.i || p.bef.testBit q.i || q.on.testBit p.i || p.o.apart ops q.o
def canWait (ops:Array Oper) (m:Nat) (ps:List Prep) (c a:Prep):Bool :=
 allocOp a.o.op&&(match a.o.dst with | some d => !(a.o.looksAt ops).contains d | none=>false) &&
  ps.all fun q=>m.testBit q.i || q.i.beq a.i || ((!(q.on.testBit a.i || q.bef.testBit a.i) || q.bef.testBit c.i)&&(a.bef.testBit q.i || q.bef.testBit a.i || a.o.apart ops q.o))
def pickC (ops:Array Oper) (m:Nat) (ps rs:List Prep):Option Prep:=rs.find? fun c=>rs.all fun a=>a.i.beq c.i || canWait ops m ps c a
def isB (v:V) (want:Bool):Bool:=match v with | .raw (.bool b)=>(b==want) | _=>false
noncomputable def wantsQ (all:List Oper) (tm:T V) (o:Oper) (p:Prop):Prop:=match o.guard with
 | none=>p
 | some (j,want)=>onSome (dstOf all j) fun d=>onSome (tm.get d) fun v=>guardB (isB v want) p
noncomputable def wWait (P:Program) (C:Calling) (N:Nat) (all:List Oper):List Prep→St→(St→Prop)→Prop
 | [],st,k=>k st
 | a::r,st,k=>wantsQ all st.tm a.o <| wop P C (ev C.glob st.tm) st.h a.o.type a.o.op fun _ _=>putT N st.tm a.o.dst .junk fun tm=>wWait P C N all r ⟨tm,st.h⟩ k
def isLookupO:Op→Bool
 | .lookup _ _ _ false=>true
 | _=>false
def isEntryO:Op→Bool
 | .mapEntry .. => true
 | _=>false
def asksAgain (all:List Oper) (p:Prep) (i:Nat):Bool:=isEntryO p.o.op&&match all[i]? with
 | some o=>isLookupO o.op&&o.guard.isNone&&(match o.dst with | some d => !(o.looksAt all.toArray).contains d | none=>false)
 | none=>false
noncomputable def againQ (C:Calling) (all:List Oper) (p:Prep) (st:St) (x:Nat×Id×T V):Bool:=asksAgain all p x.1&&touches C (ev C.glob st.tm) st.h p.o.op x.2.1
def sameVal (a b:V) (k:Prop):Prop:=match a,b with
 | .raw (.int k1 n),.raw (.int k2 m)=>guardB (k1==k2) (need (n=m) k)
 | .raw (.bool a),.raw (.bool b)=>guardB (a==b) k
 | _,_=>False
def someId (o:Option Id) (b:Id):Bool:=match o with | some c=>c.beq b | none=>false
noncomputable def wAgain1 (P:Program) (C:Calling) (all:List Oper) (x:Nat×Id×T V) (st:St) (k:Prop):Prop :=
 onSome all[x.1]? fun o=>onSome o.dst fun d=>onSome (x.2.2.get d) fun v0=>guardB (someId (readsB (ev C.glob x.2.2) o.op) x.2.1) <| wop P C (ev C.glob x.2.2) st.h o.type o.op fun v _=>sameVal v0 v k
noncomputable def wAgain (P:Program) (C:Calling) (all:List Oper):List (Nat×Id×T V)→St→Prop→Prop
 | [],_,k=>k
 | x::r,st,k=>wAgain1 P C all x st (wAgain P C all r st k)
noncomputable def wDraw (P:Program) (C:Calling) (X:Ask) (N:Nat) (all:List Oper) (ps:List Prep):Nat→Nat→List (Nat×Id×T V)→St→(St→Prop)→Prop
 | 0,m,_,st,k=>match readyOnes m ps with
  | []=>k st
  | _=>False
 | f+1,m,held,st,k =>
  match firstQuiet m ps with
  | some p=>wOper P C N all (fun _=>true) p.o st fun st' => wDraw P C X N all ps f (m ||| 2 ^ p.i) (match readsB (ev C.glob st.tm) p.o.op with | some b=>(p.i,b,st'.tm)::held | none=>held) st' k
  | none=>match readyOnes m ps with
   | []=>k st
   | [p]=>wOper P C N all (fun ρ=>X ρ st.h p.o.op&&(held.filter fun x => !p.bef.testBit x.1).all fun x => !touches C ρ st.h p.o.op x.2.1 || againQ C all p st x) p.o st
     fun st' => wAgain P C all ((held.filter fun x => !p.bef.testBit x.1).filter (againQ C all p st)) st' (wDraw P C X N all ps f (m ||| 2 ^ p.i) (held.filter fun x => !p.bef.testBit x.1) st' k)
   | rs=>onSome (pickC all.toArray m ps rs) fun p=>wWait P C N all (rs.filter fun a => !a.i.beq p.i) st fun st =>
    wOper P C N all (fun ρ=>X ρ st.h p.o.op&&(held.filter fun x => !p.bef.testBit x.1).all fun x => !touches C ρ st.h p.o.op x.2.1 || againQ C all p st x) p.o st
     fun st' => wAgain P C all ((held.filter fun x => !p.bef.testBit x.1).filter (againQ C all p st)) st' (wDraw P C X N all ps f (m ||| 2 ^ p.i) (held.filter fun x => !p.bef.testBit x.1) st' k)
noncomputable def W (P:Program) (C:Calling) (N:Nat) (kps:Nat→Keep):Nat→Code→Post→St→Prop
 | _,.skip,Q,st=>Q .norm st
 | _,.label _,Q,st=>Q .norm st
 | _,.region _ ops draw,Q,st=>match draw with
  | false=>wOps P C (askB C) N ops.toList ops.toList st (Q .norm)
  | true=>guardB (regionOK ops (prepAll ops.toList)) (wDraw P C (askB C) N ops.toList (prepAll ops.toList) ops.size 0 [] st (Q .norm))
 | cur,.seq a b,Q,st=>W P C N kps cur a (Qseq (W P C N kps cur b) Q) st
 | cur,.cond c a b,Q,st=>onBool (ev C.glob st.tm c) fun t=>ifB t (W P C N kps cur a Q st) (W P C N kps cur b Q st)
 | _,.block id a,Q,st=>W P C N kps id a (Qblk id Q) st
 | cur,.loop a,Q,st=>(kps cur).go st (Lp (kps cur) (W P C N kps cur a) Q)
 | cur,.scope a,Q,st=>W P C N kps cur a Q st
 | _,.exit id,Q,st=>Q (.exit id) st
 | _,.ret,Q,st=>Q .ret st
 | _,_,_,_=>False
noncomputable def wRes1 (P:Program) (st:St) (r:ResultVar) (k:V→Prop):Prop :=
 match r with
 | .tmp t=>k ((st.tm.get t).getD .junk)
 | .cell a t=>wAt st.h ((st.tm.get a).getD .junk) fun row off p=>wLoad P t row off p k
noncomputable def wResL (P:Program) (st:St):List ResultVar→(List V→Prop)→Prop
 | [],k=>k []
 | r::rs,k=>wRes1 P st r fun v=>wResL P st rs fun vs=>k (v::vs)
def oneOf:List V→V
 | [v]=>v
 | vs => .tup vs
noncomputable def wRes (P:Program) (rs:Array ResultVar) (st:St) (k:V→Prop):Prop:=wResL P st rs.toList fun vs=>k (oneOf vs)
def dataS (m:Nat) (h:Hp) (used:List Nat) (v:V) (k:V→List Nat→Prop):Prop :=
 match v with
 | .sl (.p b) 0 len=>onRows h (.p b) fun s p es=>guardB (Nat.ble m b && !used.any b.beq && !s.beq 0&&(p || es.all closedL)) (k (.lst s (sub es 0 len)) (b::used))
 | .raw x=>k (.raw x) used
 | _=>False
def dataE (m:Nat) (h:Hp) (used:List Nat):List V→(List V→List Nat→Prop)→Prop
 | [],k=>k [] used
 | v::vs,k=>dataS m h used v fun d u=>dataE m h u vs fun ds u=>k (d::ds) u
def dataA (m:Nat) (h:Hp) (used:List Nat) (v:V) (k:V→List Nat→Prop):Prop :=
 match v with
 | .agg cs=>dataE m h used cs fun cs u=>k (.agg cs) u
 | v=>dataS m h used v k
def dataL (m:Nat) (h:Hp) (used:List Nat):List V→(List V→List Nat→Prop)→Prop
 | [],k=>k [] used
 | v::vs,k=>dataA m h used v fun d u=>dataL m h u vs fun ds u=>k (d::ds) u
def dataT (m:Nat) (h:Hp) (v:V) (k:V→Prop):Prop :=
 match v with
 | .tup vs=>dataL m h [] vs fun ds _=>k (.tup ds)
 | v=>dataA m h [] v fun d _=>k d
noncomputable def start (args:List V):T V:=mkT (args.zipIdx.map fun (v,i)=>(i,v))
def iv (n:Int):V := .raw (.int .i64 n)
def bv (b:Bool):V := .raw (.bool b)
def nilS:V := .raw (.slice none 0 0)
def cdAt:List Nat→Code→Code
 | [],c=>c
 | 0::p,.seq a _=>cdAt p a
 | _::p,.seq _ b=>cdAt p b
 | 0::p,.cond _ a _=>cdAt p a
 | _::p,.cond _ _ b=>cdAt p b
 | _::p,.block _ a=>cdAt p a
 | _::p,.loop a=>cdAt p a
 | _,c=>c
def bodyOf (f:Func):Code:=f.body.getD .skip
end Go.Proofs.YtkkgicjioajimaaDoor.Clean
