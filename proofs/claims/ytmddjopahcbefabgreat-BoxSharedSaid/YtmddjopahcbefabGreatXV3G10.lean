/- A part of the proof. -/
import Derived.Test.YtmddjopahcbefabGreatProg
import Derived.Test.YtmddjopahcbefabGreatXV3G9
namespace Go.Proofs.YtmddjopahcbefabGreat
open Go Go.Proofs.YtmddjopahcbefabGreat.Clean
set_option linter.unusedVariables false
set_option maxRecDepth 100000
def glX:Nat→Option (List V):=fun _=>none
def clX (g:FuncId):Bool := !(inN [53,78,100,79,9999,41,71,96,98,85,72,92,105,83,101,107,108,103,119,120,109,110,111,112,113,114,115,116,126,127,128,129,130,131,132,133,134,121,123,124,125,136,137,138,135,139] g)
abbrev KFX (f:Fact):Prop:=K0G Tryz.prog glX f.g f.args fun v=>v=f.r
theorem hmX:Tryz.prog.follows .mixedOrders=true:=by kernel_rfl
def u8v (n:Int):V := .raw (.int .u8 n)
abbrev It:=Int×Int×Int
def itm (x:It):List V:=[iv x.1,u8v x.2.1,iv x.2.2]
def itl (l:List It):List (List V):=l.map itm
def pll (l:List (List It)):List (List V):=l.map fun x=>[.lst 3 (itl x)]
def nl (l:List Int):List (List V):=l.map fun n=>[iv n]
def nn (l:List Nat):List (List V):=l.map fun (n:Nat)=>[iv (n:Int)]
def sv (s:Nat):V:=u8v (s:Int)
def kpP:FuncId→Nat→Option (List Tmp):=slotsOf [(85,0,[0,5,6]),(63,0,[1,2,8,10,20,21,22]),(87,0,[1,6,9,10,11]),(40,0,[0,3]),(10,0,[0,1,2,3,13,14,15]),(10,2,[0,1,2,3,9,13,14,15,20,21,22]),(35,0,[1,2,7,9,12,13,14]),(36,0,[0,1,2,7]),(9999,0,[3,6,7,8]),(38,0,[0,1,4,5,6]),(67,0,[0,1,7,8,9]),(37,0,[13,14,15]),(29,0,[6,7,8]),(30,0,[15,16,17]),(7,0,[5,6,7]),(27,0,[0,3,4]),(69,0,[0,1,9,10,11]),(9999,0,[0,1,2,3,9,10,12,13,14,15,69,70,71]),(9999,2,[0,1,2,3,9,10,12,13,14,15,109,110]),(9999,4,[0,1,9,10,12,13,14,15,139,140,141])]
def moC (f:FuncId):Nat:=bif inN [10,35] f then 4 else 0
def tyC (f:FuncId):Option TypeId:=none
noncomputable def cfM:Cfg:=cfgM Tryz.prog glX moC tyC (inN [62,85,68,60,90,65,88,28,64,89,102,49]) kpP
noncomputable def sh43a (a o:List It) (k:Nat):St:=⟨mkT [(1,V.lst 3 (itl o)),(6,nilS),(9,V.lst 3 (itl a)),(10,iv ((itl a).length:Int)),(11,iv (k:Int))],⟨[],0,[]⟩⟩
noncomputable def sh43b (a o l:List It) (k:Nat):St:=⟨mkT [(1,V.lst 3 (itl o)),(6,V.sl (Id.p 0) 0 l.length),(9,V.lst 3 (itl a)),(10,iv ((itl a).length:Int)),(11,iv (k:Int))],⟨[(0,O.rows 3 true (itl l))],1,[]⟩⟩
noncomputable def sh90a (s:Nat):St:=⟨mkT [(0,sv s),(3,nilS)],⟨[],0,[]⟩⟩
noncomputable def sh90b (s:Nat) (l:List Nat):St:=⟨mkT [(0,sv s),(3,V.sl (Id.p 0) 0 l.length)],⟨[(0,O.rows 1 true (nn l))],1,[]⟩⟩
noncomputable def sh98 (plans:List (List It)) (vals:List Int) (e:Nat) (q:List (List V)) (s:Nat) (v:Int) (l:List (List V)) (d k:Nat):St:=⟨mkT [(1,V.lst 1 (pll plans)),(2,V.lst 1 (nl vals)),(8,V.ptr (Id.p 0) 0 0),(10,V.ptr (Id.p 1) 0 0),(20,V.lst e q),(21,iv (q.length:Int)),(22,iv (k:Int))],⟨[(0,O.rows 3 false [[sv 0,iv 0,nilS]]),(1,O.rows 3 false [[sv s,iv v,V.lst d l]])],2,[]⟩⟩
noncomputable def sh43 (a:List It) (s:List It×List It×Nat):St:=match s.2.1 with | []=>sh43a a s.1 s.2.2 | x::r=>sh43b a s.1 (x::r) s.2.2
noncomputable def sh90 (s:Nat×List Nat):St:=match s.2 with | []=>sh90a s.1 | x::r=>sh90b s.1 (x::r)
def lsI (l:List It):V:=match l with | []=>nilS | x::r => .lst 3 (itl (x::r))
def lsN (l:List Nat):V:=match l with | []=>nilS | x::r => .lst 1 (nn (x::r))
abbrev Ch:=Nat×Int×List It×Nat
def chr (c:Ch):List V:=[sv c.1,iv c.2.1,.lst c.2.2.2 (itl c.2.2.1)]
def chl (l:List Ch):List (List V):=l.map chr
noncomputable def rec51 (bx:List It) (plans:List (List It)) (vals:List Int):Lr:=⟨.ready,none,mkT [(0,V.lst 3 (itl bx)),(1,V.lst 1 (pll plans)),(2,V.lst 1 (nl vals)),(3,V.ptr (Id.p 0) 0 0),(4,V.ptr (Id.p 1) 0 0),(5,V.ptr (Id.p 2) 0 0),(6,nilS),(7,V.ptr (Id.p 3) 0 0),(11,V.lst 1 (pll plans)),(12,iv ((pll plans).length:Int)),(13,V.fn (Fn.func 85) [] [V.ptr (Id.p 4) 0 0])],29,Array.mk [14],rfA (cdAt [1,1,0,1,0] (bodyOf Tryz.f32)),rfB (cdAt [1,1,0,1,0] (bodyOf Tryz.f32)),32⟩
noncomputable def sh51a (bx:List It) (plans:List (List It)) (vals:List Int) (N i:Nat):St:=⟨mkT [(0,V.yl (Id.p 5)),(5,iv (N:Int)),(6,iv (i:Int))],⟨[(5,O.lp (rec51 bx plans vals)),(4,O.rows 1 false [[iv ((pll plans).length:Int)]]),(3,O.rows 1 false [[nilS]]),(2,O.rows 1 false [[V.lst 1 (nl vals)]]),(1,O.rows 1 false [[V.lst 1 (pll plans)]]),(0,O.rows 1 false [[V.lst 3 (itl bx)]])],6,[]⟩⟩
noncomputable def cfI:Cfg:={ cfM with clean:=fun g => !inN [85] g }
noncomputable def sh51b (bx:List It) (plans:List (List It)) (vals:List Int) (N i:Nat) (cs:List Ch):St:=⟨mkT [(0,V.yl (Id.p 5)),(5,iv (N:Int)),(6,iv (i:Int))],⟨[(5,O.lp (rec51 bx plans vals)),(3,O.rows 1 false [[V.sl (Id.p 6) 0 cs.length]]),(4,O.rows 1 false [[iv ((pll plans).length:Int)]]),(2,O.rows 1 false [[V.lst 1 (nl vals)]]),(1,O.rows 1 false [[V.lst 1 (pll plans)]]),(0,O.rows 1 false [[V.lst 3 (itl bx)]]),(6,O.rows 3 true (chl cs))],7,[]⟩⟩
noncomputable def sh51 (bx:List It) (plans:List (List It)) (vals:List Int) (N:Nat) (x:Nat×List Ch):St:=match x.2 with | []=>sh51a bx plans vals N x.1 | c::r=>sh51b bx plans vals N x.1 (c::r)
noncomputable def sh115 (a b:List Nat) (k:Nat):St:=⟨mkT [(0,V.lst 1 (nn a)),(1,V.lst 1 (nn b)),(9,V.lst 1 (nn a)),(10,iv ((nn a).length:Int)),(11,iv (k:Int))],⟨[],0,[]⟩⟩
noncomputable def sh88 (cs:List Ch) (c:Ch) (k:Nat):St:=⟨mkT [(0,V.lst 3 (chl cs)),(1,V.fn (Fn.func 39) [] []),(4,V.ptr (Id.p 0) 0 0),(5,V.ptr (Id.p 1) 0 0),(6,iv (k:Int))],⟨[(0,O.rows 3 false [[sv 0,iv 0,nilS]]),(1,O.rows 3 false [chr c])],2,[]⟩⟩
noncomputable def sh26 (l:List It) (k:Nat):St:=⟨mkT [(13,V.lst 3 (itl l)),(14,iv ((itl l).length:Int)),(15,iv (k:Int))],⟨[],0,[]⟩⟩
noncomputable def sh72 (l:List It) (k:Nat):St:=⟨mkT [(0,V.lst 3 (itl l)),(1,V.fn (Fn.func 68) [] []),(7,V.lst 3 (itl l)),(8,iv ((itl l).length:Int)),(9,iv (k:Int))],⟨[],0,[]⟩⟩
noncomputable def sh42 (p:List (List It)) (k:Nat):St:=⟨mkT [(6,V.lst 1 (pll p)),(7,iv ((pll p).length:Int)),(8,iv (k:Int))],⟨[],0,[]⟩⟩
noncomputable def sh49 (v:List Int) (k:Nat):St:=⟨mkT [(15,V.lst 1 (nl v)),(16,iv ((nl v).length:Int)),(17,iv (k:Int))],⟨[],0,[]⟩⟩
def ul (l:List Nat):List (List V):=l.map fun n=>[sv n]
noncomputable def sh40 (l:List It) (a b:Int) (k:Nat):St:=⟨mkT [(0,V.lst 3 (itl l)),(1,iv a),(2,u8v b),(7,iv (k:Int))],⟨[],0,[]⟩⟩
noncomputable def sh41 (p:List (List It)) (who:List Nat) (m:Nat) (x:It) (n:Int) (k:Nat):St:=⟨mkT [(1,V.lst 1 (ul who)),(2,sv m),(7,V.ptr (Id.p 0) 0 0),(9,iv n),(12,V.lst 1 (pll p)),(13,iv ((pll p).length:Int)),(14,iv (k:Int))],⟨[(0,O.rows 3 false [itm x])],1,[]⟩⟩
noncomputable def sh39 (bx:List It) (p:List (List It)) (who:List Nat) (m:Nat) (k:Nat):St:=⟨mkT [(0,V.lst 3 (itl bx)),(1,V.lst 1 (pll p)),(2,V.lst 1 (ul who)),(3,sv m),(13,V.lst 1 (pll p)),(14,iv ((pll p).length:Int)),(15,iv (k:Int))],⟨[],0,[]⟩⟩
noncomputable def sh39b (bx:List It) (p:List (List It)) (who:List Nat) (m:Nat) (k:Nat) (l:List It) (j:Nat):St:=⟨mkT [(0,V.lst 3 (itl bx)),(1,V.lst 1 (pll p)),(2,V.lst 1 (ul who)),(3,sv m),(9,iv (k:Int)),(13,V.lst 1 (pll p)),(14,iv ((pll p).length:Int)),(15,iv (k:Int)),(20,V.lst 3 (itl l)),(21,iv ((itl l).length:Int)),(22,iv (j:Int))],⟨[],0,[]⟩⟩
noncomputable def sh28 (p:List (List It)) (k:Nat):St:=⟨mkT [(5,V.lst 1 (pll p)),(6,iv ((pll p).length:Int)),(7,iv (k:Int))],⟨[],0,[]⟩⟩
noncomputable def sh78 (l:List It) (n:Int) (k:Nat):St:=⟨mkT [(0,V.lst 3 (itl l)),(3,iv n),(4,iv (k:Int))],⟨[],0,[]⟩⟩
set_option linter.unusedSimpArgs false
set_option maxRecDepth 10000
theorem hcM:cfM.ok Tryz.prog:=cfgM_ok
theorem ifB_t {b:Bool} {p q:Prop} (hb:b=true) (h:p):ifB b p q:=by subst hb; exact h
theorem ifB_f {b:Bool} {p q:Prop} (hb:b=false) (h:q):ifB b p q:=by subst hb; exact h
theorem onIntK_u8 {n:Int} {k:Int→Prop} (h:k n):onIntK .u8 (u8v n) k:=h
def wo (s n:Nat):Nat:=bif s.testBit n then s - 2 ^ n else s
def fi (s:Nat):Nat:=((List.range 8).find? fun i=>s.testBit i).getD 8
theorem wo_bits : ∀ s,s<256 → ∀ n,n<8→IntKind.u8.wrap (↑(BitVec.ofInt 8 ((s:Nat):Int) &&& ~~~BitVec.ofInt 8 (IntKind.u8.wrap ((1:Int) * (2:Int) ^ min ((n:Nat):Int).toNat 8))).toNat:Int)=((wo s n:Nat):Int):=by decide +kernel
theorem fi_bit : ∀ s,s<256→s≠0→fi s<8∧s.testBit (fi s)=true:=by decide +kernel
theorem wo_le (s n:Nat):wo s n≤s:=by unfold wo; cases s.testBit n <;> simp
theorem wo_lt {s n:Nat} (h:s.testBit n=true):wo s n<s:=by
 unfold wo
 rw [h]
 have:2 ^ n≤s:=Nat.ge_two_pow_of_testBit h
 have:=Nat.two_pow_pos n
 simp only [cond_true]
 omega
theorem without70 {s n:Nat} {R:V→Prop} (hs:s<256) (hn:n<8) (h:R (sv (wo s n))):K0G Tryz.prog glX 70 [sv s,iv (n:Int)] R:=by
 refine K0_of_WY0 hmX hcM 100 Tryz.func70 (see (p:=R (V.raw (Value.int IntKind.u8 (IntKind.u8.wrap (↑(BitVec.ofInt 8 (↑s:Int) &&& ~~~BitVec.ofInt 8 (IntKind.u8.wrap ((1:Int) * (2:Int) ^ min (↑n:Int).toNat 8))).toNat:Int))))) (by kernel_rfl) ?_)
 rw [wo_bits s hs n hn]
 exact h
theorem fi_le : ∀ s,s<256→fi s≤8:=by decide +kernel
def tab8:Array UInt8:=(List.range 256).map (fun s=>UInt8.ofNat (fi s)) |>.toArray
theorem first73 {s:Nat} {R:V→Prop} (hs:s<256) (h:R (iv (fi s:Int))):K0G Tryz.prog glX 73 [sv s] R:=by
 refine K0_of_WY0 hmX hcM 100 Tryz.func73 (see (p:=onSome (ByteArray.mk (([(8:UInt8),(0:UInt8),(1:UInt8),(0:UInt8),(2:UInt8),(0:UInt8),(1:UInt8),(0:UInt8),(3:UInt8),(0:UInt8),(1:UInt8),(0:UInt8),(2:UInt8),(0:UInt8),(1:UInt8),(0:UInt8),(4:UInt8),(0:UInt8),(1:UInt8),(0:UInt8),(2:UInt8),(0:UInt8),(1:UInt8),(0:UInt8),(3:UInt8),(0:UInt8),(1:UInt8),(0:UInt8),(2:UInt8),(0:UInt8),(1:UInt8),(0:UInt8),(5:UInt8),(0:UInt8),(1:UInt8),(0:UInt8),(2:UInt8),(0:UInt8),(1:UInt8),(0:UInt8),(3:UInt8),(0:UInt8),(1:UInt8),(0:UInt8),(2:UInt8),(0:UInt8),(1:UInt8),(0:UInt8),(4:UInt8),(0:UInt8),(1:UInt8),(0:UInt8),(2:UInt8),(0:UInt8),(1:UInt8),(0:UInt8),(3:UInt8),(0:UInt8),(1:UInt8),(0:UInt8),(2:UInt8),(0:UInt8),(1:UInt8),(0:UInt8)].append [(6:UInt8),(0:UInt8),(1:UInt8),(0:UInt8),(2:UInt8),(0:UInt8),(1:UInt8),(0:UInt8),(3:UInt8),(0:UInt8),(1:UInt8),(0:UInt8),(2:UInt8),(0:UInt8),(1:UInt8),(0:UInt8),(4:UInt8),(0:UInt8),(1:UInt8),(0:UInt8),(2:UInt8),(0:UInt8),(1:UInt8),(0:UInt8),(3:UInt8),(0:UInt8),(1:UInt8),(0:UInt8),(2:UInt8),(0:UInt8),(1:UInt8),(0:UInt8),(5:UInt8),(0:UInt8),(1:UInt8),(0:UInt8),(2:UInt8),(0:UInt8),(1:UInt8),(0:UInt8),(3:UInt8),(0:UInt8),(1:UInt8),(0:UInt8),(2:UInt8),(0:UInt8),(1:UInt8),(0:UInt8),(4:UInt8),(0:UInt8),(1:UInt8),(0:UInt8),(2:UInt8),(0:UInt8),(1:UInt8),(0:UInt8),(3:UInt8),(0:UInt8),(1:UInt8),(0:UInt8),(2:UInt8),(0:UInt8),(1:UInt8),(0:UInt8)]).append ([(7:UInt8),(0:UInt8),(1:UInt8),(0:UInt8),(2:UInt8),(0:UInt8),(1:UInt8),(0:UInt8),(3:UInt8),(0:UInt8),(1:UInt8),(0:UInt8),(2:UInt8),(0:UInt8),(1:UInt8),(0:UInt8),(4:UInt8),(0:UInt8),(1:UInt8),(0:UInt8),(2:UInt8),(0:UInt8),(1:UInt8),(0:UInt8),(3:UInt8),(0:UInt8),(1:UInt8),(0:UInt8),(2:UInt8),(0:UInt8),(1:UInt8),(0:UInt8),(5:UInt8),(0:UInt8),(1:UInt8),(0:UInt8),(2:UInt8),(0:UInt8),(1:UInt8),(0:UInt8),(3:UInt8),(0:UInt8),(1:UInt8),(0:UInt8),(2:UInt8),(0:UInt8),(1:UInt8),(0:UInt8),(4:UInt8),(0:UInt8),(1:UInt8),(0:UInt8),(2:UInt8),(0:UInt8),(1:UInt8),(0:UInt8),(3:UInt8),(0:UInt8),(1:UInt8),(0:UInt8),(2:UInt8),(0:UInt8),(1:UInt8),(0:UInt8)].append [(6:UInt8),(0:UInt8),(1:UInt8),(0:UInt8),(2:UInt8),(0:UInt8),(1:UInt8),(0:UInt8),(3:UInt8),(0:UInt8),(1:UInt8),(0:UInt8),(2:UInt8),(0:UInt8),(1:UInt8),(0:UInt8),(4:UInt8),(0:UInt8),(1:UInt8),(0:UInt8),(2:UInt8),(0:UInt8),(1:UInt8),(0:UInt8),(3:UInt8),(0:UInt8),(1:UInt8),(0:UInt8),(2:UInt8),(0:UInt8),(1:UInt8),(0:UInt8),(5:UInt8),(0:UInt8),(1:UInt8),(0:UInt8),(2:UInt8),(0:UInt8),(1:UInt8),(0:UInt8),(3:UInt8),(0:UInt8),(1:UInt8),(0:UInt8),(2:UInt8),(0:UInt8),(1:UInt8),(0:UInt8),(4:UInt8),(0:UInt8),(1:UInt8),(0:UInt8),(2:UInt8),(0:UInt8),(1:UInt8),(0:UInt8),(3:UInt8),(0:UInt8),(1:UInt8),(0:UInt8),(2:UInt8),(0:UInt8),(1:UInt8),(0:UInt8)])).toArray)[s]? fun b=>R (iv (IntKind.i64.wrap (↑b.toNat:Int)))) (by kernel_rfl) ?_)
 have key : ∀ s,s<256 → ∃ b:UInt8,tab8[s]? = some b∧b.toNat=fi s:=fun s hs=>⟨UInt8.ofNat (fi s),by simp [tab8,hs],by revert s hs; decide +kernel⟩
 obtain ⟨b,h1,h2⟩:=key s hs
 refine onSome_mk (x:=b) ((show _=tab8[s]? by congr 1).trans h1) ?_
 rw [h2,wr (by omega) (by have:=(fi_le s hs); omega)]
 exact h
theorem first45 {s:Nat} {R:V→Prop} (hs:s<256) (h:R (iv (fi s:Int))):K0G Tryz.prog glX 45 [sv s] R:=by
 refine K0_of_WY0 hmX hcM 100 Tryz.func45 (see (p:=K0G Tryz.prog glX 73 [V.raw (Value.int IntKind.u8 (↑s:Int))] fun v=>onIntK IntKind.i64 v fun n=>R (iv n)) (by kernel_rfl) ?_)
 exact first73 hs (onIntK_iv h)
theorem hJ' {J:St→Prop} {s s' : St} (he:s=s') (h:J s'):J s:=he ▸ h
theorem itl_length (l:List It):(itl l).length=l.length:=by simp [itl]
theorem wr1i {i n:Nat} (h:i<n) (hn:(n:Int)≤9223372036854775807):IntKind.i64.wrap ((i:Int)+1)=((i+1:Nat):Int):=by rw [wr (by omega) (by omega)]; simp
def Nok (x:It):Prop:=0≤x.2.2∧x.2.2≤1000000
def takeF (x:It):List It→Int×List It
 | []=>(x.2.2,[])
 | y::o=>if y.1=x.1∧y.2.1=x.2.1 then (x.2.2 - y.2.2,o) else (x.2.2,y::o)
def keepF (x:It) (n:Int):List It:=if 0<n then [(x.1,x.2.1,n)] else []
def restF:List It→List It→Option (List It×List It)
 | [],o=>some ([],o)
 | x::a,o=>if (takeF x o).1<0 then none else (restF a (takeF x o).2).map fun p=>(keepF x (takeF x o).1++p.1,p.2)
def restV:Option (List It×List It)→V
 | none => .tup [nilS,bv false]
 | some (l,o) => .tup [lsI l,bv o.isEmpty]
theorem takeF_ok {x:It} {o:List It} (hx:Nok x) (ho : ∀ y∈o,Nok y) : -1000000≤(takeF x o).1∧(takeF x o).1≤1000000 ∧ ∀ y∈(takeF x o).2,Nok y:=by
 cases o with
 | nil=>exact ⟨by have:=hx.1; show _≤x.2.2; omega,hx.2,fun y h=>by cases h⟩
 | cons y o =>
  have h1:=ho y (by simp)
  by_cases hc:y.1=x.1∧y.2.1=x.2.1
  ·rw [show takeF x (y::o)=(x.2.2 - y.2.2,o) from if_pos hc]
   exact ⟨by have:=hx.1; have:=h1.2; show _≤x.2.2 - y.2.2; omega,by have:=hx.2; have:=h1.1; show x.2.2 - y.2.2≤_; omega,fun z hz=>ho z (by simp [show z∈o from hz])⟩
  ·rw [show takeF x (y::o)=(x.2.2,y::o) from if_neg hc]
   exact ⟨by have:=hx.1; show _≤x.2.2; omega,hx.2,ho⟩
theorem sub_all {α:Type} (l:List α):sub l 0 l.length=l:=by simp [sub]
theorem sub_tl {α:Type} (x:α) (l:List α):sub (x::l) 1 ((x::l).length - 1)=l:=by simp [sub]
theorem itl_take (l:List It):List.take l.length (itl l)=itl l:=by rw [← itl_length]; exact List.take_length
theorem sh43_b {a o l:List It} {k:Nat} (h:l≠[]):sh43 a (o,l,k)=sh43b a o l k:=by cases l with | nil=>exact (h rfl).elim | cons x r=>rfl
theorem lsI_b {l:List It} (h:l≠[]):lsI l = .lst 3 (itl l):=by cases l with | nil=>exact (h rfl).elim | cons x r=>rfl
theorem eqP {x y:It}:(y.1==x.1&&(fun b=>y.2.1==x.2.1&&b) true)=true↔y.1=x.1∧y.2.1=x.2.1:=by simp
theorem rest43 {a b:List It} {R:V→Prop} (ha : ∀ x∈a,Nok x) (hb : ∀ x∈b,Nok x) (hla:a.length≤1000000) (h:R (restV (restF a b))):K0G Tryz.prog glX 87 [.lst 3 (itl a),.lst 3 (itl b)] R:=by
 refine K0_of_WY0 hmX hcM 3000 Tryz.func87 (see (p:=La 0 [(1:Tmp),(6:Tmp),(9:Tmp),(10:Tmp),(11:Tmp)] (WY Tryz.prog cfM 2994 (Env.mk (Bs.mk 0 []) 0 none 52 87 0) (cdAt [1,1,0,1,0,0] (bodyOf Tryz.f87))) (Qblk 0 (Qthen (WY Tryz.prog cfM 2997 (Env.mk (Bs.mk 0 []) 0 none 52 87 0) (cdAt [1,1,1] (bodyOf Tryz.f87)) (QendX Tryz.prog Tryz.f87 fun v h=>R (frzW h v))) (QendX Tryz.prog Tryz.f87 fun v h=>R (frzW h v)))) (St.mk (mkT [(1,V.lst 3 (itl b)),(6,nilS),(9,V.lst 3 (itl a)),(10,iv (↑(itl a).length:Int)),(11,iv (0:Int))]) (Hp.mk [] 0 []))) (by kernel_rfl) ?_)
 refine La.of (σ:=List It×List It×Nat) (fun s=>sh43 a s) (fun s=>(∀ y∈s.1,Nok y)∧s.2.1.length≤s.2.2∧s.2.2≤a.length∧restF a b=(restF (a.drop s.2.2) s.1).map fun p=>(s.2.1++p.1,p.2)) (fun s=>a.length - s.2.2) (b,[],0) (by kernel_rfl) ⟨hb,by simp,by simp,by simp⟩ ?_
 rintro ⟨o,l,k⟩ ⟨h1,h2,h3,h4⟩ J hJ
 simp only at h1 h2 h3 h4
 by_cases hlt:k<a.length
 ·obtain ⟨x,hx⟩ : ∃ x,a[k]? = some x:=⟨a[k],by simp [hlt]⟩
  have hxm:Nok x:=ha x (List.mem_of_getElem? hx)
  have hd:a.drop k=x::a.drop (k+1):=by
   have:=List.drop_eq_getElem_cons hlt
   rw [this]; congr 1; simpa [hlt] using hx
  rw [hd] at h4
  simp only [restF] at h4
  have ⟨t1,t2,t3⟩:=takeF_ok hxm h1
  have bad : ∀ p:Int×List It,takeF x o=p→p.1<0→R (.tup [nilS,bv false]):=by
   rintro p rfl hp
   rw [if_pos hp] at h4
   rw [h4] at h
   exact h
  have go : ∀ p:Int×List It,takeF x o=p → ¬ p.1<0→J (sh43 a (p.2,l++keepF x p.1,k+1)):=by
   rintro p rfl hp
   rw [if_neg hp] at h4
   refine hJ (_,_,k+1) ⟨t3,?_,(by simp only; omega),?_⟩ (by simp only; omega)
   ·have:(keepF x (takeF x o).1).length≤1:=by unfold keepF; split <;> simp
    simp only [List.length_append]
    omega
   ·simp only
    rw [h4,Option.map_map]
    congr 1
    funext q
    simp [List.append_assoc]
  have hw:IntKind.i64.wrap ((k:Int)+1)=((k+1:Nat):Int):=wr1i hlt (by omega)
  by_cases hl:l=[]
  ·subst hl
   refine see (p:=ifB (decide ((↑k:Int)<(↑(itl a).length:Int))) (onSome (itl a)[k]? fun row=>onCons (List.drop 0 row) fun u r=>onIntK IntKind.i64 u fun n=>onCons r fun u r=>onIntK IntKind.u8 u fun n_1=>onCons r fun u r=>onIntK IntKind.i64 u fun n_2=>ifB (decide ((↑(itl o).length:Int) > (0:Int))) (onSome (itl o)[0]? fun row=>onCons (List.drop 0 row) fun u r=>onIntK IntKind.i64 u fun n_3=>onCons r fun u r=>onIntK IntKind.u8 u fun n_4=>onCons r fun u r=>onIntK IntKind.i64 u fun n_5=>ifB (n_3==n&&(fun b=>n_4==n_1&&b) true) (onSome (itl o)[0]? fun row=>onSome row[2]? fun v=>onIntK IntKind.i64 v fun n_6=>need ((itl o).length≤(itl o).length) (need (1≤(itl o).length) (ifB (decide (IntKind.i64.wrap (n_2 - n_6)<(0:Int))) (R (V.tup [nilS,bv false])) (ifB (decide (IntKind.i64.wrap (n_2 - n_6) > (0:Int))) (J (St.mk (mkT [(1,V.lst 3 (sub (itl o) 1 ((itl o).length - 1))),(6,V.sl (Id.p 0) 0 1),(9,V.lst 3 (itl a)),(10,iv (↑(itl a).length:Int)),(11,iv (IntKind.i64.wrap ((↑k:Int)+(1:Int))))]) (Hp.mk [(0,O.rows 3 true [[iv n,V.raw (Value.int IntKind.u8 n_1),iv (IntKind.i64.wrap (n_2 - n_6))]])] 1 []))) (J (St.mk (mkT [(1,V.lst 3 (sub (itl o) 1 ((itl o).length - 1))),(6,nilS),(9,V.lst 3 (itl a)),(10,iv (↑(itl a).length:Int)),(11,iv (IntKind.i64.wrap ((↑k:Int)+(1:Int))))]) (Hp.mk [] 0 []))))))) (ifB (decide (n_2<(0:Int))) (R (V.tup [nilS,bv false])) (ifB (decide (n_2 > (0:Int))) (J (St.mk (mkT [(1,V.lst 3 (itl o)),(6,V.sl (Id.p 0) 0 1),(9,V.lst 3 (itl a)),(10,iv (↑(itl a).length:Int)),(11,iv (IntKind.i64.wrap ((↑k:Int)+(1:Int))))]) (Hp.mk [(0,O.rows 3 true [[iv n,V.raw (Value.int IntKind.u8 n_1),iv n_2]])] 1 []))) (J (St.mk (mkT [(1,V.lst 3 (itl o)),(6,nilS),(9,V.lst 3 (itl a)),(10,iv (↑(itl a).length:Int)),(11,iv (IntKind.i64.wrap ((↑k:Int)+(1:Int))))]) (Hp.mk [] 0 [])))))) (ifB (decide (n_2<(0:Int))) (R (V.tup [nilS,bv false])) (ifB (decide (n_2 > (0:Int))) (J (St.mk (mkT [(1,V.lst 3 (itl o)),(6,V.sl (Id.p 0) 0 1),(9,V.lst 3 (itl a)),(10,iv (↑(itl a).length:Int)),(11,iv (IntKind.i64.wrap ((↑k:Int)+(1:Int))))]) (Hp.mk [(0,O.rows 3 true [[iv n,V.raw (Value.int IntKind.u8 n_1),iv n_2]])] 1 []))) (J (St.mk (mkT [(1,V.lst 3 (itl o)),(6,nilS),(9,V.lst 3 (itl a)),(10,iv (↑(itl a).length:Int)),(11,iv (IntKind.i64.wrap ((↑k:Int)+(1:Int))))]) (Hp.mk [] 0 [])))))) (R (V.tup [nilS,bv ((↑(itl o).length:Int)==(0:Int))]))) (by kernel_rfl) ?_
   rw [itl_length,itl_length,hw]
   refine ifB_t (by simpa using hlt) ?_
   refine onSome_mk (x:=itm x) (by simp [itl,hx]) (onCons_cons (onIntK_iv (onCons_cons (onIntK_u8 (onCons_cons (onIntK_iv ?_))))))
   have fin : ∀ p:Int×List It,takeF x o=p → ∀ (m:Int) (o' : List (List V)),m=p.1→o' = itl p.2→ifB (decide (m<0)) (R (V.tup [nilS,bv false])) (ifB (decide (m > 0)) (J (St.mk (mkT [(1,V.lst 3 o'),(6,V.sl (Id.p 0) 0 1),(9,V.lst 3 (itl a)),(10,iv (a.length:Int)),(11,iv ((k+1:Nat):Int))]) (Hp.mk [(0,O.rows 3 true [[iv x.1,V.raw (Value.int IntKind.u8 x.2.1),iv m]])] 1 []))) (J (St.mk (mkT [(1,V.lst 3 o'),(6,nilS),(9,V.lst 3 (itl a)),(10,iv (a.length:Int)),(11,iv ((k+1:Nat):Int))]) (Hp.mk [] 0 [])))):=by
    rintro p hp m o' rfl rfl
    refine ifB_mk (fun hc=>bad p hp (of_decide_eq_true hc)) (fun hc=>?_)
    have g:=go p hp (of_decide_eq_false hc)
    refine ifB_mk (fun hd=>?_) (fun hd=>?_)
    ·rw [show keepF x p.1=[(x.1,x.2.1,p.1)] from if_pos (of_decide_eq_true hd)] at g
     exact hJ' (by simp [sh43,sh43b,itl,itm,u8v]) g
    ·rw [show keepF x p.1=[] from if_neg (of_decide_eq_false hd)] at g
     exact hJ' (by simp [sh43,sh43a,itl_length]) g
   refine ifB_mk (fun ho=>?_) (fun ho=>?_)
   ·obtain ⟨y,t,rfl⟩ : ∃ y t,o=y::t:=by cases o with | nil=>simp at ho | cons y t=>exact ⟨y,t,rfl⟩
    refine onSome_mk (x:=itm y) (by simp [itl]) (onCons_cons (onIntK_iv (onCons_cons (onIntK_u8 (onCons_cons (onIntK_iv ?_))))))
    refine ifB_mk (fun he=>?_) (fun he=>?_)
    ·refine onSome_mk (x:=itm y) (by simp [itl]) (onSome_mk (x:=iv y.2.2) rfl (onIntK_iv (need_mk ⟨Nat.le_refl _,need_mk ⟨by simp,?_⟩⟩)))
     have hy:=h1 y (by simp)
     rw [wr (by have:=hxm.1; have:=hy.2; omega) (by have:=hxm.2; have:=hy.1; omega)]
     exact fin (x.2.2 - y.2.2,t) (if_pos (eqP.1 he)) _ _ rfl (by rw [show itl (y::t)=itm y::itl t from rfl,← itl_length (y::t)]; exact sub_tl _ _)
    ·exact fin (x.2.2,y::t) (if_neg (fun e=>by rw [eqP.2 e] at he; cases he)) _ _ rfl rfl
   ·obtain rfl:o=[]:=by cases o with | nil=>rfl | cons y t=>simp at ho
    exact fin (x.2.2,[]) rfl _ _ rfl rfl
  ·rw [sh43_b hl]
   refine see (p:=ifB (decide ((↑k:Int)<(↑(itl a).length:Int))) (onSome (itl a)[k]? fun row=>onCons (List.drop 0 row) fun u r=>onIntK IntKind.i64 u fun n=>onCons r fun u r=>onIntK IntKind.u8 u fun n_1=>onCons r fun u r=>onIntK IntKind.i64 u fun n_2=>ifB (decide ((↑(itl o).length:Int) > (0:Int))) (onSome (itl o)[0]? fun row=>onCons (List.drop 0 row) fun u r=>onIntK IntKind.i64 u fun n_3=>onCons r fun u r=>onIntK IntKind.u8 u fun n_4=>onCons r fun u r=>onIntK IntKind.i64 u fun n_5=>ifB (n_3==n&&(fun b=>n_4==n_1&&b) true) (onSome (itl o)[0]? fun row=>onSome row[2]? fun v=>onIntK IntKind.i64 v fun n_6=>need ((itl o).length≤(itl o).length) (need (1≤(itl o).length) (ifB (decide (IntKind.i64.wrap (n_2 - n_6)<(0:Int))) (R (V.tup [nilS,bv false])) (ifB (decide (IntKind.i64.wrap (n_2 - n_6) > (0:Int))) (need ((l.length+1) * 24≤140737488355328) (J (St.mk (mkT [(1,V.lst 3 (sub (itl o) 1 ((itl o).length - 1))),(6,V.sl (Id.p 0) 0 (l.length+1)),(9,V.lst 3 (itl a)),(10,iv (↑(itl a).length:Int)),(11,iv (IntKind.i64.wrap ((↑k:Int)+(1:Int))))]) (Hp.mk [(0,O.rows 3 true (List.take l.length (itl l)++[[iv n,V.raw (Value.int IntKind.u8 n_1),iv (IntKind.i64.wrap (n_2 - n_6))]]))] 1 [])))) (J (St.mk (mkT [(1,V.lst 3 (sub (itl o) 1 ((itl o).length - 1))),(6,V.sl (Id.p 0) 0 l.length),(9,V.lst 3 (itl a)),(10,iv (↑(itl a).length:Int)),(11,iv (IntKind.i64.wrap ((↑k:Int)+(1:Int))))]) (Hp.mk [(0,O.rows 3 true (itl l))] 1 []))))))) (ifB (decide (n_2<(0:Int))) (R (V.tup [nilS,bv false])) (ifB (decide (n_2 > (0:Int))) (need ((l.length+1) * 24≤140737488355328) (J (St.mk (mkT [(1,V.lst 3 (itl o)),(6,V.sl (Id.p 0) 0 (l.length+1)),(9,V.lst 3 (itl a)),(10,iv (↑(itl a).length:Int)),(11,iv (IntKind.i64.wrap ((↑k:Int)+(1:Int))))]) (Hp.mk [(0,O.rows 3 true (List.take l.length (itl l)++[[iv n,V.raw (Value.int IntKind.u8 n_1),iv n_2]]))] 1 [])))) (J (St.mk (mkT [(1,V.lst 3 (itl o)),(6,V.sl (Id.p 0) 0 l.length),(9,V.lst 3 (itl a)),(10,iv (↑(itl a).length:Int)),(11,iv (IntKind.i64.wrap ((↑k:Int)+(1:Int))))]) (Hp.mk [(0,O.rows 3 true (itl l))] 1 [])))))) (ifB (decide (n_2<(0:Int))) (R (V.tup [nilS,bv false])) (ifB (decide (n_2 > (0:Int))) (need ((l.length+1) * 24≤140737488355328) (J (St.mk (mkT [(1,V.lst 3 (itl o)),(6,V.sl (Id.p 0) 0 (l.length+1)),(9,V.lst 3 (itl a)),(10,iv (↑(itl a).length:Int)),(11,iv (IntKind.i64.wrap ((↑k:Int)+(1:Int))))]) (Hp.mk [(0,O.rows 3 true (List.take l.length (itl l)++[[iv n,V.raw (Value.int IntKind.u8 n_1),iv n_2]]))] 1 [])))) (J (St.mk (mkT [(1,V.lst 3 (itl o)),(6,V.sl (Id.p 0) 0 l.length),(9,V.lst 3 (itl a)),(10,iv (↑(itl a).length:Int)),(11,iv (IntKind.i64.wrap ((↑k:Int)+(1:Int))))]) (Hp.mk [(0,O.rows 3 true (itl l))] 1 [])))))) (R (V.tup [V.lst 3 (sub (itl l) 0 l.length),bv ((↑(itl o).length:Int)==(0:Int))]))) (by kernel_rfl) ?_
   rw [itl_length,itl_length,itl_take,hw]
   refine ifB_t (by simpa using hlt) ?_
   refine onSome_mk (x:=itm x) (by simp [itl,hx]) (onCons_cons (onIntK_iv (onCons_cons (onIntK_u8 (onCons_cons (onIntK_iv ?_))))))
   have fin : ∀ p:Int×List It,takeF x o=p → ∀ (m:Int) (o' : List (List V)),m=p.1→o' = itl p.2→ifB (decide (m<0)) (R (V.tup [nilS,bv false])) (ifB (decide (m > 0)) (need ((l.length+1) * 24≤140737488355328) (J (St.mk (mkT [(1,V.lst 3 o'),(6,V.sl (Id.p 0) 0 (l.length+1)),(9,V.lst 3 (itl a)),(10,iv (a.length:Int)),(11,iv ((k+1:Nat):Int))]) (Hp.mk [(0,O.rows 3 true (itl l++[[iv x.1,V.raw (Value.int IntKind.u8 x.2.1),iv m]]))] 1 [])))) (J (St.mk (mkT [(1,V.lst 3 o'),(6,V.sl (Id.p 0) 0 l.length),(9,V.lst 3 (itl a)),(10,iv (a.length:Int)),(11,iv ((k+1:Nat):Int))]) (Hp.mk [(0,O.rows 3 true (itl l))] 1 [])))):=by
    rintro p hp m o' rfl rfl
    refine ifB_mk (fun hc=>bad p hp (of_decide_eq_true hc)) (fun hc=>?_)
    have g:=go p hp (of_decide_eq_false hc)
    refine ifB_mk (fun hd=>need_mk ⟨by omega,?_⟩) (fun hd=>?_)
    ·rw [show keepF x p.1=[(x.1,x.2.1,p.1)] from if_pos (of_decide_eq_true hd),sh43_b (by simp)] at g
     exact hJ' (by simp [sh43b,itl,itm,u8v]) g
    ·rw [show keepF x p.1=[] from if_neg (of_decide_eq_false hd),List.append_nil,sh43_b hl] at g
     exact hJ' (by simp [sh43b,itl_length]) g
   refine ifB_mk (fun ho=>?_) (fun ho=>?_)
   ·obtain ⟨y,t,rfl⟩ : ∃ y t,o=y::t:=by cases o with | nil=>simp at ho | cons y t=>exact ⟨y,t,rfl⟩
    refine onSome_mk (x:=itm y) (by simp [itl]) (onCons_cons (onIntK_iv (onCons_cons (onIntK_u8 (onCons_cons (onIntK_iv ?_))))))
    refine ifB_mk (fun he=>?_) (fun he=>?_)
    ·refine onSome_mk (x:=itm y) (by simp [itl]) (onSome_mk (x:=iv y.2.2) rfl (onIntK_iv (need_mk ⟨Nat.le_refl _,need_mk ⟨by simp,?_⟩⟩)))
     have hy:=h1 y (by simp)
     rw [wr (by have:=hxm.1; have:=hy.2; omega) (by have:=hxm.2; have:=hy.1; omega)]
     exact fin (x.2.2 - y.2.2,t) (if_pos (eqP.1 he)) _ _ rfl (by rw [show itl (y::t)=itm y::itl t from rfl,← itl_length (y::t)]; exact sub_tl _ _)
    ·exact fin (x.2.2,y::t) (if_neg (fun e=>by rw [eqP.2 e] at he; cases he)) _ _ rfl rfl
   ·obtain rfl:o=[]:=by cases o with | nil=>rfl | cons y t=>simp at ho
    exact fin (x.2.2,[]) rfl _ _ rfl rfl
 ·have hd:a.drop k=[]:=List.drop_eq_nil_of_le (by omega)
  rw [hd] at h4
  simp only [restF,Option.map_some,List.append_nil] at h4
  rw [h4] at h
  by_cases hl:l=[]
  ·subst hl
   refine see (p:=ifB (decide ((↑k:Int)<(↑(itl a).length:Int))) (onSome (itl a)[k]? fun row=>onCons (List.drop 0 row) fun u r=>onIntK IntKind.i64 u fun n=>onCons r fun u r=>onIntK IntKind.u8 u fun n_1=>onCons r fun u r=>onIntK IntKind.i64 u fun n_2=>ifB (decide ((↑(itl o).length:Int) > (0:Int))) (onSome (itl o)[0]? fun row=>onCons (List.drop 0 row) fun u r=>onIntK IntKind.i64 u fun n_3=>onCons r fun u r=>onIntK IntKind.u8 u fun n_4=>onCons r fun u r=>onIntK IntKind.i64 u fun n_5=>ifB (n_3==n&&(fun b=>n_4==n_1&&b) true) (onSome (itl o)[0]? fun row=>onSome row[2]? fun v=>onIntK IntKind.i64 v fun n_6=>need ((itl o).length≤(itl o).length) (need (1≤(itl o).length) (ifB (decide (IntKind.i64.wrap (n_2 - n_6)<(0:Int))) (R (V.tup [nilS,bv false])) (ifB (decide (IntKind.i64.wrap (n_2 - n_6) > (0:Int))) (J (St.mk (mkT [(1,V.lst 3 (sub (itl o) 1 ((itl o).length - 1))),(6,V.sl (Id.p 0) 0 1),(9,V.lst 3 (itl a)),(10,iv (↑(itl a).length:Int)),(11,iv (IntKind.i64.wrap ((↑k:Int)+(1:Int))))]) (Hp.mk [(0,O.rows 3 true [[iv n,V.raw (Value.int IntKind.u8 n_1),iv (IntKind.i64.wrap (n_2 - n_6))]])] 1 []))) (J (St.mk (mkT [(1,V.lst 3 (sub (itl o) 1 ((itl o).length - 1))),(6,nilS),(9,V.lst 3 (itl a)),(10,iv (↑(itl a).length:Int)),(11,iv (IntKind.i64.wrap ((↑k:Int)+(1:Int))))]) (Hp.mk [] 0 []))))))) (ifB (decide (n_2<(0:Int))) (R (V.tup [nilS,bv false])) (ifB (decide (n_2 > (0:Int))) (J (St.mk (mkT [(1,V.lst 3 (itl o)),(6,V.sl (Id.p 0) 0 1),(9,V.lst 3 (itl a)),(10,iv (↑(itl a).length:Int)),(11,iv (IntKind.i64.wrap ((↑k:Int)+(1:Int))))]) (Hp.mk [(0,O.rows 3 true [[iv n,V.raw (Value.int IntKind.u8 n_1),iv n_2]])] 1 []))) (J (St.mk (mkT [(1,V.lst 3 (itl o)),(6,nilS),(9,V.lst 3 (itl a)),(10,iv (↑(itl a).length:Int)),(11,iv (IntKind.i64.wrap ((↑k:Int)+(1:Int))))]) (Hp.mk [] 0 [])))))) (ifB (decide (n_2<(0:Int))) (R (V.tup [nilS,bv false])) (ifB (decide (n_2 > (0:Int))) (J (St.mk (mkT [(1,V.lst 3 (itl o)),(6,V.sl (Id.p 0) 0 1),(9,V.lst 3 (itl a)),(10,iv (↑(itl a).length:Int)),(11,iv (IntKind.i64.wrap ((↑k:Int)+(1:Int))))]) (Hp.mk [(0,O.rows 3 true [[iv n,V.raw (Value.int IntKind.u8 n_1),iv n_2]])] 1 []))) (J (St.mk (mkT [(1,V.lst 3 (itl o)),(6,nilS),(9,V.lst 3 (itl a)),(10,iv (↑(itl a).length:Int)),(11,iv (IntKind.i64.wrap ((↑k:Int)+(1:Int))))]) (Hp.mk [] 0 [])))))) (R (V.tup [nilS,bv ((↑(itl o).length:Int)==(0:Int))]))) (by kernel_rfl) ?_
   rw [itl_length,itl_length]
   refine ifB_f (by simpa using hlt) ?_
   have:((o.length:Int)==0)=o.isEmpty:=by cases o <;> simp; omega
   rw [this]; exact h
  ·rw [sh43_b hl]
   refine see (p:=ifB (decide ((↑k:Int)<(↑(itl a).length:Int))) (onSome (itl a)[k]? fun row=>onCons (List.drop 0 row) fun u r=>onIntK IntKind.i64 u fun n=>onCons r fun u r=>onIntK IntKind.u8 u fun n_1=>onCons r fun u r=>onIntK IntKind.i64 u fun n_2=>ifB (decide ((↑(itl o).length:Int) > (0:Int))) (onSome (itl o)[0]? fun row=>onCons (List.drop 0 row) fun u r=>onIntK IntKind.i64 u fun n_3=>onCons r fun u r=>onIntK IntKind.u8 u fun n_4=>onCons r fun u r=>onIntK IntKind.i64 u fun n_5=>ifB (n_3==n&&(fun b=>n_4==n_1&&b) true) (onSome (itl o)[0]? fun row=>onSome row[2]? fun v=>onIntK IntKind.i64 v fun n_6=>need ((itl o).length≤(itl o).length) (need (1≤(itl o).length) (ifB (decide (IntKind.i64.wrap (n_2 - n_6)<(0:Int))) (R (V.tup [nilS,bv false])) (ifB (decide (IntKind.i64.wrap (n_2 - n_6) > (0:Int))) (need ((l.length+1) * 24≤140737488355328) (J (St.mk (mkT [(1,V.lst 3 (sub (itl o) 1 ((itl o).length - 1))),(6,V.sl (Id.p 0) 0 (l.length+1)),(9,V.lst 3 (itl a)),(10,iv (↑(itl a).length:Int)),(11,iv (IntKind.i64.wrap ((↑k:Int)+(1:Int))))]) (Hp.mk [(0,O.rows 3 true (List.take l.length (itl l)++[[iv n,V.raw (Value.int IntKind.u8 n_1),iv (IntKind.i64.wrap (n_2 - n_6))]]))] 1 [])))) (J (St.mk (mkT [(1,V.lst 3 (sub (itl o) 1 ((itl o).length - 1))),(6,V.sl (Id.p 0) 0 l.length),(9,V.lst 3 (itl a)),(10,iv (↑(itl a).length:Int)),(11,iv (IntKind.i64.wrap ((↑k:Int)+(1:Int))))]) (Hp.mk [(0,O.rows 3 true (itl l))] 1 []))))))) (ifB (decide (n_2<(0:Int))) (R (V.tup [nilS,bv false])) (ifB (decide (n_2 > (0:Int))) (need ((l.length+1) * 24≤140737488355328) (J (St.mk (mkT [(1,V.lst 3 (itl o)),(6,V.sl (Id.p 0) 0 (l.length+1)),(9,V.lst 3 (itl a)),(10,iv (↑(itl a).length:Int)),(11,iv (IntKind.i64.wrap ((↑k:Int)+(1:Int))))]) (Hp.mk [(0,O.rows 3 true (List.take l.length (itl l)++[[iv n,V.raw (Value.int IntKind.u8 n_1),iv n_2]]))] 1 [])))) (J (St.mk (mkT [(1,V.lst 3 (itl o)),(6,V.sl (Id.p 0) 0 l.length),(9,V.lst 3 (itl a)),(10,iv (↑(itl a).length:Int)),(11,iv (IntKind.i64.wrap ((↑k:Int)+(1:Int))))]) (Hp.mk [(0,O.rows 3 true (itl l))] 1 [])))))) (ifB (decide (n_2<(0:Int))) (R (V.tup [nilS,bv false])) (ifB (decide (n_2 > (0:Int))) (need ((l.length+1) * 24≤140737488355328) (J (St.mk (mkT [(1,V.lst 3 (itl o)),(6,V.sl (Id.p 0) 0 (l.length+1)),(9,V.lst 3 (itl a)),(10,iv (↑(itl a).length:Int)),(11,iv (IntKind.i64.wrap ((↑k:Int)+(1:Int))))]) (Hp.mk [(0,O.rows 3 true (List.take l.length (itl l)++[[iv n,V.raw (Value.int IntKind.u8 n_1),iv n_2]]))] 1 [])))) (J (St.mk (mkT [(1,V.lst 3 (itl o)),(6,V.sl (Id.p 0) 0 l.length),(9,V.lst 3 (itl a)),(10,iv (↑(itl a).length:Int)),(11,iv (IntKind.i64.wrap ((↑k:Int)+(1:Int))))]) (Hp.mk [(0,O.rows 3 true (itl l))] 1 [])))))) (R (V.tup [V.lst 3 (sub (itl l) 0 l.length),bv ((↑(itl o).length:Int)==(0:Int))]))) (by kernel_rfl) ?_
   rw [itl_length,itl_length]
   refine ifB_f (by simpa using hlt) ?_
   have:((o.length:Int)==0)=o.isEmpty:=by cases o <;> simp; omega
   rw [this,← itl_length l,sub_all,← lsI_b hl]; exact h
def bl8 (s:Nat):List Nat:=(List.range 8).filter fun i=>s.testBit i
theorem bl8_step : ∀ s,s<256→s≠0→bl8 s=fi s::bl8 (wo s (fi s)):=by decide +kernel
theorem wo_256 {s n:Nat} (h:s<256):wo s n<256:=by have:=wo_le s n; omega
theorem nn_length (l:List Nat):(nn l).length=l.length:=by simp [nn]
theorem nn_take (l:List Nat):List.take l.length (nn l)=nn l:=by rw [← nn_length]; exact List.take_length
theorem sh90_b {s:Nat} {l:List Nat} (h:l≠[]):sh90 (s,l)=sh90b s l:=by cases l with | nil=>exact (h rfl).elim | cons x r=>rfl
theorem lsN_b {l:List Nat} (h:l≠[]):lsN l = .lst 1 (nn l):=by cases l with | nil=>exact (h rfl).elim | cons x r=>rfl
theorem list90 {s:Nat} {R:V→Prop} (hs:s<256) (h:R (lsN (bl8 s))):K0G Tryz.prog glX 40 [sv s] R:=by
 refine K0_of_WY0 hmX hcM 300 Tryz.func40 (see (p:=La 0 [(0:Tmp),(3:Tmp)] (WY Tryz.prog cfM 295 (Env.mk (Bs.mk 0 []) 0 none 16 40 0) (cdAt [1,1,0,0,0] (bodyOf Tryz.f40))) (Qblk 0 (Qthen (WY Tryz.prog cfM 297 (Env.mk (Bs.mk 0 []) 0 none 16 40 0) (cdAt [1,1,1] (bodyOf Tryz.f40)) (QendX Tryz.prog Tryz.f40 fun v h=>R (frzW h v))) (QendX Tryz.prog Tryz.f40 fun v h=>R (frzW h v)))) (St.mk (mkT [(0,V.raw (Value.int IntKind.u8 (↑s:Int))),(3,nilS)]) (Hp.mk [] 0 []))) (by kernel_rfl) ?_)
 refine La.of (σ:=Nat×List Nat) sh90 (fun s' => s'.1<256∧bl8 s=s'.2++bl8 s'.1) (fun s' => s'.1) (s,[]) (by kernel_rfl) ⟨hs,by simp⟩ ?_
 rintro ⟨t,l⟩ ⟨h1,h2⟩ J hJ
 simp only at h1 h2
 have hll:l.length≤8:=by
  have e:(bl8 s).length≤8:=by have:=List.length_filter_le (fun i=>s.testBit i) (List.range 8); simpa [bl8] using this
  rw [h2,List.length_append] at e
  omega
 have hz:t=0→R (lsN l):=by
  rintro rfl
  have:bl8 0=[]:=by decide
  rw [this,List.append_nil] at h2
  rw [← h2]; exact h
 have go:t≠0→J (sh90 (wo t (fi t),l++[fi t])):=fun ht=>hJ (_,_) ⟨wo_256 h1,by simp only; rw [h2,bl8_step t h1 ht,List.append_assoc]; rfl⟩ (wo_lt (fi_bit t h1 ht).2)
 by_cases hl:l=[]
 ·subst hl
  refine see (p:=ifB ((↑t:Int) != (0:Int)) (K0G Tryz.prog glX 45 [V.raw (Value.int IntKind.u8 (↑t:Int))] fun v=>onIntK IntKind.i64 v fun n=>K0G Tryz.prog glX 45 [V.raw (Value.int IntKind.u8 (↑t:Int))] fun v=>onIntK IntKind.i64 v fun n_1=>K0G Tryz.prog glX 70 [V.raw (Value.int IntKind.u8 (↑t:Int)),iv n_1] fun v=>onIntK IntKind.u8 v fun n_2=>J (St.mk (mkT [(0,V.raw (Value.int IntKind.u8 n_2)),(3,V.sl (Id.p 0) 0 1)]) (Hp.mk [(0,O.rows 1 true [[iv n]])] 1 []))) (R nilS)) (by kernel_rfl) ?_
  refine ifB_mk (fun hc=>?_) (fun hc=>hz (by simpa using hc))
  have ht:t≠0:=by simpa using hc
  refine first45 h1 (onIntK_iv (first45 h1 (onIntK_iv (without70 h1 (fi_bit t h1 ht).1 (onIntK_u8 ?_)))))
  exact hJ' (by simp [sh90,sh90b,nn,sv,u8v]) (go ht)
 ·rw [sh90_b hl]
  refine see (p:=ifB ((↑t:Int) != (0:Int)) (K0G Tryz.prog glX 45 [V.raw (Value.int IntKind.u8 (↑t:Int))] fun v=>onIntK IntKind.i64 v fun n=>need ((l.length+1) * 8≤140737488355328) (K0G Tryz.prog glX 45 [V.raw (Value.int IntKind.u8 (↑t:Int))] fun v=>onIntK IntKind.i64 v fun n_1=>K0G Tryz.prog glX 70 [V.raw (Value.int IntKind.u8 (↑t:Int)),iv n_1] fun v=>onIntK IntKind.u8 v fun n_2=>J (St.mk (mkT [(0,V.raw (Value.int IntKind.u8 n_2)),(3,V.sl (Id.p 0) 0 (l.length+1))]) (Hp.mk [(0,O.rows 1 true (List.take l.length (nn l)++[[iv n]]))] 1 [])))) (R (V.lst 1 (sub (nn l) 0 l.length)))) (by kernel_rfl) ?_
  rw [nn_take]
  refine ifB_mk (fun hc=>?_) (fun hc=>?_)
  ·have ht:t≠0:=by simpa using hc
   refine first45 h1 (onIntK_iv (need_mk ⟨by omega,first45 h1 (onIntK_iv (without70 h1 (fi_bit t h1 ht).1 (onIntK_u8 ?_)))⟩))
   have g:=go ht
   rw [sh90_b (by simp)] at g
   exact hJ' (by simp [sh90b,nn,sv,u8v]) g
  ·have:=hz (by simpa using hc)
   rw [← nn_length l,sub_all,← lsN_b hl]; exact this
theorem hcI:cfI.ok Tryz.prog:=⟨hcM.c0,hcM.known⟩
theorem K0_args {P:Program} {G:Nat→Option (List V)} {f:FuncId} {args args' : List V} {R:V→Prop} (h:K0G P G f args R) (hr : ∀ F w xs,riL F w args' xs→riL F w args xs):K0G P G f args' R:=fun F w xs g1 g2 g3=>h F w xs g1 g2 (hr F w xs g3)
theorem riL_d {F:Nat→Prop} {w:World} {d:Nat} {l:List It} {r:List V} {xs:List Value} (h:d=3∨l=[]) (hx:riL F w (.lst d (itl l)::r) xs):riL F w (.lst 3 (itl l)::r) xs:=by
 rcases h with rfl | rfl
 ·exact hx
 ·simpa [riL,ri,itl,riRows] using hx
theorem pll_get {w:List (List It)} {i:Nat} {l:List It} {k:Nat→List (List V)→Prop} (h:w[i]? = some l) (hk:k 3 (itl l)):onSome (pll w)[i]? fun row=>onSome row[0]? fun v=>onLst v fun s es=>k s es:=onSome_mk (by simp [pll,h]:(pll w)[i]? = some [.lst 3 (itl l)]) hk
theorem iel {l:List Int} {i:Nat} {x:Int} {k:Int→Prop} (h:l[i]? = some x) (hk:k x):onSome (nl l)[i]? fun row=>onSome row[0]? fun v=>onIntK IntKind.i64 v fun n=>k n:=onSome_mk (by simp [nl,h]:(nl l)[i]? = some [iv x]) hk
theorem nel {l:List Nat} {i:Nat} {x:Nat} {k:Int→Prop} (h:l[i]? = some x) (hk:k x):onSome (nn l)[i]? fun row=>onSome row[0]? fun v=>onIntK IntKind.i64 v fun n=>k n:=onSome_mk (by simp [nn,h]:(nn l)[i]? = some [iv (x:Int)]) hk
theorem onNat_c {m:Nat} {k:Nat→Prop} (h:k m):onNat (m:Int) k:=onNat_mk rfl h
def isL (v:V) (d:Nat) (es:List (List V)):Prop:=(v=nilS∧d=0∧es=[])∨v = .lst d es
theorem onLst_isL {v:V} {d:Nat} {es:List (List V)} {k:Nat→List (List V)→Prop} (h:isL v d es) (hk:k d es):onLst v k:=by
 rcases h with ⟨rfl,rfl,rfl⟩ | rfl
 ·exact onLst_nil hk
 ·exact onLst_lst hk
theorem lsN_isL (l:List Nat) : ∃ d,(d=1∨l=[])∧isL (lsN l) d (nn l):=by cases l with | nil=>exact ⟨0,.inr rfl,.inl ⟨rfl,rfl,rfl⟩⟩ | cons x r=>exact ⟨1,.inl rfl,.inr rfl⟩
theorem lsI_isL (l:List It) : ∃ d,(d=3∨l=[])∧isL (lsI l) d (itl l):=by cases l with | nil=>exact ⟨0,.inr rfl,.inl ⟨rfl,rfl,rfl⟩⟩ | cons x r=>exact ⟨3,.inl rfl,.inr rfl⟩
theorem clone122 {bx:List It} {R:V→Prop} (hl:bx.length≤1000000) (h : ∀ v d,isL v d (itl bx)→(d=3∨bx=[])→R v):K0G Tryz.prog glX 86 [.lst 3 (itl bx)] R:=by
 refine K0_of_WY0 hmX hcM 300 Tryz.func86 (see (p:=nilN (itl bx).length fun b=>ifB b (R nilS) (need ((0+(itl bx).length) * 24≤140737488355328) (R (V.lst 3 (sub ([]++itl bx) 0 (0+(itl bx).length)))))) (by kernel_rfl) ?_)
 have hR:R (V.lst 3 (sub ([]++itl bx) 0 (0+(itl bx).length))):=by rw [List.nil_append,Nat.zero_add,sub_all]; exact h _ 3 (.inr rfl) (.inl rfl)
 have hn:(0+(itl bx).length) * 24≤140737488355328:=by rw [itl_length]; omega
 refine nilN_mk (fun hz=>ifB_mk (fun _=>?_) (fun hb=>by cases hb)) (ifB_mk (fun hb=>by cases hb) (fun _=>need_mk ⟨hn,hR⟩))
 have hb:bx=[]:=by rw [itl_length] at hz; exact List.eq_nil_of_length_eq_zero hz
 exact h _ 0 (.inl ⟨rfl,rfl,by rw [hb]; rfl⟩) (.inr hb)
def choF (plans:List (List It)) (vals:List Int):List Nat→Int→List It→Option (Int×List It)
 | [],v,l=>some (v,l)
 | i::q,v,l=>match restF l (plans.getD i []) with
  | some (m,[])=>choF plans vals q (v+vals.getD i 0) m
  | _=>none
def choV (s:Nat) (d:Nat):Option (Int×List It)→V
 | none => .tup [.agg [sv 0,iv 0,nilS],bv false]
 | some (v,l) => .tup [.agg [sv s,iv v,.lst d (itl l)],bv true]
def Plok (plans:List (List It)):Prop := ∀ p∈plans, ∀ x∈p,Nok x
def Vaok (vals:List Int):Prop := ∀ v∈vals,0≤v∧v≤1000000
theorem keepF_ok {x:It} {n:Int} (h:n≤1000000) : ∀ y∈keepF x n,Nok y:=by
 unfold keepF
 split
 ·intro y hy
  simp only [List.mem_singleton] at hy
  subst hy
  exact ⟨by simp only; omega,h⟩
 ·intro y hy; cases hy
theorem restF_ok : ∀ {a o l p:List It},(∀ x∈a,Nok x)→(∀ x∈o,Nok x)→restF a o=some (l,p)→(∀ x∈l,Nok x)∧l.length≤a.length
 | [],o,l,p,ha,ho,h=>by simp only [restF,Option.some.injEq,Prod.mk.injEq] at h; obtain ⟨rfl,rfl⟩:=h; simp
 | x::a,o,l,p,ha,ho,h=>by
  simp only [restF] at h
  have hx:=takeF_ok (ha x (by simp)) ho
  split at h
  ·cases h
  ·cases hr:restF a (takeF x o).2 with
   | none=>rw [hr] at h; cases h
   | some q =>
    rw [hr] at h
    simp only [Option.map_some,Option.some.injEq,Prod.mk.injEq] at h
    obtain ⟨rfl,rfl⟩:=h
    obtain ⟨g1,g2⟩:=restF_ok (fun y hy=>ha y (by simp [hy])) hx.2.2 (show restF a (takeF x o).2=some (q.1,q.2) from hr)
    refine ⟨fun y hy=>?_,?_⟩
    ·rcases List.mem_append.1 hy with hy | hy
     ·exact keepF_ok hx.2.1 y hy
     ·exact g1 y hy
    ·have:(keepF x (takeF x o).1).length≤1:=by unfold keepF; split <;> simp
     simp only [List.length_append,List.length_cons]
     omega
theorem getPl {plans:List (List It)} {i:Nat} (h:i<plans.length):plans[i]? = some (plans.getD i []):=by simp [List.getD,h]
theorem getVa {l:List Int} {i:Nat} (h:i<l.length):l[i]? = some (l.getD i 0):=by simp [List.getD,h]
theorem bl8_len (s:Nat):(bl8 s).length≤8:=by
 have:=List.length_filter_le (fun i=>s.testBit i) (List.range 8)
 simpa [bl8] using this
theorem choose98 {bx:List It} {plans:List (List It)} {vals:List Int} {s:Nat} {R:V→Prop} (hs:s<256) (hbx : ∀ x∈bx,Nok x) (hlb:bx.length≤1000000) (hp:Plok plans) (hva:Vaok vals) (hlv:vals.length=plans.length) (hin : ∀ i∈bl8 s,i<plans.length)
  (h : ∀ d,(d=3 ∨ ∃ v,choF plans vals (bl8 s) 0 bx=some (v,[]))→R (choV s d (choF plans vals (bl8 s) 0 bx))):K0G Tryz.prog glX 63 [.lst 3 (itl bx),.lst 1 (pll plans),.lst 1 (nl vals),sv s] R:=by
 refine K0_of_WY0 hmX hcM 3000 Tryz.func63 (see (p:=K0G Tryz.prog glX 86 [V.lst 3 (itl bx)] fun v=>onLst v fun s_1 es=>K0G Tryz.prog glX 40 [V.raw (Value.int IntKind.u8 (↑s:Int))] fun v=>onLst v fun s_2 es_1=>La 0 [(1:Tmp),(2:Tmp),(8:Tmp),(10:Tmp),(20:Tmp),(21:Tmp),(22:Tmp)] (WY Tryz.prog cfM 2994 (Env.mk (Bs.mk 0 []) 0 none 51 63 0) (cdAt [1,1,0,1,0,0] (bodyOf Tryz.f63))) (Qblk 0 (Qthen (WY Tryz.prog cfM 2997 (Env.mk (Bs.mk 0 []) 0 none 51 63 0) (cdAt [1,1,1] (bodyOf Tryz.f63)) (QendX Tryz.prog Tryz.f63 fun v h=>R (frzW h v))) (QendX Tryz.prog Tryz.f63 fun v h=>R (frzW h v)))) (St.mk (mkT [(1,V.lst 1 (pll plans)),(2,V.lst 1 (nl vals)),(8,V.ptr (Id.p 0) 0 0),(10,V.ptr (Id.p 1) 0 0),(20,V.lst s_2 es_1),(21,iv (↑es_1.length:Int)),(22,iv (0:Int))]) (Hp.mk [(0,O.rows 3 false [[V.raw (Value.int IntKind.u8 (0:Int)),iv (0:Int),nilS]]),(1,O.rows 3 false [[V.raw (Value.int IntKind.u8 (↑s:Int)),iv (0:Int),V.lst s_1 es]])] 2 []))) (by kernel_rfl) ?_)
 refine clone122 hlb (fun v0 d0 hv0 hd0=>onLst_isL hv0 ?_)
 obtain ⟨d1,hd1,hN⟩:=lsN_isL (bl8 s)
 refine list90 hs (onLst_isL hN ?_)
 have hq8:=bl8_len s
 generalize hq:bl8 s=q at h hin hq8 hd1
 refine La.of (σ:=Int×List It×Nat×Nat) (fun x=>sh98 plans vals d1 (nn q) s x.1 (itl x.2.1) x.2.2.1 x.2.2.2) (fun x=>(∀ y∈x.2.1,Nok y)∧x.2.1.length≤1000000∧(x.2.2.1=3∨x.2.1=[])∧x.2.2.2≤q.length∧0≤x.1∧x.1≤(x.2.2.2:Int) * 1000000∧choF plans vals q 0 bx=choF plans vals (q.drop x.2.2.2) x.1 x.2.1) (fun x=>q.length - x.2.2.2) (0,bx,d0,0) (by kernel_rfl) ⟨hbx,hlb,hd0,by simp,by simp,by simp,by simp⟩ ?_
 rintro ⟨v,l,d,k⟩ ⟨h1,h2,h3,h4,h5,h6,h7⟩ J hJ
 simp only at h1 h2 h3 h4 h5 h6 h7
 refine see (p:=ifB (decide ((↑k:Int)<(↑(nn q).length:Int))) (need (d1=1) (onSome (nn q)[k]? fun row=>onSome row[0]? fun v_1=>onIntK IntKind.i64 v_1 fun n=>onNat n fun m=>onSome (pll plans)[m]? fun row=>onSome row[0]? fun v_2=>onLst v_2 fun s_2 es=>K0G Tryz.prog glX 87 [V.lst d (itl l),V.lst s_2 es] fun v_3=>onTup v_3 fun vs=>onCons vs fun u r=>onLst u fun s_3 es=>onCons r fun u r=>onBool u fun b=>onNil r (ifB (!b) (R (V.tup [V.agg [V.raw (Value.int IntKind.u8 (0:Int)),iv (0:Int),nilS],bv false])) (onNat n fun m=>onSome (nl vals)[m]? fun row=>onSome row[0]? fun v_4=>onIntK IntKind.i64 v_4 fun n=>J (St.mk (mkT [(1,V.lst 1 (pll plans)),(2,V.lst 1 (nl vals)),(8,V.ptr (Id.p 0) 0 0),(10,V.ptr (Id.p 1) 0 0),(20,V.lst d1 (nn q)),(21,iv (↑(nn q).length:Int)),(22,iv (IntKind.i64.wrap ((↑k:Int)+(1:Int))))]) (Hp.mk [(0,O.rows 3 false [[V.raw (Value.int IntKind.u8 (0:Int)),iv (0:Int),nilS]]),(1,O.rows 3 false [[V.raw (Value.int IntKind.u8 (↑s:Int)),iv (IntKind.i64.wrap (v+n)),V.lst s_3 es]])] 2 [])))))) (R (V.tup [V.agg [V.raw (Value.int IntKind.u8 (↑s:Int)),iv v,V.lst d (itl l)],bv true]))) (by kernel_rfl) ?_
 rw [nn_length]
 refine ifB_mk (fun hb=>?_) (fun hb=>?_)
 ·have hlt:k<q.length:=by have:=of_decide_eq_true hb; omega
  obtain ⟨i,hi⟩ : ∃ i,q[k]? = some i:=⟨q[k],by simp [hlt]⟩
  have hip:i<plans.length:=hin i (List.mem_of_getElem? hi)
  have hd:q.drop k=i::q.drop (k+1):=by
   rw [List.drop_eq_getElem_cons hlt]; congr 1; simpa [hlt] using hi
  rw [hd] at h7
  simp only [choF] at h7
  refine need_mk ⟨hd1.resolve_right (by rintro rfl; simp at hlt),?_⟩
  refine nel hi ?_
  refine onNat_c (pll_get (getPl hip) ?_)
  have hpi : ∀ x∈plans.getD i [],Nok x:=hp _ (List.mem_of_getElem? (getPl hip))
  refine K0_args (rest43 h1 hpi h2 ?_) (fun F w xs hx=>riL_d h3 hx)
  cases hr:restF l (plans.getD i []) with
  | none =>
   rw [hr] at h7
   have g:=h 3 (.inl rfl)
   rw [h7] at g
   exact onTup_tup (onCons_cons (onLst_nil (onCons_cons (onBool_bv (onNil_nil (ifB_t rfl g))))))
  | some p =>
   obtain ⟨m,o⟩:=p
   rw [hr] at h7
   obtain ⟨d', hd', hN'⟩:=lsI_isL m
   refine onTup_tup (onCons_cons (onLst_isL hN' (onCons_cons (onBool_bv (onNil_nil ?_)))))
   cases o with
   | cons y o =>
    simp only at h7
    have g:=h 3 (.inl rfl)
    rw [h7] at g
    exact ifB_t rfl g
   | nil =>
    simp only at h7
    refine ifB_f rfl (onNat_c (iel (getVa (by omega)) ?_))
    obtain ⟨m1,m2⟩:=restF_ok h1 hpi hr
    have hv:=hva _ (List.mem_of_getElem? (getVa (l:=vals) (i:=i) (by omega)))
    rw [wr1i hlt (by omega),wr (by omega) (by omega)]
    refine hJ' ?_ (hJ (v+vals.getD i 0,m,d', k+1) ⟨m1,by simp only; omega,hd', by simp only; omega,by simp only; omega,by simp only; omega,h7⟩ (by simp only; omega))
    simp [sh98,nn_length,sv,u8v]
 ·have hk:q.drop k=[]:=List.drop_eq_nil_of_le (by have:=of_decide_eq_false hb; omega)
  rw [hk] at h7
  simp only [choF] at h7
  have g:=h d (by rw [h7]; rcases h3 with h3 | rfl; exact .inl h3; exact .inr ⟨v,rfl⟩)
  rw [h7] at g
  exact g
def erC (c:Ch):Nat×Int×List It:=(c.1,c.2.1,c.2.2.1)
def choS (bx:List It) (plans:List (List It)) (vals:List Int) (N:Nat):List (Nat×Int×List It):=(List.range N).filterMap fun s=>(choF plans vals (bl8 s) 0 bx).map fun p=>(s,p.1,p.2)
theorem choS_succ (bx:List It) (plans:List (List It)) (vals:List Int) (N:Nat):choS bx plans vals (N+1)=choS bx plans vals N++((choF plans vals (bl8 N) 0 bx).map fun p=>(N,p.1,p.2)).toList:=by
 unfold choS
 rw [List.range_succ,List.filterMap_append]
 congr 1
theorem u8w : ∀ s,s<256→IntKind.u8.wrap ((s:Nat):Int)=((s:Nat):Int):=by decide +kernel
theorem pow64 : ∀ n,n<9→IntKind.i64.wrap ((1:Int) * (2:Int) ^ min ((n:Nat):Int).toNat 64)=((2 ^ n:Nat):Int):=by decide +kernel
theorem pll_length (w:List (List It)):(pll w).length=w.length:=by simp [pll]
theorem chl_length (l:List Ch):(chl l).length=l.length:=by simp [chl]
theorem chl_take (l:List Ch):List.take l.length (chl l)=chl l:=by rw [← chl_length]; exact List.take_length
theorem sh51_b {bx:List It} {plans:List (List It)} {vals:List Int} {N i:Nat} {cs:List Ch} (h:cs≠[]):sh51 bx plans vals N (i,cs)=sh51b bx plans vals N i cs:=by cases cs with | nil=>exact (h rfl).elim | cons x r=>rfl
theorem bl8_lt {s n i:Nat} (hs:s<2 ^ n) (h:i∈bl8 s):i<n:=by
 simp only [bl8,List.mem_filter] at h
 have:=Nat.ge_two_pow_of_testBit h.2
 exact (Nat.pow_lt_pow_iff_right (a:=2) (by omega)).1 (by omega)
theorem eq51 (bx:List It) (plans:List (List It)) (vals:List Int) (R:V→Prop):(La 6 [(0:Tmp),(5:Tmp),(6:Tmp)] (WY Tryz.prog cfI 2991 (Env.mk (Bs.mk 0 (spared [] [V.yl (Id.p 5),V.ptr (Id.p 4) 0 0]++[])) 6 none 15 85 0) (cdAt [1,0,0] (bodyOf Tryz.f85))) (Qblk 0 (QendX Tryz.prog Tryz.f85 fun v h' => kontY (WY Tryz.prog cfI 2994) (Env.mk (Bs.mk 0 []) 0 none 29 32 0) (Qblk 0 (Qthen (WY Tryz.prog cfI 2997 (Env.mk (Bs.mk 0 []) 0 none 29 32 0) (cdAt [1,1,1] (bodyOf Tryz.f32)) (QendX Tryz.prog Tryz.f32 fun v h=>R (frzW h v))) (QendX Tryz.prog Tryz.f32 fun v h=>R (frzW h v)))) (mkT [(0,V.lst 3 (itl bx)),(1,V.lst 1 (pll plans)),(2,V.lst 1 (nl vals)),(3,V.ptr (Id.p 0) 0 0),(4,V.ptr (Id.p 1) 0 0),(5,V.ptr (Id.p 2) 0 0),(6,nilS),(7,V.ptr (Id.p 3) 0 0),(11,V.lst 1 (pll plans)),(12,iv (↑(pll plans).length:Int)),(13,V.fn (Fn.func 85) [] [V.ptr (Id.p 4) 0 0])]) 5 v (bif cfI.clean 85 then gcH 6 v h' else h'))) (St.mk (mkT [(0,V.yl (Id.p 5)),(5,iv (IntKind.i64.wrap ((1:Int) * (2:Int) ^ min (↑(pll plans).length:Int).toNat 64))),(6,iv (0:Int))]) (Hp.mk [(5,O.lp (Lr.mk LoopState.ready none (mkT [(0,V.lst 3 (itl bx)),(1,V.lst 1 (pll plans)),(2,V.lst 1 (nl vals)),(3,V.ptr (Id.p 0) 0 0),(4,V.ptr (Id.p 1) 0 0),(5,V.ptr (Id.p 2) 0 0),(6,nilS),(7,V.ptr (Id.p 3) 0 0),(11,V.lst 1 (pll plans)),(12,iv (↑(pll plans).length:Int)),(13,V.fn (Fn.func 85) [] [V.ptr (Id.p 4) 0 0])]) 29 (Array.mk [14]) (rfA (cdAt [1,1,0,1,0] (bodyOf Tryz.f32))) (rfB (cdAt [1,1,0,1,0] (bodyOf Tryz.f32))) 32)),(4,O.rows 1 false [[iv (↑(pll plans).length:Int)]]),(3,O.rows 1 false [[nilS]]),(2,O.rows 1 false [[V.lst 1 (nl vals)]]),(1,O.rows 1 false [[V.lst 1 (pll plans)]]),(0,O.rows 1 false [[V.lst 3 (itl bx)]])] 6 [])))=WY0 Tryz.prog cfI 3000 32 Tryz.f32 [.lst 3 (itl bx),.lst 1 (pll plans),.lst 1 (nl vals)] R:=by kernel_rfl
theorem choices51 {bx:List It} {plans:List (List It)} {vals:List Int} {R:V→Prop} (hbx : ∀ x∈bx,Nok x) (hlb:bx.length≤1000000) (hp:Plok plans) (hva:Vaok vals) (hlv:vals.length=plans.length) (h8:plans.length≤8)
  (h : ∀ cs:List Ch,cs.map erC=choS bx plans vals (2 ^ plans.length)→(∀ c∈cs,c.2.2.2=3∨c.2.2.1=[])→cs≠[]→R (.lst 3 (chl cs))):K0G Tryz.prog glX 32 [.lst 3 (itl bx),.lst 1 (pll plans),.lst 1 (nl vals)] R:=by
 refine K0_by hmX hcI 3000 Tryz.func32 (eq51 bx plans vals R) ?_
 have hN:IntKind.i64.wrap ((1:Int) * (2:Int) ^ min ((pll plans).length:Int).toNat 64)=((2 ^ plans.length:Nat):Int):=by rw [pll_length]; exact pow64 _ (by omega)
 rw [hN]
 have h256:2 ^ plans.length≤256:=Nat.pow_le_pow_right (n:=2) (by omega) h8
 have h1p:1≤2 ^ plans.length:=Nat.one_le_two_pow
 generalize hNN:2 ^ plans.length=N at h h256 h1p
 refine La.of (σ:=Nat×List Ch) (fun x=>sh51 bx plans vals N x) (fun x=>x.1≤N∧x.2.length≤x.1∧x.2.map erC=choS bx plans vals x.1 ∧ ∀ c∈x.2,c.2.2.2=3∨c.2.2.1=[]) (fun x=>N - x.1) (0,[]) (by kernel_rfl) ⟨by simp,by simp,by simp [choS],by simp⟩ ?_
 rintro ⟨i,cs⟩ ⟨g1,g2,g3,g4⟩ J hJ
 simp only at g1 g2 g3 g4
 have e0:choS bx plans vals 1=[(0,0,bx)]:=by simp [choS,show bl8 0=[] by decide,choF,List.range_succ]
 have call : ∀ (Q:V→Prop),i<N→(∀ d,(d=3 ∨ ∃ v,choF plans vals (bl8 i) 0 bx=some (v,[]))→Q (choV i d (choF plans vals (bl8 i) 0 bx)))→K0G Tryz.prog glX 63 [V.lst 3 (itl bx),V.lst 1 (pll plans),V.lst 1 (nl vals),V.raw (Value.int IntKind.u8 (IntKind.u8.wrap (i:Int)))] Q:=by
  intro Q hi hq
  rw [u8w i (by omega)]
  exact choose98 (by omega) hbx hlb hp hva hlv (fun j hj=>bl8_lt (by rw [hNN]; exact hi) hj) hq
 have none' : i<N→choF plans vals (bl8 i) 0 bx=none→J (sh51 bx plans vals N (i+1,cs)):=fun hi hn=>hJ (i+1,cs) ⟨by simp only; omega,by simp only; omega,by simp only; rw [g3,choS_succ,hn]; simp,g4⟩ (by simp only; omega)
 have some' : i<N → ∀ v l d,choF plans vals (bl8 i) 0 bx=some (v,l)→(d=3∨l=[])→J (sh51 bx plans vals N (i+1,cs++[(i,v,l,d)])):=fun hi v l d hn hd=>hJ (i+1,cs++[(i,v,l,d)]) ⟨by simp only; omega,by simp only [List.length_append,List.length_singleton]; omega,by simp only; rw [List.map_append,g3,choS_succ,hn]; simp [erC],fun c hc=>by
  rcases List.mem_append.1 hc with hc | hc
  ·exact g4 c hc
  ·simp only [List.mem_singleton] at hc; subst hc; exact hd⟩ (by simp only; omega)
 by_cases hc:cs=[]
 ·subst hc
  refine see (p:=ifB (decide ((↑i:Int)<(↑N:Int))) (K0G Tryz.prog glX 63 [V.lst 3 (itl bx),V.lst 1 (pll plans),V.lst 1 (nl vals),V.raw (Value.int IntKind.u8 (IntKind.u8.wrap (↑i:Int)))] fun v=>onTup v fun vs=>onCons vs fun u r=>onAgg u fun cs=>onCons cs fun u r_1=>onIntK IntKind.u8 u fun n=>onCons r_1 fun u r_2=>onIntK IntKind.i64 u fun n_1=>onCons r_2 fun u r_3=>onLst u fun s es=>onNil r_3 (onCons r fun u r=>onBool u fun b=>onNil r (ifB b (J (St.mk (mkT [(0,V.yl (Id.p 5)),(5,iv (↑N:Int)),(6,iv (IntKind.i64.wrap ((↑i:Int)+(1:Int))))]) (Hp.mk [(5,O.lp (Lr.mk LoopState.ready none (mkT [(0,V.lst 3 (itl bx)),(1,V.lst 1 (pll plans)),(2,V.lst 1 (nl vals)),(3,V.ptr (Id.p 0) 0 0),(4,V.ptr (Id.p 1) 0 0),(5,V.ptr (Id.p 2) 0 0),(6,nilS),(7,V.ptr (Id.p 3) 0 0),(11,V.lst 1 (pll plans)),(12,iv (↑(pll plans).length:Int)),(13,V.fn (Fn.func (85:FuncId)) [] [V.ptr (Id.p 4) 0 0])]) 29 (Array.mk [14]) (rfA (cdAt [1,1,0,1,0] (bodyOf Tryz.f32))) (rfB (cdAt [1,1,0,1,0] (bodyOf Tryz.f32))) 32)),(3,O.rows 1 false [[V.sl (Id.p 6) 0 1]]),(4,O.rows 1 false [[iv (↑(pll plans).length:Int)]]),(2,O.rows 1 false [[V.lst 1 (nl vals)]]),(1,O.rows 1 false [[V.lst 1 (pll plans)]]),(0,O.rows 1 false [[V.lst 3 (itl bx)]]),(6,O.rows 3 true [[V.raw (Value.int IntKind.u8 n),iv n_1,V.lst s es]])] 7 []))) (J (St.mk (mkT [(0,V.yl (Id.p 5)),(5,iv (↑N:Int)),(6,iv (IntKind.i64.wrap ((↑i:Int)+(1:Int))))]) (Hp.mk [(5,O.lp (Lr.mk LoopState.ready none (mkT [(0,V.lst 3 (itl bx)),(1,V.lst 1 (pll plans)),(2,V.lst 1 (nl vals)),(3,V.ptr (Id.p 0) 0 0),(4,V.ptr (Id.p 1) 0 0),(5,V.ptr (Id.p 2) 0 0),(6,nilS),(7,V.ptr (Id.p 3) 0 0),(11,V.lst 1 (pll plans)),(12,iv (↑(pll plans).length:Int)),(13,V.fn (Fn.func (85:FuncId)) [] [V.ptr (Id.p 4) 0 0])]) 29 (Array.mk [14]) (rfA (cdAt [1,1,0,1,0] (bodyOf Tryz.f32))) (rfB (cdAt [1,1,0,1,0] (bodyOf Tryz.f32))) 32)),(4,O.rows 1 false [[iv (↑(pll plans).length:Int)]]),(3,O.rows 1 false [[nilS]]),(2,O.rows 1 false [[V.lst 1 (nl vals)]]),(1,O.rows 1 false [[V.lst 1 (pll plans)]]),(0,O.rows 1 false [[V.lst 3 (itl bx)]])] 6 [])))))) (R nilS)) (by kernel_rfl) ?_
  refine ifB_mk (fun hb=>?_) (fun hb=>?_)
  ·have hi:i<N:=by have:=of_decide_eq_true hb; omega
   refine call _ hi (fun d hd=>?_)
   rw [wr1i hi (by omega)]
   cases ho:choF plans vals (bl8 i) 0 bx with
   | none =>
    refine onTup_tup (onCons_cons (onAgg_agg (onCons_cons (onIntK_u8 (onCons_cons (onIntK_iv (onCons_cons (onLst_nil (onNil_nil (onCons_cons (onBool_bv (onNil_nil (ifB_f rfl ?_)))))))))))))
    exact hJ' (by simp [sh51,sh51a,rec51]) (none' hi ho)
   | some p =>
    obtain ⟨v,l⟩:=p
    refine onTup_tup (onCons_cons (onAgg_agg (onCons_cons (onIntK_u8 (onCons_cons (onIntK_iv (onCons_cons (onLst_lst (onNil_nil (onCons_cons (onBool_bv (onNil_nil (ifB_t rfl ?_)))))))))))))
    have hd' : d=3∨l=[]:=by rcases hd with hd | ⟨v', hv'⟩; exact .inl hd; rw [ho] at hv'; simp at hv'; exact .inr hv'.2
    exact hJ' (by simp [sh51,sh51b,rec51,chl,chr,sv,u8v]) (some' hi v l d ho hd')
  ·have hi:i=N:=by have:=of_decide_eq_false hb; omega
   subst hi
   exfalso
   have:(choS bx plans vals i).length=0:=by rw [← g3]; rfl
   obtain ⟨m,rfl⟩ : ∃ m,i=1+m:=⟨i - 1,by omega⟩
   have hmem:(0,0,bx)∈choS bx plans vals (1+m):=by
    simp only [choS,List.mem_filterMap,List.mem_range]
    exact ⟨0,by omega,by simp [show bl8 0=[] by decide,choF]⟩
   rw [List.eq_nil_of_length_eq_zero this] at hmem
   cases hmem
 ·rw [sh51_b hc]
  refine see (p:=ifB (decide ((↑i:Int)<(↑N:Int))) (K0G Tryz.prog glX 63 [V.lst 3 (itl bx),V.lst 1 (pll plans),V.lst 1 (nl vals),V.raw (Value.int IntKind.u8 (IntKind.u8.wrap (↑i:Int)))] fun v=>onTup v fun vs=>onCons vs fun u r=>onAgg u fun cs_1=>onCons cs_1 fun u r_1=>onIntK IntKind.u8 u fun n=>onCons r_1 fun u r_2=>onIntK IntKind.i64 u fun n_1=>onCons r_2 fun u r_3=>onLst u fun s es=>onNil r_3 (onCons r fun u r=>onBool u fun b=>onNil r (ifB b (need ((cs.length+1) * 40≤140737488355328) (J (St.mk (mkT [(0,V.yl (Id.p 5)),(5,iv (↑N:Int)),(6,iv (IntKind.i64.wrap ((↑i:Int)+(1:Int))))]) (Hp.mk [(5,O.lp (Lr.mk LoopState.ready none (mkT [(0,V.lst 3 (itl bx)),(1,V.lst 1 (pll plans)),(2,V.lst 1 (nl vals)),(3,V.ptr (Id.p 0) 0 0),(4,V.ptr (Id.p 1) 0 0),(5,V.ptr (Id.p 2) 0 0),(6,nilS),(7,V.ptr (Id.p 3) 0 0),(11,V.lst 1 (pll plans)),(12,iv (↑(pll plans).length:Int)),(13,V.fn (Fn.func (85:FuncId)) [] [V.ptr (Id.p 4) 0 0])]) 29 (Array.mk [14]) (rfA (cdAt [1,1,0,1,0] (bodyOf Tryz.f32))) (rfB (cdAt [1,1,0,1,0] (bodyOf Tryz.f32))) 32)),(3,O.rows 1 false [[V.sl (Id.p 6) 0 (cs.length+1)]]),(4,O.rows 1 false [[iv (↑(pll plans).length:Int)]]),(2,O.rows 1 false [[V.lst 1 (nl vals)]]),(1,O.rows 1 false [[V.lst 1 (pll plans)]]),(0,O.rows 1 false [[V.lst 3 (itl bx)]]),(6,O.rows 3 true (List.take cs.length (chl cs)++[[V.raw (Value.int IntKind.u8 n),iv n_1,V.lst s es]]))] 7 [])))) (J (St.mk (mkT [(0,V.yl (Id.p 5)),(5,iv (↑N:Int)),(6,iv (IntKind.i64.wrap ((↑i:Int)+(1:Int))))]) (Hp.mk [(5,O.lp (Lr.mk LoopState.ready none (mkT [(0,V.lst 3 (itl bx)),(1,V.lst 1 (pll plans)),(2,V.lst 1 (nl vals)),(3,V.ptr (Id.p 0) 0 0),(4,V.ptr (Id.p 1) 0 0),(5,V.ptr (Id.p 2) 0 0),(6,nilS),(7,V.ptr (Id.p 3) 0 0),(11,V.lst 1 (pll plans)),(12,iv (↑(pll plans).length:Int)),(13,V.fn (Fn.func (85:FuncId)) [] [V.ptr (Id.p 4) 0 0])]) 29 (Array.mk [14]) (rfA (cdAt [1,1,0,1,0] (bodyOf Tryz.f32))) (rfB (cdAt [1,1,0,1,0] (bodyOf Tryz.f32))) 32)),(3,O.rows 1 false [[V.sl (Id.p 6) 0 cs.length]]),(4,O.rows 1 false [[iv (↑(pll plans).length:Int)]]),(2,O.rows 1 false [[V.lst 1 (nl vals)]]),(1,O.rows 1 false [[V.lst 1 (pll plans)]]),(0,O.rows 1 false [[V.lst 3 (itl bx)]]),(6,O.rows 3 true (chl cs))] 7 [])))))) (R (V.lst 3 (sub (chl cs) 0 cs.length)))) (by kernel_rfl) ?_
  rw [chl_take]
  refine ifB_mk (fun hb=>?_) (fun hb=>?_)
  ·have hi:i<N:=by have:=of_decide_eq_true hb; omega
   refine call _ hi (fun d hd=>?_)
   rw [wr1i hi (by omega)]
   cases ho:choF plans vals (bl8 i) 0 bx with
   | none =>
    refine onTup_tup (onCons_cons (onAgg_agg (onCons_cons (onIntK_u8 (onCons_cons (onIntK_iv (onCons_cons (onLst_nil (onNil_nil (onCons_cons (onBool_bv (onNil_nil (ifB_f rfl ?_)))))))))))))
    have g:=none' hi ho
    rw [sh51_b hc] at g
    exact hJ' (by simp [sh51b,rec51]) g
   | some p =>
    obtain ⟨v,l⟩:=p
    refine onTup_tup (onCons_cons (onAgg_agg (onCons_cons (onIntK_u8 (onCons_cons (onIntK_iv (onCons_cons (onLst_lst (onNil_nil (onCons_cons (onBool_bv (onNil_nil (ifB_t rfl (need_mk ⟨by omega,?_⟩))))))))))))))
    have hd' : d=3∨l=[]:=by rcases hd with hd | ⟨v', hv'⟩; exact .inl hd; rw [ho] at hv'; simp at hv'; exact .inr hv'.2
    have g:=some' hi v l d ho hd'
    rw [sh51_b (by simp)] at g
    exact hJ' (by simp [sh51b,rec51,chl,chr,sv,u8v]) g
  ·have hi:i=N:=by have:=of_decide_eq_false hb; omega
   subst hi
   rw [← chl_length cs,sub_all]
   exact h cs g3 g4 hc
theorem cmp115 {a b:List Nat} {R:V→Prop} (ha:a.length≤1000) (h : ∀ n,R (iv n)):K0G Tryz.prog glX 69 [.lst 1 (nn a),.lst 1 (nn b)] R:=by
 refine K0_of_WY0 hmX hcM 3000 Tryz.func69 (see (p:=La 0 [(0:Tmp),(1:Tmp),(9:Tmp),(10:Tmp),(11:Tmp)] (WY Tryz.prog cfM 2995 (Env.mk (Bs.mk 0 []) 0 none 36 69 0) (cdAt [1,0,1,0,0] (bodyOf Tryz.f69))) (Qblk 0 (Qthen (WY Tryz.prog cfM 2998 (Env.mk (Bs.mk 0 []) 0 none 36 69 0) (cdAt [1,1] (bodyOf Tryz.f69)) (QendX Tryz.prog Tryz.f69 fun v h=>R (frzW h v))) (QendX Tryz.prog Tryz.f69 fun v h=>R (frzW h v)))) (St.mk (mkT [(0,V.lst 1 (nn a)),(1,V.lst 1 (nn b)),(9,V.lst 1 (nn a)),(10,iv (↑(nn a).length:Int)),(11,iv (0:Int))]) (Hp.mk [] 0 []))) (by kernel_rfl) ?_)
 refine La.of (σ:=Nat) (fun k=>sh115 a b k) (fun k=>k≤a.length) (fun k=>a.length - k) 0 (by kernel_rfl) (by simp) ?_
 intro k h1 J hJ
 refine see (p:=ifB (decide ((↑k:Int)<(↑(nn a).length:Int))) (onSome (nn a)[k]? fun row=>onSome row[0]? fun v=>onIntK IntKind.i64 v fun n=>ifB (decide ((↑k:Int) ≥ (↑(nn b).length:Int))) (R (iv (1:Int))) (onSome (nn b)[k]? fun row=>onSome row[0]? fun v=>onIntK IntKind.i64 v fun n_1=>ifB (n != n) (ifB (n_1 != n_1) (J (St.mk (mkT [(0,V.lst 1 (nn a)),(1,V.lst 1 (nn b)),(9,V.lst 1 (nn a)),(10,iv (↑(nn a).length:Int)),(11,iv (IntKind.i64.wrap ((↑k:Int)+(1:Int))))]) (Hp.mk [] 0 []))) (R (iv (-1:Int)))) (ifB (n_1 != n_1) (R (iv (1:Int))) (ifB (decide (n<n_1)) (R (iv (-1:Int))) (ifB (decide (n > n_1)) (R (iv (1:Int))) (J (St.mk (mkT [(0,V.lst 1 (nn a)),(1,V.lst 1 (nn b)),(9,V.lst 1 (nn a)),(10,iv (↑(nn a).length:Int)),(11,iv (IntKind.i64.wrap ((↑k:Int)+(1:Int))))]) (Hp.mk [] 0 [])))))))) (ifB (decide ((↑(nn a).length:Int)<(↑(nn b).length:Int))) (R (iv (-1:Int))) (R (iv (0:Int))))) (by kernel_rfl) ?_
 simp only [nn_length]
 refine ifB_mk (fun hb=>?_) (fun hb=>ifB_mk (fun _=>h _) (fun _=>h _))
 have hlt:k<a.length:=by have:=of_decide_eq_true hb; omega
 have go:J (sh115 a b (k+1)):=hJ (k+1) (by omega) (by omega)
 rw [wr1i hlt (by omega)]
 have e1:a[k]? = some (a.getD k 0):=by simp [List.getD,hlt]
 refine nel e1 ?_
 refine ifB_mk (fun hc=>h _) (fun hc=>?_)
 have hkb:k<b.length:=by have:=of_decide_eq_false hc; omega
 have e2:b[k]? = some (b.getD k 0):=by simp [List.getD,hkb]
 refine nel e2 ?_
 have go' := hJ' (s' := sh115 a b (k+1)) (s:=⟨mkT [(0,V.lst 1 (nn a)),(1,V.lst 1 (nn b)),(9,V.lst 1 (nn a)),(10,iv (a.length:Int)),(11,iv ((k+1:Nat):Int))],⟨[],0,[]⟩⟩) (by simp [sh115,nn_length]) go
 refine ifB_mk (fun _=>ifB_mk (fun _=>go') (fun _=>h _)) (fun _=>ifB_mk (fun _=>h _) (fun _=>ifB_mk (fun _=>h _) (fun _=>ifB_mk (fun _=>h _) (fun _=>go'))))
theorem better89 {s t:Nat} {v w:Int} {l m:List (List V)} {d e:Nat} {R:V→Prop} (hs:s<256) (ht:t<256) (h : ∀ n,(w<v→n<0)→(v<w→0<n)→R (iv n)):K0G Tryz.prog glX 39 [.agg [sv s,iv v,.lst d l],.agg [sv t,iv w,.lst e m]] R:=by
 refine K0_of_WY0 hmX hcM 3000 Tryz.func39 (see (p:=K0G Tryz.prog glX 40 [V.raw (Value.int IntKind.u8 (↑s:Int))] fun v_1=>onLst v_1 fun s es=>K0G Tryz.prog glX 40 [V.raw (Value.int IntKind.u8 (↑t:Int))] fun v_2=>onLst v_2 fun s_1 es_1=>ifB (w != w) (ifB (v != v) (ifB ((↑es.length:Int) != (↑es.length:Int)) (ifB ((↑es_1.length:Int) != (↑es_1.length:Int)) (K0G Tryz.prog glX 69 [V.lst s es,V.lst s_1 es_1] fun v=>onIntK IntKind.i64 v fun n=>ifB (n != (0:Int)) (R (iv n)) (R (iv (0:Int)))) (K0G Tryz.prog glX 69 [V.lst s es,V.lst s_1 es_1] fun v=>onIntK IntKind.i64 v fun n=>R (iv (-1:Int)))) (ifB ((↑es_1.length:Int) != (↑es_1.length:Int)) (K0G Tryz.prog glX 69 [V.lst s es,V.lst s_1 es_1] fun v=>onIntK IntKind.i64 v fun n=>R (iv (1:Int))) (ifB (decide ((↑es.length:Int)<(↑es_1.length:Int))) (K0G Tryz.prog glX 69 [V.lst s es,V.lst s_1 es_1] fun v=>onIntK IntKind.i64 v fun n=>R (iv (-1:Int))) (ifB (decide ((↑es.length:Int) > (↑es_1.length:Int))) (K0G Tryz.prog glX 69 [V.lst s es,V.lst s_1 es_1] fun v=>onIntK IntKind.i64 v fun n=>R (iv (1:Int))) (K0G Tryz.prog glX 69 [V.lst s es,V.lst s_1 es_1] fun v=>onIntK IntKind.i64 v fun n=>ifB (n != (0:Int)) (R (iv n)) (R (iv (0:Int)))))))) (ifB ((↑es.length:Int) != (↑es.length:Int)) (ifB ((↑es_1.length:Int) != (↑es_1.length:Int)) (K0G Tryz.prog glX 69 [V.lst s es,V.lst s_1 es_1] fun v=>onIntK IntKind.i64 v fun n=>R (iv (-1:Int))) (K0G Tryz.prog glX 69 [V.lst s es,V.lst s_1 es_1] fun v=>onIntK IntKind.i64 v fun n=>R (iv (-1:Int)))) (ifB ((↑es_1.length:Int) != (↑es_1.length:Int)) (K0G Tryz.prog glX 69 [V.lst s es,V.lst s_1 es_1] fun v=>onIntK IntKind.i64 v fun n=>R (iv (-1:Int))) (ifB (decide ((↑es.length:Int)<(↑es_1.length:Int))) (K0G Tryz.prog glX 69 [V.lst s es,V.lst s_1 es_1] fun v=>onIntK IntKind.i64 v fun n=>R (iv (-1:Int))) (ifB (decide ((↑es.length:Int) > (↑es_1.length:Int))) (K0G Tryz.prog glX 69 [V.lst s es,V.lst s_1 es_1] fun v=>onIntK IntKind.i64 v fun n=>R (iv (-1:Int))) (K0G Tryz.prog glX 69 [V.lst s es,V.lst s_1 es_1] fun v=>onIntK IntKind.i64 v fun n=>R (iv (-1:Int)))))))) (ifB (v != v) (ifB ((↑es.length:Int) != (↑es.length:Int)) (ifB ((↑es_1.length:Int) != (↑es_1.length:Int)) (K0G Tryz.prog glX 69 [V.lst s es,V.lst s_1 es_1] fun v=>onIntK IntKind.i64 v fun n=>R (iv (1:Int))) (K0G Tryz.prog glX 69 [V.lst s es,V.lst s_1 es_1] fun v=>onIntK IntKind.i64 v fun n=>R (iv (1:Int)))) (ifB ((↑es_1.length:Int) != (↑es_1.length:Int)) (K0G Tryz.prog glX 69 [V.lst s es,V.lst s_1 es_1] fun v=>onIntK IntKind.i64 v fun n=>R (iv (1:Int))) (ifB (decide ((↑es.length:Int)<(↑es_1.length:Int))) (K0G Tryz.prog glX 69 [V.lst s es,V.lst s_1 es_1] fun v=>onIntK IntKind.i64 v fun n=>R (iv (1:Int))) (ifB (decide ((↑es.length:Int) > (↑es_1.length:Int))) (K0G Tryz.prog glX 69 [V.lst s es,V.lst s_1 es_1] fun v=>onIntK IntKind.i64 v fun n=>R (iv (1:Int))) (K0G Tryz.prog glX 69 [V.lst s es,V.lst s_1 es_1] fun v=>onIntK IntKind.i64 v fun n=>R (iv (1:Int))))))) (ifB (decide (w<v)) (ifB ((↑es.length:Int) != (↑es.length:Int)) (ifB ((↑es_1.length:Int) != (↑es_1.length:Int)) (K0G Tryz.prog glX 69 [V.lst s es,V.lst s_1 es_1] fun v=>onIntK IntKind.i64 v fun n=>R (iv (-1:Int))) (K0G Tryz.prog glX 69 [V.lst s es,V.lst s_1 es_1] fun v=>onIntK IntKind.i64 v fun n=>R (iv (-1:Int)))) (ifB ((↑es_1.length:Int) != (↑es_1.length:Int)) (K0G Tryz.prog glX 69 [V.lst s es,V.lst s_1 es_1] fun v=>onIntK IntKind.i64 v fun n=>R (iv (-1:Int))) (ifB (decide ((↑es.length:Int)<(↑es_1.length:Int))) (K0G Tryz.prog glX 69 [V.lst s es,V.lst s_1 es_1] fun v=>onIntK IntKind.i64 v fun n=>R (iv (-1:Int))) (ifB (decide ((↑es.length:Int) > (↑es_1.length:Int))) (K0G Tryz.prog glX 69 [V.lst s es,V.lst s_1 es_1] fun v=>onIntK IntKind.i64 v fun n=>R (iv (-1:Int))) (K0G Tryz.prog glX 69 [V.lst s es,V.lst s_1 es_1] fun v=>onIntK IntKind.i64 v fun n=>R (iv (-1:Int))))))) (ifB (decide (w > v)) (ifB ((↑es.length:Int) != (↑es.length:Int)) (ifB ((↑es_1.length:Int) != (↑es_1.length:Int)) (K0G Tryz.prog glX 69 [V.lst s es,V.lst s_1 es_1] fun v=>onIntK IntKind.i64 v fun n=>R (iv (1:Int))) (K0G Tryz.prog glX 69 [V.lst s es,V.lst s_1 es_1] fun v=>onIntK IntKind.i64 v fun n=>R (iv (1:Int)))) (ifB ((↑es_1.length:Int) != (↑es_1.length:Int)) (K0G Tryz.prog glX 69 [V.lst s es,V.lst s_1 es_1] fun v=>onIntK IntKind.i64 v fun n=>R (iv (1:Int))) (ifB (decide ((↑es.length:Int)<(↑es_1.length:Int))) (K0G Tryz.prog glX 69 [V.lst s es,V.lst s_1 es_1] fun v=>onIntK IntKind.i64 v fun n=>R (iv (1:Int))) (ifB (decide ((↑es.length:Int) > (↑es_1.length:Int))) (K0G Tryz.prog glX 69 [V.lst s es,V.lst s_1 es_1] fun v=>onIntK IntKind.i64 v fun n=>R (iv (1:Int))) (K0G Tryz.prog glX 69 [V.lst s es,V.lst s_1 es_1] fun v=>onIntK IntKind.i64 v fun n=>R (iv (1:Int))))))) (ifB ((↑es.length:Int) != (↑es.length:Int)) (ifB ((↑es_1.length:Int) != (↑es_1.length:Int)) (K0G Tryz.prog glX 69 [V.lst s es,V.lst s_1 es_1] fun v=>onIntK IntKind.i64 v fun n=>ifB (n != (0:Int)) (R (iv n)) (R (iv (0:Int)))) (K0G Tryz.prog glX 69 [V.lst s es,V.lst s_1 es_1] fun v=>onIntK IntKind.i64 v fun n=>R (iv (-1:Int)))) (ifB ((↑es_1.length:Int) != (↑es_1.length:Int)) (K0G Tryz.prog glX 69 [V.lst s es,V.lst s_1 es_1] fun v=>onIntK IntKind.i64 v fun n=>R (iv (1:Int))) (ifB (decide ((↑es.length:Int)<(↑es_1.length:Int))) (K0G Tryz.prog glX 69 [V.lst s es,V.lst s_1 es_1] fun v=>onIntK IntKind.i64 v fun n=>R (iv (-1:Int))) (ifB (decide ((↑es.length:Int) > (↑es_1.length:Int))) (K0G Tryz.prog glX 69 [V.lst s es,V.lst s_1 es_1] fun v=>onIntK IntKind.i64 v fun n=>R (iv (1:Int))) (K0G Tryz.prog glX 69 [V.lst s es,V.lst s_1 es_1] fun v=>onIntK IntKind.i64 v fun n=>ifB (n != (0:Int)) (R (iv n)) (R (iv (0:Int)))))))))))) (by kernel_rfl) ?_)
 obtain ⟨d1,hd1,hN1⟩:=lsN_isL (bl8 s)
 obtain ⟨d2,hd2,hN2⟩:=lsN_isL (bl8 t)
 refine list90 hs (onLst_isL hN1 (list90 ht (onLst_isL hN2 ?_)))
 have call : ∀ (Q:V→Prop),(∀ n,Q (iv n))→K0G Tryz.prog glX 69 [V.lst d1 (nn (bl8 s)),V.lst d2 (nn (bl8 t))] Q:=fun Q hq=>K0_args (cmp115 (a:=bl8 s) (b:=bl8 t) (by have:=bl8_len s; omega) hq) (fun F w xs hx=>by
  have key : ∀ (d:Nat) (q:List Nat) (r:List V) (xs:List Value),(d=1∨q=[])→riL F w (.lst d (nn q)::r) xs→riL F w (.lst 1 (nn q)::r) xs:=by
   rintro d q r xs (rfl | rfl) hx
   ·exact hx
   ·simpa [riL,ri,nn,riRows] using hx
  have hx1:=key _ _ _ _ hd1 hx
  rw [riL] at hx1 ⊢
  obtain ⟨x,ys,g1,g2,g3⟩:=hx1
  exact ⟨x,ys,g1,g2,key _ _ _ _ hd2 g3⟩)
 generalize nn (bl8 s)=p at call
 generalize nn (bl8 t)=q at call
 have hw:(w != w)=false:=by simp
 have hv:(v != v)=false:=by simp
 have hp:((p.length:Int) != (p.length:Int))=false:=by simp
 have hq:((q.length:Int) != (q.length:Int))=false:=by simp
 rw [hw,hv,hp,hq]
 refine ifB_f rfl (ifB_f rfl (ifB_mk (fun h1=>?_) (fun h1=>ifB_mk (fun h2=>?_) (fun h2=>?_))))
 ·have h1:=of_decide_eq_true h1
  refine ifB_f rfl (ifB_f rfl (ifB_mk (fun _=>?_) (fun _=>ifB_mk (fun _=>?_) (fun _=>?_)))) <;> exact call _ (fun n=>onIntK_iv (h _ (by omega) (by omega)))
 ·have h2:=of_decide_eq_true h2
  refine ifB_f rfl (ifB_f rfl (ifB_mk (fun _=>?_) (fun _=>ifB_mk (fun _=>?_) (fun _=>?_)))) <;> exact call _ (fun n=>onIntK_iv (h _ (by omega) (by omega)))
 ·have h1:=of_decide_eq_false h1
  have h2:=of_decide_eq_false h2
  refine ifB_f rfl (ifB_f rfl (ifB_mk (fun _=>?_) (fun _=>ifB_mk (fun _=>?_) (fun _=>?_))))
  ·exact call _ (fun n=>onIntK_iv (h _ (by omega) (by omega)))
  ·exact call _ (fun n=>onIntK_iv (h _ (by omega) (by omega)))
  ·exact call _ (fun n=>onIntK_iv (ifB_mk (fun _=>h _ (by omega) (by omega)) (fun _=>h _ (by omega) (by omega))))
theorem min88 {cs:List Ch} {R:V→Prop} (hne:cs≠[]) (hl:cs.length≤1000) (h256 : ∀ c∈cs,c.1<256) (h : ∀ c∈cs,(∀ c' ∈ cs,c'.2.1≤c.2.1)→R (.agg (chr c))):K0G Tryz.prog glX 38 [.lst 3 (chl cs),.fn (.func 39) [] []] R:=by
 refine K0_of_WY0 hmX hcM 3000 Tryz.func38 (see (p:=ifB (decide ((↑(chl cs).length:Int)<(1:Int))) False (onSome (chl cs)[0]? fun row=>onCons (List.drop 0 row) fun u r=>onIntK IntKind.u8 u fun n=>onCons r fun u r=>onIntK IntKind.i64 u fun n_1=>onCons r fun u r=>onLst u fun s es=>La 0 [(0:Tmp),(1:Tmp),(4:Tmp),(5:Tmp),(6:Tmp)] (WY Tryz.prog cfM 2993 (Env.mk (Bs.mk 0 []) 0 none 33 38 0) (cdAt [1,1,1,0,1,0,0] (bodyOf Tryz.f38))) (Qblk 0 (Qthen (WY Tryz.prog cfM 2996 (Env.mk (Bs.mk 0 []) 0 none 33 38 0) (cdAt [1,1,1,1] (bodyOf Tryz.f38)) (QendX Tryz.prog Tryz.f38 fun v h=>R (frzW h v))) (QendX Tryz.prog Tryz.f38 fun v h=>R (frzW h v)))) (St.mk (mkT [(0,V.lst 3 (chl cs)),(1,V.fn (Fn.func (39:FuncId)) [] []),(4,V.ptr (Id.p 0) 0 0),(5,V.ptr (Id.p 1) 0 0),(6,iv (1:Int))]) (Hp.mk [(0,O.rows 3 false [[V.raw (Value.int IntKind.u8 (0:Int)),iv (0:Int),nilS]]),(1,O.rows 3 false [[V.raw (Value.int IntKind.u8 n),iv n_1,V.lst s es]])] 2 [])))) (by kernel_rfl) ?_)
 obtain ⟨c0,cr,rfl⟩ : ∃ c r,cs=c::r:=by cases cs with | nil=>exact (hne rfl).elim | cons c r=>exact ⟨c,r,rfl⟩
 generalize hcs:c0::cr=cs at *
 have hl1:1≤cs.length:=by rw [← hcs]; simp
 rw [chl_length]
 refine ifB_f (by simp; omega) ?_
 refine onSome_mk (x:=chr c0) (by rw [← hcs]; rfl) (onCons_cons (onIntK_u8 (onCons_cons (onIntK_iv (onCons_cons (onLst_lst ?_))))))
 refine La.of (σ:=Ch×Nat) (fun x=>sh88 cs x.1 x.2) (fun x=>x.1∈cs∧x.2≤cs.length ∧ ∀ i c', i<x.2→cs[i]? = some c' → c'.2.1≤x.1.2.1) (fun x=>cs.length - x.2) (c0,1) (by kernel_rfl) ⟨by rw [← hcs]; simp,hl1,fun i c' hi hc' => by
  have:i=0:=by simp only at hi; omega
  subst this
  rw [← hcs] at hc'
  simp only [List.getElem?_cons_zero,Option.some.injEq] at hc'
  subst hc'
  simp⟩ ?_
 rintro ⟨c,k⟩ ⟨g1,g2,g3⟩ J hJ
 simp only at g1 g2 g3
 refine see (p:=ifB (decide ((↑k:Int)<(↑(chl cs).length:Int))) (onSome (chl cs)[k]? fun row=>onCons (List.drop 0 row) fun u r=>onIntK IntKind.u8 u fun n=>onCons r fun u r=>onIntK IntKind.i64 u fun n_1=>onCons r fun u r=>onLst u fun s es=>K0G Tryz.prog glX 39 [V.agg [V.raw (Value.int IntKind.u8 n),iv n_1,V.lst s es],V.agg [V.raw (Value.int IntKind.u8 (↑c.1:Int)),iv c.2.1,V.lst c.2.2.2 (itl c.2.2.1)]] fun v=>onIntK IntKind.i64 v fun n=>ifB (decide (n<(0:Int))) (onSome (chl cs)[k]? fun row=>onCons (List.drop 0 row) fun u r=>onIntK IntKind.u8 u fun n=>onCons r fun u r=>onIntK IntKind.i64 u fun n_2=>onCons r fun u r=>onLst u fun s es=>J (St.mk (mkT [(0,V.lst 3 (chl cs)),(1,V.fn (Fn.func (39:FuncId)) [] []),(4,V.ptr (Id.p 0) 0 0),(5,V.ptr (Id.p 1) 0 0),(6,iv (IntKind.i64.wrap ((↑k:Int)+(1:Int))))]) (Hp.mk [(0,O.rows 3 false [[V.raw (Value.int IntKind.u8 (0:Int)),iv (0:Int),nilS]]),(1,O.rows 3 false [[V.raw (Value.int IntKind.u8 n),iv n_2,V.lst s es]])] 2 []))) (J (St.mk (mkT [(0,V.lst 3 (chl cs)),(1,V.fn (Fn.func (39:FuncId)) [] []),(4,V.ptr (Id.p 0) 0 0),(5,V.ptr (Id.p 1) 0 0),(6,iv (IntKind.i64.wrap ((↑k:Int)+(1:Int))))]) (Hp.mk [(0,O.rows 3 false [[V.raw (Value.int IntKind.u8 (0:Int)),iv (0:Int),nilS]]),(1,O.rows 3 false [[V.raw (Value.int IntKind.u8 (↑c.1:Int)),iv c.2.1,V.lst c.2.2.2 (itl c.2.2.1)]])] 2 [])))) (R (V.agg [V.raw (Value.int IntKind.u8 (↑c.1:Int)),iv c.2.1,V.lst c.2.2.2 (itl c.2.2.1)]))) (by kernel_rfl) ?_
 rw [chl_length]
 refine ifB_mk (fun hb=>?_) (fun hb=>?_)
 ·have hlt:k<cs.length:=by have:=of_decide_eq_true hb; omega
  obtain ⟨x,hx⟩ : ∃ x,cs[k]? = some x:=⟨cs[k],by simp [hlt]⟩
  have hxm:=List.mem_of_getElem? hx
  have hrow:(chl cs)[k]? = some (chr x):=by simp [chl,hx]
  rw [wr1i hlt (by omega)]
  refine onSome_mk hrow (onCons_cons (onIntK_u8 (onCons_cons (onIntK_iv (onCons_cons (onLst_lst ?_))))))
  refine better89 (h256 x hxm) (h256 c g1) (fun n hn1 hn2=>onIntK_iv (ifB_mk (fun hn=>?_) (fun hn=>?_)))
  ·refine onSome_mk hrow (onCons_cons (onIntK_u8 (onCons_cons (onIntK_iv (onCons_cons (onLst_lst ?_))))))
   have hge:c.2.1≤x.2.1:=by have:=of_decide_eq_true hn; omega
   refine hJ (x,k+1) ⟨hxm,by simp only; omega,fun i c' hi hc' => ?_⟩ (by simp only; omega)
   simp only at hi ⊢
   rcases Nat.lt_succ_iff_lt_or_eq.1 hi with q | q
   ·have:=g3 i c' q hc'; omega
   ·subst q; rw [hx] at hc'; cases hc'; omega
  ·have hge:x.2.1≤c.2.1:=by have:=of_decide_eq_false hn; omega
   refine hJ (c,k+1) ⟨g1,by simp only; omega,fun i c' hi hc' => ?_⟩ (by simp only; omega)
   simp only at hi ⊢
   rcases Nat.lt_succ_iff_lt_or_eq.1 hi with q | q
   ·exact g3 i c' q hc'
   ·subst q; rw [hx] at hc'; cases hc'; exact hge
 ·have hk:k=cs.length:=by have:=of_decide_eq_false hb; omega
  refine h c g1 (fun c' hc' => ?_)
  obtain ⟨i,hi⟩:=List.getElem?_of_mem hc'
  exact g3 i c' (by rw [hk]; exact (List.getElem?_eq_some_iff.1 hi).1) hi
def Bef (x y:It):Prop:=x.1<y.1∨x.1=y.1∧x.2.1<y.2.1
theorem parts112 {a b c d:Int} {R:V→Prop} (h : ∀ n,(n<0→a<c∨a=c∧b<d)→R (iv n)):K0G Tryz.prog glX 91 [.agg [iv a,u8v b],.agg [iv c,u8v d]] R:=by
 refine K0_of_WY0 hmX hcM 3000 Tryz.func91 (see (p:=ifB (a != a) (ifB (c != c) (ifB (b != b) (ifB (d != d) (R (iv (0:Int))) (R (iv (-1:Int)))) (ifB (d != d) (R (iv (1:Int))) (ifB (decide (b<d)) (R (iv (-1:Int))) (ifB (decide (b > d)) (R (iv (1:Int))) (R (iv (0:Int))))))) (ifB (b != b) (ifB (d != d) (R (iv (-1:Int))) (R (iv (-1:Int)))) (ifB (d != d) (R (iv (-1:Int))) (ifB (decide (b<d)) (R (iv (-1:Int))) (ifB (decide (b > d)) (R (iv (-1:Int))) (R (iv (-1:Int)))))))) (ifB (c != c) (ifB (b != b) (ifB (d != d) (R (iv (1:Int))) (R (iv (1:Int)))) (ifB (d != d) (R (iv (1:Int))) (ifB (decide (b<d)) (R (iv (1:Int))) (ifB (decide (b > d)) (R (iv (1:Int))) (R (iv (1:Int))))))) (ifB (decide (a<c)) (ifB (b != b) (ifB (d != d) (R (iv (-1:Int))) (R (iv (-1:Int)))) (ifB (d != d) (R (iv (-1:Int))) (ifB (decide (b<d)) (R (iv (-1:Int))) (ifB (decide (b > d)) (R (iv (-1:Int))) (R (iv (-1:Int))))))) (ifB (decide (a > c)) (ifB (b != b) (ifB (d != d) (R (iv (1:Int))) (R (iv (1:Int)))) (ifB (d != d) (R (iv (1:Int))) (ifB (decide (b<d)) (R (iv (1:Int))) (ifB (decide (b > d)) (R (iv (1:Int))) (R (iv (1:Int))))))) (ifB (b != b) (ifB (d != d) (R (iv (0:Int))) (R (iv (-1:Int)))) (ifB (d != d) (R (iv (1:Int))) (ifB (decide (b<d)) (R (iv (-1:Int))) (ifB (decide (b > d)) (R (iv (1:Int))) (R (iv (0:Int))))))))))) (by kernel_rfl) ?_)
 simp only [bne_self_eq_false]
 refine ifB_f rfl (ifB_f rfl (ifB_mk (fun h1=>?_) (fun h1=>ifB_mk (fun h2=>?_) (fun h2=>?_))))
 ·have h1:=of_decide_eq_true h1
  refine ifB_f rfl (ifB_f rfl (ifB_mk (fun _=>?_) (fun _=>ifB_mk (fun _=>?_) (fun _=>?_)))) <;> exact h _ (fun _ => .inl h1)
 ·refine ifB_f rfl (ifB_f rfl (ifB_mk (fun _=>?_) (fun _=>ifB_mk (fun _=>?_) (fun _=>?_)))) <;> exact h _ (fun hn=>absurd hn (by omega))
 ·have h1:=of_decide_eq_false h1
  have h2:=of_decide_eq_false h2
  refine ifB_f rfl (ifB_f rfl (ifB_mk (fun h3=>?_) (fun _=>ifB_mk (fun _=>?_) (fun _=>?_))))
  ·have h3:=of_decide_eq_true h3
   exact h _ (fun _ => .inr ⟨by omega,h3⟩)
  ·exact h _ (fun hn=>absurd hn (by omega))
  ·exact h _ (fun hn=>absurd hn (by omega))
def Ord (l:List It):Prop := ∀ (i:Nat) (x y:It),l[i]? = some x→l[i+1]? = some y→Bef x y
def Okp (x:It):Prop:=0≤x.1∧x.1≤15∧x.2.1≤15
theorem itl_get {l:List It} {i:Nat} {x:It} (h:l[i]? = some x):(itl l)[i]? = some (itm x):=by simp [itl,h]
theorem order72 {l:List It} {R:V→Prop} (hl:l.length≤1000) (h : ∀ b,(b=true→Ord l ∧ ∀ x∈l,Okp x)→R (bv b)):K0G Tryz.prog glX 67 [.lst 3 (itl l),.fn (.func 68) [] []] R:=by
 refine K0_of_WY0 hmX hcM 3000 Tryz.func67 (see (p:=La 0 [(0:Tmp),(1:Tmp),(7:Tmp),(8:Tmp),(9:Tmp)] (WY Tryz.prog cfM 2995 (Env.mk (Bs.mk 0 []) 0 none 38 67 0) (cdAt [1,0,1,0,0] (bodyOf Tryz.f67))) (Qblk 0 (Qthen (WY Tryz.prog cfM 2998 (Env.mk (Bs.mk 0 []) 0 none 38 67 0) (cdAt [1,1] (bodyOf Tryz.f67)) (QendX Tryz.prog Tryz.f67 fun v h=>R (frzW h v))) (QendX Tryz.prog Tryz.f67 fun v h=>R (frzW h v)))) (St.mk (mkT [(0,V.lst 3 (itl l)),(1,V.fn (Fn.func (68:FuncId)) [] []),(7,V.lst 3 (itl l)),(8,iv (↑(itl l).length:Int)),(9,iv (0:Int))]) (Hp.mk [] 0 []))) (by kernel_rfl) ?_)
 refine La.of (σ:=Nat) (fun k=>sh72 l k) (fun k=>k≤l.length∧(∀ (i:Nat) (x y:It),i+1<k→l[i]? = some x→l[i+1]? = some y→Bef x y) ∧ ∀ (i:Nat) (x:It),i<k→l[i]? = some x→Okp x) (fun k=>l.length - k) 0 (by kernel_rfl) ⟨by simp,by simp,by simp⟩ ?_
 rintro k ⟨g1,g2,g3⟩ J hJ
 refine see (p:=ifB (decide ((↑k:Int)<(↑(itl l).length:Int))) (onSome (itl l)[k]? fun row=>onCons (List.drop 0 row) fun u r=>onIntK IntKind.i64 u fun n=>onCons r fun u r=>onIntK IntKind.u8 u fun n_1=>onCons r fun u r=>onIntK IntKind.i64 u fun n_2=>ifB (decide ((0:Int)≤n)) (ifB (decide (n≤(15:Int))) (ifB (!decide (n_1≤(15:Int))) (R (bv false)) (ifB (decide ((↑k:Int) > (0:Int))) (onNat (IntKind.i64.wrap ((↑k:Int) - (1:Int))) fun m=>onSome (itl l)[m]? fun row=>onCons (List.drop 0 row) fun u r=>onIntK IntKind.i64 u fun n_3=>onCons r fun u r=>onIntK IntKind.u8 u fun n_4=>onCons r fun u r=>onIntK IntKind.i64 u fun n_5=>K0G Tryz.prog glX 91 [V.agg [iv n_3,V.raw (Value.int IntKind.u8 n_4)],V.agg [iv n,V.raw (Value.int IntKind.u8 n_1)]] fun v=>onIntK IntKind.i64 v fun n=>ifB (decide (n ≥ (0:Int))) (R (bv false)) (J (St.mk (mkT [(0,V.lst 3 (itl l)),(1,V.fn (Fn.func (68:FuncId)) [] []),(7,V.lst 3 (itl l)),(8,iv (↑(itl l).length:Int)),(9,iv (IntKind.i64.wrap ((↑k:Int)+(1:Int))))]) (Hp.mk [] 0 [])))) (J (St.mk (mkT [(0,V.lst 3 (itl l)),(1,V.fn (Fn.func (68:FuncId)) [] []),(7,V.lst 3 (itl l)),(8,iv (↑(itl l).length:Int)),(9,iv (IntKind.i64.wrap ((↑k:Int)+(1:Int))))]) (Hp.mk [] 0 []))))) (R (bv false))) (R (bv false))) (R (bv true))) (by kernel_rfl) ?_
 simp only [itl_length]
 have bad:R (bv false):=h false (fun h=>by cases h)
 refine ifB_mk (fun hb=>?_) (fun hb=>?_)
 ·have hlt:k<l.length:=by have:=of_decide_eq_true hb; omega
  obtain ⟨x,hx⟩ : ∃ x,l[k]? = some x:=⟨l[k],by simp [hlt]⟩
  refine onSome_mk (itl_get hx) (onCons_cons (onIntK_iv (onCons_cons (onIntK_u8 (onCons_cons (onIntK_iv ?_))))))
  refine ifB_mk (fun a1=>ifB_mk (fun a2=>ifB_mk (fun _=>bad) (fun a3=>?_)) (fun _=>bad)) (fun _=>bad)
  have hok:Okp x:=⟨of_decide_eq_true a1,of_decide_eq_true a2,by simpa using a3⟩
  rw [wr1i hlt (by omega)]
  have go:(0<k → ∀ y,l[k - 1]? = some y→Bef y x)→J (sh72 l (k+1)):=fun hbef=>hJ (k+1) ⟨by omega,fun i y z hi hy hz=>by
   rcases Nat.lt_succ_iff_lt_or_eq.1 hi with q | q
   ·exact g2 i y z q hy hz
   ·rw [q] at hz
    rw [hx] at hz
    cases hz
    exact hbef (by omega) y (by rw [show k - 1=i from by omega]; exact hy),fun i y hi hy=>by
   rcases Nat.lt_succ_iff_lt_or_eq.1 hi with q | q
   ·exact g3 i y q hy
   ·rw [q,hx] at hy; cases hy; exact hok⟩ (by omega)
  have go' : (0<k → ∀ y,l[k - 1]? = some y→Bef y x)→J ⟨mkT [(0,V.lst 3 (itl l)),(1,V.fn (Fn.func 68) [] []),(7,V.lst 3 (itl l)),(8,iv (l.length:Int)),(9,iv ((k+1:Nat):Int))],⟨[],0,[]⟩⟩:=fun hbef=>hJ' (by simp [sh72,itl_length]) (go hbef)
  refine ifB_mk (fun hk=>?_) (fun hk=>go' (fun h0=>by have:=of_decide_eq_false hk; omega))
  have hk0:0<k:=by have:=of_decide_eq_true hk; omega
  obtain ⟨y,hy⟩ : ∃ y,l[k - 1]? = some y:=⟨l[k - 1],by simp [show k - 1<l.length from by omega]⟩
  refine onNat_mk (m:=k - 1) (by rw [wr (by omega) (by omega)]; omega) ?_
  refine onSome_mk (itl_get hy) (onCons_cons (onIntK_iv (onCons_cons (onIntK_u8 (onCons_cons (onIntK_iv ?_))))))
  refine parts112 (fun n hn=>onIntK_iv (ifB_mk (fun _=>bad) (fun hc=>go' (fun _ y' hy' => ?_))))
  rw [hy] at hy'
  cases hy'
  exact hn (by have:=of_decide_eq_false hc; omega)
 ·have hk:k=l.length:=by have:=of_decide_eq_false hb; omega
  refine h true (fun _=>⟨fun i x y hx hy=>g2 i x y ?_ hx hy,fun x hx=>?_⟩)
  ·have:=(List.getElem?_eq_some_iff.1 hy).1; omega
  ·obtain ⟨i,hi⟩:=List.getElem?_of_mem hx
   exact g3 i x (by have:=(List.getElem?_eq_some_iff.1 hi).1; omega) hi
def Stk (l:List It):Prop:=l.length≤30∧Ord l∧(∀ x∈l,Okp x) ∧ ∀ x∈l,1≤x.2.2∧x.2.2≤1000
theorem check26 {l:List It} {R:V→Prop} (h : ∀ n,(n=0→Stk l)→R (iv n)):K0G Tryz.prog glX 37 [.lst 3 (itl l)] R:=by
 refine K0_of_WY0 hmX hcM 3000 Tryz.func37 (see (p:=ifB (decide ((↑(itl l).length:Int) > (30:Int))) (R (iv (8:Int))) (K0G Tryz.prog glX 67 [V.lst 3 (itl l),V.fn (Fn.func 68) [] []] fun v=>onBool v fun b=>ifB (!b) (R (iv (8:Int))) (La 0 [(13:Tmp),(14:Tmp),(15:Tmp)] (WY Tryz.prog cfM 2994 (Env.mk (Bs.mk 0 []) 0 none 24 37 0) (cdAt [1,1,0,1,0,0] (bodyOf Tryz.f37))) (Qblk 0 (Qthen (WY Tryz.prog cfM 2997 (Env.mk (Bs.mk 0 []) 0 none 24 37 0) (cdAt [1,1,1] (bodyOf Tryz.f37)) (QendX Tryz.prog Tryz.f37 fun v h=>R (frzW h v))) (QendX Tryz.prog Tryz.f37 fun v h=>R (frzW h v)))) (St.mk (mkT [(13,V.lst 3 (itl l)),(14,iv (↑(itl l).length:Int)),(15,iv (0:Int))]) (Hp.mk [] 0 []))))) (by kernel_rfl) ?_)
 have bad:R (iv 8):=h 8 (fun h=>by cases h)
 rw [itl_length]
 refine ifB_mk (fun _=>bad) (fun hl=>?_)
 have hl:l.length≤30:=by have:=of_decide_eq_false hl; omega
 refine order72 (by omega) (fun b hb=>onBool_bv (ifB_mk (fun _=>bad) (fun hbt=>?_)))
 obtain ⟨o1,o2⟩:=hb (by simpa using hbt)
 refine La.of (σ:=Nat) (fun k=>sh26 l k) (fun k=>k≤l.length ∧ ∀ (i:Nat) (x:It),i<k→l[i]? = some x→1≤x.2.2∧x.2.2≤1000) (fun k=>l.length - k) 0 (by rw [← itl_length]; kernel_rfl) ⟨by simp,by simp⟩ ?_
 rintro k ⟨g1,g3⟩ J hJ
 refine see (p:=ifB (decide ((↑k:Int)<(↑(itl l).length:Int))) (onSome (itl l)[k]? fun row=>onCons (List.drop 0 row) fun u r=>onIntK IntKind.i64 u fun n=>onCons r fun u r=>onIntK IntKind.u8 u fun n=>onCons r fun u r=>onIntK IntKind.i64 u fun n=>ifB (decide ((1:Int)≤n)) (ifB (!decide (n≤(1000:Int))) (R (iv (8:Int))) (J (St.mk (mkT [(13,V.lst 3 (itl l)),(14,iv (↑(itl l).length:Int)),(15,iv (IntKind.i64.wrap ((↑k:Int)+(1:Int))))]) (Hp.mk [] 0 [])))) (R (iv (8:Int)))) (R (iv (0:Int)))) (by kernel_rfl) ?_
 simp only [itl_length]
 refine ifB_mk (fun hb=>?_) (fun hb=>?_)
 ·have hlt:k<l.length:=by have:=of_decide_eq_true hb; omega
  obtain ⟨x,hx⟩ : ∃ x,l[k]? = some x:=⟨l[k],by simp [hlt]⟩
  refine onSome_mk (itl_get hx) (onCons_cons (onIntK_iv (onCons_cons (onIntK_u8 (onCons_cons (onIntK_iv ?_))))))
  refine ifB_mk (fun a1=>ifB_mk (fun _=>bad) (fun a2=>?_)) (fun _=>bad)
  rw [wr1i hlt (by omega)]
  refine hJ' ?_ (hJ (k+1) ⟨by omega,fun i y hi hy=>?_⟩ (by omega))
  ·simp [sh26,itl_length]
  ·rcases Nat.lt_succ_iff_lt_or_eq.1 hi with q | q
   ·exact g3 i y q hy
   ·rw [q,hx] at hy; cases hy; exact ⟨of_decide_eq_true a1,by simpa using a2⟩
 ·have hk:k=l.length:=by have:=of_decide_eq_false hb; omega
  refine h 0 (fun _=>⟨hl,o1,o2,fun x hx=>?_⟩)
  obtain ⟨i,hi⟩:=List.getElem?_of_mem hx
  exact g3 i x (by have:=(List.getElem?_eq_some_iff.1 hi).1; omega) hi
theorem checkAll42 {p:List (List It)} {R:V→Prop} (hp:p.length≤1000) (h : ∀ n,(n=0 → ∀ l∈p,Stk l)→R (iv n)):K0G Tryz.prog glX 29 [.lst 1 (pll p)] R:=by
 refine K0_of_WY0 hmX hcM 3000 Tryz.func29 (see (p:=La 0 [(6:Tmp),(7:Tmp),(8:Tmp)] (WY Tryz.prog cfM 2995 (Env.mk (Bs.mk 0 []) 0 none 18 29 0) (cdAt [1,0,1,0,0] (bodyOf Tryz.f29))) (Qblk 0 (Qthen (WY Tryz.prog cfM 2998 (Env.mk (Bs.mk 0 []) 0 none 18 29 0) (cdAt [1,1] (bodyOf Tryz.f29)) (QendX Tryz.prog Tryz.f29 fun v h=>R (frzW h v))) (QendX Tryz.prog Tryz.f29 fun v h=>R (frzW h v)))) (St.mk (mkT [(6,V.lst 1 (pll p)),(7,iv (↑(pll p).length:Int)),(8,iv (0:Int))]) (Hp.mk [] 0 []))) (by kernel_rfl) ?_)
 refine La.of (σ:=Nat) (fun k=>sh42 p k) (fun k=>k≤p.length ∧ ∀ (i:Nat) l,i<k→p[i]? = some l→Stk l) (fun k=>p.length - k) 0 (by kernel_rfl) ⟨by simp,by simp⟩ ?_
 rintro k ⟨g1,g3⟩ J hJ
 refine see (p:=ifB (decide ((↑k:Int)<(↑(pll p).length:Int))) (onSome (pll p)[k]? fun row=>onSome row[0]? fun v=>onLst v fun s es=>K0G Tryz.prog glX 37 [V.lst s es] fun v=>onIntK IntKind.i64 v fun n=>ifB (n != (0:Int)) (R (iv n)) (J (St.mk (mkT [(6,V.lst 1 (pll p)),(7,iv (↑(pll p).length:Int)),(8,iv (IntKind.i64.wrap ((↑k:Int)+(1:Int))))]) (Hp.mk [] 0 [])))) (R (iv (0:Int)))) (by kernel_rfl) ?_
 simp only [pll_length]
 refine ifB_mk (fun hb=>?_) (fun hb=>?_)
 ·have hlt:k<p.length:=by have:=of_decide_eq_true hb; omega
  obtain ⟨l,hl⟩ : ∃ x,p[k]? = some x:=⟨p[k],by simp [hlt]⟩
  refine pll_get hl (check26 (fun n hn=>onIntK_iv (ifB_mk (fun hc=>h n (fun h0=>by subst h0; cases hc)) (fun hc=>?_))))
  rw [wr1i hlt (by omega)]
  refine hJ' ?_ (hJ (k+1) ⟨by omega,fun i y hi hy=>?_⟩ (by omega))
  ·simp [sh42,pll_length]
  ·rcases Nat.lt_succ_iff_lt_or_eq.1 hi with q | q
   ·exact g3 i y q hy
   ·rw [q,hl] at hy; cases hy; exact hn (by simpa using hc)
 ·have hk:k=p.length:=by have:=of_decide_eq_false hb; omega
  refine h 0 (fun _ x hx=>?_)
  obtain ⟨i,hi⟩:=List.getElem?_of_mem hx
  exact g3 i x (by have:=(List.getElem?_eq_some_iff.1 hi).1; omega) hi
theorem checkPlans49 {p:List (List It)} {v:List Int} {R:V→Prop} (hv:v.length≤1000) (h : ∀ n,(n=0→p.length≤8∧v.length=p.length ∧ ∀ x∈v,0≤x∧x≤1000)→R (iv n)):K0G Tryz.prog glX 30 [.lst 1 (pll p),.lst 1 (nl v)] R:=by
  refine K0_of_WY0 hmX hcM 3000 Tryz.func30 (see (p:=ifB (decide ((↑(pll p).length:Int) > (8:Int))) (R (iv (4:Int))) (ifB ((↑(nl v).length:Int) != (↑(pll p).length:Int)) (R (iv (2:Int))) (La 0 [(15:Tmp),(16:Tmp),(17:Tmp)] (WY Tryz.prog cfM 2993 (Env.mk (Bs.mk 0 []) 0 none 25 30 0) (cdAt [1,1,1,0,1,0,0] (bodyOf Tryz.f30))) (Qblk 0 (Qthen (WY Tryz.prog cfM 2996 (Env.mk (Bs.mk 0 []) 0 none 25 30 0) (cdAt [1,1,1,1] (bodyOf Tryz.f30)) (QendX Tryz.prog Tryz.f30 fun v h=>R (frzW h v))) (QendX Tryz.prog Tryz.f30 fun v h=>R (frzW h v)))) (St.mk (mkT [(15,V.lst 1 (nl v)),(16,iv (↑(nl v).length:Int)),(17,iv (0:Int))]) (Hp.mk [] 0 []))))) (by kernel_rfl) ?_)
  have nll : ∀ l:List Int,(nl l).length=l.length:=fun l=>by simp [nl]
  rw [pll_length,nll]
  refine ifB_mk (fun _=>h _ (fun h0=>by cases h0)) (fun h1=>ifB_mk (fun _=>h _ (fun h0=>by cases h0)) (fun h2=>?_))
  have h1:p.length≤8:=by have:=of_decide_eq_false h1; omega
  have h2 : v.length = p.length := by have : (v.length : Int) = p.length := by simpa using h2
                                      omega
  refine La.of (σ:=Nat) (fun k=>sh49 v k) (fun k=>k≤v.length ∧ ∀ (i:Nat) x,i<k→v[i]? = some x→0≤x∧x≤1000) (fun k=>v.length - k) 0 (by rw [← nll]; kernel_rfl) ⟨by simp,by simp⟩ ?_
  rintro k ⟨g1,g3⟩ J hJ
  refine see (p:=ifB (decide ((↑k:Int)<(↑(nl v).length:Int))) (onSome (nl v)[k]? fun row=>onSome row[0]? fun v_1=>onIntK IntKind.i64 v_1 fun n=>ifB (decide ((0:Int)≤n)) (ifB (!decide (n≤(1000:Int))) (R (iv (2:Int))) (J (St.mk (mkT [(15,V.lst 1 (nl v)),(16,iv (↑(nl v).length:Int)),(17,iv (IntKind.i64.wrap ((↑k:Int)+(1:Int))))]) (Hp.mk [] 0 [])))) (R (iv (2:Int)))) (R (iv (0:Int)))) (by kernel_rfl) ?_
  simp only [nll]
  have bad:R (iv 2):=h _ (fun h0=>by cases h0)
  refine ifB_mk (fun hb=>?_) (fun hb=>?_)
  · have hlt:k<v.length:=by have:=of_decide_eq_true hb; omega
    obtain ⟨x,hx⟩ : ∃ x,v[k]? = some x:=⟨v[k],by simp [hlt]⟩
    refine iel hx (ifB_mk (fun a1=>ifB_mk (fun _=>bad) (fun a2=>?_)) (fun _=>bad))
    rw [wr1i hlt (by omega)]
    refine hJ' ?_ (hJ (k+1) ⟨by omega,fun i y hi hy=>?_⟩ (by omega))
    · simp [sh49,nll]
    · rcases Nat.lt_succ_iff_lt_or_eq.1 hi with q | q
      · exact g3 i y q hy
      · rw [q,hx] at hy; cases hy; exact ⟨of_decide_eq_true a1,by simpa using a2⟩
  · have hk:k=v.length:=by have:=of_decide_eq_false hb; omega
    refine h 0 (fun _=>⟨h1,h2,fun x hx=>?_⟩)
    obtain ⟨i,hi⟩:=List.getElem?_of_mem hx
    exact g3 i x (by have:=(List.getElem?_eq_some_iff.1 hi).1; omega) hi
end Go.Proofs.YtmddjopahcbefabGreat
