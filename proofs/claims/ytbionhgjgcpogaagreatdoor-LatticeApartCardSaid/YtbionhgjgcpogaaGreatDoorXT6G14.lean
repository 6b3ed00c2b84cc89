/- A part of the proof. -/
import Derived.Test.YtbionhgjgcpogaaGreatDoorProg
import Derived.Shelf.SlLaysF0
import Derived.Shelf.SlGeneric
import Derived.Test.YtbionhgjgcpogaaGreatDoorXT6G10
import Derived.Test.YtbionhgjgcpogaaGreatDoorXT6G11
import Derived.Test.YtbionhgjgcpogaaGreatDoorXT6G12
import Derived.Test.YtbionhgjgcpogaaGreatDoorXT6G13
namespace Go.Proofs.YtbionhgjgcpogaaGreatDoor
open Go Go.Proofs.YtbionhgjgcpogaaGreatDoor.Clean
set_option linter.unusedVariables false
set_option linter.unusedSimpArgs false
set_option maxRecDepth 10000
theorem hcVB:cfVB.ok Tryz.prog:=by
 have h:(cfgG Tryz.prog glX moZ poP (rtP fN) (inN [121,142,122]) kpVB).ok Tryz.prog:=cfgG_ok (rtP_ok fN)
 exact ⟨h.1,h.2⟩
theorem bkl_get (l:List Bk) (k:Nat):(bkl l)[k]? = (l[k]?).map bkr:=by simp [bkl]
theorem bel {m:List Bk} {i:Nat} {b:Bk} {k:Int→Int→Int→Int→Int→Int→Prop} (h:m[i]? = some b) (hk:k b.1 b.2.1.1 b.2.1.2.1 b.2.1.2.2 b.2.2.1 b.2.2.2):onSome (bkl m)[i]? fun row=>onCons (List.drop 0 row) fun u r=>onIntK IntKind.i64 u fun n=>onCons r fun u r=>onIntK IntKind.i64 u fun n_1=>onCons r fun u r=>onIntK IntKind.i64 u fun n_2=>onCons r fun u r=>onIntK IntKind.i64 u fun n_3=>onCons r fun u r=>onIntK IntKind.u8 u fun n_4=>onCons r fun u r=>onIntK IntKind.u8 u fun n_5=>k n n_1 n_2 n_3 n_4 n_5:=onSome_mk (x:=bkr b) (by rw [bkl_get,h]; rfl) hk
theorem set_rep {α:Type} {A:List α} {s i:Nat} {x z:α} (hA:A.length=i) (hi:i<s):(A++List.replicate (s - i) z).set i x=(A++[x])++List.replicate (s - (i+1)) z:=by
 rw [List.set_append_right _ _ (by omega),hA,Nat.sub_self,show s - i=(s - (i+1))+1 from by omega,List.replicate_succ]
 simp
def kOf (l:List Kd) (b:Bk):Kd:=(l[b.1.toNat]?).getD ([],[],0)
def bod (l:List Kd) (b:Bk):Bdy:=(plc (kOf l b) b.2.2.1.toNat b.2.1,knb (kOf l b) b.2.2.1.toNat b.2.1)
def bods (l:List Kd) (m:List Bk):List Bdy:=m.map (bod l)
theorem putK {l:List Kd} {b:Bk} (hK:KindsP l) (hl : ∀ q∈l,KdR q) (hB:BrickP l.length b) (hr:BkR b):PutB l b (kOf l b) b.2.2.1.toNat∧KnbP (kOf l b)∧Bd 1000 b.2.1∧KindP (kOf l b):=by
 obtain ⟨⟨b1,b2⟩,b3,b4,b5⟩:=hB
 obtain ⟨q,hq⟩:=getI (l:=l) (k:=b.1.toNat) (by omega)
 have hm:=mem_at hq
 have hP:=(hK.2 q hm).put (hl q hm)
 have e:kOf l b=q:=by unfold kOf; rw [hq]; rfl
 rw [e]
 exact ⟨⟨hq,b1,hP.put,(hK.2 q hm).1.1.1,by have:=hr.1.1; omega,by have:=hr.1.1; omega,b3.mono (by omega)⟩,hP,b3,hK.2 q hm⟩
structure AskM (l:List Kd) (m:List Bk):Prop where
 kinds:KindsP l
 few:m.length≤40
 all : ∀ b∈m,BrickP l.length b
def askM (l:List Kd) (m:List Bk) (e:Int):Prop:=(16<l.length∧e=4)∨(l.length≤16 ∧ ¬ KindsP l∧e=10)∨(KindsP l∧40<m.length∧e=4)∨(KindsP l∧m.length≤40 ∧ ¬ (∀ b∈m,BrickP l.length b)∧e=11)∨(AskM l m∧e=0)
theorem areBricks80 {l:List Kd} {m:List Bk} {R:V→Prop} (hll:(l.length:Int)≤1000000) (hml:m.length≤1000000) (hr : ∀ b∈m,BkR b) (h:R (bv (dc (∀ b∈m,BrickP l.length b)))):K0G Tryz.prog glX 80 [.lst 3 (kdl l),.lst 6 (bkl m)] R:=by
 refine K0_by hmX hcVB 3000 Tryz.func80 (p := La 1 [(0 : Tmp), (1 : Tmp), (7 : Tmp), (8 : Tmp)] (WY Tryz.prog cfVB 2989 (Env.mk (Bs.mk 1 []) 1 none 19 142 0) (cdAt [1, 0, 1, 0, 0] (bodyOf Tryz.f142))) (Qblk 0 (Qthen (WY Tryz.prog cfVB 2992 (Env.mk (cfVB.baseOf (Bs.mk 1 []) 142 [V.lst 6 (bkl m), V.fn (Fn.func 122) [] [V.ptr (Id.p 0) 0 0]] (Hp.mk [(0, O.rows 1 false [[V.lst 3 (kdl l)]])] (0 + 1) [])) 1 none 19 142 0) (cdAt [1, 1] (bodyOf Tryz.f142)) (QendX Tryz.prog Tryz.f142 fun v h' => (fun v h => fzNew (callY Tryz.prog cfVB (WY Tryz.prog cfVB 2994) (Env.mk (cfVB.baseOf (Env.mk (Bs.mk 0 []) 0 none Tryz.f80.ntmps (80 : FuncId) 0).base 121 ([] ++ List.map (ev (callY Tryz.prog cfVB (WY Tryz.prog cfVB 2997) (Env.mk (Bs.mk 0 []) 0 none Tryz.f80.ntmps (80 : FuncId) 0).base (Env.mk (Bs.mk 0 []) 0 none Tryz.f80.ntmps (80 : FuncId) 0).fid).glob (mkT [(0, V.lst 3 (kdl l)), (1, V.lst 6 (bkl m)), (2, V.ptr (Id.p 0) 0 0), (4, bv false), (5, V.lst 6 (bkl m)), (6, V.fn (Fn.func 122) [] [V.ptr (Id.p 0) 0 0])])) (Call.mk (Callee.value (Operand.func 121)) #[Operand.tmp 5, Operand.tmp 6] #[32, 183]).args.toList ++ []) (Hp.mk [(0, O.rows 1 false [[V.lst 3 (kdl l)]])] 1 [])) 1 none Tryz.f121.ntmps 121 0).base (Env.mk (cfVB.baseOf (Env.mk (Bs.mk 0 []) 0 none Tryz.f80.ntmps (80 : FuncId) 0).base 121 ([] ++ List.map (ev (callY Tryz.prog cfVB (WY Tryz.prog cfVB 2997) (Env.mk (Bs.mk 0 []) 0 none Tryz.f80.ntmps (80 : FuncId) 0).base (Env.mk (Bs.mk 0 []) 0 none Tryz.f80.ntmps (80 : FuncId) 0).fid).glob (mkT [(0, V.lst 3 (kdl l)), (1, V.lst 6 (bkl m)), (2, V.ptr (Id.p 0) 0 0), (4, bv false), (5, V.lst 6 (bkl m)), (6, V.fn (Fn.func 122) [] [V.ptr (Id.p 0) 0 0])])) (Call.mk (Callee.value (Operand.func 121)) #[Operand.tmp 5, Operand.tmp 6] #[32, 183]).args.toList ++ []) (Hp.mk [(0, O.rows 1 false [[V.lst 3 (kdl l)]])] 1 [])) 1 none Tryz.f121.ntmps 121 0).fid) 1 (Oper.mk (some 7) (Op.call (Call.mk (Callee.value (Operand.func 142)) #[Operand.tmp 5, Operand.tmp 6] #[32, 183])) 3 "slices.go:125" #[Edge.mk 0 Ground.data, Edge.mk 1 Ground.data] none) v h fun v h => putT (Env.mk (cfVB.baseOf (Env.mk (Bs.mk 0 []) 0 none Tryz.f80.ntmps (80 : FuncId) 0).base 121 ([] ++ List.map (ev (callY Tryz.prog cfVB (WY Tryz.prog cfVB 2997) (Env.mk (Bs.mk 0 []) 0 none Tryz.f80.ntmps (80 : FuncId) 0).base (Env.mk (Bs.mk 0 []) 0 none Tryz.f80.ntmps (80 : FuncId) 0).fid).glob (mkT [(0, V.lst 3 (kdl l)), (1, V.lst 6 (bkl m)), (2, V.ptr (Id.p 0) 0 0), (4, bv false), (5, V.lst 6 (bkl m)), (6, V.fn (Fn.func 122) [] [V.ptr (Id.p 0) 0 0])])) (Call.mk (Callee.value (Operand.func 121)) #[Operand.tmp 5, Operand.tmp 6] #[32, 183]).args.toList ++ []) (Hp.mk [(0, O.rows 1 false [[V.lst 3 (kdl l)]])] 1 [])) 1 none Tryz.f121.ntmps 121 0).N (mkT [(0, V.lst 6 (bkl m)), (1, V.fn (Fn.func 122) [] [V.ptr (Id.p 0) 0 0]), (4, bv false), (5, V.lst 6 (bkl m)), (6, V.fn (Fn.func 122) [] [V.ptr (Id.p 0) 0 0])]) (Oper.mk (some 7) (Op.call (Call.mk (Callee.value (Operand.func 142)) #[Operand.tmp 5, Operand.tmp 6] #[32, 183])) 3 "slices.go:125" #[Edge.mk 0 Ground.data, Edge.mk 1 Ground.data] none).dst v fun tm => (fun st => fzOld (callY Tryz.prog cfVB (WY Tryz.prog cfVB 2994) (Env.mk (cfVB.baseOf (Env.mk (Bs.mk 0 []) 0 none Tryz.f80.ntmps (80 : FuncId) 0).base 121 ([] ++ List.map (ev (callY Tryz.prog cfVB (WY Tryz.prog cfVB 2997) (Env.mk (Bs.mk 0 []) 0 none Tryz.f80.ntmps (80 : FuncId) 0).base (Env.mk (Bs.mk 0 []) 0 none Tryz.f80.ntmps (80 : FuncId) 0).fid).glob (mkT [(0, V.lst 3 (kdl l)), (1, V.lst 6 (bkl m)), (2, V.ptr (Id.p 0) 0 0), (4, bv false), (5, V.lst 6 (bkl m)), (6, V.fn (Fn.func 122) [] [V.ptr (Id.p 0) 0 0])])) (Call.mk (Callee.value (Operand.func 121)) #[Operand.tmp 5, Operand.tmp 6] #[32, 183]).args.toList ++ []) (Hp.mk [(0, O.rows 1 false [[V.lst 3 (kdl l)]])] 1 [])) 1 none Tryz.f121.ntmps 121 0).base (Env.mk (cfVB.baseOf (Env.mk (Bs.mk 0 []) 0 none Tryz.f80.ntmps (80 : FuncId) 0).base 121 ([] ++ List.map (ev (callY Tryz.prog cfVB (WY Tryz.prog cfVB 2997) (Env.mk (Bs.mk 0 []) 0 none Tryz.f80.ntmps (80 : FuncId) 0).base (Env.mk (Bs.mk 0 []) 0 none Tryz.f80.ntmps (80 : FuncId) 0).fid).glob (mkT [(0, V.lst 3 (kdl l)), (1, V.lst 6 (bkl m)), (2, V.ptr (Id.p 0) 0 0), (4, bv false), (5, V.lst 6 (bkl m)), (6, V.fn (Fn.func 122) [] [V.ptr (Id.p 0) 0 0])])) (Call.mk (Callee.value (Operand.func 121)) #[Operand.tmp 5, Operand.tmp 6] #[32, 183]).args.toList ++ []) (Hp.mk [(0, O.rows 1 false [[V.lst 3 (kdl l)]])] 1 [])) 1 none Tryz.f121.ntmps 121 0).fid) (askY cfVB (Env.mk (cfVB.baseOf (Env.mk (Bs.mk 0 []) 0 none Tryz.f80.ntmps (80 : FuncId) 0).base 121 ([] ++ List.map (ev (callY Tryz.prog cfVB (WY Tryz.prog cfVB 2997) (Env.mk (Bs.mk 0 []) 0 none Tryz.f80.ntmps (80 : FuncId) 0).base (Env.mk (Bs.mk 0 []) 0 none Tryz.f80.ntmps (80 : FuncId) 0).fid).glob (mkT [(0, V.lst 3 (kdl l)), (1, V.lst 6 (bkl m)), (2, V.ptr (Id.p 0) 0 0), (4, bv false), (5, V.lst 6 (bkl m)), (6, V.fn (Fn.func 122) [] [V.ptr (Id.p 0) 0 0])])) (Call.mk (Callee.value (Operand.func 121)) #[Operand.tmp 5, Operand.tmp 6] #[32, 183]).args.toList ++ []) (Hp.mk [(0, O.rows 1 false [[V.lst 3 (kdl l)]])] 1 [])) 1 none Tryz.f121.ntmps 121 0).base) (Oper.mk (some 7) (Op.call (Call.mk (Callee.value (Operand.func 142)) #[Operand.tmp 5, Operand.tmp 6] #[32, 183])) 3 "slices.go:125" #[Edge.mk 0 Ground.data, Edge.mk 1 Ground.data] none) st fun st => wOps Tryz.prog (callY Tryz.prog cfVB (WY Tryz.prog cfVB 2994) (Env.mk (cfVB.baseOf (Env.mk (Bs.mk 0 []) 0 none Tryz.f80.ntmps (80 : FuncId) 0).base 121 ([] ++ List.map (ev (callY Tryz.prog cfVB (WY Tryz.prog cfVB 2997) (Env.mk (Bs.mk 0 []) 0 none Tryz.f80.ntmps (80 : FuncId) 0).base (Env.mk (Bs.mk 0 []) 0 none Tryz.f80.ntmps (80 : FuncId) 0).fid).glob (mkT [(0, V.lst 3 (kdl l)), (1, V.lst 6 (bkl m)), (2, V.ptr (Id.p 0) 0 0), (4, bv false), (5, V.lst 6 (bkl m)), (6, V.fn (Fn.func 122) [] [V.ptr (Id.p 0) 0 0])])) (Call.mk (Callee.value (Operand.func 121)) #[Operand.tmp 5, Operand.tmp 6] #[32, 183]).args.toList ++ []) (Hp.mk [(0, O.rows 1 false [[V.lst 3 (kdl l)]])] 1 [])) 1 none Tryz.f121.ntmps 121 0).base (Env.mk (cfVB.baseOf (Env.mk (Bs.mk 0 []) 0 none Tryz.f80.ntmps (80 : FuncId) 0).base 121 ([] ++ List.map (ev (callY Tryz.prog cfVB (WY Tryz.prog cfVB 2997) (Env.mk (Bs.mk 0 []) 0 none Tryz.f80.ntmps (80 : FuncId) 0).base (Env.mk (Bs.mk 0 []) 0 none Tryz.f80.ntmps (80 : FuncId) 0).fid).glob (mkT [(0, V.lst 3 (kdl l)), (1, V.lst 6 (bkl m)), (2, V.ptr (Id.p 0) 0 0), (4, bv false), (5, V.lst 6 (bkl m)), (6, V.fn (Fn.func 122) [] [V.ptr (Id.p 0) 0 0])])) (Call.mk (Callee.value (Operand.func 121)) #[Operand.tmp 5, Operand.tmp 6] #[32, 183]).args.toList ++ []) (Hp.mk [(0, O.rows 1 false [[V.lst 3 (kdl l)]])] 1 [])) 1 none Tryz.f121.ntmps 121 0).fid) (askY cfVB (Env.mk (cfVB.baseOf (Env.mk (Bs.mk 0 []) 0 none Tryz.f80.ntmps (80 : FuncId) 0).base 121 ([] ++ List.map (ev (callY Tryz.prog cfVB (WY Tryz.prog cfVB 2997) (Env.mk (Bs.mk 0 []) 0 none Tryz.f80.ntmps (80 : FuncId) 0).base (Env.mk (Bs.mk 0 []) 0 none Tryz.f80.ntmps (80 : FuncId) 0).fid).glob (mkT [(0, V.lst 3 (kdl l)), (1, V.lst 6 (bkl m)), (2, V.ptr (Id.p 0) 0 0), (4, bv false), (5, V.lst 6 (bkl m)), (6, V.fn (Fn.func 122) [] [V.ptr (Id.p 0) 0 0])])) (Call.mk (Callee.value (Operand.func 121)) #[Operand.tmp 5, Operand.tmp 6] #[32, 183]).args.toList ++ []) (Hp.mk [(0, O.rows 1 false [[V.lst 3 (kdl l)]])] 1 [])) 1 none Tryz.f121.ntmps 121 0).base) (Env.mk (cfVB.baseOf (Env.mk (Bs.mk 0 []) 0 none Tryz.f80.ntmps (80 : FuncId) 0).base 121 ([] ++ List.map (ev (callY Tryz.prog cfVB (WY Tryz.prog cfVB 2997) (Env.mk (Bs.mk 0 []) 0 none Tryz.f80.ntmps (80 : FuncId) 0).base (Env.mk (Bs.mk 0 []) 0 none Tryz.f80.ntmps (80 : FuncId) 0).fid).glob (mkT [(0, V.lst 3 (kdl l)), (1, V.lst 6 (bkl m)), (2, V.ptr (Id.p 0) 0 0), (4, bv false), (5, V.lst 6 (bkl m)), (6, V.fn (Fn.func 122) [] [V.ptr (Id.p 0) 0 0])])) (Call.mk (Callee.value (Operand.func 121)) #[Operand.tmp 5, Operand.tmp 6] #[32, 183]).args.toList ++ []) (Hp.mk [(0, O.rows 1 false [[V.lst 3 (kdl l)]])] 1 [])) 1 none Tryz.f121.ntmps 121 0).N #[Oper.mk (some 5) (Op.move (Operand.tmp 0)) 32 "slices.go:125" #[] none, Oper.mk (some 6) (Op.move (Operand.tmp 1)) 183 "slices.go:125" #[] none, Oper.mk (some 7) (Op.call (Call.mk (Callee.value (Operand.func 142)) #[Operand.tmp 5, Operand.tmp 6] #[32, 183])) 3 "slices.go:125" #[Edge.mk 0 Ground.data, Edge.mk 1 Ground.data] none, Oper.mk (some 8) (Op.binOp BinOp.geq 3 (Operand.tmp 7) (Operand.const (Value.int IntKind.i64 (0 : Int))) 3) 4 "slices.go:125" #[Edge.mk 2 Ground.data] none, Oper.mk (some 4) (Op.assign (Operand.tmp 8)) 4 "slices.go:125" #[Edge.mk 3 Ground.data, Edge.mk 2 Ground.chain, Edge.mk 0 Ground.phase, Edge.mk 1 Ground.phase, Edge.mk 2 Ground.phase, Edge.mk 3 Ground.phase] none].toList [Oper.mk (some 8) (Op.binOp BinOp.geq 3 (Operand.tmp 7) (Operand.const (Value.int IntKind.i64 (0 : Int))) 3) 4 "slices.go:125" #[Edge.mk 2 Ground.data] none, Oper.mk (some 4) (Op.assign (Operand.tmp 8)) 4 "slices.go:125" #[Edge.mk 3 Ground.data, Edge.mk 2 Ground.chain, Edge.mk 0 Ground.phase, Edge.mk 1 Ground.phase, Edge.mk 2 Ground.phase, Edge.mk 3 Ground.phase] none] st (Qthen (WY Tryz.prog cfVB 2995 (Env.mk (cfVB.baseOf (Bs.mk 0 []) 121 [V.lst 6 (bkl m), V.fn (Fn.func 122) [] [V.ptr (Id.p 0) 0 0]] (Hp.mk [(0, O.rows 1 false [[V.lst 3 (kdl l)]])] (0 + 1) [])) 1 none 9 121 0) (cdAt [1, 1] (bodyOf Tryz.f122)) (QendX Tryz.prog Tryz.f121 fun v h' => (fun v h => fzNew (callY Tryz.prog cfVB (WY Tryz.prog cfVB 2997) (Env.mk (Bs.mk 0 []) 0 none Tryz.f80.ntmps (80 : FuncId) 0).base (Env.mk (Bs.mk 0 []) 0 none Tryz.f80.ntmps (80 : FuncId) 0).fid) 1 (Oper.mk (some 7) (Op.call (Call.mk (Callee.value (Operand.func 121)) #[Operand.tmp 5, Operand.tmp 6] #[32, 183])) 4 "model.go:28" #[Edge.mk 0 Ground.data, Edge.mk 1 Ground.data] none) v h fun v h => putT (Env.mk (Bs.mk 0 []) 0 none Tryz.f80.ntmps (80 : FuncId) 0).N (mkT [(0, V.lst 3 (kdl l)), (1, V.lst 6 (bkl m)), (2, V.ptr (Id.p 0) 0 0), (4, bv false), (5, V.lst 6 (bkl m)), (6, V.fn (Fn.func 122) [] [V.ptr (Id.p 0) 0 0])]) (Oper.mk (some 7) (Op.call (Call.mk (Callee.value (Operand.func 121)) #[Operand.tmp 5, Operand.tmp 6] #[32, 183])) 4 "model.go:28" #[Edge.mk 0 Ground.data, Edge.mk 1 Ground.data] none).dst v fun tm => (fun st => fzOld (callY Tryz.prog cfVB (WY Tryz.prog cfVB 2997) (Env.mk (Bs.mk 0 []) 0 none Tryz.f80.ntmps (80 : FuncId) 0).base (Env.mk (Bs.mk 0 []) 0 none Tryz.f80.ntmps (80 : FuncId) 0).fid) (askY cfVB (Env.mk (Bs.mk 0 []) 0 none Tryz.f80.ntmps (80 : FuncId) 0).base) (Oper.mk (some 7) (Op.call (Call.mk (Callee.value (Operand.func 121)) #[Operand.tmp 5, Operand.tmp 6] #[32, 183])) 4 "model.go:28" #[Edge.mk 0 Ground.data, Edge.mk 1 Ground.data] none) st fun st => wOps Tryz.prog (callY Tryz.prog cfVB (WY Tryz.prog cfVB 2997) (Env.mk (Bs.mk 0 []) 0 none Tryz.f80.ntmps (80 : FuncId) 0).base (Env.mk (Bs.mk 0 []) 0 none Tryz.f80.ntmps (80 : FuncId) 0).fid) (askY cfVB (Env.mk (Bs.mk 0 []) 0 none Tryz.f80.ntmps (80 : FuncId) 0).base) (Env.mk (Bs.mk 0 []) 0 none Tryz.f80.ntmps (80 : FuncId) 0).N #[Oper.mk (some 5) (Op.move (Operand.tmp 1)) 32 "model.go:28" #[] none, Oper.mk (some 6) (Op.makeFunc (Fn.func 122) #[] #[Operand.tmp 2]) 183 "model.go:28" #[] none, Oper.mk (some 7) (Op.call (Call.mk (Callee.value (Operand.func 121)) #[Operand.tmp 5, Operand.tmp 6] #[32, 183])) 4 "model.go:28" #[Edge.mk 0 Ground.data, Edge.mk 1 Ground.data] none, Oper.mk (some 8) (Op.unOp UnOp.not 4 (Operand.tmp 7)) 4 "model.go:28" #[Edge.mk 2 Ground.data] none, Oper.mk (some 4) (Op.assign (Operand.tmp 8)) 4 "model.go:28" #[Edge.mk 3 Ground.data, Edge.mk 2 Ground.chain, Edge.mk 0 Ground.phase, Edge.mk 1 Ground.phase, Edge.mk 2 Ground.phase, Edge.mk 3 Ground.phase] none].toList [Oper.mk (some 8) (Op.unOp UnOp.not 4 (Operand.tmp 7)) 4 "model.go:28" #[Edge.mk 2 Ground.data] none, Oper.mk (some 4) (Op.assign (Operand.tmp 8)) 4 "model.go:28" #[Edge.mk 3 Ground.data, Edge.mk 2 Ground.chain, Edge.mk 0 Ground.phase, Edge.mk 1 Ground.phase, Edge.mk 2 Ground.phase, Edge.mk 3 Ground.phase] none] st (Qthen (WY Tryz.prog cfVB 2998 (Env.mk (Bs.mk 0 []) 0 none 9 80 0) (cdAt [1, 1] (bodyOf Tryz.f122)) (QendX Tryz.prog Tryz.f80 fun v h => R (frzW h v))) (QendX Tryz.prog Tryz.f80 fun v h => R (frzW h v)) Ex.norm)) (St.mk tm h)) v (bif cfVB.clean 121 then gcH 1 v h' else h'))) (QendX Tryz.prog Tryz.f121 fun v h' => (fun v h => fzNew (callY Tryz.prog cfVB (WY Tryz.prog cfVB 2997) (Env.mk (Bs.mk 0 []) 0 none Tryz.f80.ntmps (80 : FuncId) 0).base (Env.mk (Bs.mk 0 []) 0 none Tryz.f80.ntmps (80 : FuncId) 0).fid) 1 (Oper.mk (some 7) (Op.call (Call.mk (Callee.value (Operand.func 121)) #[Operand.tmp 5, Operand.tmp 6] #[32, 183])) 4 "model.go:28" #[Edge.mk 0 Ground.data, Edge.mk 1 Ground.data] none) v h fun v h => putT (Env.mk (Bs.mk 0 []) 0 none Tryz.f80.ntmps (80 : FuncId) 0).N (mkT [(0, V.lst 3 (kdl l)), (1, V.lst 6 (bkl m)), (2, V.ptr (Id.p 0) 0 0), (4, bv false), (5, V.lst 6 (bkl m)), (6, V.fn (Fn.func 122) [] [V.ptr (Id.p 0) 0 0])]) (Oper.mk (some 7) (Op.call (Call.mk (Callee.value (Operand.func 121)) #[Operand.tmp 5, Operand.tmp 6] #[32, 183])) 4 "model.go:28" #[Edge.mk 0 Ground.data, Edge.mk 1 Ground.data] none).dst v fun tm => (fun st => fzOld (callY Tryz.prog cfVB (WY Tryz.prog cfVB 2997) (Env.mk (Bs.mk 0 []) 0 none Tryz.f80.ntmps (80 : FuncId) 0).base (Env.mk (Bs.mk 0 []) 0 none Tryz.f80.ntmps (80 : FuncId) 0).fid) (askY cfVB (Env.mk (Bs.mk 0 []) 0 none Tryz.f80.ntmps (80 : FuncId) 0).base) (Oper.mk (some 7) (Op.call (Call.mk (Callee.value (Operand.func 121)) #[Operand.tmp 5, Operand.tmp 6] #[32, 183])) 4 "model.go:28" #[Edge.mk 0 Ground.data, Edge.mk 1 Ground.data] none) st fun st => wOps Tryz.prog (callY Tryz.prog cfVB (WY Tryz.prog cfVB 2997) (Env.mk (Bs.mk 0 []) 0 none Tryz.f80.ntmps (80 : FuncId) 0).base (Env.mk (Bs.mk 0 []) 0 none Tryz.f80.ntmps (80 : FuncId) 0).fid) (askY cfVB (Env.mk (Bs.mk 0 []) 0 none Tryz.f80.ntmps (80 : FuncId) 0).base) (Env.mk (Bs.mk 0 []) 0 none Tryz.f80.ntmps (80 : FuncId) 0).N #[Oper.mk (some 5) (Op.move (Operand.tmp 1)) 32 "model.go:28" #[] none, Oper.mk (some 6) (Op.makeFunc (Fn.func 122) #[] #[Operand.tmp 2]) 183 "model.go:28" #[] none, Oper.mk (some 7) (Op.call (Call.mk (Callee.value (Operand.func 121)) #[Operand.tmp 5, Operand.tmp 6] #[32, 183])) 4 "model.go:28" #[Edge.mk 0 Ground.data, Edge.mk 1 Ground.data] none, Oper.mk (some 8) (Op.unOp UnOp.not 4 (Operand.tmp 7)) 4 "model.go:28" #[Edge.mk 2 Ground.data] none, Oper.mk (some 4) (Op.assign (Operand.tmp 8)) 4 "model.go:28" #[Edge.mk 3 Ground.data, Edge.mk 2 Ground.chain, Edge.mk 0 Ground.phase, Edge.mk 1 Ground.phase, Edge.mk 2 Ground.phase, Edge.mk 3 Ground.phase] none].toList [Oper.mk (some 8) (Op.unOp UnOp.not 4 (Operand.tmp 7)) 4 "model.go:28" #[Edge.mk 2 Ground.data] none, Oper.mk (some 4) (Op.assign (Operand.tmp 8)) 4 "model.go:28" #[Edge.mk 3 Ground.data, Edge.mk 2 Ground.chain, Edge.mk 0 Ground.phase, Edge.mk 1 Ground.phase, Edge.mk 2 Ground.phase, Edge.mk 3 Ground.phase] none] st (Qthen (WY Tryz.prog cfVB 2998 (Env.mk (Bs.mk 0 []) 0 none 9 80 0) (cdAt [1, 1] (bodyOf Tryz.f122)) (QendX Tryz.prog Tryz.f80 fun v h => R (frzW h v))) (QendX Tryz.prog Tryz.f80 fun v h => R (frzW h v)) Ex.norm)) (St.mk tm h)) v (bif cfVB.clean 121 then gcH 1 v h' else h')) Ex.norm)) (St.mk tm h)) v (bif cfVB.clean 142 then gcH 1 v h' else h'))) (QendX Tryz.prog Tryz.f142 fun v h' => (fun v h => fzNew (callY Tryz.prog cfVB (WY Tryz.prog cfVB 2994) (Env.mk (cfVB.baseOf (Env.mk (Bs.mk 0 []) 0 none Tryz.f80.ntmps (80 : FuncId) 0).base 121 ([] ++ List.map (ev (callY Tryz.prog cfVB (WY Tryz.prog cfVB 2997) (Env.mk (Bs.mk 0 []) 0 none Tryz.f80.ntmps (80 : FuncId) 0).base (Env.mk (Bs.mk 0 []) 0 none Tryz.f80.ntmps (80 : FuncId) 0).fid).glob (mkT [(0, V.lst 3 (kdl l)), (1, V.lst 6 (bkl m)), (2, V.ptr (Id.p 0) 0 0), (4, bv false), (5, V.lst 6 (bkl m)), (6, V.fn (Fn.func 122) [] [V.ptr (Id.p 0) 0 0])])) (Call.mk (Callee.value (Operand.func 121)) #[Operand.tmp 5, Operand.tmp 6] #[32, 183]).args.toList ++ []) (Hp.mk [(0, O.rows 1 false [[V.lst 3 (kdl l)]])] 1 [])) 1 none Tryz.f121.ntmps 121 0).base (Env.mk (cfVB.baseOf (Env.mk (Bs.mk 0 []) 0 none Tryz.f80.ntmps (80 : FuncId) 0).base 121 ([] ++ List.map (ev (callY Tryz.prog cfVB (WY Tryz.prog cfVB 2997) (Env.mk (Bs.mk 0 []) 0 none Tryz.f80.ntmps (80 : FuncId) 0).base (Env.mk (Bs.mk 0 []) 0 none Tryz.f80.ntmps (80 : FuncId) 0).fid).glob (mkT [(0, V.lst 3 (kdl l)), (1, V.lst 6 (bkl m)), (2, V.ptr (Id.p 0) 0 0), (4, bv false), (5, V.lst 6 (bkl m)), (6, V.fn (Fn.func 122) [] [V.ptr (Id.p 0) 0 0])])) (Call.mk (Callee.value (Operand.func 121)) #[Operand.tmp 5, Operand.tmp 6] #[32, 183]).args.toList ++ []) (Hp.mk [(0, O.rows 1 false [[V.lst 3 (kdl l)]])] 1 [])) 1 none Tryz.f121.ntmps 121 0).fid) 1 (Oper.mk (some 7) (Op.call (Call.mk (Callee.value (Operand.func 142)) #[Operand.tmp 5, Operand.tmp 6] #[32, 183])) 3 "slices.go:125" #[Edge.mk 0 Ground.data, Edge.mk 1 Ground.data] none) v h fun v h => putT (Env.mk (cfVB.baseOf (Env.mk (Bs.mk 0 []) 0 none Tryz.f80.ntmps (80 : FuncId) 0).base 121 ([] ++ List.map (ev (callY Tryz.prog cfVB (WY Tryz.prog cfVB 2997) (Env.mk (Bs.mk 0 []) 0 none Tryz.f80.ntmps (80 : FuncId) 0).base (Env.mk (Bs.mk 0 []) 0 none Tryz.f80.ntmps (80 : FuncId) 0).fid).glob (mkT [(0, V.lst 3 (kdl l)), (1, V.lst 6 (bkl m)), (2, V.ptr (Id.p 0) 0 0), (4, bv false), (5, V.lst 6 (bkl m)), (6, V.fn (Fn.func 122) [] [V.ptr (Id.p 0) 0 0])])) (Call.mk (Callee.value (Operand.func 121)) #[Operand.tmp 5, Operand.tmp 6] #[32, 183]).args.toList ++ []) (Hp.mk [(0, O.rows 1 false [[V.lst 3 (kdl l)]])] 1 [])) 1 none Tryz.f121.ntmps 121 0).N (mkT [(0, V.lst 6 (bkl m)), (1, V.fn (Fn.func 122) [] [V.ptr (Id.p 0) 0 0]), (4, bv false), (5, V.lst 6 (bkl m)), (6, V.fn (Fn.func 122) [] [V.ptr (Id.p 0) 0 0])]) (Oper.mk (some 7) (Op.call (Call.mk (Callee.value (Operand.func 142)) #[Operand.tmp 5, Operand.tmp 6] #[32, 183])) 3 "slices.go:125" #[Edge.mk 0 Ground.data, Edge.mk 1 Ground.data] none).dst v fun tm => (fun st => fzOld (callY Tryz.prog cfVB (WY Tryz.prog cfVB 2994) (Env.mk (cfVB.baseOf (Env.mk (Bs.mk 0 []) 0 none Tryz.f80.ntmps (80 : FuncId) 0).base 121 ([] ++ List.map (ev (callY Tryz.prog cfVB (WY Tryz.prog cfVB 2997) (Env.mk (Bs.mk 0 []) 0 none Tryz.f80.ntmps (80 : FuncId) 0).base (Env.mk (Bs.mk 0 []) 0 none Tryz.f80.ntmps (80 : FuncId) 0).fid).glob (mkT [(0, V.lst 3 (kdl l)), (1, V.lst 6 (bkl m)), (2, V.ptr (Id.p 0) 0 0), (4, bv false), (5, V.lst 6 (bkl m)), (6, V.fn (Fn.func 122) [] [V.ptr (Id.p 0) 0 0])])) (Call.mk (Callee.value (Operand.func 121)) #[Operand.tmp 5, Operand.tmp 6] #[32, 183]).args.toList ++ []) (Hp.mk [(0, O.rows 1 false [[V.lst 3 (kdl l)]])] 1 [])) 1 none Tryz.f121.ntmps 121 0).base (Env.mk (cfVB.baseOf (Env.mk (Bs.mk 0 []) 0 none Tryz.f80.ntmps (80 : FuncId) 0).base 121 ([] ++ List.map (ev (callY Tryz.prog cfVB (WY Tryz.prog cfVB 2997) (Env.mk (Bs.mk 0 []) 0 none Tryz.f80.ntmps (80 : FuncId) 0).base (Env.mk (Bs.mk 0 []) 0 none Tryz.f80.ntmps (80 : FuncId) 0).fid).glob (mkT [(0, V.lst 3 (kdl l)), (1, V.lst 6 (bkl m)), (2, V.ptr (Id.p 0) 0 0), (4, bv false), (5, V.lst 6 (bkl m)), (6, V.fn (Fn.func 122) [] [V.ptr (Id.p 0) 0 0])])) (Call.mk (Callee.value (Operand.func 121)) #[Operand.tmp 5, Operand.tmp 6] #[32, 183]).args.toList ++ []) (Hp.mk [(0, O.rows 1 false [[V.lst 3 (kdl l)]])] 1 [])) 1 none Tryz.f121.ntmps 121 0).fid) (askY cfVB (Env.mk (cfVB.baseOf (Env.mk (Bs.mk 0 []) 0 none Tryz.f80.ntmps (80 : FuncId) 0).base 121 ([] ++ List.map (ev (callY Tryz.prog cfVB (WY Tryz.prog cfVB 2997) (Env.mk (Bs.mk 0 []) 0 none Tryz.f80.ntmps (80 : FuncId) 0).base (Env.mk (Bs.mk 0 []) 0 none Tryz.f80.ntmps (80 : FuncId) 0).fid).glob (mkT [(0, V.lst 3 (kdl l)), (1, V.lst 6 (bkl m)), (2, V.ptr (Id.p 0) 0 0), (4, bv false), (5, V.lst 6 (bkl m)), (6, V.fn (Fn.func 122) [] [V.ptr (Id.p 0) 0 0])])) (Call.mk (Callee.value (Operand.func 121)) #[Operand.tmp 5, Operand.tmp 6] #[32, 183]).args.toList ++ []) (Hp.mk [(0, O.rows 1 false [[V.lst 3 (kdl l)]])] 1 [])) 1 none Tryz.f121.ntmps 121 0).base) (Oper.mk (some 7) (Op.call (Call.mk (Callee.value (Operand.func 142)) #[Operand.tmp 5, Operand.tmp 6] #[32, 183])) 3 "slices.go:125" #[Edge.mk 0 Ground.data, Edge.mk 1 Ground.data] none) st fun st => wOps Tryz.prog (callY Tryz.prog cfVB (WY Tryz.prog cfVB 2994) (Env.mk (cfVB.baseOf (Env.mk (Bs.mk 0 []) 0 none Tryz.f80.ntmps (80 : FuncId) 0).base 121 ([] ++ List.map (ev (callY Tryz.prog cfVB (WY Tryz.prog cfVB 2997) (Env.mk (Bs.mk 0 []) 0 none Tryz.f80.ntmps (80 : FuncId) 0).base (Env.mk (Bs.mk 0 []) 0 none Tryz.f80.ntmps (80 : FuncId) 0).fid).glob (mkT [(0, V.lst 3 (kdl l)), (1, V.lst 6 (bkl m)), (2, V.ptr (Id.p 0) 0 0), (4, bv false), (5, V.lst 6 (bkl m)), (6, V.fn (Fn.func 122) [] [V.ptr (Id.p 0) 0 0])])) (Call.mk (Callee.value (Operand.func 121)) #[Operand.tmp 5, Operand.tmp 6] #[32, 183]).args.toList ++ []) (Hp.mk [(0, O.rows 1 false [[V.lst 3 (kdl l)]])] 1 [])) 1 none Tryz.f121.ntmps 121 0).base (Env.mk (cfVB.baseOf (Env.mk (Bs.mk 0 []) 0 none Tryz.f80.ntmps (80 : FuncId) 0).base 121 ([] ++ List.map (ev (callY Tryz.prog cfVB (WY Tryz.prog cfVB 2997) (Env.mk (Bs.mk 0 []) 0 none Tryz.f80.ntmps (80 : FuncId) 0).base (Env.mk (Bs.mk 0 []) 0 none Tryz.f80.ntmps (80 : FuncId) 0).fid).glob (mkT [(0, V.lst 3 (kdl l)), (1, V.lst 6 (bkl m)), (2, V.ptr (Id.p 0) 0 0), (4, bv false), (5, V.lst 6 (bkl m)), (6, V.fn (Fn.func 122) [] [V.ptr (Id.p 0) 0 0])])) (Call.mk (Callee.value (Operand.func 121)) #[Operand.tmp 5, Operand.tmp 6] #[32, 183]).args.toList ++ []) (Hp.mk [(0, O.rows 1 false [[V.lst 3 (kdl l)]])] 1 [])) 1 none Tryz.f121.ntmps 121 0).fid) (askY cfVB (Env.mk (cfVB.baseOf (Env.mk (Bs.mk 0 []) 0 none Tryz.f80.ntmps (80 : FuncId) 0).base 121 ([] ++ List.map (ev (callY Tryz.prog cfVB (WY Tryz.prog cfVB 2997) (Env.mk (Bs.mk 0 []) 0 none Tryz.f80.ntmps (80 : FuncId) 0).base (Env.mk (Bs.mk 0 []) 0 none Tryz.f80.ntmps (80 : FuncId) 0).fid).glob (mkT [(0, V.lst 3 (kdl l)), (1, V.lst 6 (bkl m)), (2, V.ptr (Id.p 0) 0 0), (4, bv false), (5, V.lst 6 (bkl m)), (6, V.fn (Fn.func 122) [] [V.ptr (Id.p 0) 0 0])])) (Call.mk (Callee.value (Operand.func 121)) #[Operand.tmp 5, Operand.tmp 6] #[32, 183]).args.toList ++ []) (Hp.mk [(0, O.rows 1 false [[V.lst 3 (kdl l)]])] 1 [])) 1 none Tryz.f121.ntmps 121 0).base) (Env.mk (cfVB.baseOf (Env.mk (Bs.mk 0 []) 0 none Tryz.f80.ntmps (80 : FuncId) 0).base 121 ([] ++ List.map (ev (callY Tryz.prog cfVB (WY Tryz.prog cfVB 2997) (Env.mk (Bs.mk 0 []) 0 none Tryz.f80.ntmps (80 : FuncId) 0).base (Env.mk (Bs.mk 0 []) 0 none Tryz.f80.ntmps (80 : FuncId) 0).fid).glob (mkT [(0, V.lst 3 (kdl l)), (1, V.lst 6 (bkl m)), (2, V.ptr (Id.p 0) 0 0), (4, bv false), (5, V.lst 6 (bkl m)), (6, V.fn (Fn.func 122) [] [V.ptr (Id.p 0) 0 0])])) (Call.mk (Callee.value (Operand.func 121)) #[Operand.tmp 5, Operand.tmp 6] #[32, 183]).args.toList ++ []) (Hp.mk [(0, O.rows 1 false [[V.lst 3 (kdl l)]])] 1 [])) 1 none Tryz.f121.ntmps 121 0).N #[Oper.mk (some 5) (Op.move (Operand.tmp 0)) 32 "slices.go:125" #[] none, Oper.mk (some 6) (Op.move (Operand.tmp 1)) 183 "slices.go:125" #[] none, Oper.mk (some 7) (Op.call (Call.mk (Callee.value (Operand.func 142)) #[Operand.tmp 5, Operand.tmp 6] #[32, 183])) 3 "slices.go:125" #[Edge.mk 0 Ground.data, Edge.mk 1 Ground.data] none, Oper.mk (some 8) (Op.binOp BinOp.geq 3 (Operand.tmp 7) (Operand.const (Value.int IntKind.i64 (0 : Int))) 3) 4 "slices.go:125" #[Edge.mk 2 Ground.data] none, Oper.mk (some 4) (Op.assign (Operand.tmp 8)) 4 "slices.go:125" #[Edge.mk 3 Ground.data, Edge.mk 2 Ground.chain, Edge.mk 0 Ground.phase, Edge.mk 1 Ground.phase, Edge.mk 2 Ground.phase, Edge.mk 3 Ground.phase] none].toList [Oper.mk (some 8) (Op.binOp BinOp.geq 3 (Operand.tmp 7) (Operand.const (Value.int IntKind.i64 (0 : Int))) 3) 4 "slices.go:125" #[Edge.mk 2 Ground.data] none, Oper.mk (some 4) (Op.assign (Operand.tmp 8)) 4 "slices.go:125" #[Edge.mk 3 Ground.data, Edge.mk 2 Ground.chain, Edge.mk 0 Ground.phase, Edge.mk 1 Ground.phase, Edge.mk 2 Ground.phase, Edge.mk 3 Ground.phase] none] st (Qthen (WY Tryz.prog cfVB 2995 (Env.mk (cfVB.baseOf (Bs.mk 0 []) 121 [V.lst 6 (bkl m), V.fn (Fn.func 122) [] [V.ptr (Id.p 0) 0 0]] (Hp.mk [(0, O.rows 1 false [[V.lst 3 (kdl l)]])] (0 + 1) [])) 1 none 9 121 0) (cdAt [1, 1] (bodyOf Tryz.f122)) (QendX Tryz.prog Tryz.f121 fun v h' => (fun v h => fzNew (callY Tryz.prog cfVB (WY Tryz.prog cfVB 2997) (Env.mk (Bs.mk 0 []) 0 none Tryz.f80.ntmps (80 : FuncId) 0).base (Env.mk (Bs.mk 0 []) 0 none Tryz.f80.ntmps (80 : FuncId) 0).fid) 1 (Oper.mk (some 7) (Op.call (Call.mk (Callee.value (Operand.func 121)) #[Operand.tmp 5, Operand.tmp 6] #[32, 183])) 4 "model.go:28" #[Edge.mk 0 Ground.data, Edge.mk 1 Ground.data] none) v h fun v h => putT (Env.mk (Bs.mk 0 []) 0 none Tryz.f80.ntmps (80 : FuncId) 0).N (mkT [(0, V.lst 3 (kdl l)), (1, V.lst 6 (bkl m)), (2, V.ptr (Id.p 0) 0 0), (4, bv false), (5, V.lst 6 (bkl m)), (6, V.fn (Fn.func 122) [] [V.ptr (Id.p 0) 0 0])]) (Oper.mk (some 7) (Op.call (Call.mk (Callee.value (Operand.func 121)) #[Operand.tmp 5, Operand.tmp 6] #[32, 183])) 4 "model.go:28" #[Edge.mk 0 Ground.data, Edge.mk 1 Ground.data] none).dst v fun tm => (fun st => fzOld (callY Tryz.prog cfVB (WY Tryz.prog cfVB 2997) (Env.mk (Bs.mk 0 []) 0 none Tryz.f80.ntmps (80 : FuncId) 0).base (Env.mk (Bs.mk 0 []) 0 none Tryz.f80.ntmps (80 : FuncId) 0).fid) (askY cfVB (Env.mk (Bs.mk 0 []) 0 none Tryz.f80.ntmps (80 : FuncId) 0).base) (Oper.mk (some 7) (Op.call (Call.mk (Callee.value (Operand.func 121)) #[Operand.tmp 5, Operand.tmp 6] #[32, 183])) 4 "model.go:28" #[Edge.mk 0 Ground.data, Edge.mk 1 Ground.data] none) st fun st => wOps Tryz.prog (callY Tryz.prog cfVB (WY Tryz.prog cfVB 2997) (Env.mk (Bs.mk 0 []) 0 none Tryz.f80.ntmps (80 : FuncId) 0).base (Env.mk (Bs.mk 0 []) 0 none Tryz.f80.ntmps (80 : FuncId) 0).fid) (askY cfVB (Env.mk (Bs.mk 0 []) 0 none Tryz.f80.ntmps (80 : FuncId) 0).base) (Env.mk (Bs.mk 0 []) 0 none Tryz.f80.ntmps (80 : FuncId) 0).N #[Oper.mk (some 5) (Op.move (Operand.tmp 1)) 32 "model.go:28" #[] none, Oper.mk (some 6) (Op.makeFunc (Fn.func 122) #[] #[Operand.tmp 2]) 183 "model.go:28" #[] none, Oper.mk (some 7) (Op.call (Call.mk (Callee.value (Operand.func 121)) #[Operand.tmp 5, Operand.tmp 6] #[32, 183])) 4 "model.go:28" #[Edge.mk 0 Ground.data, Edge.mk 1 Ground.data] none, Oper.mk (some 8) (Op.unOp UnOp.not 4 (Operand.tmp 7)) 4 "model.go:28" #[Edge.mk 2 Ground.data] none, Oper.mk (some 4) (Op.assign (Operand.tmp 8)) 4 "model.go:28" #[Edge.mk 3 Ground.data, Edge.mk 2 Ground.chain, Edge.mk 0 Ground.phase, Edge.mk 1 Ground.phase, Edge.mk 2 Ground.phase, Edge.mk 3 Ground.phase] none].toList [Oper.mk (some 8) (Op.unOp UnOp.not 4 (Operand.tmp 7)) 4 "model.go:28" #[Edge.mk 2 Ground.data] none, Oper.mk (some 4) (Op.assign (Operand.tmp 8)) 4 "model.go:28" #[Edge.mk 3 Ground.data, Edge.mk 2 Ground.chain, Edge.mk 0 Ground.phase, Edge.mk 1 Ground.phase, Edge.mk 2 Ground.phase, Edge.mk 3 Ground.phase] none] st (Qthen (WY Tryz.prog cfVB 2998 (Env.mk (Bs.mk 0 []) 0 none 9 80 0) (cdAt [1, 1] (bodyOf Tryz.f122)) (QendX Tryz.prog Tryz.f80 fun v h => R (frzW h v))) (QendX Tryz.prog Tryz.f80 fun v h => R (frzW h v)) Ex.norm)) (St.mk tm h)) v (bif cfVB.clean 121 then gcH 1 v h' else h'))) (QendX Tryz.prog Tryz.f121 fun v h' => (fun v h => fzNew (callY Tryz.prog cfVB (WY Tryz.prog cfVB 2997) (Env.mk (Bs.mk 0 []) 0 none Tryz.f80.ntmps (80 : FuncId) 0).base (Env.mk (Bs.mk 0 []) 0 none Tryz.f80.ntmps (80 : FuncId) 0).fid) 1 (Oper.mk (some 7) (Op.call (Call.mk (Callee.value (Operand.func 121)) #[Operand.tmp 5, Operand.tmp 6] #[32, 183])) 4 "model.go:28" #[Edge.mk 0 Ground.data, Edge.mk 1 Ground.data] none) v h fun v h => putT (Env.mk (Bs.mk 0 []) 0 none Tryz.f80.ntmps (80 : FuncId) 0).N (mkT [(0, V.lst 3 (kdl l)), (1, V.lst 6 (bkl m)), (2, V.ptr (Id.p 0) 0 0), (4, bv false), (5, V.lst 6 (bkl m)), (6, V.fn (Fn.func 122) [] [V.ptr (Id.p 0) 0 0])]) (Oper.mk (some 7) (Op.call (Call.mk (Callee.value (Operand.func 121)) #[Operand.tmp 5, Operand.tmp 6] #[32, 183])) 4 "model.go:28" #[Edge.mk 0 Ground.data, Edge.mk 1 Ground.data] none).dst v fun tm => (fun st => fzOld (callY Tryz.prog cfVB (WY Tryz.prog cfVB 2997) (Env.mk (Bs.mk 0 []) 0 none Tryz.f80.ntmps (80 : FuncId) 0).base (Env.mk (Bs.mk 0 []) 0 none Tryz.f80.ntmps (80 : FuncId) 0).fid) (askY cfVB (Env.mk (Bs.mk 0 []) 0 none Tryz.f80.ntmps (80 : FuncId) 0).base) (Oper.mk (some 7) (Op.call (Call.mk (Callee.value (Operand.func 121)) #[Operand.tmp 5, Operand.tmp 6] #[32, 183])) 4 "model.go:28" #[Edge.mk 0 Ground.data, Edge.mk 1 Ground.data] none) st fun st => wOps Tryz.prog (callY Tryz.prog cfVB (WY Tryz.prog cfVB 2997) (Env.mk (Bs.mk 0 []) 0 none Tryz.f80.ntmps (80 : FuncId) 0).base (Env.mk (Bs.mk 0 []) 0 none Tryz.f80.ntmps (80 : FuncId) 0).fid) (askY cfVB (Env.mk (Bs.mk 0 []) 0 none Tryz.f80.ntmps (80 : FuncId) 0).base) (Env.mk (Bs.mk 0 []) 0 none Tryz.f80.ntmps (80 : FuncId) 0).N #[Oper.mk (some 5) (Op.move (Operand.tmp 1)) 32 "model.go:28" #[] none, Oper.mk (some 6) (Op.makeFunc (Fn.func 122) #[] #[Operand.tmp 2]) 183 "model.go:28" #[] none, Oper.mk (some 7) (Op.call (Call.mk (Callee.value (Operand.func 121)) #[Operand.tmp 5, Operand.tmp 6] #[32, 183])) 4 "model.go:28" #[Edge.mk 0 Ground.data, Edge.mk 1 Ground.data] none, Oper.mk (some 8) (Op.unOp UnOp.not 4 (Operand.tmp 7)) 4 "model.go:28" #[Edge.mk 2 Ground.data] none, Oper.mk (some 4) (Op.assign (Operand.tmp 8)) 4 "model.go:28" #[Edge.mk 3 Ground.data, Edge.mk 2 Ground.chain, Edge.mk 0 Ground.phase, Edge.mk 1 Ground.phase, Edge.mk 2 Ground.phase, Edge.mk 3 Ground.phase] none].toList [Oper.mk (some 8) (Op.unOp UnOp.not 4 (Operand.tmp 7)) 4 "model.go:28" #[Edge.mk 2 Ground.data] none, Oper.mk (some 4) (Op.assign (Operand.tmp 8)) 4 "model.go:28" #[Edge.mk 3 Ground.data, Edge.mk 2 Ground.chain, Edge.mk 0 Ground.phase, Edge.mk 1 Ground.phase, Edge.mk 2 Ground.phase, Edge.mk 3 Ground.phase] none] st (Qthen (WY Tryz.prog cfVB 2998 (Env.mk (Bs.mk 0 []) 0 none 9 80 0) (cdAt [1, 1] (bodyOf Tryz.f122)) (QendX Tryz.prog Tryz.f80 fun v h => R (frzW h v))) (QendX Tryz.prog Tryz.f80 fun v h => R (frzW h v)) Ex.norm)) (St.mk tm h)) v (bif cfVB.clean 121 then gcH 1 v h' else h')) Ex.norm)) (St.mk tm h)) v (bif cfVB.clean 142 then gcH 1 v h' else h')))) (St.mk (mkT [(0, V.lst 6 (bkl m)), (1, V.fn (Fn.func 122) [] [V.ptr (Id.p 0) 0 0]), (7, iv (↑(bkl m).length : Int)), (8, iv (0 : Int))]) (Hp.mk [(0, O.rows 1 false [[V.lst 3 (kdl l)]])] 1 []))) (by kernel_rfl) ?_
 obtain ⟨s,hs⟩ : ∃ s,s=(bkl m).length:=⟨_,rfl⟩
 rw [← hs]
 rw [bkl_length] at hs
 refine La.of (σ:=Nat) (fun i=>sh142 l m s i) (fun i=>i≤s ∧ ∀ b∈m.take i,BrickP l.length b) (fun i=>s - i) 0 (by kernel_rfl) ⟨by omega,by simp⟩ ?_
 rintro i ⟨g1,g2⟩ J hJ
 refine see (p:=ifB (decide ((↑i:Int)<(↑s:Int))) (onSome (bkl m)[i]? fun row=>onCons (List.drop 0 row) fun u r=>onIntK IntKind.i64 u fun n=>onCons r fun u r=>onIntK IntKind.i64 u fun n_1=>onCons r fun u r=>onIntK IntKind.i64 u fun n_2=>onCons r fun u r=>onIntK IntKind.i64 u fun n_3=>onCons r fun u r=>onIntK IntKind.u8 u fun n_4=>onCons r fun u r=>onIntK IntKind.u8 u fun n_5=>K0G Tryz.prog glX 98 [V.lst 3 (kdl l),V.agg [iv n,iv n_1,iv n_2,iv n_3,V.raw (Value.int IntKind.u8 n_4),V.raw (Value.int IntKind.u8 n_5)]] fun v=>onBool v fun b=>ifB (!b) (R (bv false)) (J (St.mk (mkT [(0,V.lst 6 (bkl m)),(1,V.fn (Fn.func (122:FuncId)) [] [V.ptr (Id.p 0) 0 0]),(7,iv (↑s:Int)),(8,iv (IntKind.i64.wrap ((↑i:Int)+(1:Int))))]) (Hp.mk [(0,O.rows 1 false [[V.lst 3 (kdl l)]])] 1 [])))) (R (bv true))) (by kernel_rfl) ?_
 refine ifB_mk (fun d=>?_) (fun d=>?_)
 ·have hi:i<s:=by have:=of_decide_eq_true d; omega
  obtain ⟨b,hb⟩:=getI (l:=m) (k:=i) (by omega)
  refine bel hb ?_
  refine brick98 (b:=b) (hr b (mem_at hb)) hll (onBool_bv (ifB_mk (fun c=>?_) (fun c=>?_)))
  ·exact rf h (fun q=>nbt c (q b (mem_at hb)))
  ·rw [wr1i hi (by omega)]
   refine hJ (i+1) ⟨hi,?_⟩ (by omega)
   intro x hx
   rw [take_succ' hb] at hx
   rcases List.mem_append.1 hx with hx | hx
   ·exact g2 x hx
   ·rw [List.mem_singleton.1 hx]; exact nb c
 ·have hi:i=s:=by have:=of_decide_eq_false d; omega
  refine rt h (fun b hb=>g2 b ?_)
  rw [List.take_of_length_le (by omega)]
  exact hb
theorem bdl_length (l:List Bdy):(bdl l).length=l.length:=by simp [bdl]
theorem bodies105 {l:List Kd} {m:List Bk} {R:V→Prop} (hl : ∀ q∈l,KdR q) (hll:(l.length:Int)≤1000000) (hml:m.length≤1000000) (hr : ∀ b∈m,BkR b) (h1 : ∀ e,askM l m e→e≠0→R (.tup [nilS,iv e])) (h2:AskM l m→R (.tup [.lst 2 (bdl (bods l m)),iv 0])):K0G Tryz.prog glX 105 [.lst 3 (kdl l),.agg [.lst 6 (bkl m)]] R:=by
 refine K0_by hmX hcVB 3000 Tryz.func105 (p:=K0G Tryz.prog glX 16 [V.lst 3 (kdl l)] fun v=>onIntK IntKind.i64 v fun n=>ifB (n != (0:Int)) (R (V.tup [nilS,iv n])) (ifB (decide ((↑(bkl m).length:Int) > (40:Int))) (R (V.tup [nilS,iv (4:Int)])) (K0G Tryz.prog glX 80 [V.lst 3 (kdl l),V.lst 6 (bkl m)] fun v=>onBool v fun b=>ifB (!b) (R (V.tup [nilS,iv (11:Int)])) (need ((bkl m).length≤(bkl m).length) (need (48 * (bkl m).length≤140737488355328) (need ((bkl m).length≤9223372036854775807) (La 0 [(0:Tmp),(7:Tmp),(29:Tmp),(30:Tmp),(31:Tmp)] (WY Tryz.prog cfVB 2991 (Env.mk (Bs.mk 0 []) 0 none 52 105 0) (cdAt [1,1,1,1,1,0,1,0,0] (bodyOf Tryz.f105))) (Qblk 0 (Qthen (WY Tryz.prog cfVB 2994 (Env.mk (Bs.mk 0 []) 0 none 52 105 0) (cdAt [1,1,1,1,1,1] (bodyOf Tryz.f105)) (QendX Tryz.prog Tryz.f105 fun v h=>R (frzW h v))) (QendX Tryz.prog Tryz.f105 fun v h=>R (frzW h v)))) (St.mk (mkT [(0,V.lst 3 (kdl l)),(7,V.sl (Id.p 0) 0 (bkl m).length),(29,V.lst 6 (bkl m)),(30,iv (↑(bkl m).length:Int)),(31,iv (0:Int))]) (Hp.mk [(0,O.rows 2 true (List.replicate (bkl m).length [nilS,nilS]))] 1 []))))))))) (by kernel_rfl) ?_
 obtain ⟨s,hs⟩ : ∃ s,s=(bkl m).length:=⟨_,rfl⟩
 rw [← hs]
 rw [bkl_length] at hs
 refine kinds16 hl (fun hK=>onIntK_iv (ifB_f rfl (ifB_mk (fun c=>h1 4 (.inr (.inr (.inl ⟨hK,by have:=of_decide_eq_true c; omega,rfl⟩))) (by decide)) (fun c=>?_)))) (fun h16=>onIntK_iv (ifB_t rfl (h1 4 (.inl ⟨h16,rfl⟩) (by decide)))) (fun h16 hn=>onIntK_iv (ifB_t rfl (h1 10 (.inr (.inl ⟨h16,hn,rfl⟩)) (by decide))))
 have h40:m.length≤40:=by have:=of_decide_eq_false c; omega
 refine areBricks80 hll hml hr (onBool_bv (ifB_mk (fun c=>h1 11 (.inr (.inr (.inr (.inl ⟨hK,h40,nbt c,rfl⟩)))) (by decide)) (fun c=>?_)))
 have hA' : AskM l m:=⟨hK,h40,nb c⟩
 refine need_mk ⟨Nat.le_refl _,need_mk ⟨by omega,need_mk ⟨by omega,?_⟩⟩⟩
 refine La.of (σ:=Nat) (fun i=>sh105 l m (bdl (bods l (m.take i))++List.replicate (s - i) [nilS,nilS]) s i) (fun i=>i≤s) (fun i=>s - i) 0 (by kernel_rfl) (by omega) ?_
 rintro i g1 J hJ
 obtain ⟨rs,hrs⟩ : ∃ rs,rs=bdl (bods l (m.take i))++List.replicate (s - i) [nilS,nilS]:=⟨_,rfl⟩
 rw [← hrs]
 have hA:(bdl (bods l (m.take i))).length=i:=by rw [bdl_length,bods,List.length_map,List.length_take]; omega
 refine see (p:=ifB (decide ((↑i:Int)<(↑s:Int))) (onSome (bkl m)[i]? fun row=>onCons (List.drop 0 row) fun u r=>onIntK IntKind.i64 u fun n=>onCons r fun u r=>onIntK IntKind.i64 u fun n_1=>onCons r fun u r=>onIntK IntKind.i64 u fun n_2=>onCons r fun u r=>onIntK IntKind.i64 u fun n_3=>onCons r fun u r=>onIntK IntKind.u8 u fun n_4=>onCons r fun u r=>onIntK IntKind.u8 u fun n_5=>onNat n fun m_1=>onSome (kdl l)[m_1]? fun row=>onCons (List.drop 0 row) fun u r=>onLst u fun s_1 es=>onCons r fun u r=>onLst u fun s_2 es_1=>onCons r fun u r=>onIntK IntKind.i64 u fun n=>K0G Tryz.prog glX 95 [V.agg [V.lst s_1 es,V.lst s_2 es_1,iv n],iv (IntKind.i64.wrap n_4),V.agg [iv n_1,iv n_2,iv n_3]] fun v=>onAgg v fun cs=>onCons cs fun u r=>onLst u fun s_3 es=>onCons r fun u r=>onLst u fun s_4 es_2=>onNil r (need (i<s) (onSome rs[0+i]? fun row=>guardB ((0+2).ble row.length) (J (St.mk (mkT [(0,V.lst 3 (kdl l)),(7,V.sl (Id.p 0) 0 s),(29,V.lst 6 (bkl m)),(30,iv (↑s:Int)),(31,iv (IntKind.i64.wrap ((↑i:Int)+(1:Int))))]) (Hp.mk [(0,O.rows 2 true (rs.set (0+i) (V.lst s_3 es::V.lst s_4 es_2::(List.append []) (List.drop 2 row))))] 1 [])))))) (R (V.tup [V.lst 2 (sub rs 0 s),iv (0:Int)]))) (by kernel_rfl) ?_
 refine ifB_mk (fun d=>?_) (fun d=>?_)
 ·have hi:i<s:=by have:=of_decide_eq_true d; omega
  obtain ⟨b,hb⟩:=getI (l:=m) (k:=i) (by omega)
  have hbm:=mem_at hb
  obtain ⟨hP,_,_,_⟩:=putK hK hl (hA'.all b hbm) (hr b hbm)
  refine bel hb ?_
  refine onNat_mk (m:=b.1.toNat) (by have:=hP.k0; omega) (del hP.at_ ?_)
  rw [hP.turn,wr (by have:=hP.t24; omega) (by have:=hP.t24; omega)]
  refine put95 (by_:=b.2.1) hP.t24 hP.put hP.bd (onAgg_agg (onCons_cons (onLst_lst (onCons_cons (onLst_lst (onNil_nil (need_mk ⟨hi,onSome_mk (x:=[nilS,nilS]) ?_ (guardB_mk rfl ?_)⟩)))))))
  ·rw [hrs,Nat.zero_add,List.getElem?_append_right (by omega),hA,Nat.sub_self,List.getElem?_replicate,if_pos (by omega)]
  ·rw [wr1i hi (by omega)]
   have e:rs.set (0+i) (V.lst 3 (cll (plc (kOf l b) b.2.2.1.toNat b.2.1))::V.lst 5 (knl (knb (kOf l b) b.2.2.1.toNat b.2.1))::(List.append []) (List.drop 2 [nilS,nilS]))=bdl (bods l (m.take (i+1)))++List.replicate (s - (i+1)) [nilS,nilS]:=by
    rw [hrs,Nat.zero_add,set_rep hA hi,take_succ' hb]
    simp [bods,bdl,bdr,bod]
   refine (congrArg J ?_).mp (hJ (i+1) hi (by omega))
   rw [← e]
   rfl
 ·have hi:i=s:=by have:=of_decide_eq_false d; omega
  have e:sub rs 0 s=bdl (bods l m):=by
   rw [hrs,hi,Nat.sub_self,hs,List.take_length]
   simp only [List.replicate_zero,List.append_nil]
   unfold sub
   rw [List.drop_zero,List.take_of_length_le (by simp [bdl,bods])]
  rw [e]
  exact h2 hA'
theorem plc_nodup {q:Kd} {n:Nat} {d:Cl} (h:q.1.Pairwise Bef):(plc q n d).Nodup:=by
 unfold plc
 rw [(sortC_perm _).nodup_iff,List.Nodup,List.pairwise_map]
 refine h.imp (fun {a b} hab e=>?_)
 have:=tn_inj (addC_inj e)
 rw [this] at hab
 unfold Bef at hab
 omega
theorem bods_ok {l:List Kd} {m:List Bk} (hl : ∀ q∈l,KdR q) (hr : ∀ b∈m,BkR b) (hA:AskM l m):(bods l m).length≤40∧(∀ b∈bods l m,b.1.length≤1000) ∧ ∀ b∈bods l m,b.1.Nodup:=by
 refine ⟨by rw [bods,List.length_map]; exact hA.few,?_,?_⟩
 ·intro b hb
  obtain ⟨c,hc,rfl⟩:=List.mem_map.1 hb
  obtain ⟨hP,_,_,h4⟩:=putK hA.kinds hl (hA.all c hc) (hr c hc)
  show (plc _ _ _).length≤1000
  rw [plc_length]
  have:=hP.put.2.1
  omega
 ·intro b hb
  obtain ⟨c,hc,rfl⟩:=List.mem_map.1 hb
  obtain ⟨_,_,_,h4⟩:=putK hA.kinds hl (hA.all c hc) (hr c hc)
  exact plc_nodup h4.1.2.2
theorem over106 {l:List Bdy} {R:V→Prop} (hl:l.length≤40) (hl30 : ∀ b∈l,b.1.length≤1000) (hn : ∀ b∈l,b.1.Nodup) (hR:R (ovlV l)):K0G Tryz.prog glX 106 [.lst 2 (bdl l)] R:=own106 hl hl30 hn (fun T es ms hr ho=>over_rest hl hl30 hr ho hR)
def NoOv (l:List Kd) (m:List Bk):Prop:=ovl (bods l m) (bods l m).length=[]
structure OkM (l:List Kd) (m:List Bk):Prop where
 ask:AskM l m
 free:NoOv l m
def errM (l:List Kd) (m:List Bk) (e:Int):Prop:=(askM l m e∧e≠0)∨(AskM l m ∧ ¬ NoOv l m∧e=12)
theorem valid64 {l:List Kd} {m:List Bk} {R:V→Prop} (hl : ∀ q∈l,KdR q) (hll:(l.length:Int)≤1000000) (hml:m.length≤1000000) (hr : ∀ b∈m,BkR b) (h1 : ∀ e,errM l m e→e≠0→R (.tup [nilS,iv e])∧R (.tup [.lst 0 [],iv e])) (h2:OkM l m→R (.tup [.lst 2 (bdl (bods l m)),iv 0])):K0G Tryz.prog glX 64 [.lst 3 (kdl l),.agg [.lst 6 (bkl m)]] R:=by
 refine K0_by hmX hcVB 3000 Tryz.func64 (p:=K0G Tryz.prog glX 105 [V.lst 3 (kdl l),V.agg [V.lst 6 (bkl m)]] fun v=>onTup v fun vs=>onCons vs fun u r=>onLst u fun s es=>onCons r fun u r=>onIntK IntKind.i64 u fun n=>onNil r (ifB (n==(0:Int)) (K0G Tryz.prog glX 106 [V.lst s es] fun v=>onLst v fun s_1 es_1=>ifB (decide ((↑es_1.length:Int) > (0:Int))) (R (V.tup [nilS,iv (12:Int)])) (R (V.tup [V.lst s es,iv n]))) (R (V.tup [V.lst s es,iv n])))) (by kernel_rfl) ?_
 refine bodies105 hl hll hml hr (fun e he hne=>?_) (fun hA=>?_)
 ·refine onTup_tup (onCons_cons (onLst_nil (onCons_cons (onIntK_iv (onNil_nil (ifB_f (by simpa using hne) ?_))))))
  exact (h1 e (.inl ⟨he,hne⟩) hne).2
 ·obtain ⟨a1,a2,a3⟩:=bods_ok hl hr hA
  refine onTup_tup (onCons_cons (onLst_lst (onCons_cons (onIntK_iv (onNil_nil (ifB_t rfl (over106 a1 a2 a3 ?_)))))))
  cases ho:ovl (bods l m) (bods l m).length with
  | nil =>
   unfold ovlV
   rw [ho]
   exact onLst_nil (ifB_f rfl (h2 ⟨hA,ho⟩))
  | cons p ps =>
   unfold ovlV
   rw [ho]
   refine onLst_lst (ifB_t (by simp [prl]) (h1 12 (.inr ⟨hA,by unfold NoOv; rw [ho]; simp,rfl⟩) (by decide)).1)
theorem check39 {l:List Kd} {m:List Bk} {R:V→Prop} (hl : ∀ q∈l,KdR q) (hll:(l.length:Int)≤1000000) (hml:m.length≤1000000) (hr : ∀ b∈m,BkR b) (h1 : ∀ e,errM l m e→e≠0→R (iv e)) (h2:OkM l m→R (iv 0)):K0G Tryz.prog glX 39 [.lst 3 (kdl l),.agg [.lst 6 (bkl m)]] R:=by
 refine K0_by hmX hcVB 3000 Tryz.func39 (p:=K0G Tryz.prog glX 64 [V.lst 3 (kdl l),V.agg [V.lst 6 (bkl m)]] fun v=>onTup v fun vs=>onCons vs fun u r=>onLst u fun s es=>onCons r fun u r=>onIntK IntKind.i64 u fun n=>onNil r (R (iv n))) (by kernel_rfl) ?_
 refine valid64 hl hll hml hr (fun e he hne=>⟨onTup_tup (onCons_cons (onLst_nil (onCons_cons (onIntK_iv (onNil_nil (h1 e he hne)))))),onTup_tup (onCons_cons (onLst_lst (onCons_cons (onIntK_iv (onNil_nil (h1 e he hne))))))⟩) (fun hA=>onTup_tup (onCons_cons (onLst_lst (onCons_cons (onIntK_iv (onNil_nil (h2 hA)))))))
set_option maxRecDepth 100000
abbrev Lk:=Int×Int×Int×Int×Int
def lkr (x:Lk):List V:=[iv x.1,iv x.2.1,iv x.2.2.1,iv x.2.2.2.1,u8 x.2.2.2.2]
def lkl (l:List Lk):List (List V):=l.map lkr
def kpL6:FuncId→Nat→Option (List Tmp):=slotsOf [(109,0,[3,5,7,10,11,12])]
noncomputable def cfM6:Cfg:={ cfgG Tryz.prog glX moZ poP (rtP fN) (inN [156,97]) kpL6 with clean:=fun g=>true }
noncomputable def shLN (k:Kn) (y:List Kn) (x:Lk) (s i:Nat):St:=⟨mkT [(3,V.ptr (Id.p 0) 0 0),(5,V.ptr (Id.p 1) 0 0),(7,nilS),(10,V.lst 5 (knl y)),(11,iv (s:Int)),(12,iv (i:Int))],⟨[(0,O.rows 5 false [knr k]),(1,O.rows 5 false [lkr x])],2,[]⟩⟩
noncomputable def shLS (k:Kn) (y:List Kn) (x:Lk) (L:List Lk) (q s i:Nat):St:=⟨mkT [(3,V.ptr (Id.p 0) 0 0),(5,V.ptr (Id.p 1) 0 0),(7,V.sl (Id.p 2) 0 q),(10,V.lst 5 (knl y)),(11,iv (s:Int)),(12,iv (i:Int))],⟨[(0,O.rows 5 false [knr k]),(1,O.rows 5 false [lkr x]),(2,O.rows 5 true (lkl L))],3,[]⟩⟩
open Go Go.Shelf
def LSl_ren:Go.Shelf.Ren:=⟨fun | 6=>110 | 15=>133 | 14=>135 | 28=>154 | 29=>155 | 20=>157 | 21=>158 | 22=>159 | 23=>160 | 24=>161 | 25=>162 | 26=>163 | 27=>164 | 46=>179 | 47=>175 | 48=>176 | 49=>180 | 50=>181 | 57=>186 | n=>n,fun | 22=>64 | 24=>94 | 25=>175 | 3=>3 | 39=>192 | 0=>0 | 53=>210 | 55=>212 | 4=>4 | 46=>203 | 45=>202 | 50=>207 | 5=>5 | 9=>9 | 66=>224 | 70=>228 | 76=>234 | 77=>235 | n=>n,fun | n=>n⟩
theorem LSl:Go.Proofs.SlLaysF0.n6 Tryz.prog LSl_ren:={
 mixed:=by kernel_rfl
 f6:=⟨Tryz.f110.name,by decide,Tryz.func110.trans (congrArg some (by kernel_rfl))⟩
 f14:=⟨Tryz.f135.name,by decide,Tryz.func135.trans (congrArg some (by kernel_rfl))⟩
 f15:=Tryz.func133.trans (congrArg some (by kernel_rfl))
 f20:=⟨Tryz.f157.name,by decide,Tryz.func157.trans (congrArg some (by kernel_rfl))⟩
 f21:=⟨Tryz.f158.name,by decide,Tryz.func158.trans (congrArg some (by kernel_rfl))⟩
 f22:=⟨Tryz.f159.name,by decide,Tryz.func159.trans (congrArg some (by kernel_rfl))⟩
 f23:=⟨Tryz.f160.name,by decide,Tryz.func160.trans (congrArg some (by kernel_rfl))⟩
 f24:=⟨Tryz.f161.name,by decide,Tryz.func161.trans (congrArg some (by kernel_rfl))⟩
 f25:=⟨Tryz.f162.name,by decide,Tryz.func162.trans (congrArg some (by kernel_rfl))⟩
 f26:=⟨Tryz.f163.name,by decide,Tryz.func163.trans (congrArg some (by kernel_rfl))⟩
 f27:=⟨Tryz.f164.name,by decide,Tryz.func164.trans (congrArg some (by kernel_rfl))⟩
 f28:=Tryz.func154.trans (congrArg some (by kernel_rfl))
 f29:=Tryz.func155.trans (congrArg some (by kernel_rfl))
 f46:=⟨Tryz.f179.name,by decide,Tryz.func179.trans (congrArg some (by kernel_rfl))⟩
 f47:=Tryz.func175.trans (congrArg some (by kernel_rfl))
 f48:=Tryz.func176.trans (congrArg some (by kernel_rfl))
 f49:=⟨Tryz.f180.name,by decide,Tryz.func180.trans (congrArg some (by kernel_rfl))⟩
 f50:=⟨Tryz.f181.name,by decide,Tryz.func181.trans (congrArg some (by kernel_rfl))⟩
 f57:=⟨Tryz.f186.name,by decide,Tryz.func186.trans (congrArg some (by kernel_rfl))⟩
 t0:=Tryz.underlying0
 a0:=Tryz.isAgg0
 z0:=Tryz.sizeOf0
 v0:=Tryz.zeroValue0
 t3:=Tryz.underlying3
 a3:=Tryz.isAgg3
 z3:=Tryz.sizeOf3
 v3:=Tryz.zeroValue3
 t4:=Tryz.underlying4
 a4:=Tryz.isAgg4
 z4:=Tryz.sizeOf4
 v4:=Tryz.zeroValue4
 t5:=Tryz.underlying5
 a5:=Tryz.isAgg5
 z5:=Tryz.sizeOf5
 v5:=Tryz.zeroValue5
 t9:=Tryz.underlying9
 a9:=Tryz.isAgg9
 z9:=Tryz.sizeOf9
 v9:=Tryz.zeroValue9
 t22:=Tryz.underlying64
 a22:=Tryz.isAgg64
 z22:=Tryz.sizeOf64
 v22:=Tryz.zeroValue64
 t25:=Tryz.underlying175
 a25:=Tryz.isAgg175
 z25:=Tryz.sizeOf175
 v25:=Tryz.zeroValue175
 t39:=Tryz.underlying192
 a39:=Tryz.isAgg192
 z39:=Tryz.sizeOf192
 v39:=Tryz.zeroValue192
 t45:=Tryz.underlying202
 a45:=Tryz.isAgg202
 z45:=Tryz.sizeOf202
 v45:=Tryz.zeroValue202
 t46:=Tryz.underlying203
 a46:=Tryz.isAgg203
 z46:=Tryz.sizeOf203
 v46:=Tryz.zeroValue203
 t50:=Tryz.underlying207
 a50:=Tryz.isAgg207
 z50:=Tryz.sizeOf207
 v50:=Tryz.zeroValue207
 t53:=Tryz.underlying210
 a53:=Tryz.isAgg210
 z53:=Tryz.sizeOf210
 v53:=Tryz.zeroValue210
 t55:=Tryz.underlying212
 a55:=Tryz.isAgg212
 z55:=Tryz.sizeOf212
 v55:=Tryz.zeroValue212
 t66:=Tryz.underlying224
 a66:=Tryz.isAgg224
 z66:=Tryz.sizeOf224
 v66:=Tryz.zeroValue224
 t70:=Tryz.underlying228
 a70:=Tryz.isAgg228
 z70:=Tryz.sizeOf228
 v70:=Tryz.zeroValue228
 t76:=Tryz.underlying234
 a76:=Tryz.isAgg234
 z76:=Tryz.sizeOf234
 v76:=Tryz.zeroValue234
 t77:=Tryz.underlying235
 a77:=Tryz.isAgg235
 z77:=Tryz.sizeOf235
 v77:=Tryz.zeroValue235 }
open Go Go.Proofs.YtbionhgjgcpogaaGreatDoor.Clean
set_option maxRecDepth 10000
theorem hcM6:cfM6.ok Tryz.prog:=by
 have h:(cfgG Tryz.prog glX moZ poP (rtP fN) (inN [156,97]) kpL6).ok Tryz.prog:=cfgG_ok (rtP_ok fN)
 exact ⟨h.1,h.2⟩
theorem lkl_length (l:List Lk):(lkl l).length=l.length:=by simp [lkl]
def fc (k:Kn):Cl:=addC k.1 (stp k.2.1)
def opp (d:Int):Int:=if d % 2=0 then d+1 else d - 1
def FitS (a b:Int):Prop:=a≠b∧(a+1) / 2=(b+1) / 2
def MeetP (a b:Kn):Prop:=fc a=b.1∧b.2.1=opp a.2.1∧FitS a.2.2 b.2.2
def KnO (k:Kn):Prop:=(0≤k.2.1∧k.2.1≤5)∧(1≤k.2.2∧k.2.2≤6)∧Bd 1000000 k.1
theorem xor1 {d:Int} (h0:0≤d) (h5:d≤5):IntKind.u8.wrap ((BitVec.ofInt 8 d ^^^ BitVec.ofInt 8 (1:Int)).toNat:Int)=opp d:=by
 have:d=0∨d=1∨d=2∨d=3∨d=4∨d=5:=by omega
 rcases this with rfl | rfl | rfl | rfl | rfl | rfl <;> decide
theorem facing108 {k:Kn} {R:V→Prop} (h0:0≤k.2.1) (h5:k.2.1≤5) (hb:Bd 1000000 k.1) (h:R (.agg (clr (fc k)))):K0G Tryz.prog glX 108 [.agg (knr k)] R:=by
 refine K0_of_WY0 hmX hcM6 3000 Tryz.func108 (see (p:=onNat k.2.1 fun m=>need (m<6) (onCons (List.drop (0+m * 3) [iv (1:Int),iv (0:Int),iv (0:Int),iv (-1:Int),iv (0:Int),iv (0:Int),iv (0:Int),iv (1:Int),iv (0:Int),iv (0:Int),iv (-1:Int),iv (0:Int),iv (0:Int),iv (0:Int),iv (1:Int),iv (0:Int),iv (0:Int),iv (-1:Int)]) fun u r=>onIntK IntKind.i64 u fun n=>onCons r fun u r=>onIntK IntKind.i64 u fun n_1=>onCons r fun u r=>onIntK IntKind.i64 u fun n_2=>R (V.agg [iv (IntKind.i64.wrap (k.1.1+n)),iv (IntKind.i64.wrap (k.1.2.1+n_1)),iv (IntKind.i64.wrap (k.1.2.2+n_2))]))) (by kernel_rfl) ?_)
 obtain ⟨⟨t1,t2⟩,⟨t3,t4⟩,t5,t6⟩:=stp_bd k.2.1
 unfold Bd Nr at hb
 have ea:k.2.1=((k.2.1.toNat:Nat):Int):=by omega
 refine onNat_mk (m:=k.2.1.toNat) ea (need_mk ⟨by omega,stp_at (by omega) ?_⟩)
 rw [← ea,wr (n:=k.1.1+_) (by omega) (by omega),wr (n:=k.1.2.1+_) (by omega) (by omega),wr (n:=k.1.2.2+_) (by omega) (by omega)]
 exact h
theorem fit_iff {a b:Int} (a0:1≤a) (a6:a≤6) (b0:1≤b) (b6:b≤6):(((if b<a then b else a).tmod (2:Int)==(1:Int))&&((if b > a then b else a)==IntKind.u8.wrap ((if b<a then b else a)+(1:Int))))=dc (FitS a b):=by
 have ha:a=1∨a=2∨a=3∨a=4∨a=5∨a=6:=by omega
 have hb:b=1∨b=2∨b=3∨b=4∨b=5∨b=6:=by omega
 have key : ∀ p:Bool,(p=true↔FitS a b)→p=dc (FitS a b):=fun p hp=>by
  by_cases h:FitS a b
  ·rw [dc_t h]; exact hp.2 h
  ·rw [dc_f h]; exact Bool.eq_false_iff.2 (fun g=>h (hp.1 g))
 refine key _ ?_
 unfold FitS
 rcases ha with rfl | rfl | rfl | rfl | rfl | rfl <;> rcases hb with rfl | rfl | rfl | rfl | rfl | rfl <;> decide
theorem meet134 {a b:Kn} {R:V→Prop} (ha:KnO a) (hb:KnO b) (h:R (bv (dc (MeetP a b)))):K0G Tryz.prog glX 134 [.agg (knr a),.agg (knr b)] R:=by
 refine K0_of_WY0 hmX hcM6 3000 Tryz.func134 (see (p:=K0G Tryz.prog glX 108 [V.agg [iv a.1.1,iv a.1.2.1,iv a.1.2.2,V.raw (Value.int IntKind.u8 a.2.1),V.raw (Value.int IntKind.u8 a.2.2)]] fun v=>onAgg v fun cs=>onCons cs fun u r=>onIntK IntKind.i64 u fun n=>onCons r fun u r=>onIntK IntKind.i64 u fun n_1=>onCons r fun u r=>onIntK IntKind.i64 u fun n_2=>onNil r (ifB (n==b.1.1&&(fun b_1=>n_1==b.1.2.1&&b_1) ((fun b_1=>n_2==b.1.2.2&&b_1) true)) (ifB (IntKind.u8.wrap (↑(BitVec.ofInt 8 a.2.1 ^^^ BitVec.ofInt 8 (1:Int)).toNat:Int)==b.2.1) (ifB ((if b.2.2<a.2.2 then b.2.2 else a.2.2).tmod (2:Int)==(1:Int)) (R (bv ((if b.2.2 > a.2.2 then b.2.2 else a.2.2)==IntKind.u8.wrap ((if b.2.2<a.2.2 then b.2.2 else a.2.2)+(1:Int))))) (R (bv false))) (R (bv false))) (R (bv false)))) (by kernel_rfl) ?_)
 obtain ⟨⟨a1,a2⟩,⟨a3,a4⟩,a5⟩:=ha
 obtain ⟨⟨b1,b2⟩,⟨b3,b4⟩,b5⟩:=hb
 refine facing108 (k:=a) a1 a2 a5 (onAgg_agg (onCons_cons (onIntK_iv (onCons_cons (onIntK_iv (onCons_cons (onIntK_iv (onNil_nil ?_))))))))
 rw [xor1 a1 a2]
 have hf:=fit_iff a3 a4 b3 b4
 refine ifB_mk (fun c=>?_) (fun c=>rf h (fun q=>?_))
 ·have e1:fc a=b.1:=by
   simp only [Bool.and_eq_true,beq_iff_eq,Bool.and_true] at c
   exact cl_ext c.1 c.2.1 c.2.2
  refine ifB_mk (fun c=>?_) (fun c=>rf h (fun q=>?_))
  ·have e2:b.2.1=opp a.2.1:=by simpa using (beq_iff_eq.1 c).symm
   have e3:dc (MeetP a b)=dc (FitS a.2.2 b.2.2):=dc_iff ⟨fun q=>q.2.2,fun q=>⟨e1,e2,q⟩⟩
   rw [e3,← hf] at h
   refine ifB_mk (fun c=>?_) (fun c=>?_)
   ·rw [c,Bool.true_and] at h; exact h
   ·rw [c,Bool.false_and] at h; exact h
  ·rw [q.2.1] at c; simp at c
 ·have:=q.1
  rw [← this] at c
  simp at c
def mn (a b:Int):Int:=if a<b then a else b
noncomputable def lko (k:Kn) (a b i:Int) (y:List Kn):List Lk:=y.zipIdx.filterMap fun o=>if dc (MeetP k o.1)=true then some (a,b,i,(o.2:Int),mn o.1.2.2 k.2.2) else none
theorem lko_succ {k:Kn} {a b i:Int} {y:List Kn} {n:Nat} {o:Kn} (h:y[n]? = some o):lko k a b i (y.take (n+1))=lko k a b i (y.take n)++if dc (MeetP k o)=true then [(a,b,i,(n:Int),mn o.2.2 k.2.2)] else []:=by
 have hn:n<y.length:=(List.getElem?_eq_some_iff.1 h).1
 unfold lko
 rw [take_succ' h,List.zipIdx_append,List.filterMap_append]
 congr 1
 have:(List.take n y).length=n:=by rw [List.length_take]; omega
 simp only [List.zipIdx_cons,List.zipIdx_nil,this,Nat.zero_add]
 cases hd:dc (MeetP k o) <;> simp [List.filterMap_cons,hd]
theorem lko_len (k:Kn) (a b i:Int) (y:List Kn):(lko k a b i y).length≤y.length:=by
 unfold lko
 have:=List.length_filterMap_le (fun o:Kn×Nat=>if dc (MeetP k o.1)=true then some (a,b,i,(o.2:Int),mn o.1.2.2 k.2.2) else none) y.zipIdx
 simpa using this
theorem links109 {k:Kn} {x:Lk} {y:List Kn} {R:V→Prop} (hk:KnO k) (hy : ∀ o∈y,KnO o) (hl:y.length≤1000000) (h0:lko k x.1 x.2.1 x.2.2.1 y=[]→R nilS) (h:R (.lst 5 (lkl (lko k x.1 x.2.1 x.2.2.1 y)))):K0G Tryz.prog glX 109 [.agg (knr k),.lst 5 (knl y),.agg (lkr x)] R:=by
 refine K0_by hmX hcM6 3000 Tryz.func109 (p:=La 0 [(3:Tmp),(5:Tmp),(7:Tmp),(10:Tmp),(11:Tmp),(12:Tmp)] (WY Tryz.prog cfM6 2994 (Env.mk (Bs.mk 0 []) 0 none 34 109 0) (cdAt [1,1,0,1,0,0] (bodyOf Tryz.f109))) (Qblk 0 (Qthen (WY Tryz.prog cfM6 2997 (Env.mk (Bs.mk 0 []) 0 none 34 109 0) (cdAt [1,1,1] (bodyOf Tryz.f109)) (QendX Tryz.prog Tryz.f109 fun v h=>R (frzW h v))) (QendX Tryz.prog Tryz.f109 fun v h=>R (frzW h v)))) (St.mk (mkT [(3,V.ptr (Id.p 0) 0 0),(5,V.ptr (Id.p 1) 0 0),(7,nilS),(10,V.lst 5 (knl y)),(11,iv (↑(knl y).length:Int)),(12,iv (0:Int))]) (Hp.mk [(0,O.rows 5 false [[iv k.1.1,iv k.1.2.1,iv k.1.2.2,V.raw (Value.int IntKind.u8 k.2.1),V.raw (Value.int IntKind.u8 k.2.2)]]),(1,O.rows 5 false [[iv x.1,iv x.2.1,iv x.2.2.1,iv x.2.2.2.1,V.raw (Value.int IntKind.u8 x.2.2.2.2)]])] 2 []))) (by kernel_rfl) ?_
 obtain ⟨s,hs⟩ : ∃ s,s=(knl y).length:=⟨_,rfl⟩
 rw [← hs]
 rw [knl_length] at hs
 obtain ⟨x1,hx1⟩ : ∃ x1,x1=x.1:=⟨_,rfl⟩
 obtain ⟨x2,hx2⟩ : ∃ x2,x2=x.2.1:=⟨_,rfl⟩
 obtain ⟨x3,hx3⟩ : ∃ x3,x3=x.2.2.1:=⟨_,rfl⟩
 rw [← hx1,← hx2,← hx3] at h h0
 refine La.of (σ:=Bool×Nat×Lk×Nat×List Lk) (fun t=>match t.1 with | false=>shLN k y t.2.2.1 s t.2.1 | true=>shLS k y t.2.2.1 t.2.2.2.2 t.2.2.2.1 s t.2.1) (fun t=>t.2.1≤s∧(t.2.2.1.1=x1∧t.2.2.1.2.1=x2∧t.2.2.1.2.2.1=x3)∧t.2.2.2.1=t.2.2.2.2.length∧t.2.2.2.2=lko k x1 x2 x3 (y.take t.2.1)∧(t.1=false→t.2.2.2.2=[])) (fun t=>s - t.2.1) (false,0,x,0,[]) (by kernel_rfl) ⟨by simp only; omega,⟨hx1.symm,hx2.symm,hx3.symm⟩,rfl,rfl,fun _=>rfl⟩ ?_
 rintro ⟨bb,i,x,q,L⟩ ⟨g1,⟨e1,e2,e3⟩,gq,gL,gb⟩ J hJ
 simp only at g1 e1 e2 e3 gq gL gb
 have hq:q≤1000000:=by
  have:=lko_len k x1 x2 x3 (y.take i)
  rw [← gL,List.length_take] at this
  omega
 have hfin : ¬ i<s→L=lko k x1 x2 x3 y:=fun hi=>by rw [gL,List.take_of_length_le (by omega)]
 cases bb with
 | false =>
  refine see (p:=ifB (decide ((↑i:Int)<(↑s:Int))) (onSome (knl y)[i]? fun row=>onCons (List.drop 0 row) fun u r=>onIntK IntKind.i64 u fun n=>onCons r fun u r=>onIntK IntKind.i64 u fun n_1=>onCons r fun u r=>onIntK IntKind.i64 u fun n_2=>onCons r fun u r=>onIntK IntKind.u8 u fun n_3=>onCons r fun u r=>onIntK IntKind.u8 u fun n_4=>K0G Tryz.prog glX 134 [V.agg [iv k.1.1,iv k.1.2.1,iv k.1.2.2,V.raw (Value.int IntKind.u8 k.2.1),V.raw (Value.int IntKind.u8 k.2.2)],V.agg [iv n,iv n_1,iv n_2,V.raw (Value.int IntKind.u8 n_3),V.raw (Value.int IntKind.u8 n_4)]] fun v=>onBool v fun b=>ifB b (J (St.mk (mkT [(3,V.ptr (Id.p 0) 0 0),(5,V.ptr (Id.p 1) 0 0),(7,V.sl (Id.p 2) 0 1),(10,V.lst 5 (knl y)),(11,iv (↑s:Int)),(12,iv (IntKind.i64.wrap ((↑i:Int)+(1:Int))))]) (Hp.mk [(0,O.rows 5 false [[iv k.1.1,iv k.1.2.1,iv k.1.2.2,V.raw (Value.int IntKind.u8 k.2.1),V.raw (Value.int IntKind.u8 k.2.2)]]),(1,O.rows 5 false [[iv x.1,iv x.2.1,iv x.2.2.1,iv (↑i:Int),V.raw (Value.int IntKind.u8 (if n_4<k.2.2 then n_4 else k.2.2))]]),(2,O.rows 5 true [[iv x.1,iv x.2.1,iv x.2.2.1,iv (↑i:Int),V.raw (Value.int IntKind.u8 (if n_4<k.2.2 then n_4 else k.2.2))]])] 3 []))) (J (St.mk (mkT [(3,V.ptr (Id.p 0) 0 0),(5,V.ptr (Id.p 1) 0 0),(7,nilS),(10,V.lst 5 (knl y)),(11,iv (↑s:Int)),(12,iv (IntKind.i64.wrap ((↑i:Int)+(1:Int))))]) (Hp.mk [(0,O.rows 5 false [[iv k.1.1,iv k.1.2.1,iv k.1.2.2,V.raw (Value.int IntKind.u8 k.2.1),V.raw (Value.int IntKind.u8 k.2.2)]]),(1,O.rows 5 false [[iv x.1,iv x.2.1,iv x.2.2.1,iv x.2.2.2.1,V.raw (Value.int IntKind.u8 x.2.2.2.2)]])] 2 [])))) (R nilS)) (by kernel_rfl) ?_
  refine ifB_mk (fun d=>?_) (fun d=>?_)
  ·have hi:i<s:=by have:=of_decide_eq_true d; omega
   obtain ⟨o,ho⟩:=getI (l:=y) (k:=i) (by omega)
   have hL:=lko_succ (k:=k) (a:=x1) (b:=x2) (i:=x3) ho
   rw [← gL,gb rfl] at hL
   refine kel ho (meet134 (a:=k) (b:=o) hk (hy o (mem_at ho)) (onBool_bv (ifB_mk (fun c=>?_) (fun c=>?_))))
   ·rw [wr1i hi (by omega)]
    rw [if_pos c] at hL
    exact hJ (true,i+1,(x.1,x.2.1,x.2.2.1,(i:Int),mn o.2.2 k.2.2),1,[(x.1,x.2.1,x.2.2.1,(i:Int),mn o.2.2 k.2.2)]) ⟨hi,⟨e1,e2,e3⟩,rfl,by simp only; rw [hL,e1,e2,e3]; rfl,fun h=>by cases h⟩ (by simp only; omega)
   ·rw [wr1i hi (by omega)]
    rw [c,if_neg (by simp)] at hL
    exact hJ (false,i+1,x,q,L) ⟨hi,⟨e1,e2,e3⟩,gq,by simp only; rw [hL,gb rfl]; rfl,gb⟩ (by simp only; omega)
  ·have hi : ¬ i<s:=by have:=of_decide_eq_false d; omega
   exact h0 (by rw [← hfin hi]; exact gb rfl)
 | true =>
  refine see (p:=ifB (decide ((↑i:Int)<(↑s:Int))) (onSome (knl y)[i]? fun row=>onCons (List.drop 0 row) fun u r=>onIntK IntKind.i64 u fun n=>onCons r fun u r=>onIntK IntKind.i64 u fun n_1=>onCons r fun u r=>onIntK IntKind.i64 u fun n_2=>onCons r fun u r=>onIntK IntKind.u8 u fun n_3=>onCons r fun u r=>onIntK IntKind.u8 u fun n_4=>K0G Tryz.prog glX 134 [V.agg [iv k.1.1,iv k.1.2.1,iv k.1.2.2,V.raw (Value.int IntKind.u8 k.2.1),V.raw (Value.int IntKind.u8 k.2.2)],V.agg [iv n,iv n_1,iv n_2,V.raw (Value.int IntKind.u8 n_3),V.raw (Value.int IntKind.u8 n_4)]] fun v=>onBool v fun b=>ifB b (need ((q+1) * 40≤140737488355328) (J (St.mk (mkT [(3,V.ptr (Id.p 0) 0 0),(5,V.ptr (Id.p 1) 0 0),(7,V.sl (Id.p 2) 0 (q+1)),(10,V.lst 5 (knl y)),(11,iv (↑s:Int)),(12,iv (IntKind.i64.wrap ((↑i:Int)+(1:Int))))]) (Hp.mk [(0,O.rows 5 false [[iv k.1.1,iv k.1.2.1,iv k.1.2.2,V.raw (Value.int IntKind.u8 k.2.1),V.raw (Value.int IntKind.u8 k.2.2)]]),(1,O.rows 5 false [[iv x.1,iv x.2.1,iv x.2.2.1,iv (↑i:Int),V.raw (Value.int IntKind.u8 (if n_4<k.2.2 then n_4 else k.2.2))]]),(2,O.rows 5 true (List.take q (lkl L)++[[iv x.1,iv x.2.1,iv x.2.2.1,iv (↑i:Int),V.raw (Value.int IntKind.u8 (if n_4<k.2.2 then n_4 else k.2.2))]]))] 3 [])))) (J (St.mk (mkT [(3,V.ptr (Id.p 0) 0 0),(5,V.ptr (Id.p 1) 0 0),(7,V.sl (Id.p 2) 0 q),(10,V.lst 5 (knl y)),(11,iv (↑s:Int)),(12,iv (IntKind.i64.wrap ((↑i:Int)+(1:Int))))]) (Hp.mk [(0,O.rows 5 false [[iv k.1.1,iv k.1.2.1,iv k.1.2.2,V.raw (Value.int IntKind.u8 k.2.1),V.raw (Value.int IntKind.u8 k.2.2)]]),(1,O.rows 5 false [[iv x.1,iv x.2.1,iv x.2.2.1,iv x.2.2.2.1,V.raw (Value.int IntKind.u8 x.2.2.2.2)]]),(2,O.rows 5 true (lkl L))] 3 [])))) (R (V.lst 5 (sub (lkl L) 0 q)))) (by kernel_rfl) ?_
  refine ifB_mk (fun d=>?_) (fun d=>?_)
  ·have hi:i<s:=by have:=of_decide_eq_true d; omega
   obtain ⟨o,ho⟩:=getI (l:=y) (k:=i) (by omega)
   have hL:=lko_succ (k:=k) (a:=x1) (b:=x2) (i:=x3) ho
   rw [← gL] at hL
   refine kel ho (meet134 (a:=k) (b:=o) hk (hy o (mem_at ho)) (onBool_bv (ifB_mk (fun c=>?_) (fun c=>?_))))
   ·refine need_mk ⟨by omega,?_⟩
    rw [wr1i hi (by omega)]
    rw [if_pos c] at hL
    have e:List.take q (lkl L)++[[iv x.1,iv x.2.1,iv x.2.2.1,iv (i:Int),V.raw (Value.int IntKind.u8 (if o.2.2<k.2.2 then o.2.2 else k.2.2))]]=lkl (L++[(x.1,x.2.1,x.2.2.1,(i:Int),mn o.2.2 k.2.2)]):=by
     rw [gq,← lkl_length,List.take_length]
     simp [lkl,lkr,mn,u8]
    rw [e]
    exact hJ (true,i+1,(x.1,x.2.1,x.2.2.1,(i:Int),mn o.2.2 k.2.2),q+1,L++[(x.1,x.2.1,x.2.2.1,(i:Int),mn o.2.2 k.2.2)]) ⟨hi,⟨e1,e2,e3⟩,by simp [gq],by simp only; rw [hL,e1,e2,e3],fun h=>by cases h⟩ (by simp only; omega)
   ·rw [wr1i hi (by omega)]
    rw [c,if_neg (by simp),List.append_nil] at hL
    exact hJ (true,i+1,x,q,L) ⟨hi,⟨e1,e2,e3⟩,gq,hL.symm,fun h=>by cases h⟩ (by simp only; omega)
  ·have hi : ¬ i<s:=by have:=of_decide_eq_false d; omega
   have e:sub (lkl L) 0 q=lkl L:=by rw [sub,List.drop_zero,gq,← lkl_length,List.take_length]
   rw [e,hfin hi]
   exact h
def BefL (a b:Lk):Prop:=a.1<b.1∨a.1=b.1∧(a.2.1<b.2.1∨a.2.1=b.2.1∧a.2.2.1<b.2.2.1)
def cmpL (a b:Lk):Int:=if cmpI a.1 b.1≠0 then cmpI a.1 b.1 else if cmpI a.2.1 b.2.1≠0 then cmpI a.2.1 b.2.1 else cmpI a.2.2.1 b.2.2.1
theorem cmpL_lt {a b:Lk}:cmpL a b<0↔BefL a b:=by
 unfold cmpL BefL
 have h1:=@cmpI_eq a.1 b.1
 have h2:=@cmpI_eq a.2.1 b.2.1
 have l1:=@cmpI_lt a.1 b.1
 have l2:=@cmpI_lt a.2.1 b.2.1
 have l3:=@cmpI_lt a.2.2.1 b.2.2.1
 split
 ·omega
 ·split <;> omega
theorem cmp111 {x y:Lk} {R:V→Prop} (h:R (iv (cmpL x y))):K0G Tryz.prog glX 111 [.agg (lkr x),.agg (lkr y)] R:=by
 refine K0_by hmX hcM6 3000 Tryz.func111 (p:=K0G Tryz.prog glX 113 [iv x.1,iv y.1] fun v=>onIntK IntKind.i64 v fun n=>K0G Tryz.prog glX 113 [iv x.2.1,iv y.2.1] fun v=>onIntK IntKind.i64 v fun n_1=>K0G Tryz.prog glX 113 [iv x.2.2.1,iv y.2.2.1] fun v=>onIntK IntKind.i64 v fun n_2=>K0G Tryz.prog glX 112 [V.lst 1 [[iv n],[iv n_1],[iv n_2]]] fun v=>onIntK IntKind.i64 v fun n=>R (iv n)) (by kernel_rfl) ?_
 exact cmp113 (onIntK_iv (cmp113 (onIntK_iv (cmp113 (onIntK_iv (or112 (onIntK_iv h)))))))
def encL (x:Lk):List Value:=[.int .i64 x.1,.int .i64 x.2.1,.int .i64 x.2.2.1,.int .i64 x.2.2.2.1,.int .u8 x.2.2.2.2]
theorem swoL:Go.Sort.SWO (Go.Proofs.ltOf cmpL) where
 irrefl x:=by unfold Go.Proofs.ltOf; exact decide_eq_false (fun h=>by have:=cmpL_lt.1 h; unfold BefL at this; omega)
 trans x y z h1 h2:=by
  unfold Go.Proofs.ltOf at *
  refine decide_eq_true (cmpL_lt.2 ?_)
  have a:=cmpL_lt.1 (of_decide_eq_true h1)
  have b:=cmpL_lt.1 (of_decide_eq_true h2)
  unfold BefL at *
  omega
 ntrans x y z h1 h2:=by
  unfold Go.Proofs.ltOf at *
  refine decide_eq_false (fun h=>?_)
  have a:=of_decide_eq_false h1
  have b:=of_decide_eq_false h2
  rw [cmpL_lt] at a b h
  unfold BefL at *
  omega
theorem sort110 {l:List Lk} (hl:l.length<4611686018427387904) {post:Hp→Us→Hp} (hpost : ∀ us,post ⟨[(0,O.rows 5 true (lkl l))],1,[]⟩ us=⟨[(0,O.rows 5 true (us.getD 0 []))],1,[]⟩) {Q:V→Us→Prop} (h : ∀ l', l'.Perm l→l'.Pairwise (fun a b => ¬ BefL b a)→Q (.tup []) [lkl l']):KM Tryz.prog glX 110 [.sl (.p 0) 0 l.length,.fn (.func 111) [] []] ⟨[(0,O.rows 5 true (lkl l))],1,[]⟩ post Q:=by
 by_cases h0:l=[]
 ·subst h0
  refine KM_of_WYKp hmX hcS 3000 Tryz.func110 (fun R hR=>?_)
  refine see (p:=R (V.tup []) (Hp.mk [(0,O.rows 5 true [])] 1 [])) (by kernel_rfl) ?_
  have:=hR (.tup []) [lkl []] (h [] (List.Perm.refl _) List.Pairwise.nil)
  rw [hpost] at this
  exact this
 ·unfold KM
  have key:=K_sort (P:=Tryz.prog) (G:=glX) (ρ:=LSl_ren) LSl (k:=5) Tryz.isAgg94 Tryz.sizeOf94 (enc:=encL) (fun _=>rfl) (fun x v hv=>by simp [encL] at hv; rcases hv with rfl | rfl | rfl | rfl | rfl <;> rfl) (cf:=cmpL) swoL (g:=111) (caps:=[]) (h:=⟨[(0,O.rows 5 true (lkl l))],1,[]⟩) (b:=0) (p:=true) (l:=l) h0 (by omega) rfl
   (enters_of Tryz.func111 (by kernel_rfl) rfl) (fun l' _ x y=>K_of_K0c rfl (cmp111 (x:=x) (y:=y) rfl)) rfl
  intro ν F w xs g1 g2 g3
  refine (key ν F w xs g1 g2 g3).mono fun e w' ⟨x,v,ν', F', h', z1,⟨z2,l', z7,z8,z9⟩,z3,z4,z5,z6⟩=>?_
  refine ⟨x,v,ν', F', h', z1,⟨[lkl l'],?_,by rw [z2]; exact h l' z7 (pw_of_get fun i j a b hij ha hb hbef=>z8 i j a b hij ha hb (cmpL_lt.2 hbef))⟩,z3,z4,z5,fun b y hb ht=>by cases ht⟩
  rw [z9,hpost]
  rfl
theorem sort110n {post:Hp→Us→Hp} (hpost:post ⟨[],0,[]⟩ []=⟨[],0,[]⟩) {Q:V→Us→Prop} (h:Q (.tup []) []):KM Tryz.prog glX 110 [nilS,.fn (.func 111) [] []] ⟨[],0,[]⟩ post Q:=by
 refine KM_of_WYKp hmX hcS 3000 Tryz.func110 (fun R hR=>?_)
 refine see (p:=R (V.tup []) (Hp.mk [] 0 [])) (by kernel_rfl) ?_
 have:=hR (.tup []) [] h
 rw [hpost] at this
 exact this
set_option maxRecDepth 100000
def kpQ7:FuncId→Nat→Option (List Tmp):=slotsOf [(107,0,[3,9,10,11,1000001,4000003]),(107,2,[3,4,9,10,11,17,18,19,1000001,4000003]),(65,0,[0,3,4,13,14,1000001,4000003]),(65,2,[0,3,4,5,13,14,21,22,23,1000001,4000003]),(65,4,[0,3,4,5,6,7,13,14,21,22,23,31,32,33,1000001,4000003])]
def fzQ (f:FuncId) (t:Tmp):Bool:=(f.beq 107&&t.beq 1000025) || (f.beq 65&&t.beq 1000031)
def moQ7 (f:FuncId):Nat:=bif inN [110] f then 3 else 0
def poQ7 (f:FuncId) (args:List V) (h:Hp) (us:Us):Hp:=match args with | .raw _::_=>h | _=>poP f args h us
noncomputable def cfQ7:Cfg:={ cfgG Tryz.prog glX moQ7 poQ7 (rtP fN) (inN [107]) kpQ7 with clean:=fun g => !inN [107] g,fz:=fzQ }
noncomputable def lNa (l:List (List Cl×List Kn)) (es:List (V×V)) (ms:List (Option (List (List V)))) (m i:Nat):St:=⟨mkT [(0,V.lst 2 (bdl l)),(3,V.mp (Id.p 0)),(4,nilS),(13,iv (m:Int)),(14,iv (i:Int))],⟨[(0,O.mp es)],1,[(0,Fam.mk 1 ms)]⟩⟩
noncomputable def lSa (l:List (List Cl×List Kn)) (L:List Lk) (es:List (V×V)) (ms:List (Option (List (List V)))) (q m i:Nat):St:=⟨mkT [(0,V.lst 2 (bdl l)),(3,V.mp (Id.p 0)),(4,V.sl (Id.p 1) 0 q),(13,iv (m:Int)),(14,iv (i:Int))],⟨[(0,O.mp es),(1,O.rows 5 true (lkl L))],2,[(0,Fam.mk 1 ms)]⟩⟩
noncomputable def lNb (l:List (List Cl×List Kn)) (y:List Kn) (es:List (V×V)) (ms:List (Option (List (List V)))) (m i n k:Nat):St:=⟨mkT [(0,V.lst 2 (bdl l)),(3,V.mp (Id.p 0)),(4,nilS),(5,iv (i:Int)),(13,iv (m:Int)),(14,iv (i:Int)),(21,V.lst 5 (knl y)),(22,iv (n:Int)),(23,iv (k:Int))],⟨[(0,O.mp es)],1,[(0,Fam.mk 1 ms)]⟩⟩
noncomputable def lSb (l:List (List Cl×List Kn)) (y:List Kn) (L:List Lk) (es:List (V×V)) (ms:List (Option (List (List V)))) (q m i n k:Nat):St:=⟨mkT [(0,V.lst 2 (bdl l)),(3,V.mp (Id.p 0)),(4,V.sl (Id.p 1) 0 q),(5,iv (i:Int)),(13,iv (m:Int)),(14,iv (i:Int)),(21,V.lst 5 (knl y)),(22,iv (n:Int)),(23,iv (k:Int))],⟨[(0,O.mp es),(1,O.rows 5 true (lkl L))],2,[(0,Fam.mk 1 ms)]⟩⟩
noncomputable def lNc (l:List (List Cl×List Kn)) (y:List Kn) (o:Kn) (es:List (V×V)) (ms:List (Option (List (List V)))) (m i n k j w z:Nat):St:=⟨mkT [(0,V.lst 2 (bdl l)),(3,V.mp (Id.p 0)),(4,nilS),(5,iv (i:Int)),(6,iv (k:Int)),(7,V.ptr (Id.p 1) 0 0),(13,iv (m:Int)),(14,iv (i:Int)),(21,V.lst 5 (knl y)),(22,iv (n:Int)),(23,iv (k:Int)),(31,V.sl (Id.m 0 j) 0 w),(32,iv (w:Int)),(33,iv (z:Int))],⟨[(0,O.mp es),(1,O.rows 5 false [knr o])],2,[(0,Fam.mk 1 ms)]⟩⟩
noncomputable def lSc (l:List (List Cl×List Kn)) (y:List Kn) (o:Kn) (L:List Lk) (es:List (V×V)) (ms:List (Option (List (List V)))) (q m i n k j w z:Nat):St:=⟨mkT [(0,V.lst 2 (bdl l)),(3,V.mp (Id.p 0)),(4,V.sl (Id.p 1) 0 q),(5,iv (i:Int)),(6,iv (k:Int)),(7,V.ptr (Id.p 2) 0 0),(13,iv (m:Int)),(14,iv (i:Int)),(21,V.lst 5 (knl y)),(22,iv (n:Int)),(23,iv (k:Int)),(31,V.sl (Id.m 0 j) 0 w),(32,iv (w:Int)),(33,iv (z:Int))],⟨[(0,O.mp es),(1,O.rows 5 true (lkl L)),(2,O.rows 5 false [knr o])],3,[(0,Fam.mk 1 ms)]⟩⟩
noncomputable def lN0 (l:List (List Cl×List Kn)) (y:List Kn) (o:Kn) (es:List (V×V)) (ms:List (Option (List (List V)))) (m i n k:Nat):St:=⟨mkT [(0,V.lst 2 (bdl l)),(3,V.mp (Id.p 0)),(4,nilS),(5,iv (i:Int)),(6,iv (k:Int)),(7,V.ptr (Id.p 1) 0 0),(13,iv (m:Int)),(14,iv (i:Int)),(21,V.lst 5 (knl y)),(22,iv (n:Int)),(23,iv (k:Int)),(31,nilS),(32,iv 0),(33,iv 0)],⟨[(0,O.mp es),(1,O.rows 5 false [knr o])],2,[(0,Fam.mk 1 ms)]⟩⟩
noncomputable def lS0 (l:List (List Cl×List Kn)) (y:List Kn) (o:Kn) (L:List Lk) (es:List (V×V)) (ms:List (Option (List (List V)))) (q m i n k:Nat):St:=⟨mkT [(0,V.lst 2 (bdl l)),(3,V.mp (Id.p 0)),(4,V.sl (Id.p 1) 0 q),(5,iv (i:Int)),(6,iv (k:Int)),(7,V.ptr (Id.p 2) 0 0),(13,iv (m:Int)),(14,iv (i:Int)),(21,V.lst 5 (knl y)),(22,iv (n:Int)),(23,iv (k:Int)),(31,nilS),(32,iv 0),(33,iv 0)],⟨[(0,O.mp es),(1,O.rows 5 true (lkl L)),(2,O.rows 5 false [knr o])],3,[(0,Fam.mk 1 ms)]⟩⟩
end Go.Proofs.YtbionhgjgcpogaaGreatDoor
