/- A part of the proof. -/
import Derived.Test.YtbionhgjgcpogaaDoorProg
import Derived.Test.YtbionhgjgcpogaaDoorXP3G10
import Derived.Test.YtbionhgjgcpogaaDoorXP3G11
import Derived.Test.YtbionhgjgcpogaaDoorXP3G12
namespace Go.Proofs.YtbionhgjgcpogaaDoor
open Go Go.Proofs.YtbionhgjgcpogaaDoor.Clean
set_option linter.unusedVariables false
set_option linter.unusedSimpArgs false
set_option maxRecDepth 10000
noncomputable def cmV (P:Nat→Prop):List V:=(List.range 40).map fun o=>bv (dc (P o))
theorem cmV_length (P:Nat→Prop):(cmV P).length=40:=by simp [cmV]
theorem cmV_ext {P Q:Nat→Prop} (h : ∀ o,P o↔Q o):cmV P=cmV Q:=by
 have:P=Q:=funext fun o=>propext (h o)
 rw [this]
theorem cmV_get {P:Nat→Prop} {o:Nat} (ho:o<40):(cmV P)[0+o * 1]? = some (bv (dc (P o))):=by
 rw [Nat.zero_add,Nat.mul_one]
 simp [cmV,ho]
theorem cmV_zero:cmV (fun _=>False)=List.replicate 40 (bv false):=by
 unfold cmV
 rw [List.map_congr_left (g:=fun _=>bv false) (fun o _=>by rw [dc_f (fun h=>h)])]
 simp [List.map_const']
theorem cmV_set {P:Nat→Prop} {b:Nat} (hb:b<40):List.take (0+b * 1) (cmV P)++[bv true]++List.drop (0+b * 1+1) (cmV P)=cmV fun o=>P o∨o=b:=by
 rw [Nat.zero_add,Nat.mul_one]
 have h1:List.take b (cmV P)++[bv true]++List.drop (b+1) (cmV P)=(cmV P).set b (bv true):=by
  rw [List.set_eq_take_append_cons_drop,if_pos (by rw [cmV_length]; exact hb)]
  simp
 rw [h1]
 apply List.ext_getElem?
 intro o
 rw [List.getElem?_set]
 by_cases ho:o<40
 ·by_cases e:b=o
  ·subst e
   rw [if_pos rfl,if_pos (by rw [cmV_length]; exact hb)]
   simp only [cmV,List.getElem?_map,List.getElem?_range ho,Option.map_some]
   rw [dc_t (p:=P b∨True) (.inr trivial)]
  ·rw [if_neg e]
   simp only [cmV,List.getElem?_map,List.getElem?_range ho,Option.map_some]
   rw [dc_iff (p:=P o) (q:=P o∨o=b) ⟨.inl,fun h=>h.resolve_right (fun g=>e g.symm)⟩]
 ·rw [if_neg (by omega)]
  simp [cmV,ho]
def Comm (l:List Bdy) (b o:Nat):Prop := ∃ c,c∈cellsAt l b∧c∈cellsAt l o
noncomputable def inn (l:List Bdy) (i n:Nat):List (Nat×Nat):=((List.range n).filter fun o=>decide (i<o)&&dc (Comm l i o)).map fun o=>(i,o)
noncomputable def ovl (l:List Bdy) (i:Nat):List (Nat×Nat):=(List.range i).flatMap fun b=>inn l b l.length
theorem ovl_succ (l:List Bdy) (i:Nat):ovl l (i+1)=ovl l i++inn l i l.length:=by
 unfold ovl
 rw [List.range_succ,List.flatMap_append]
 simp
theorem inn_start (l:List Bdy) (i:Nat):inn l i (i+1)=[]:=by
 unfold inn
 rw [List.map_eq_nil_iff,List.filter_eq_nil_iff]
 intro o ho
 have:=List.mem_range.1 ho
 have h:decide (i<o)=false:=by simp; omega
 rw [h]
 simp
theorem inn_succ {l:List Bdy} {i n:Nat} (h:i<n):inn l i (n+1)=if dc (Comm l i n)=true then inn l i n++[(i,n)] else inn l i n:=by
 unfold inn
 rw [List.range_succ,List.filter_append,List.filter_cons]
 have h' : decide (i<n)=true:=by simpa using h
 rw [h']
 cases dc (Comm l i n) <;> simp
theorem own_find {l:List Bdy} {T:List Ow} {m:Nat} {c:Cl} (ho:OwnI l m [] 0 T) {b:Nat} (hb:b<m) (hc:c∈cellsAt l b):c∈T.map (·.1):=ho.2 c (.inl ⟨b,hb,hc⟩)
theorem own_brs {l:List Bdy} {T:List Ow} {m:Nat} (ho:OwnI l m [] 0 T) {t:Ow} (ht:t∈T):t.2.1=brs l m t.1:=by
 rw [ho.1 t ht]
 have:dc (t.1∈([]:List Cl).take 0)=false:=dc_f (by simp)
 rw [this]
 simp
def Mk (l:List Bdy) (x:List Cl) (k:Nat) (o:Nat):Prop := ∃ c,c∈x.take k∧c∈cellsAt l o
theorem mk_succ {l:List Bdy} {x:List Cl} {k:Nat} {c:Cl} (hc:x[k]? = some c) (m:Nat) (hm : ∀ o,c∈cellsAt l o→o<m) (o:Nat):(Mk l x k o∨o∈brs l m c)↔Mk l x (k+1) o:=by
 have ht:x.take (k+1)=x.take k++[c]:=take_succ' hc
 unfold Mk brs
 rw [ht,List.mem_filter,List.mem_range]
 constructor
 ·rintro (⟨d,h1,h2⟩ | ⟨h1,h2⟩)
  ·exact ⟨d,by simp [h1],h2⟩
  ·exact ⟨c,by simp,dc_true h2⟩
 ·rintro ⟨d,h1,h2⟩
  rcases List.mem_append.1 h1 with h1 | h1
  ·exact .inl ⟨d,h1,h2⟩
  ·rw [List.mem_singleton.1 h1] at h2
   exact .inr ⟨hm o h2,dc_t h2⟩
theorem cellsAt_lt {l:List Bdy} {o:Nat} {c:Cl} (h:c∈cellsAt l o):o<l.length:=by
 unfold cellsAt at h
 rcases Nat.lt_or_ge o l.length with g | g
 ·exact g
 ·rw [List.getElem?_eq_none g] at h
  simp at h
theorem own106 {l:List Bdy} {R:V→Prop} (hl:l.length≤40) (hl30 : ∀ b∈l,b.1.length≤1000) (hn : ∀ b∈l,b.1.Nodup) (rest : ∀ (T:List Ow) (es:List (V×V)) (ms:List (Option (List (List V)))),Rep T es ms→OwnI l l.length [] 0 T→La 0 [(0:Tmp),(3:Tmp),(4:Tmp),(14:Tmp),(15:Tmp),(16:Tmp),(1000001:Tmp),(4000003:Tmp)] (WY Tryd.prog cfO 2993 (Env.mk (Bs.mk 0 []) 0 none 60 16 0) (cdAt [1,1,1,0,1,0,0] (bodyOf Tryd.f16))) (Qblk 0 (Qthen (WY Tryd.prog cfO 2996 (Env.mk (Bs.mk 0 []) 0 none 60 16 0) (cdAt [1,1,1,1] (bodyOf Tryd.f16)) (QendX Tryd.prog Tryd.f16 fun v h=>R (frzW h v))) (QendX Tryd.prog Tryd.f16 fun v h=>R (frzW h v)))) (St.mk (mkT [(0,V.lst 2 (bdl l)),(3,V.mp (Id.p 0)),(4,nilS),(14,V.lst 2 (bdl l)),(15,iv (↑(bdl l).length:Int)),(16,iv (0:Int))]) (Hp.mk [(0,O.mp (trM [] 0 ms.length es))] 1 [(0,Fam.mk 1 (ms++[]))]))):K0G Tryd.prog glX 16 [.lst 2 (bdl l)] R:=by
 refine K0_by hmX hcO 3000 Tryd.func16 (p := La 0 [(3 : Tmp), (9 : Tmp), (10 : Tmp), (11 : Tmp), (1000001 : Tmp), (4000003 : Tmp)] (WY Tryd.prog cfO 2991 (Env.mk (Bs.mk 0 (spared [] [V.lst 2 (bdl l)] ++ [])) 0 none 34 33 0) (cdAt [1, 1, 0, 1, 0, 0] (bodyOf Tryd.f33))) (Qblk 0 (Qthen (WY Tryd.prog cfO 2994 (Env.mk (cfO.baseOf (Bs.mk 0 []) 33 [V.lst 2 (bdl l)] (Hp.mk [] 0 [])) 0 none 34 33 0) (cdAt [1, 1, 1] (bodyOf Tryd.f33)) (QendX Tryd.prog Tryd.f33 fun v h' => (fun v h => fzNew (callY Tryd.prog cfO (WY Tryd.prog cfO 2997) (Env.mk (Bs.mk 0 []) 0 none Tryd.f16.ntmps (16 : FuncId) 0).base (Env.mk (Bs.mk 0 []) 0 none Tryd.f16.ntmps (16 : FuncId) 0).fid) 0 (Oper.mk (some 13) (Op.call (Call.mk (Callee.value (Operand.func 33)) #[Operand.tmp 12] #[56])) 76 "model.go:52" #[Edge.mk 0 Ground.data] none) v h fun v h => putT (Env.mk (Bs.mk 0 []) 0 none Tryd.f16.ntmps (16 : FuncId) 0).N (mkT [(0, V.lst 2 (bdl l)), (2, nilS), (12, V.lst 2 (bdl l))]) (Oper.mk (some 13) (Op.call (Call.mk (Callee.value (Operand.func 33)) #[Operand.tmp 12] #[56])) 76 "model.go:52" #[Edge.mk 0 Ground.data] none).dst v fun tm => (fun st => fzOld (callY Tryd.prog cfO (WY Tryd.prog cfO 2997) (Env.mk (Bs.mk 0 []) 0 none Tryd.f16.ntmps (16 : FuncId) 0).base (Env.mk (Bs.mk 0 []) 0 none Tryd.f16.ntmps (16 : FuncId) 0).fid) (askY cfO (Env.mk (Bs.mk 0 []) 0 none Tryd.f16.ntmps (16 : FuncId) 0).base) (Oper.mk (some 13) (Op.call (Call.mk (Callee.value (Operand.func 33)) #[Operand.tmp 12] #[56])) 76 "model.go:52" #[Edge.mk 0 Ground.data] none) st fun st => wOps Tryd.prog (callY Tryd.prog cfO (WY Tryd.prog cfO 2997) (Env.mk (Bs.mk 0 []) 0 none Tryd.f16.ntmps (16 : FuncId) 0).base (Env.mk (Bs.mk 0 []) 0 none Tryd.f16.ntmps (16 : FuncId) 0).fid) (askY cfO (Env.mk (Bs.mk 0 []) 0 none Tryd.f16.ntmps (16 : FuncId) 0).base) (Env.mk (Bs.mk 0 []) 0 none Tryd.f16.ntmps (16 : FuncId) 0).N #[Oper.mk (some 12) (Op.move (Operand.tmp 0)) 56 "model.go:52" #[] none, Oper.mk (some 13) (Op.call (Call.mk (Callee.value (Operand.func 33)) #[Operand.tmp 12] #[56])) 76 "model.go:52" #[Edge.mk 0 Ground.data] none, Oper.mk (some 3) (Op.assign (Operand.tmp 13)) 76 "model.go:52" #[Edge.mk 1 Ground.data, Edge.mk 1 Ground.chain, Edge.mk 0 Ground.phase, Edge.mk 1 Ground.phase] none].toList [Oper.mk (some 3) (Op.assign (Operand.tmp 13)) 76 "model.go:52" #[Edge.mk 1 Ground.data, Edge.mk 1 Ground.chain, Edge.mk 0 Ground.phase, Edge.mk 1 Ground.phase] none] st (Qthen (WY Tryd.prog cfO 2998 (Env.mk (Bs.mk 0 []) 0 none 60 16 0) (cdAt [1, 1] (bodyOf Tryd.f16)) (QendX Tryd.prog Tryd.f16 fun v h => R (frzW h v))) (QendX Tryd.prog Tryd.f16 fun v h => R (frzW h v)) Ex.norm)) (St.mk tm h)) v (bif cfO.clean 33 then gcH 0 v h' else h'))) (QendX Tryd.prog Tryd.f33 fun v h' => (fun v h => fzNew (callY Tryd.prog cfO (WY Tryd.prog cfO 2997) (Env.mk (Bs.mk 0 []) 0 none Tryd.f16.ntmps (16 : FuncId) 0).base (Env.mk (Bs.mk 0 []) 0 none Tryd.f16.ntmps (16 : FuncId) 0).fid) 0 (Oper.mk (some 13) (Op.call (Call.mk (Callee.value (Operand.func 33)) #[Operand.tmp 12] #[56])) 76 "model.go:52" #[Edge.mk 0 Ground.data] none) v h fun v h => putT (Env.mk (Bs.mk 0 []) 0 none Tryd.f16.ntmps (16 : FuncId) 0).N (mkT [(0, V.lst 2 (bdl l)), (2, nilS), (12, V.lst 2 (bdl l))]) (Oper.mk (some 13) (Op.call (Call.mk (Callee.value (Operand.func 33)) #[Operand.tmp 12] #[56])) 76 "model.go:52" #[Edge.mk 0 Ground.data] none).dst v fun tm => (fun st => fzOld (callY Tryd.prog cfO (WY Tryd.prog cfO 2997) (Env.mk (Bs.mk 0 []) 0 none Tryd.f16.ntmps (16 : FuncId) 0).base (Env.mk (Bs.mk 0 []) 0 none Tryd.f16.ntmps (16 : FuncId) 0).fid) (askY cfO (Env.mk (Bs.mk 0 []) 0 none Tryd.f16.ntmps (16 : FuncId) 0).base) (Oper.mk (some 13) (Op.call (Call.mk (Callee.value (Operand.func 33)) #[Operand.tmp 12] #[56])) 76 "model.go:52" #[Edge.mk 0 Ground.data] none) st fun st => wOps Tryd.prog (callY Tryd.prog cfO (WY Tryd.prog cfO 2997) (Env.mk (Bs.mk 0 []) 0 none Tryd.f16.ntmps (16 : FuncId) 0).base (Env.mk (Bs.mk 0 []) 0 none Tryd.f16.ntmps (16 : FuncId) 0).fid) (askY cfO (Env.mk (Bs.mk 0 []) 0 none Tryd.f16.ntmps (16 : FuncId) 0).base) (Env.mk (Bs.mk 0 []) 0 none Tryd.f16.ntmps (16 : FuncId) 0).N #[Oper.mk (some 12) (Op.move (Operand.tmp 0)) 56 "model.go:52" #[] none, Oper.mk (some 13) (Op.call (Call.mk (Callee.value (Operand.func 33)) #[Operand.tmp 12] #[56])) 76 "model.go:52" #[Edge.mk 0 Ground.data] none, Oper.mk (some 3) (Op.assign (Operand.tmp 13)) 76 "model.go:52" #[Edge.mk 1 Ground.data, Edge.mk 1 Ground.chain, Edge.mk 0 Ground.phase, Edge.mk 1 Ground.phase] none].toList [Oper.mk (some 3) (Op.assign (Operand.tmp 13)) 76 "model.go:52" #[Edge.mk 1 Ground.data, Edge.mk 1 Ground.chain, Edge.mk 0 Ground.phase, Edge.mk 1 Ground.phase] none] st (Qthen (WY Tryd.prog cfO 2998 (Env.mk (Bs.mk 0 []) 0 none 60 16 0) (cdAt [1, 1] (bodyOf Tryd.f16)) (QendX Tryd.prog Tryd.f16 fun v h => R (frzW h v))) (QendX Tryd.prog Tryd.f16 fun v h => R (frzW h v)) Ex.norm)) (St.mk tm h)) v (bif cfO.clean 33 then gcH 0 v h' else h')))) (St.mk (mkT [(3, V.mp (Id.p 0)), (9, V.lst 2 (bdl l)), (10, iv (↑(bdl l).length : Int)), (11, iv (0 : Int))]) (Hp.mk [(0, O.mp [])] 1 [(0, Fam.mk 1 ([] ++ []))]))) (by kernel_rfl) ?_
 obtain ⟨m,hm⟩ : ∃ m,m=(bdl l).length:=⟨_,rfl⟩
 rw [← hm]
 have hml:m=l.length:=by rw [hm]; simp [bdl]
 have r0:Rep [] [] []:=⟨rfl,List.Pairwise.nil,(fun t ht=>(by cases ht)),List.Pairwise.nil⟩
 have o0:OwnI l 0 [] 0 []:=by
  refine ⟨fun t ht=>(by cases ht),fun c hc=>?_⟩
  rcases hc with ⟨b,hb,_⟩ | hc
  ·omega
  ·simp at hc
 refine La.of (σ:=Nat×List (V×V)×List (Option (List (List V)))) (fun s=>sh107a l s.2.1 s.2.2 m s.1) (fun s=>s.1≤m ∧ ∃ T,Rep T s.2.1 s.2.2∧OwnI l s.1 [] 0 T) (fun s=>m - s.1) (0,[],[]) (by kernel_rfl) ⟨by omega,[],r0,o0⟩ ?_
 rintro ⟨i,es,ms⟩ ⟨g1,T,hr,ho⟩ J hJ
 simp only at g1 hr ho
 refine see (p := ifB (decide ((↑i : Int) < (↑m : Int))) (onSome (bdl l)[i]? fun row => onCons (List.drop 0 row) fun u r => onLst u fun s es_1 => onCons r fun u r => onLst u fun s_1 es_2 => guardB (es.all (goodE [] 0 true)) (La 0 [(3 : Tmp), (4 : Tmp), (9 : Tmp), (10 : Tmp), (11 : Tmp), (17 : Tmp), (18 : Tmp), (19 : Tmp), (1000001 : Tmp), (4000003 : Tmp)] (WY Tryd.prog cfO 2983 (Env.mk (Bs.mk 0 (spared [] [V.lst 2 (bdl l)] ++ [])) 0 none 34 33 2) (cdAt [1, 1, 0, 1, 0, 0, 1, 1, 0, 0, 1, 1, 0, 0] (bodyOf Tryd.f33))) (Qblk 2 (Qblk 1 (Qthen (WY Tryd.prog cfO 2988 (Env.mk (Bs.mk 0 (spared [] [V.lst 2 (bdl l)] ++ [])) 0 none 34 33 0) (cdAt [1, 1, 0, 1, 0, 0, 1, 1, 1] (bodyOf Tryd.f33)) (Qla 0 [(3 : Tmp), (9 : Tmp), (10 : Tmp), (11 : Tmp), (1000001 : Tmp), (4000003 : Tmp)] J (Qblk 0 (Qthen (WY Tryd.prog cfO 2994 (Env.mk (cfO.baseOf (Bs.mk 0 []) 33 [V.lst 2 (bdl l)] (Hp.mk [] 0 [])) 0 none 34 33 0) (cdAt [1, 1, 1] (bodyOf Tryd.f33)) (QendX Tryd.prog Tryd.f33 fun v h' => (fun v h => fzNew (callY Tryd.prog cfO (WY Tryd.prog cfO 2997) (Env.mk (Bs.mk 0 []) 0 none Tryd.f16.ntmps (16 : FuncId) 0).base (Env.mk (Bs.mk 0 []) 0 none Tryd.f16.ntmps (16 : FuncId) 0).fid) 0 (Oper.mk (some 13) (Op.call (Call.mk (Callee.value (Operand.func 33)) #[Operand.tmp 12] #[56])) 76 "model.go:52" #[Edge.mk 0 Ground.data] none) v h fun v h => putT (Env.mk (Bs.mk 0 []) 0 none Tryd.f16.ntmps (16 : FuncId) 0).N (mkT [(0, V.lst 2 (bdl l)), (2, nilS), (12, V.lst 2 (bdl l))]) (Oper.mk (some 13) (Op.call (Call.mk (Callee.value (Operand.func 33)) #[Operand.tmp 12] #[56])) 76 "model.go:52" #[Edge.mk 0 Ground.data] none).dst v fun tm => (fun st => fzOld (callY Tryd.prog cfO (WY Tryd.prog cfO 2997) (Env.mk (Bs.mk 0 []) 0 none Tryd.f16.ntmps (16 : FuncId) 0).base (Env.mk (Bs.mk 0 []) 0 none Tryd.f16.ntmps (16 : FuncId) 0).fid) (askY cfO (Env.mk (Bs.mk 0 []) 0 none Tryd.f16.ntmps (16 : FuncId) 0).base) (Oper.mk (some 13) (Op.call (Call.mk (Callee.value (Operand.func 33)) #[Operand.tmp 12] #[56])) 76 "model.go:52" #[Edge.mk 0 Ground.data] none) st fun st => wOps Tryd.prog (callY Tryd.prog cfO (WY Tryd.prog cfO 2997) (Env.mk (Bs.mk 0 []) 0 none Tryd.f16.ntmps (16 : FuncId) 0).base (Env.mk (Bs.mk 0 []) 0 none Tryd.f16.ntmps (16 : FuncId) 0).fid) (askY cfO (Env.mk (Bs.mk 0 []) 0 none Tryd.f16.ntmps (16 : FuncId) 0).base) (Env.mk (Bs.mk 0 []) 0 none Tryd.f16.ntmps (16 : FuncId) 0).N #[Oper.mk (some 12) (Op.move (Operand.tmp 0)) 56 "model.go:52" #[] none, Oper.mk (some 13) (Op.call (Call.mk (Callee.value (Operand.func 33)) #[Operand.tmp 12] #[56])) 76 "model.go:52" #[Edge.mk 0 Ground.data] none, Oper.mk (some 3) (Op.assign (Operand.tmp 13)) 76 "model.go:52" #[Edge.mk 1 Ground.data, Edge.mk 1 Ground.chain, Edge.mk 0 Ground.phase, Edge.mk 1 Ground.phase] none].toList [Oper.mk (some 3) (Op.assign (Operand.tmp 13)) 76 "model.go:52" #[Edge.mk 1 Ground.data, Edge.mk 1 Ground.chain, Edge.mk 0 Ground.phase, Edge.mk 1 Ground.phase] none] st (Qthen (WY Tryd.prog cfO 2998 (Env.mk (Bs.mk 0 []) 0 none 60 16 0) (cdAt [1, 1] (bodyOf Tryd.f16)) (QendX Tryd.prog Tryd.f16 fun v h => R (frzW h v))) (QendX Tryd.prog Tryd.f16 fun v h => R (frzW h v)) Ex.norm)) (St.mk tm h)) v (bif cfO.clean 33 then gcH 0 v h' else h'))) (QendX Tryd.prog Tryd.f33 fun v h' => (fun v h => fzNew (callY Tryd.prog cfO (WY Tryd.prog cfO 2997) (Env.mk (Bs.mk 0 []) 0 none Tryd.f16.ntmps (16 : FuncId) 0).base (Env.mk (Bs.mk 0 []) 0 none Tryd.f16.ntmps (16 : FuncId) 0).fid) 0 (Oper.mk (some 13) (Op.call (Call.mk (Callee.value (Operand.func 33)) #[Operand.tmp 12] #[56])) 76 "model.go:52" #[Edge.mk 0 Ground.data] none) v h fun v h => putT (Env.mk (Bs.mk 0 []) 0 none Tryd.f16.ntmps (16 : FuncId) 0).N (mkT [(0, V.lst 2 (bdl l)), (2, nilS), (12, V.lst 2 (bdl l))]) (Oper.mk (some 13) (Op.call (Call.mk (Callee.value (Operand.func 33)) #[Operand.tmp 12] #[56])) 76 "model.go:52" #[Edge.mk 0 Ground.data] none).dst v fun tm => (fun st => fzOld (callY Tryd.prog cfO (WY Tryd.prog cfO 2997) (Env.mk (Bs.mk 0 []) 0 none Tryd.f16.ntmps (16 : FuncId) 0).base (Env.mk (Bs.mk 0 []) 0 none Tryd.f16.ntmps (16 : FuncId) 0).fid) (askY cfO (Env.mk (Bs.mk 0 []) 0 none Tryd.f16.ntmps (16 : FuncId) 0).base) (Oper.mk (some 13) (Op.call (Call.mk (Callee.value (Operand.func 33)) #[Operand.tmp 12] #[56])) 76 "model.go:52" #[Edge.mk 0 Ground.data] none) st fun st => wOps Tryd.prog (callY Tryd.prog cfO (WY Tryd.prog cfO 2997) (Env.mk (Bs.mk 0 []) 0 none Tryd.f16.ntmps (16 : FuncId) 0).base (Env.mk (Bs.mk 0 []) 0 none Tryd.f16.ntmps (16 : FuncId) 0).fid) (askY cfO (Env.mk (Bs.mk 0 []) 0 none Tryd.f16.ntmps (16 : FuncId) 0).base) (Env.mk (Bs.mk 0 []) 0 none Tryd.f16.ntmps (16 : FuncId) 0).N #[Oper.mk (some 12) (Op.move (Operand.tmp 0)) 56 "model.go:52" #[] none, Oper.mk (some 13) (Op.call (Call.mk (Callee.value (Operand.func 33)) #[Operand.tmp 12] #[56])) 76 "model.go:52" #[Edge.mk 0 Ground.data] none, Oper.mk (some 3) (Op.assign (Operand.tmp 13)) 76 "model.go:52" #[Edge.mk 1 Ground.data, Edge.mk 1 Ground.chain, Edge.mk 0 Ground.phase, Edge.mk 1 Ground.phase] none].toList [Oper.mk (some 3) (Op.assign (Operand.tmp 13)) 76 "model.go:52" #[Edge.mk 1 Ground.data, Edge.mk 1 Ground.chain, Edge.mk 0 Ground.phase, Edge.mk 1 Ground.phase] none] st (Qthen (WY Tryd.prog cfO 2998 (Env.mk (Bs.mk 0 []) 0 none 60 16 0) (cdAt [1, 1] (bodyOf Tryd.f16)) (QendX Tryd.prog Tryd.f16 fun v h => R (frzW h v))) (QendX Tryd.prog Tryd.f16 fun v h => R (frzW h v)) Ex.norm)) (St.mk tm h)) v (bif cfO.clean 33 then gcH 0 v h' else h')))))) (Qla 0 [(3 : Tmp), (9 : Tmp), (10 : Tmp), (11 : Tmp), (1000001 : Tmp), (4000003 : Tmp)] J (Qblk 0 (Qthen (WY Tryd.prog cfO 2994 (Env.mk (cfO.baseOf (Bs.mk 0 []) 33 [V.lst 2 (bdl l)] (Hp.mk [] 0 [])) 0 none 34 33 0) (cdAt [1, 1, 1] (bodyOf Tryd.f33)) (QendX Tryd.prog Tryd.f33 fun v h' => (fun v h => fzNew (callY Tryd.prog cfO (WY Tryd.prog cfO 2997) (Env.mk (Bs.mk 0 []) 0 none Tryd.f16.ntmps (16 : FuncId) 0).base (Env.mk (Bs.mk 0 []) 0 none Tryd.f16.ntmps (16 : FuncId) 0).fid) 0 (Oper.mk (some 13) (Op.call (Call.mk (Callee.value (Operand.func 33)) #[Operand.tmp 12] #[56])) 76 "model.go:52" #[Edge.mk 0 Ground.data] none) v h fun v h => putT (Env.mk (Bs.mk 0 []) 0 none Tryd.f16.ntmps (16 : FuncId) 0).N (mkT [(0, V.lst 2 (bdl l)), (2, nilS), (12, V.lst 2 (bdl l))]) (Oper.mk (some 13) (Op.call (Call.mk (Callee.value (Operand.func 33)) #[Operand.tmp 12] #[56])) 76 "model.go:52" #[Edge.mk 0 Ground.data] none).dst v fun tm => (fun st => fzOld (callY Tryd.prog cfO (WY Tryd.prog cfO 2997) (Env.mk (Bs.mk 0 []) 0 none Tryd.f16.ntmps (16 : FuncId) 0).base (Env.mk (Bs.mk 0 []) 0 none Tryd.f16.ntmps (16 : FuncId) 0).fid) (askY cfO (Env.mk (Bs.mk 0 []) 0 none Tryd.f16.ntmps (16 : FuncId) 0).base) (Oper.mk (some 13) (Op.call (Call.mk (Callee.value (Operand.func 33)) #[Operand.tmp 12] #[56])) 76 "model.go:52" #[Edge.mk 0 Ground.data] none) st fun st => wOps Tryd.prog (callY Tryd.prog cfO (WY Tryd.prog cfO 2997) (Env.mk (Bs.mk 0 []) 0 none Tryd.f16.ntmps (16 : FuncId) 0).base (Env.mk (Bs.mk 0 []) 0 none Tryd.f16.ntmps (16 : FuncId) 0).fid) (askY cfO (Env.mk (Bs.mk 0 []) 0 none Tryd.f16.ntmps (16 : FuncId) 0).base) (Env.mk (Bs.mk 0 []) 0 none Tryd.f16.ntmps (16 : FuncId) 0).N #[Oper.mk (some 12) (Op.move (Operand.tmp 0)) 56 "model.go:52" #[] none, Oper.mk (some 13) (Op.call (Call.mk (Callee.value (Operand.func 33)) #[Operand.tmp 12] #[56])) 76 "model.go:52" #[Edge.mk 0 Ground.data] none, Oper.mk (some 3) (Op.assign (Operand.tmp 13)) 76 "model.go:52" #[Edge.mk 1 Ground.data, Edge.mk 1 Ground.chain, Edge.mk 0 Ground.phase, Edge.mk 1 Ground.phase] none].toList [Oper.mk (some 3) (Op.assign (Operand.tmp 13)) 76 "model.go:52" #[Edge.mk 1 Ground.data, Edge.mk 1 Ground.chain, Edge.mk 0 Ground.phase, Edge.mk 1 Ground.phase] none] st (Qthen (WY Tryd.prog cfO 2998 (Env.mk (Bs.mk 0 []) 0 none 60 16 0) (cdAt [1, 1] (bodyOf Tryd.f16)) (QendX Tryd.prog Tryd.f16 fun v h => R (frzW h v))) (QendX Tryd.prog Tryd.f16 fun v h => R (frzW h v)) Ex.norm)) (St.mk tm h)) v (bif cfO.clean 33 then gcH 0 v h' else h'))) (QendX Tryd.prog Tryd.f33 fun v h' => (fun v h => fzNew (callY Tryd.prog cfO (WY Tryd.prog cfO 2997) (Env.mk (Bs.mk 0 []) 0 none Tryd.f16.ntmps (16 : FuncId) 0).base (Env.mk (Bs.mk 0 []) 0 none Tryd.f16.ntmps (16 : FuncId) 0).fid) 0 (Oper.mk (some 13) (Op.call (Call.mk (Callee.value (Operand.func 33)) #[Operand.tmp 12] #[56])) 76 "model.go:52" #[Edge.mk 0 Ground.data] none) v h fun v h => putT (Env.mk (Bs.mk 0 []) 0 none Tryd.f16.ntmps (16 : FuncId) 0).N (mkT [(0, V.lst 2 (bdl l)), (2, nilS), (12, V.lst 2 (bdl l))]) (Oper.mk (some 13) (Op.call (Call.mk (Callee.value (Operand.func 33)) #[Operand.tmp 12] #[56])) 76 "model.go:52" #[Edge.mk 0 Ground.data] none).dst v fun tm => (fun st => fzOld (callY Tryd.prog cfO (WY Tryd.prog cfO 2997) (Env.mk (Bs.mk 0 []) 0 none Tryd.f16.ntmps (16 : FuncId) 0).base (Env.mk (Bs.mk 0 []) 0 none Tryd.f16.ntmps (16 : FuncId) 0).fid) (askY cfO (Env.mk (Bs.mk 0 []) 0 none Tryd.f16.ntmps (16 : FuncId) 0).base) (Oper.mk (some 13) (Op.call (Call.mk (Callee.value (Operand.func 33)) #[Operand.tmp 12] #[56])) 76 "model.go:52" #[Edge.mk 0 Ground.data] none) st fun st => wOps Tryd.prog (callY Tryd.prog cfO (WY Tryd.prog cfO 2997) (Env.mk (Bs.mk 0 []) 0 none Tryd.f16.ntmps (16 : FuncId) 0).base (Env.mk (Bs.mk 0 []) 0 none Tryd.f16.ntmps (16 : FuncId) 0).fid) (askY cfO (Env.mk (Bs.mk 0 []) 0 none Tryd.f16.ntmps (16 : FuncId) 0).base) (Env.mk (Bs.mk 0 []) 0 none Tryd.f16.ntmps (16 : FuncId) 0).N #[Oper.mk (some 12) (Op.move (Operand.tmp 0)) 56 "model.go:52" #[] none, Oper.mk (some 13) (Op.call (Call.mk (Callee.value (Operand.func 33)) #[Operand.tmp 12] #[56])) 76 "model.go:52" #[Edge.mk 0 Ground.data] none, Oper.mk (some 3) (Op.assign (Operand.tmp 13)) 76 "model.go:52" #[Edge.mk 1 Ground.data, Edge.mk 1 Ground.chain, Edge.mk 0 Ground.phase, Edge.mk 1 Ground.phase] none].toList [Oper.mk (some 3) (Op.assign (Operand.tmp 13)) 76 "model.go:52" #[Edge.mk 1 Ground.data, Edge.mk 1 Ground.chain, Edge.mk 0 Ground.phase, Edge.mk 1 Ground.phase] none] st (Qthen (WY Tryd.prog cfO 2998 (Env.mk (Bs.mk 0 []) 0 none 60 16 0) (cdAt [1, 1] (bodyOf Tryd.f16)) (QendX Tryd.prog Tryd.f16 fun v h => R (frzW h v))) (QendX Tryd.prog Tryd.f16 fun v h => R (frzW h v)) Ex.norm)) (St.mk tm h)) v (bif cfO.clean 33 then gcH 0 v h' else h')))))))) (St.mk (mkT [(3, V.mp (Id.p 0)), (4, iv (↑i : Int)), (9, V.lst 2 (bdl l)), (10, iv (↑m : Int)), (11, iv (↑i : Int)), (17, V.lst s es_1), (18, iv (↑es_1.length : Int)), (19, iv (0 : Int))]) (Hp.mk [(0, O.mp (trM [] 0 ms.length es))] 1 [(0, Fam.mk 1 (ms ++ []))])))) (guardB (es.all (goodE [] 0 true)) (La 0 [(0 : Tmp), (3 : Tmp), (4 : Tmp), (14 : Tmp), (15 : Tmp), (16 : Tmp), (1000001 : Tmp), (4000003 : Tmp)] (WY Tryd.prog cfO 2993 (Env.mk (Bs.mk 0 []) 0 none 60 16 0) (cdAt [1, 1, 1, 0, 1, 0, 0] (bodyOf Tryd.f16))) (Qblk 0 (Qthen (WY Tryd.prog cfO 2996 (Env.mk (Bs.mk 0 []) 0 none 60 16 0) (cdAt [1, 1, 1, 1] (bodyOf Tryd.f16)) (QendX Tryd.prog Tryd.f16 fun v h => R (frzW h v))) (QendX Tryd.prog Tryd.f16 fun v h => R (frzW h v)))) (St.mk (mkT [(0, V.lst 2 (bdl l)), (3, V.mp (Id.p 0)), (4, nilS), (14, V.lst 2 (bdl l)), (15, iv (↑(bdl l).length : Int)), (16, iv (0 : Int))]) (Hp.mk [(0, O.mp (trM [] 0 ms.length es))] 1 [(0, Fam.mk 1 (ms ++ []))]))))) (by kernel_rfl) ?_
 have hgood : ∀ {T:List Ow} {es:List (V×V)},es=T.map ent→es.all (goodE [] 0 true)=true:=fun e=>by rw [e]; exact good_ent _ _
 have hrep : ∀ {T:List Ow} {es:List (V×V)} {ms:List (Option (List (List V)))},Rep T es ms→Rep T (trM [] 0 ms.length es) (ms++[]):=fun {T es ms} h=>by
  rw [List.append_nil,h.es,trM_ent,← h.es]; exact h
 refine ifB_mk (fun d=>?_) (fun d=>?_)
 rotate_left
 ·have hi:i=m:=by have:=of_decide_eq_false d; omega
  refine guardB_mk (hgood hr.es) ?_
  exact rest T es ms hr (by rw [← hml,← hi]; exact ho)
 have hi:i<m:=by have:=of_decide_eq_true d; omega
 obtain ⟨b,hb⟩:=getI (l:=l) (k:=i) (by omega)
 have hbm:=mem_at hb
 have hrow:(bdl l)[i]? = some (bdr b):=by simp [bdl,hb]
 refine onSome_mk hrow (onCons_cons (onLst_lst (onCons_cons (onLst_lst (guardB_mk (hgood hr.es) ?_)))))
 obtain ⟨x,hx⟩ : ∃ x,x=b.1:=⟨_,rfl⟩
 rw [← hx]
 obtain ⟨n,hnn⟩ : ∃ n,n=(cll x).length:=⟨_,rfl⟩
 rw [← hnn]
 have hnx:n=x.length:=by rw [hnn,cll_length]
 have hx1000:x.length≤1000:=by rw [hx]; exact hl30 b hbm
 refine La.of (σ:=Nat×List (V×V)×List (Option (List (List V)))) (fun s=>sh107b l x s.2.1 s.2.2 m i n s.1) (fun s=>s.1≤n ∧ ∃ T,Rep T s.2.1 s.2.2∧OwnI l i x s.1 T) (fun s=>n - s.1) (0,_,_) (by kernel_rfl) ⟨by omega,T,hrep hr,own_start ho⟩ ?_
 rintro ⟨k,es_1,ms'⟩ ⟨f1,T', hr', ho'⟩ I hI
 simp only at f1 hr' ho'
 obtain ⟨ms,hms⟩ : ∃ q,q=ms' := ⟨_,rfl⟩
 subst hms
 refine see (p:=ifB (decide ((↑k:Int)<(↑n:Int))) (onSome (cll x)[k]? fun row=>onCons (List.drop 0 row) fun u r=>onIntK IntKind.i64 u fun n_1=>onCons r fun u r=>onIntK IntKind.i64 u fun n_2=>onCons r fun u r=>onIntK IntKind.i64 u fun n_3=>onFind (findK Tryd.prog 27 (V.agg [iv n_1,iv n_2,iv n_3]) es_1 0) (fun i_1 kv vv=>guardB (sameC kv (V.agg [iv n_1,iv n_2,iv n_3])) (onMem 0 vv (onSome (es_1.set i_1 (V.agg [iv n_1,iv n_2,iv n_3],vv))[i_1]? fun kv=>guardB (((es_1.set i_1 (V.agg [iv n_1,iv n_2,iv n_3],vv)).set i_1 (kv.1,V.sl (Id.p 3) 0 1)).all (goodE [3,2] 0 true)) (I (St.mk (mkT [(3,V.mp (Id.p 0)),(4,iv (↑i:Int)),(9,V.lst 2 (bdl l)),(10,iv (↑m:Int)),(11,iv (↑i:Int)),(17,V.lst 3 (cll x)),(18,iv (↑n:Int)),(19,iv (IntKind.i64.wrap ((↑k:Int)+(1:Int))))]) (Hp.mk [(0,O.mp (trM [3,2] 0 ms.length ((es_1.set i_1 (V.agg [iv n_1,iv n_2,iv n_3],vv)).set i_1 (kv.1,V.sl (Id.p 3) 0 1))))] 1 [(0,Fam.mk 1 (ms++[some [[iv (↑i:Int)]],some [[iv (↑i:Int)]]]))])))) fun j n_4=>onSome (memb ms j) fun es=>need ((n_4+1) * 8≤140737488355328) (onSome (es_1.set i_1 (V.agg [iv n_1,iv n_2,iv n_3],vv))[i_1]? fun kv=>guardB (((es_1.set i_1 (V.agg [iv n_1,iv n_2,iv n_3],vv)).set i_1 (kv.1,V.sl (Id.p 3) 0 (n_4+1))).all (goodE [3,2] 0 true)) (I (St.mk (mkT [(3,V.mp (Id.p 0)),(4,iv (↑i:Int)),(9,V.lst 2 (bdl l)),(10,iv (↑m:Int)),(11,iv (↑i:Int)),(17,V.lst 3 (cll x)),(18,iv (↑n:Int)),(19,iv (IntKind.i64.wrap ((↑k:Int)+(1:Int))))]) (Hp.mk [(0,O.mp (trM [3,2] 0 ((ms.set j none)).length ((es_1.set i_1 (V.agg [iv n_1,iv n_2,iv n_3],vv)).set i_1 (kv.1,V.sl (Id.p 3) 0 (n_4+1)))))] 1 [(0,Fam.mk 1 (ms.set j none++[some (List.take n_4 es++[[iv (↑i:Int)]]),some [[iv (↑i:Int)]]]))])))))) (onSome (es_1++[(V.agg [iv n_1,iv n_2,iv n_3],nilS)])[es_1.length]? fun kv=>guardB (((es_1++[(V.agg [iv n_1,iv n_2,iv n_3],nilS)]).set es_1.length (kv.1,V.sl (Id.p 3) 0 1)).all (goodE [3,2] 0 true)) (I (St.mk (mkT [(3,V.mp (Id.p 0)),(4,iv (↑i:Int)),(9,V.lst 2 (bdl l)),(10,iv (↑m:Int)),(11,iv (↑i:Int)),(17,V.lst 3 (cll x)),(18,iv (↑n:Int)),(19,iv (IntKind.i64.wrap ((↑k:Int)+(1:Int))))]) (Hp.mk [(0,O.mp (trM [3,2] 0 ms.length ((es_1++[(V.agg [iv n_1,iv n_2,iv n_3],nilS)]).set es_1.length (kv.1,V.sl (Id.p 3) 0 1))))] 1 [(0,Fam.mk 1 (ms++[some [[iv (↑i:Int)]],some [[iv (↑i:Int)]]]))]))))) (guardB (es_1.all (goodE [] 0 true)) (J (St.mk (mkT [(3,V.mp (Id.p 0)),(9,V.lst 2 (bdl l)),(10,iv (↑m:Int)),(11,iv (IntKind.i64.wrap ((↑i:Int)+(1:Int))))]) (Hp.mk [(0,O.mp (trM [] 0 ms.length es_1))] 1 [(0,Fam.mk 1 (ms++[]))]))))) (by kernel_rfl) ?_
 refine ifB_mk (fun e=>?_) (fun e=>?_)
 ·have hk:k<n:=by have:=of_decide_eq_true e; omega
  obtain ⟨c,hc⟩:=getI (l:=x) (k:=k) (by omega)
  have hcr:(cll x)[k]? = some (clr c):=by simp [cll,hc]
  refine onSome_mk hcr (onCons_cons (onIntK_iv (onCons_cons (onIntK_iv (onCons_cons (onIntK_iv ?_))))))
  rw [wr1i hk (by omega)]
  refine own_add (K:=fun e f=>I (sh107b l x e f m i n (k+1))) hr' (fun t ht=>by have:=own_len ho' t ht; omega) (fun T' es' ms' h1 h2=>?_)
  exact hI (k+1,es', ms') ⟨hk,T', h1,own_step ho' hc (by rw [hx]; exact hn b hbm) h2 hr'.cs⟩ (by simp only; omega)
 ·have hk:k=x.length:=by have:=of_decide_eq_false e; omega
  subst hk
  refine guardB_mk (hgood hr'.es) ?_
  rw [wr1i hi (by omega)]
  exact hJ (i+1,_,_) ⟨hi,T', hrep hr', own_next hb (hx ▸ ho')⟩ (by simp only; omega)
theorem onMem0 {j len:Nat} {p:Prop} {q:Nat→Nat→Prop} (h:q j len):onMem 0 (V.sl (Id.m 0 j) 0 len) p q:=h
theorem cm_zero (l:List Bdy) (x:List Cl):List.replicate 40 (bv false)=cmV (Mk l x 0):=by
 rw [← cmV_zero]
 exact cmV_ext (fun o=>⟨fun h=>h.elim,fun h=>by obtain ⟨c,h,_⟩:=h; simp at h⟩)
theorem inn_len (l:List Bdy) (i n:Nat):(inn l i n).length≤n:=by
 unfold inn
 rw [List.length_map]
 have:=List.length_filter_le (fun o=>decide (i<o)&&dc (Comm l i o)) (List.range n)
 simpa using this
theorem ovl_len (l:List Bdy) : ∀ i,(ovl l i).length≤i * l.length
 | 0=>by simp [ovl]
 | i+1=>by
  rw [ovl_succ,List.length_append,Nat.succ_mul]
  have:=ovl_len l i
  have:=inn_len l i l.length
  omega
noncomputable def ovlV (l:List Bdy):V:=match ovl l l.length with | []=>nilS | p::ps => .lst 2 (prl (p::ps))
theorem over_rest {l:List Bdy} {R:V→Prop} (hl:l.length≤40) (hl30 : ∀ b∈l,b.1.length≤1000) {T:List Ow} {es:List (V×V)} {ms:List (Option (List (List V)))} (hr:Rep T es ms) (ho:OwnI l l.length [] 0 T) (hR:R (ovlV l)):La 0 [(0:Tmp),(3:Tmp),(4:Tmp),(14:Tmp),(15:Tmp),(16:Tmp),(1000001:Tmp),(4000003:Tmp)] (WY Tryd.prog cfO 2993 (Env.mk (Bs.mk 0 []) 0 none 60 16 0) (cdAt [1,1,1,0,1,0,0] (bodyOf Tryd.f16))) (Qblk 0 (Qthen (WY Tryd.prog cfO 2996 (Env.mk (Bs.mk 0 []) 0 none 60 16 0) (cdAt [1,1,1,1] (bodyOf Tryd.f16)) (QendX Tryd.prog Tryd.f16 fun v h=>R (frzW h v))) (QendX Tryd.prog Tryd.f16 fun v h=>R (frzW h v)))) (St.mk (mkT [(0,V.lst 2 (bdl l)),(3,V.mp (Id.p 0)),(4,nilS),(14,V.lst 2 (bdl l)),(15,iv (↑(bdl l).length:Int)),(16,iv (0:Int))]) (Hp.mk [(0,O.mp (trM [] 0 ms.length es))] 1 [(0,Fam.mk 1 (ms++[]))])):=by
 have hgood:es.all (goodE [] 0 true)=true:=by rw [hr.es]; exact good_ent _ _
 have htr:trM [] 0 ms.length es=es:=by rw [hr.es,trM_ent]
 have hms:ms++[]=ms:=List.append_nil ms
 obtain ⟨m,hm⟩ : ∃ m,m=(bdl l).length:=⟨_,rfl⟩
 rw [← hm]
 have hml:m=l.length:=by rw [hm]; simp [bdl]
 refine La.of (σ:=Bool×Nat×Nat×List (Nat×Nat)×List (V×V)×List (Option (List (List V)))) (fun s=>match s.1 with | false=>oNa l s.2.2.2.2.1 s.2.2.2.2.2 m s.2.1 | true=>oSa l s.2.2.2.1 s.2.2.2.2.1 s.2.2.2.2.2 s.2.2.1 m s.2.1) (fun s=>s.2.1≤m∧s.2.2.2.2.1=es∧s.2.2.2.2.2=ms∧s.2.2.1=s.2.2.2.1.length∧s.2.2.2.1=ovl l s.2.1∧(s.1=false→s.2.2.2.1=[])∧(s.1=true→s.2.2.2.1≠[])) (fun s=>m - s.2.1) (false,0,0,[],_,_) (by kernel_rfl) ⟨by simp only; omega,htr,hms,rfl,rfl,(fun _=>rfl),(fun h=>by cases h)⟩ ?_
 rintro ⟨bb,i,q,ps,es_1,ms⟩ ⟨g1,ge,gm,gq,gp,gb,gb2⟩ C hC
 simp only at g1 ge gm gq gp gb gb2
 subst ge gm
 cases bb
 ·refine see (p:=ifB (decide ((↑i:Int)<(↑m:Int))) (onSome (bdl l)[i]? fun row=>onSome row[0]? fun v=>onLst v fun s es=>guardB (es_1.all (goodE [] 0 true)) (La 0 [(0:Tmp),(3:Tmp),(4:Tmp),(5:Tmp),(6:Tmp),(14:Tmp),(15:Tmp),(16:Tmp),(23:Tmp),(24:Tmp),(25:Tmp),(1000001:Tmp),(4000003:Tmp)] (WY Tryd.prog cfO 2983 (Env.mk (Bs.mk 0 []) 0 none 60 16 2) (cdAt [1,1,1,0,1,0,0,1,1,0,0,1,1,0,1,0,0] (bodyOf Tryd.f16))) (Qblk 2 (Qthen (WY Tryd.prog cfO 2986 (Env.mk (Bs.mk 0 []) 0 none 60 16 1) (cdAt [1,1,1,0,1,0,0,1,1,0,0,1,1,1] (bodyOf Tryd.f16)) (Qblk 1 (Qthen (WY Tryd.prog cfO 2990 (Env.mk (Bs.mk 0 []) 0 none 60 16 0) (cdAt [1,1,1,0,1,0,0,1,1,1] (bodyOf Tryd.f16)) (Qla 0 [(0:Tmp),(3:Tmp),(4:Tmp),(14:Tmp),(15:Tmp),(16:Tmp),(1000001:Tmp),(4000003:Tmp)] C (Qblk 0 (Qthen (WY Tryd.prog cfO 2996 (Env.mk (Bs.mk 0 []) 0 none 60 16 0) (cdAt [1,1,1,1] (bodyOf Tryd.f16)) (QendX Tryd.prog Tryd.f16 fun v h=>R (frzW h v))) (QendX Tryd.prog Tryd.f16 fun v h=>R (frzW h v)))))) (Qla 0 [(0:Tmp),(3:Tmp),(4:Tmp),(14:Tmp),(15:Tmp),(16:Tmp),(1000001:Tmp),(4000003:Tmp)] C (Qblk 0 (Qthen (WY Tryd.prog cfO 2996 (Env.mk (Bs.mk 0 []) 0 none 60 16 0) (cdAt [1,1,1,1] (bodyOf Tryd.f16)) (QendX Tryd.prog Tryd.f16 fun v h=>R (frzW h v))) (QendX Tryd.prog Tryd.f16 fun v h=>R (frzW h v)))))))) (Qblk 1 (Qthen (WY Tryd.prog cfO 2990 (Env.mk (Bs.mk 0 []) 0 none 60 16 0) (cdAt [1,1,1,0,1,0,0,1,1,1] (bodyOf Tryd.f16)) (Qla 0 [(0:Tmp),(3:Tmp),(4:Tmp),(14:Tmp),(15:Tmp),(16:Tmp),(1000001:Tmp),(4000003:Tmp)] C (Qblk 0 (Qthen (WY Tryd.prog cfO 2996 (Env.mk (Bs.mk 0 []) 0 none 60 16 0) (cdAt [1,1,1,1] (bodyOf Tryd.f16)) (QendX Tryd.prog Tryd.f16 fun v h=>R (frzW h v))) (QendX Tryd.prog Tryd.f16 fun v h=>R (frzW h v)))))) (Qla 0 [(0:Tmp),(3:Tmp),(4:Tmp),(14:Tmp),(15:Tmp),(16:Tmp),(1000001:Tmp),(4000003:Tmp)] C (Qblk 0 (Qthen (WY Tryd.prog cfO 2996 (Env.mk (Bs.mk 0 []) 0 none 60 16 0) (cdAt [1,1,1,1] (bodyOf Tryd.f16)) (QendX Tryd.prog Tryd.f16 fun v h=>R (frzW h v))) (QendX Tryd.prog Tryd.f16 fun v h=>R (frzW h v))))))))) (St.mk (mkT [(0,V.lst 2 (bdl l)),(3,V.mp (Id.p 0)),(4,nilS),(5,iv (↑i:Int)),(6,V.ptr (Id.p 1) 0 0),(14,V.lst 2 (bdl l)),(15,iv (↑m:Int)),(16,iv (↑i:Int)),(23,V.lst s es),(24,iv (↑es.length:Int)),(25,iv (0:Int))]) (Hp.mk [(0,O.mp (trM [] 0 ms.length es_1)),(1,O.rows 40 true [[bv false,bv false,bv false,bv false,bv false,bv false,bv false,bv false,bv false,bv false,bv false,bv false,bv false,bv false,bv false,bv false,bv false,bv false,bv false,bv false,bv false,bv false,bv false,bv false,bv false,bv false,bv false,bv false,bv false,bv false,bv false,bv false,bv false,bv false,bv false,bv false,bv false,bv false,bv false,bv false]])] 2 [(0,Fam.mk 1 (ms++[]))])))) (R nilS)) (by kernel_rfl) ?_
  refine ifB_mk (fun d=>?_) (fun d=>?_)
  rotate_left
  ·have hi:i=m:=by have:=of_decide_eq_false d; omega
   have hov:ovl l l.length=ps:=by rw [← hml,← hi,gp]
   rw [gb rfl] at hov
   unfold ovlV at hR
   rw [hov] at hR
   exact hR
  have hi:i<m:=by have:=of_decide_eq_true d; omega
  obtain ⟨b', hb⟩:=getI (l:=l) (k:=i) (by omega)
  have hbm:=mem_at hb
  have hrow:(bdl l)[i]? = some (bdr b'):=by simp [bdl,hb]
  refine onSome_mk hrow (onSome_mk (x:=V.lst 3 (cll b'.1)) rfl (onLst_lst (guardB_mk hgood ?_)))
  obtain ⟨x,hx⟩ : ∃ x,x=b'.1:=⟨_,rfl⟩
  rw [← hx]
  obtain ⟨n,hnn⟩ : ∃ n,n=(cll x).length:=⟨_,rfl⟩
  rw [← hnn]
  have hnx:n=x.length:=by rw [hnn,cll_length]
  have hx1000:x.length≤1000:=by rw [hx]; exact hl30 b' hbm
  have hxc:cellsAt l i=x:=by unfold cellsAt; rw [hb,hx]; rfl
  refine La.of (σ:=Nat×List V×List (V×V)×List (Option (List (List V)))) (fun s=>oNb l x s.2.1 s.2.2.1 s.2.2.2 m i n s.1) (fun s=>s.1≤n∧s.2.1=cmV (Mk l x s.1)∧s.2.2.1=es_1∧s.2.2.2=ms) (fun s=>n - s.1) (0,List.replicate 40 (bv false),_,_) (by kernel_rfl) ⟨by omega,cm_zero l x,htr,hms⟩ ?_
  rintro ⟨k,cm,es_1,ms⟩ ⟨f1,hcm,ge,gm⟩ D hD
  simp only at f1 hcm ge gm
  subst ge gm
  refine see (p:=ifB (decide ((↑k:Int)<(↑n:Int))) (onSome (cll x)[k]? fun row=>onCons (List.drop 0 row) fun u r=>onIntK IntKind.i64 u fun n_1=>onCons r fun u r=>onIntK IntKind.i64 u fun n_2=>onCons r fun u r=>onIntK IntKind.i64 u fun n_3=>onFind (findK Tryd.prog 27 (V.agg [iv n_1,iv n_2,iv n_3]) es_1 0) (fun i_1 kv vv=>onMem 0 (bif false then V.tup [vv,bv true] else vv) (guardB (es_1.all (goodE [] 0 true)) (La 0 [(0:Tmp),(3:Tmp),(4:Tmp),(5:Tmp),(6:Tmp),(14:Tmp),(15:Tmp),(16:Tmp),(23:Tmp),(24:Tmp),(25:Tmp),(31:Tmp),(32:Tmp),(33:Tmp),(1000001:Tmp),(4000003:Tmp)] (WY Tryd.prog cfO 2975 (Env.mk (Bs.mk 0 []) 0 none 60 16 4) (cdAt [1,1,1,0,1,0,0,1,1,0,0,1,1,0,1,0,0,1,1,0,0,1,1,0,0] (bodyOf Tryd.f16))) (Qblk 4 (Qblk 3 (Qthen (WY Tryd.prog cfO 2980 (Env.mk (Bs.mk 0 []) 0 none 60 16 2) (cdAt [1,1,1,0,1,0,0,1,1,0,0,1,1,0,1,0,0,1,1,1] (bodyOf Tryd.f16)) (Qla 0 [(0:Tmp),(3:Tmp),(4:Tmp),(5:Tmp),(6:Tmp),(14:Tmp),(15:Tmp),(16:Tmp),(23:Tmp),(24:Tmp),(25:Tmp),(1000001:Tmp),(4000003:Tmp)] D (Qblk 2 (Qthen (WY Tryd.prog cfO 2986 (Env.mk (Bs.mk 0 []) 0 none 60 16 1) (cdAt [1,1,1,0,1,0,0,1,1,0,0,1,1,1] (bodyOf Tryd.f16)) (Qblk 1 (Qthen (WY Tryd.prog cfO 2990 (Env.mk (Bs.mk 0 []) 0 none 60 16 0) (cdAt [1,1,1,0,1,0,0,1,1,1] (bodyOf Tryd.f16)) (Qla 0 [(0:Tmp),(3:Tmp),(4:Tmp),(14:Tmp),(15:Tmp),(16:Tmp),(1000001:Tmp),(4000003:Tmp)] C (Qblk 0 (Qthen (WY Tryd.prog cfO 2996 (Env.mk (Bs.mk 0 []) 0 none 60 16 0) (cdAt [1,1,1,1] (bodyOf Tryd.f16)) (QendX Tryd.prog Tryd.f16 fun v h=>R (frzW h v))) (QendX Tryd.prog Tryd.f16 fun v h=>R (frzW h v)))))) (Qla 0 [(0:Tmp),(3:Tmp),(4:Tmp),(14:Tmp),(15:Tmp),(16:Tmp),(1000001:Tmp),(4000003:Tmp)] C (Qblk 0 (Qthen (WY Tryd.prog cfO 2996 (Env.mk (Bs.mk 0 []) 0 none 60 16 0) (cdAt [1,1,1,1] (bodyOf Tryd.f16)) (QendX Tryd.prog Tryd.f16 fun v h=>R (frzW h v))) (QendX Tryd.prog Tryd.f16 fun v h=>R (frzW h v)))))))) (Qblk 1 (Qthen (WY Tryd.prog cfO 2990 (Env.mk (Bs.mk 0 []) 0 none 60 16 0) (cdAt [1,1,1,0,1,0,0,1,1,1] (bodyOf Tryd.f16)) (Qla 0 [(0:Tmp),(3:Tmp),(4:Tmp),(14:Tmp),(15:Tmp),(16:Tmp),(1000001:Tmp),(4000003:Tmp)] C (Qblk 0 (Qthen (WY Tryd.prog cfO 2996 (Env.mk (Bs.mk 0 []) 0 none 60 16 0) (cdAt [1,1,1,1] (bodyOf Tryd.f16)) (QendX Tryd.prog Tryd.f16 fun v h=>R (frzW h v))) (QendX Tryd.prog Tryd.f16 fun v h=>R (frzW h v)))))) (Qla 0 [(0:Tmp),(3:Tmp),(4:Tmp),(14:Tmp),(15:Tmp),(16:Tmp),(1000001:Tmp),(4000003:Tmp)] C (Qblk 0 (Qthen (WY Tryd.prog cfO 2996 (Env.mk (Bs.mk 0 []) 0 none 60 16 0) (cdAt [1,1,1,1] (bodyOf Tryd.f16)) (QendX Tryd.prog Tryd.f16 fun v h=>R (frzW h v))) (QendX Tryd.prog Tryd.f16 fun v h=>R (frzW h v))))))))))) (Qla 0 [(0:Tmp),(3:Tmp),(4:Tmp),(5:Tmp),(6:Tmp),(14:Tmp),(15:Tmp),(16:Tmp),(23:Tmp),(24:Tmp),(25:Tmp),(1000001:Tmp),(4000003:Tmp)] D (Qblk 2 (Qthen (WY Tryd.prog cfO 2986 (Env.mk (Bs.mk 0 []) 0 none 60 16 1) (cdAt [1,1,1,0,1,0,0,1,1,0,0,1,1,1] (bodyOf Tryd.f16)) (Qblk 1 (Qthen (WY Tryd.prog cfO 2990 (Env.mk (Bs.mk 0 []) 0 none 60 16 0) (cdAt [1,1,1,0,1,0,0,1,1,1] (bodyOf Tryd.f16)) (Qla 0 [(0:Tmp),(3:Tmp),(4:Tmp),(14:Tmp),(15:Tmp),(16:Tmp),(1000001:Tmp),(4000003:Tmp)] C (Qblk 0 (Qthen (WY Tryd.prog cfO 2996 (Env.mk (Bs.mk 0 []) 0 none 60 16 0) (cdAt [1,1,1,1] (bodyOf Tryd.f16)) (QendX Tryd.prog Tryd.f16 fun v h=>R (frzW h v))) (QendX Tryd.prog Tryd.f16 fun v h=>R (frzW h v)))))) (Qla 0 [(0:Tmp),(3:Tmp),(4:Tmp),(14:Tmp),(15:Tmp),(16:Tmp),(1000001:Tmp),(4000003:Tmp)] C (Qblk 0 (Qthen (WY Tryd.prog cfO 2996 (Env.mk (Bs.mk 0 []) 0 none 60 16 0) (cdAt [1,1,1,1] (bodyOf Tryd.f16)) (QendX Tryd.prog Tryd.f16 fun v h=>R (frzW h v))) (QendX Tryd.prog Tryd.f16 fun v h=>R (frzW h v)))))))) (Qblk 1 (Qthen (WY Tryd.prog cfO 2990 (Env.mk (Bs.mk 0 []) 0 none 60 16 0) (cdAt [1,1,1,0,1,0,0,1,1,1] (bodyOf Tryd.f16)) (Qla 0 [(0:Tmp),(3:Tmp),(4:Tmp),(14:Tmp),(15:Tmp),(16:Tmp),(1000001:Tmp),(4000003:Tmp)] C (Qblk 0 (Qthen (WY Tryd.prog cfO 2996 (Env.mk (Bs.mk 0 []) 0 none 60 16 0) (cdAt [1,1,1,1] (bodyOf Tryd.f16)) (QendX Tryd.prog Tryd.f16 fun v h=>R (frzW h v))) (QendX Tryd.prog Tryd.f16 fun v h=>R (frzW h v)))))) (Qla 0 [(0:Tmp),(3:Tmp),(4:Tmp),(14:Tmp),(15:Tmp),(16:Tmp),(1000001:Tmp),(4000003:Tmp)] C (Qblk 0 (Qthen (WY Tryd.prog cfO 2996 (Env.mk (Bs.mk 0 []) 0 none 60 16 0) (cdAt [1,1,1,1] (bodyOf Tryd.f16)) (QendX Tryd.prog Tryd.f16 fun v h=>R (frzW h v))) (QendX Tryd.prog Tryd.f16 fun v h=>R (frzW h v))))))))))))) (St.mk (mkT [(0,V.lst 2 (bdl l)),(3,V.mp (Id.p 0)),(4,nilS),(5,iv (↑i:Int)),(6,V.ptr (Id.p 1) 0 0),(14,V.lst 2 (bdl l)),(15,iv (↑m:Int)),(16,iv (↑i:Int)),(23,V.lst 3 (cll x)),(24,iv (↑n:Int)),(25,iv (↑k:Int)),(31,nilS),(32,iv (0:Int)),(33,iv (0:Int))]) (Hp.mk [(0,O.mp (trM [] 0 ms.length es_1)),(1,O.rows 40 true [cm])] 2 [(0,Fam.mk 1 (ms++[]))])))) fun j n_4=>guardB ((Hp.mk [(2,O.rows 3 false [[iv n_1,iv n_2,iv n_3]]),(0,O.mp es_1),(1,O.rows 40 true [cm])] 3 [(0,Fam.mk 1 ms)]).has (Id.m 0 j)) (guardB (es_1.all (goodE [] 0 true)) (La 0 [(0:Tmp),(3:Tmp),(4:Tmp),(5:Tmp),(6:Tmp),(14:Tmp),(15:Tmp),(16:Tmp),(23:Tmp),(24:Tmp),(25:Tmp),(31:Tmp),(32:Tmp),(33:Tmp),(1000001:Tmp),(4000003:Tmp)] (WY Tryd.prog cfO 2975 (Env.mk (Bs.mk 0 []) 0 none 60 16 4) (cdAt [1,1,1,0,1,0,0,1,1,0,0,1,1,0,1,0,0,1,1,0,0,1,1,0,0] (bodyOf Tryd.f16))) (Qblk 4 (Qblk 3 (Qthen (WY Tryd.prog cfO 2980 (Env.mk (Bs.mk 0 []) 0 none 60 16 2) (cdAt [1,1,1,0,1,0,0,1,1,0,0,1,1,0,1,0,0,1,1,1] (bodyOf Tryd.f16)) (Qla 0 [(0:Tmp),(3:Tmp),(4:Tmp),(5:Tmp),(6:Tmp),(14:Tmp),(15:Tmp),(16:Tmp),(23:Tmp),(24:Tmp),(25:Tmp),(1000001:Tmp),(4000003:Tmp)] D (Qblk 2 (Qthen (WY Tryd.prog cfO 2986 (Env.mk (Bs.mk 0 []) 0 none 60 16 1) (cdAt [1,1,1,0,1,0,0,1,1,0,0,1,1,1] (bodyOf Tryd.f16)) (Qblk 1 (Qthen (WY Tryd.prog cfO 2990 (Env.mk (Bs.mk 0 []) 0 none 60 16 0) (cdAt [1,1,1,0,1,0,0,1,1,1] (bodyOf Tryd.f16)) (Qla 0 [(0:Tmp),(3:Tmp),(4:Tmp),(14:Tmp),(15:Tmp),(16:Tmp),(1000001:Tmp),(4000003:Tmp)] C (Qblk 0 (Qthen (WY Tryd.prog cfO 2996 (Env.mk (Bs.mk 0 []) 0 none 60 16 0) (cdAt [1,1,1,1] (bodyOf Tryd.f16)) (QendX Tryd.prog Tryd.f16 fun v h=>R (frzW h v))) (QendX Tryd.prog Tryd.f16 fun v h=>R (frzW h v)))))) (Qla 0 [(0:Tmp),(3:Tmp),(4:Tmp),(14:Tmp),(15:Tmp),(16:Tmp),(1000001:Tmp),(4000003:Tmp)] C (Qblk 0 (Qthen (WY Tryd.prog cfO 2996 (Env.mk (Bs.mk 0 []) 0 none 60 16 0) (cdAt [1,1,1,1] (bodyOf Tryd.f16)) (QendX Tryd.prog Tryd.f16 fun v h=>R (frzW h v))) (QendX Tryd.prog Tryd.f16 fun v h=>R (frzW h v)))))))) (Qblk 1 (Qthen (WY Tryd.prog cfO 2990 (Env.mk (Bs.mk 0 []) 0 none 60 16 0) (cdAt [1,1,1,0,1,0,0,1,1,1] (bodyOf Tryd.f16)) (Qla 0 [(0:Tmp),(3:Tmp),(4:Tmp),(14:Tmp),(15:Tmp),(16:Tmp),(1000001:Tmp),(4000003:Tmp)] C (Qblk 0 (Qthen (WY Tryd.prog cfO 2996 (Env.mk (Bs.mk 0 []) 0 none 60 16 0) (cdAt [1,1,1,1] (bodyOf Tryd.f16)) (QendX Tryd.prog Tryd.f16 fun v h=>R (frzW h v))) (QendX Tryd.prog Tryd.f16 fun v h=>R (frzW h v)))))) (Qla 0 [(0:Tmp),(3:Tmp),(4:Tmp),(14:Tmp),(15:Tmp),(16:Tmp),(1000001:Tmp),(4000003:Tmp)] C (Qblk 0 (Qthen (WY Tryd.prog cfO 2996 (Env.mk (Bs.mk 0 []) 0 none 60 16 0) (cdAt [1,1,1,1] (bodyOf Tryd.f16)) (QendX Tryd.prog Tryd.f16 fun v h=>R (frzW h v))) (QendX Tryd.prog Tryd.f16 fun v h=>R (frzW h v))))))))))) (Qla 0 [(0:Tmp),(3:Tmp),(4:Tmp),(5:Tmp),(6:Tmp),(14:Tmp),(15:Tmp),(16:Tmp),(23:Tmp),(24:Tmp),(25:Tmp),(1000001:Tmp),(4000003:Tmp)] D (Qblk 2 (Qthen (WY Tryd.prog cfO 2986 (Env.mk (Bs.mk 0 []) 0 none 60 16 1) (cdAt [1,1,1,0,1,0,0,1,1,0,0,1,1,1] (bodyOf Tryd.f16)) (Qblk 1 (Qthen (WY Tryd.prog cfO 2990 (Env.mk (Bs.mk 0 []) 0 none 60 16 0) (cdAt [1,1,1,0,1,0,0,1,1,1] (bodyOf Tryd.f16)) (Qla 0 [(0:Tmp),(3:Tmp),(4:Tmp),(14:Tmp),(15:Tmp),(16:Tmp),(1000001:Tmp),(4000003:Tmp)] C (Qblk 0 (Qthen (WY Tryd.prog cfO 2996 (Env.mk (Bs.mk 0 []) 0 none 60 16 0) (cdAt [1,1,1,1] (bodyOf Tryd.f16)) (QendX Tryd.prog Tryd.f16 fun v h=>R (frzW h v))) (QendX Tryd.prog Tryd.f16 fun v h=>R (frzW h v)))))) (Qla 0 [(0:Tmp),(3:Tmp),(4:Tmp),(14:Tmp),(15:Tmp),(16:Tmp),(1000001:Tmp),(4000003:Tmp)] C (Qblk 0 (Qthen (WY Tryd.prog cfO 2996 (Env.mk (Bs.mk 0 []) 0 none 60 16 0) (cdAt [1,1,1,1] (bodyOf Tryd.f16)) (QendX Tryd.prog Tryd.f16 fun v h=>R (frzW h v))) (QendX Tryd.prog Tryd.f16 fun v h=>R (frzW h v)))))))) (Qblk 1 (Qthen (WY Tryd.prog cfO 2990 (Env.mk (Bs.mk 0 []) 0 none 60 16 0) (cdAt [1,1,1,0,1,0,0,1,1,1] (bodyOf Tryd.f16)) (Qla 0 [(0:Tmp),(3:Tmp),(4:Tmp),(14:Tmp),(15:Tmp),(16:Tmp),(1000001:Tmp),(4000003:Tmp)] C (Qblk 0 (Qthen (WY Tryd.prog cfO 2996 (Env.mk (Bs.mk 0 []) 0 none 60 16 0) (cdAt [1,1,1,1] (bodyOf Tryd.f16)) (QendX Tryd.prog Tryd.f16 fun v h=>R (frzW h v))) (QendX Tryd.prog Tryd.f16 fun v h=>R (frzW h v)))))) (Qla 0 [(0:Tmp),(3:Tmp),(4:Tmp),(14:Tmp),(15:Tmp),(16:Tmp),(1000001:Tmp),(4000003:Tmp)] C (Qblk 0 (Qthen (WY Tryd.prog cfO 2996 (Env.mk (Bs.mk 0 []) 0 none 60 16 0) (cdAt [1,1,1,1] (bodyOf Tryd.f16)) (QendX Tryd.prog Tryd.f16 fun v h=>R (frzW h v))) (QendX Tryd.prog Tryd.f16 fun v h=>R (frzW h v))))))))))))) (St.mk (mkT [(0,V.lst 2 (bdl l)),(3,V.mp (Id.p 0)),(4,nilS),(5,iv (↑i:Int)),(6,V.ptr (Id.p 1) 0 0),(14,V.lst 2 (bdl l)),(15,iv (↑m:Int)),(16,iv (↑i:Int)),(23,V.lst 3 (cll x)),(24,iv (↑n:Int)),(25,iv (↑k:Int)),(31,V.sl (Id.m 0 j) 0 n_4),(32,iv (↑n_4:Int)),(33,iv (0:Int))]) (Hp.mk [(0,O.mp (trM [] 0 ms.length es_1)),(1,O.rows 40 true [cm])] 2 [(0,Fam.mk 1 (ms++[]))]))))) (guardB (es_1.all (goodE [] 0 true)) (La 0 [(0:Tmp),(3:Tmp),(4:Tmp),(5:Tmp),(6:Tmp),(14:Tmp),(15:Tmp),(16:Tmp),(23:Tmp),(24:Tmp),(25:Tmp),(31:Tmp),(32:Tmp),(33:Tmp),(1000001:Tmp),(4000003:Tmp)] (WY Tryd.prog cfO 2975 (Env.mk (Bs.mk 0 []) 0 none 60 16 4) (cdAt [1,1,1,0,1,0,0,1,1,0,0,1,1,0,1,0,0,1,1,0,0,1,1,0,0] (bodyOf Tryd.f16))) (Qblk 4 (Qblk 3 (Qthen (WY Tryd.prog cfO 2980 (Env.mk (Bs.mk 0 []) 0 none 60 16 2) (cdAt [1,1,1,0,1,0,0,1,1,0,0,1,1,0,1,0,0,1,1,1] (bodyOf Tryd.f16)) (Qla 0 [(0:Tmp),(3:Tmp),(4:Tmp),(5:Tmp),(6:Tmp),(14:Tmp),(15:Tmp),(16:Tmp),(23:Tmp),(24:Tmp),(25:Tmp),(1000001:Tmp),(4000003:Tmp)] D (Qblk 2 (Qthen (WY Tryd.prog cfO 2986 (Env.mk (Bs.mk 0 []) 0 none 60 16 1) (cdAt [1,1,1,0,1,0,0,1,1,0,0,1,1,1] (bodyOf Tryd.f16)) (Qblk 1 (Qthen (WY Tryd.prog cfO 2990 (Env.mk (Bs.mk 0 []) 0 none 60 16 0) (cdAt [1,1,1,0,1,0,0,1,1,1] (bodyOf Tryd.f16)) (Qla 0 [(0:Tmp),(3:Tmp),(4:Tmp),(14:Tmp),(15:Tmp),(16:Tmp),(1000001:Tmp),(4000003:Tmp)] C (Qblk 0 (Qthen (WY Tryd.prog cfO 2996 (Env.mk (Bs.mk 0 []) 0 none 60 16 0) (cdAt [1,1,1,1] (bodyOf Tryd.f16)) (QendX Tryd.prog Tryd.f16 fun v h=>R (frzW h v))) (QendX Tryd.prog Tryd.f16 fun v h=>R (frzW h v)))))) (Qla 0 [(0:Tmp),(3:Tmp),(4:Tmp),(14:Tmp),(15:Tmp),(16:Tmp),(1000001:Tmp),(4000003:Tmp)] C (Qblk 0 (Qthen (WY Tryd.prog cfO 2996 (Env.mk (Bs.mk 0 []) 0 none 60 16 0) (cdAt [1,1,1,1] (bodyOf Tryd.f16)) (QendX Tryd.prog Tryd.f16 fun v h=>R (frzW h v))) (QendX Tryd.prog Tryd.f16 fun v h=>R (frzW h v)))))))) (Qblk 1 (Qthen (WY Tryd.prog cfO 2990 (Env.mk (Bs.mk 0 []) 0 none 60 16 0) (cdAt [1,1,1,0,1,0,0,1,1,1] (bodyOf Tryd.f16)) (Qla 0 [(0:Tmp),(3:Tmp),(4:Tmp),(14:Tmp),(15:Tmp),(16:Tmp),(1000001:Tmp),(4000003:Tmp)] C (Qblk 0 (Qthen (WY Tryd.prog cfO 2996 (Env.mk (Bs.mk 0 []) 0 none 60 16 0) (cdAt [1,1,1,1] (bodyOf Tryd.f16)) (QendX Tryd.prog Tryd.f16 fun v h=>R (frzW h v))) (QendX Tryd.prog Tryd.f16 fun v h=>R (frzW h v)))))) (Qla 0 [(0:Tmp),(3:Tmp),(4:Tmp),(14:Tmp),(15:Tmp),(16:Tmp),(1000001:Tmp),(4000003:Tmp)] C (Qblk 0 (Qthen (WY Tryd.prog cfO 2996 (Env.mk (Bs.mk 0 []) 0 none 60 16 0) (cdAt [1,1,1,1] (bodyOf Tryd.f16)) (QendX Tryd.prog Tryd.f16 fun v h=>R (frzW h v))) (QendX Tryd.prog Tryd.f16 fun v h=>R (frzW h v))))))))))) (Qla 0 [(0:Tmp),(3:Tmp),(4:Tmp),(5:Tmp),(6:Tmp),(14:Tmp),(15:Tmp),(16:Tmp),(23:Tmp),(24:Tmp),(25:Tmp),(1000001:Tmp),(4000003:Tmp)] D (Qblk 2 (Qthen (WY Tryd.prog cfO 2986 (Env.mk (Bs.mk 0 []) 0 none 60 16 1) (cdAt [1,1,1,0,1,0,0,1,1,0,0,1,1,1] (bodyOf Tryd.f16)) (Qblk 1 (Qthen (WY Tryd.prog cfO 2990 (Env.mk (Bs.mk 0 []) 0 none 60 16 0) (cdAt [1,1,1,0,1,0,0,1,1,1] (bodyOf Tryd.f16)) (Qla 0 [(0:Tmp),(3:Tmp),(4:Tmp),(14:Tmp),(15:Tmp),(16:Tmp),(1000001:Tmp),(4000003:Tmp)] C (Qblk 0 (Qthen (WY Tryd.prog cfO 2996 (Env.mk (Bs.mk 0 []) 0 none 60 16 0) (cdAt [1,1,1,1] (bodyOf Tryd.f16)) (QendX Tryd.prog Tryd.f16 fun v h=>R (frzW h v))) (QendX Tryd.prog Tryd.f16 fun v h=>R (frzW h v)))))) (Qla 0 [(0:Tmp),(3:Tmp),(4:Tmp),(14:Tmp),(15:Tmp),(16:Tmp),(1000001:Tmp),(4000003:Tmp)] C (Qblk 0 (Qthen (WY Tryd.prog cfO 2996 (Env.mk (Bs.mk 0 []) 0 none 60 16 0) (cdAt [1,1,1,1] (bodyOf Tryd.f16)) (QendX Tryd.prog Tryd.f16 fun v h=>R (frzW h v))) (QendX Tryd.prog Tryd.f16 fun v h=>R (frzW h v)))))))) (Qblk 1 (Qthen (WY Tryd.prog cfO 2990 (Env.mk (Bs.mk 0 []) 0 none 60 16 0) (cdAt [1,1,1,0,1,0,0,1,1,1] (bodyOf Tryd.f16)) (Qla 0 [(0:Tmp),(3:Tmp),(4:Tmp),(14:Tmp),(15:Tmp),(16:Tmp),(1000001:Tmp),(4000003:Tmp)] C (Qblk 0 (Qthen (WY Tryd.prog cfO 2996 (Env.mk (Bs.mk 0 []) 0 none 60 16 0) (cdAt [1,1,1,1] (bodyOf Tryd.f16)) (QendX Tryd.prog Tryd.f16 fun v h=>R (frzW h v))) (QendX Tryd.prog Tryd.f16 fun v h=>R (frzW h v)))))) (Qla 0 [(0:Tmp),(3:Tmp),(4:Tmp),(14:Tmp),(15:Tmp),(16:Tmp),(1000001:Tmp),(4000003:Tmp)] C (Qblk 0 (Qthen (WY Tryd.prog cfO 2996 (Env.mk (Bs.mk 0 []) 0 none 60 16 0) (cdAt [1,1,1,1] (bodyOf Tryd.f16)) (QendX Tryd.prog Tryd.f16 fun v h=>R (frzW h v))) (QendX Tryd.prog Tryd.f16 fun v h=>R (frzW h v))))))))))))) (St.mk (mkT [(0,V.lst 2 (bdl l)),(3,V.mp (Id.p 0)),(4,nilS),(5,iv (↑i:Int)),(6,V.ptr (Id.p 1) 0 0),(14,V.lst 2 (bdl l)),(15,iv (↑m:Int)),(16,iv (↑i:Int)),(23,V.lst 3 (cll x)),(24,iv (↑n:Int)),(25,iv (↑k:Int)),(31,nilS),(32,iv (0:Int)),(33,iv (0:Int))]) (Hp.mk [(0,O.mp (trM [] 0 ms.length es_1)),(1,O.rows 40 true [cm])] 2 [(0,Fam.mk 1 (ms++[]))]))))) (guardB (es_1.all (goodE [] 0 true)) (La 0 [(0:Tmp),(3:Tmp),(4:Tmp),(5:Tmp),(6:Tmp),(11:Tmp),(14:Tmp),(15:Tmp),(16:Tmp),(1000001:Tmp),(4000003:Tmp)] (WY Tryd.prog cfO 2983 (Env.mk (Bs.mk 0 []) 0 none 60 16 6) (cdAt [1,1,1,0,1,0,0,1,1,0,0,1,1,1,1,0,0] (bodyOf Tryd.f16))) (Qblk 6 (Qblk 1 (Qthen (WY Tryd.prog cfO 2990 (Env.mk (Bs.mk 0 []) 0 none 60 16 0) (cdAt [1,1,1,0,1,0,0,1,1,1] (bodyOf Tryd.f16)) (Qla 0 [(0:Tmp),(3:Tmp),(4:Tmp),(14:Tmp),(15:Tmp),(16:Tmp),(1000001:Tmp),(4000003:Tmp)] C (Qblk 0 (Qthen (WY Tryd.prog cfO 2996 (Env.mk (Bs.mk 0 []) 0 none 60 16 0) (cdAt [1,1,1,1] (bodyOf Tryd.f16)) (QendX Tryd.prog Tryd.f16 fun v h=>R (frzW h v))) (QendX Tryd.prog Tryd.f16 fun v h=>R (frzW h v)))))) (Qla 0 [(0:Tmp),(3:Tmp),(4:Tmp),(14:Tmp),(15:Tmp),(16:Tmp),(1000001:Tmp),(4000003:Tmp)] C (Qblk 0 (Qthen (WY Tryd.prog cfO 2996 (Env.mk (Bs.mk 0 []) 0 none 60 16 0) (cdAt [1,1,1,1] (bodyOf Tryd.f16)) (QendX Tryd.prog Tryd.f16 fun v h=>R (frzW h v))) (QendX Tryd.prog Tryd.f16 fun v h=>R (frzW h v)))))))) (St.mk (mkT [(0,V.lst 2 (bdl l)),(3,V.mp (Id.p 0)),(4,nilS),(5,iv (↑i:Int)),(6,V.ptr (Id.p 1) 0 0),(11,iv (IntKind.i64.wrap ((↑i:Int)+(1:Int)))),(14,V.lst 2 (bdl l)),(15,iv (↑m:Int)),(16,iv (↑i:Int))]) (Hp.mk [(0,O.mp (trM [] 0 ms.length es_1)),(1,O.rows 40 true [cm])] 2 [(0,Fam.mk 1 (ms++[]))]))))) (by kernel_rfl) ?_
  refine ifB_mk (fun e=>?_) (fun e=>?_)
  ·have hk:k<n:=by have:=of_decide_eq_true e; omega
   obtain ⟨c,hc⟩:=getI (l:=x) (k:=k) (by omega)
   have hcr:(cll x)[k]? = some (clr c):=by simp [cll,hc]
   have hcx:c∈cellsAt l i:=by rw [hxc]; exact mem_at hc
   obtain ⟨jj,t,h1,h2,h3⟩:=findC_mem 0 (own_find ho (b:=i) (by omega) hcx)
   have htm:=List.mem_of_getElem? h1
   have hbr:=own_brs ho htm
   rw [h2] at hbr
   have hmb:memb ms t.2.2=some (t.2.1.map rowI):=by unfold memb; rw [hr.mem t htm]; rfl
   rw [← hr.es] at h3
   refine onSome_mk hcr (onCons_cons (onIntK_iv (onCons_cons (onIntK_iv (onCons_cons (onIntK_iv ?_))))))
   refine onFind_iff.2 (.inl ⟨0+jj,_,_,h3,?_⟩)
   refine onMem0 (guardB_mk (by show (memb ms t.2.2).isSome=true; rw [hmb]; rfl) (guardB_mk hgood ?_))
   obtain ⟨j,hj⟩ : ∃ j,j=t.2.2:=⟨_,rfl⟩
   obtain ⟨w,hw⟩ : ∃ w,w=t.2.1.length:=⟨_,rfl⟩
   rw [← hj,← hw]
   rw [← hj] at hmb
   have hw1000:w≤1000:=by
    rw [hw,hbr]
    have:=List.length_filter_le (fun b=>dc (c∈cellsAt l b)) (List.range l.length)
    unfold brs
    simp only [List.length_range] at this
    omega
   refine La.of (σ:=Nat×List V×List (V×V)×List (Option (List (List V)))) (fun s=>oNc l x s.2.1 s.2.2.1 s.2.2.2 m i n k j w s.1) (fun s=>s.1≤w∧s.2.1=cmV (fun o=>Mk l x k o∨o∈t.2.1.take s.1)∧s.2.2.1=es_1∧s.2.2.2=ms) (fun s=>w - s.1) (0,cm,_,_) (by kernel_rfl) ⟨by omega,by rw [hcm]; exact cmV_ext (fun o=>by simp),htr,hms⟩ ?_
   rintro ⟨z,cm,es_1,ms⟩ ⟨z1,hcm2,ge,gm⟩ E hE
   simp only at z1 hcm2 ge gm
   subst ge gm
   refine see (p:=ifB (decide ((↑z:Int)<(↑w:Int))) (onSome (memb ms j) fun es=>need (z<w) (onSome (memb ms j) fun es=>onSome es[0+z]? fun row=>onSome row[0]? fun v=>onIntK IntKind.i64 v fun n_5=>onNat n_5 fun m_1=>need (m_1<40) (guardB ((0+m_1 * 1+1).ble cm.length) (guardB (es_1.all (goodE [] 0 true)) (E (St.mk (mkT [(0,V.lst 2 (bdl l)),(3,V.mp (Id.p 0)),(4,nilS),(5,iv (↑i:Int)),(6,V.ptr (Id.p 1) 0 0),(14,V.lst 2 (bdl l)),(15,iv (↑m:Int)),(16,iv (↑i:Int)),(23,V.lst 3 (cll x)),(24,iv (↑n:Int)),(25,iv (↑k:Int)),(31,V.sl (Id.m 0 j) 0 w),(32,iv (↑w:Int)),(33,iv (IntKind.i64.wrap ((↑z:Int)+(1:Int))))]) (Hp.mk [(0,O.mp (trM [] 0 ms.length es_1)),(1,O.rows 40 true [List.take (0+m_1 * 1) cm++[bv true]++List.drop (0+m_1 * 1+1) cm])] 2 [(0,Fam.mk 1 (ms++[]))]))))))) (guardB (es_1.all (goodE [] 0 true)) (D (St.mk (mkT [(0,V.lst 2 (bdl l)),(3,V.mp (Id.p 0)),(4,nilS),(5,iv (↑i:Int)),(6,V.ptr (Id.p 1) 0 0),(14,V.lst 2 (bdl l)),(15,iv (↑m:Int)),(16,iv (↑i:Int)),(23,V.lst 3 (cll x)),(24,iv (↑n:Int)),(25,iv (IntKind.i64.wrap ((↑k:Int)+(1:Int))))]) (Hp.mk [(0,O.mp (trM [] 0 ms.length es_1)),(1,O.rows 40 true [cm])] 2 [(0,Fam.mk 1 (ms++[]))]))))) (by kernel_rfl) ?_
   refine ifB_mk (fun e' => ?_) (fun e' => ?_)
   ·have hz:z<w:=by have:=of_decide_eq_true e'; omega
    obtain ⟨o,hot⟩:=getI (l:=t.2.1) (k:=z) (by omega)
    have hom:o<40:=by
     have:=mem_at hot
     rw [hbr] at this
     unfold brs at this
     have:=List.mem_range.1 (List.mem_filter.1 this).1
     omega
    refine onSome_mk hmb (need_mk ⟨hz,onSome_mk hmb (onSome_mk (x:=rowI o) (by simp [hot]) (onSome_mk (x:=iv (o:Int)) rfl (onIntK_iv (onNat_mk (m:=o) rfl (need_mk ⟨hom,guardB_mk (by rw [hcm2,cmV_length]; exact Nat.ble_eq_true_of_le (by omega)) (guardB_mk hgood ?_)⟩)))))⟩)
    rw [wr1i hz (by omega)]
    refine hE (z+1,List.take (0+o * 1) cm++[bv true]++List.drop (0+o * 1+1) cm,_,_) ⟨hz,?_,htr,hms⟩ (by simp only; omega)
    simp only
    rw [hcm2,cmV_set hom]
    refine cmV_ext (fun o' => ?_)
    rw [take_succ' hot]
    simp [or_assoc]
   ·have hz:z=w:=by have:=of_decide_eq_false e'; omega
    refine guardB_mk hgood ?_
    rw [wr1i hk (by omega)]
    refine hD (k+1,cm,_,_) ⟨hk,?_,htr,hms⟩ (by simp only; omega)
    simp only
    rw [hcm2]
    refine cmV_ext (fun o=>?_)
    rw [hz,hw,List.take_length,hbr]
    exact mk_succ hc l.length (fun o h=>cellsAt_lt h) o
  ·have hk:k=n:=by have:=of_decide_eq_false e; omega
   have hcm:cm=cmV (Comm l i):=by
    rw [hcm]
    refine cmV_ext (fun o=>?_)
    unfold Mk Comm
    rw [hk,hnx,List.take_length,hxc]
   refine guardB_mk hgood ?_
   rw [wr1i hi (by omega)]
   refine La.of (σ:=Bool×Nat×Nat×List (Nat×Nat)×List (V×V)×List (Option (List (List V)))) (fun s=>match s.1 with | false=>oNd l cm s.2.2.2.2.1 s.2.2.2.2.2 m i s.2.1 | true=>oSd l cm s.2.2.2.1 s.2.2.2.2.1 s.2.2.2.2.2 s.2.2.1 m i s.2.1) (fun s=>(i<s.2.1∧s.2.1≤m)∧s.2.2.2.2.1=es_1∧s.2.2.2.2.2=ms∧s.2.2.1=s.2.2.2.1.length∧s.2.2.2.1=ovl l i++inn l i s.2.1∧(s.1=false→s.2.2.2.1=[])∧(s.1=true→s.2.2.2.1≠[])) (fun s=>m - s.2.1) (false,i+1,q,ps,_,_) (by kernel_rfl) ⟨⟨by simp only; omega,by simp only; omega⟩,htr,hms,gq,gp.trans (by simp [inn_start]),gb,gb2⟩ ?_
   rintro ⟨bb,o,q,ps,es_1,ms⟩ ⟨⟨o0,o1⟩,ge,gm,gq', gp', gb', gb2'⟩ F hF
   simp only at o0 o1 ge gm gq' gp' gb' gb2'
   subst ge gm
   have hq:q≤2000:=by
    rw [gq', gp', List.length_append]
    have h1:=ovl_len l i
    have h2:=inn_len l i o
    have h3:i * l.length≤40 * 40:=Nat.mul_le_mul (by omega) (by omega)
    omega
   have hend : ∀ h : ¬ o<m,ps=ovl l (i+1):=fun h=>by
    rw [gp', ovl_succ]
    congr 2
    omega
   cases bb with
   | false =>
    refine see (p:=ifB (decide ((↑o:Int)<(↑(bdl l).length:Int))) (need (o<40) (onSome cm[0+o * 1]? fun v=>onBool v fun b=>ifB b (guardB (es_1.all (goodE [] 0 true)) (F (St.mk (mkT [(0,V.lst 2 (bdl l)),(3,V.mp (Id.p 0)),(4,V.sl (Id.p 1) 0 1),(5,iv (↑i:Int)),(6,V.ptr (Id.p 2) 0 0),(11,iv (IntKind.i64.wrap ((↑o:Int)+(1:Int)))),(14,V.lst 2 (bdl l)),(15,iv (↑m:Int)),(16,iv (↑i:Int))]) (Hp.mk [(0,O.mp (trM [] 0 ms.length es_1)),(1,O.rows 2 true [[iv (↑i:Int),iv (↑o:Int)]]),(2,O.rows 40 true [cm])] 3 [(0,Fam.mk 1 (ms++[]))])))) (guardB (es_1.all (goodE [] 0 true)) (F (St.mk (mkT [(0,V.lst 2 (bdl l)),(3,V.mp (Id.p 0)),(4,nilS),(5,iv (↑i:Int)),(6,V.ptr (Id.p 1) 0 0),(11,iv (IntKind.i64.wrap ((↑o:Int)+(1:Int)))),(14,V.lst 2 (bdl l)),(15,iv (↑m:Int)),(16,iv (↑i:Int))]) (Hp.mk [(0,O.mp (trM [] 0 ms.length es_1)),(1,O.rows 40 true [cm])] 2 [(0,Fam.mk 1 (ms++[]))])))))) (guardB (es_1.all (goodE [] 0 true)) (C (St.mk (mkT [(0,V.lst 2 (bdl l)),(3,V.mp (Id.p 0)),(4,nilS),(14,V.lst 2 (bdl l)),(15,iv (↑m:Int)),(16,iv (IntKind.i64.wrap ((↑i:Int)+(1:Int))))]) (Hp.mk [(0,O.mp (trM [] 0 ms.length es_1))] 1 [(0,Fam.mk 1 (ms++[]))]))))) (by kernel_rfl) ?_
    refine ifB_mk (fun e' => ?_) (fun e' => ?_)
    ·have hom:o<m:=by have:=of_decide_eq_true e'; rw [← hm] at this; omega
     refine need_mk ⟨by omega,onSome_mk (x:=bv (dc (Comm l i o))) (by rw [hcm]; exact cmV_get (by omega)) (onBool_bv (ifB_mk (fun hc=>?_) (fun hc=>?_)))⟩
     ·refine guardB_mk hgood ?_
      rw [wr1i hom (by omega)]
      refine hF (true,o+1,1,[(i,o)],_,_) ⟨⟨by simp only; omega,by simp only; omega⟩,htr,hms,rfl,?_,(fun h=>by cases h),(fun _ h=>by cases h)⟩ (by simp only; omega)
      simp only
      rw [inn_succ o0,if_pos hc,← List.append_assoc,← gp', gb' rfl]
      rfl
     ·refine guardB_mk hgood ?_
      rw [wr1i hom (by omega)]
      refine hF (false,o+1,q,ps,_,_) ⟨⟨by simp only; omega,by simp only; omega⟩,htr,hms,gq', ?_,gb', gb2'⟩ (by simp only; omega)
      simp only
      rw [inn_succ o0,hc,if_neg (by simp),← gp']
    ·have hom : ¬ o<m:=by have:=of_decide_eq_false e'; rw [← hm] at this; omega
     refine guardB_mk hgood ?_
     rw [wr1i hi (by omega)]
     exact hC (false,i+1,q,ps,_,_) ⟨hi,htr,hms,gq', hend hom,gb', gb2'⟩ (by simp only; omega)
   | true =>
    refine see (p:=ifB (decide ((↑o:Int)<(↑(bdl l).length:Int))) (need (o<40) (onSome cm[0+o * 1]? fun v=>onBool v fun b=>ifB b (need ((q+1) * 16≤140737488355328) (guardB (es_1.all (goodE [] 0 true)) (F (St.mk (mkT [(0,V.lst 2 (bdl l)),(3,V.mp (Id.p 0)),(4,V.sl (Id.p 1) 0 (q+1)),(5,iv (↑i:Int)),(6,V.ptr (Id.p 2) 0 0),(11,iv (IntKind.i64.wrap ((↑o:Int)+(1:Int)))),(14,V.lst 2 (bdl l)),(15,iv (↑m:Int)),(16,iv (↑i:Int))]) (Hp.mk [(0,O.mp (trM [] 0 ms.length es_1)),(1,O.rows 2 true (List.take q (prl ps)++[[iv (↑i:Int),iv (↑o:Int)]])),(2,O.rows 40 true [cm])] 3 [(0,Fam.mk 1 (ms++[]))]))))) (guardB (es_1.all (goodE [] 0 true)) (F (St.mk (mkT [(0,V.lst 2 (bdl l)),(3,V.mp (Id.p 0)),(4,V.sl (Id.p 1) 0 q),(5,iv (↑i:Int)),(6,V.ptr (Id.p 2) 0 0),(11,iv (IntKind.i64.wrap ((↑o:Int)+(1:Int)))),(14,V.lst 2 (bdl l)),(15,iv (↑m:Int)),(16,iv (↑i:Int))]) (Hp.mk [(0,O.mp (trM [] 0 ms.length es_1)),(1,O.rows 2 true (prl ps)),(2,O.rows 40 true [cm])] 3 [(0,Fam.mk 1 (ms++[]))])))))) (guardB (es_1.all (goodE [] 0 true)) (C (St.mk (mkT [(0,V.lst 2 (bdl l)),(3,V.mp (Id.p 0)),(4,V.sl (Id.p 1) 0 q),(14,V.lst 2 (bdl l)),(15,iv (↑m:Int)),(16,iv (IntKind.i64.wrap ((↑i:Int)+(1:Int))))]) (Hp.mk [(0,O.mp (trM [] 0 ms.length es_1)),(1,O.rows 2 true (prl ps))] 2 [(0,Fam.mk 1 (ms++[]))]))))) (by kernel_rfl) ?_
    refine ifB_mk (fun e' => ?_) (fun e' => ?_)
    ·have hom:o<m:=by have:=of_decide_eq_true e'; rw [← hm] at this; omega
     refine need_mk ⟨by omega,onSome_mk (x:=bv (dc (Comm l i o))) (by rw [hcm]; exact cmV_get (by omega)) (onBool_bv (ifB_mk (fun hc=>?_) (fun hc=>?_)))⟩
     ·refine need_mk ⟨by omega,guardB_mk hgood ?_⟩
      rw [wr1i hom (by omega)]
      have hp:List.take q (prl ps)++[[iv (i:Int),iv (o:Int)]]=prl (ps++[(i,o)]):=by rw [gq', show ps.length=(prl ps).length from by simp [prl],List.take_length]; simp [prl]
      rw [hp]
      refine hF (true,o+1,q+1,ps++[(i,o)],_,_) ⟨⟨by simp only; omega,by simp only; omega⟩,htr,hms,by simp [gq'],?_,(fun h=>by cases h),(fun _=>by simp)⟩ (by simp only; omega)
      simp only
      rw [inn_succ o0,if_pos hc,gp', List.append_assoc]
     ·refine guardB_mk hgood ?_
      rw [wr1i hom (by omega)]
      refine hF (true,o+1,q,ps,_,_) ⟨⟨by simp only; omega,by simp only; omega⟩,htr,hms,gq', ?_,gb', gb2'⟩ (by simp only; omega)
      simp only
      rw [inn_succ o0,hc,if_neg (by simp),gp']
    ·have hom : ¬ o<m:=by have:=of_decide_eq_false e'; rw [← hm] at this; omega
     refine guardB_mk hgood ?_
     rw [wr1i hi (by omega)]
     exact hC (true,i+1,q,ps,_,_) ⟨hi,htr,hms,gq', hend hom,gb', gb2'⟩ (by simp only; omega)
 ·refine see (p:=ifB (decide ((↑i:Int)<(↑m:Int))) (onSome (bdl l)[i]? fun row=>onSome row[0]? fun v=>onLst v fun s es=>guardB (es_1.all (goodE [] 0 true)) (La 0 [(0:Tmp),(3:Tmp),(4:Tmp),(5:Tmp),(6:Tmp),(14:Tmp),(15:Tmp),(16:Tmp),(23:Tmp),(24:Tmp),(25:Tmp),(1000001:Tmp),(4000003:Tmp)] (WY Tryd.prog cfO 2983 (Env.mk (Bs.mk 0 []) 0 none 60 16 2) (cdAt [1,1,1,0,1,0,0,1,1,0,0,1,1,0,1,0,0] (bodyOf Tryd.f16))) (Qblk 2 (Qthen (WY Tryd.prog cfO 2986 (Env.mk (Bs.mk 0 []) 0 none 60 16 1) (cdAt [1,1,1,0,1,0,0,1,1,0,0,1,1,1] (bodyOf Tryd.f16)) (Qblk 1 (Qthen (WY Tryd.prog cfO 2990 (Env.mk (Bs.mk 0 []) 0 none 60 16 0) (cdAt [1,1,1,0,1,0,0,1,1,1] (bodyOf Tryd.f16)) (Qla 0 [(0:Tmp),(3:Tmp),(4:Tmp),(14:Tmp),(15:Tmp),(16:Tmp),(1000001:Tmp),(4000003:Tmp)] C (Qblk 0 (Qthen (WY Tryd.prog cfO 2996 (Env.mk (Bs.mk 0 []) 0 none 60 16 0) (cdAt [1,1,1,1] (bodyOf Tryd.f16)) (QendX Tryd.prog Tryd.f16 fun v h=>R (frzW h v))) (QendX Tryd.prog Tryd.f16 fun v h=>R (frzW h v)))))) (Qla 0 [(0:Tmp),(3:Tmp),(4:Tmp),(14:Tmp),(15:Tmp),(16:Tmp),(1000001:Tmp),(4000003:Tmp)] C (Qblk 0 (Qthen (WY Tryd.prog cfO 2996 (Env.mk (Bs.mk 0 []) 0 none 60 16 0) (cdAt [1,1,1,1] (bodyOf Tryd.f16)) (QendX Tryd.prog Tryd.f16 fun v h=>R (frzW h v))) (QendX Tryd.prog Tryd.f16 fun v h=>R (frzW h v)))))))) (Qblk 1 (Qthen (WY Tryd.prog cfO 2990 (Env.mk (Bs.mk 0 []) 0 none 60 16 0) (cdAt [1,1,1,0,1,0,0,1,1,1] (bodyOf Tryd.f16)) (Qla 0 [(0:Tmp),(3:Tmp),(4:Tmp),(14:Tmp),(15:Tmp),(16:Tmp),(1000001:Tmp),(4000003:Tmp)] C (Qblk 0 (Qthen (WY Tryd.prog cfO 2996 (Env.mk (Bs.mk 0 []) 0 none 60 16 0) (cdAt [1,1,1,1] (bodyOf Tryd.f16)) (QendX Tryd.prog Tryd.f16 fun v h=>R (frzW h v))) (QendX Tryd.prog Tryd.f16 fun v h=>R (frzW h v)))))) (Qla 0 [(0:Tmp),(3:Tmp),(4:Tmp),(14:Tmp),(15:Tmp),(16:Tmp),(1000001:Tmp),(4000003:Tmp)] C (Qblk 0 (Qthen (WY Tryd.prog cfO 2996 (Env.mk (Bs.mk 0 []) 0 none 60 16 0) (cdAt [1,1,1,1] (bodyOf Tryd.f16)) (QendX Tryd.prog Tryd.f16 fun v h=>R (frzW h v))) (QendX Tryd.prog Tryd.f16 fun v h=>R (frzW h v))))))))) (St.mk (mkT [(0,V.lst 2 (bdl l)),(3,V.mp (Id.p 0)),(4,V.sl (Id.p 1) 0 q),(5,iv (↑i:Int)),(6,V.ptr (Id.p 2) 0 0),(14,V.lst 2 (bdl l)),(15,iv (↑m:Int)),(16,iv (↑i:Int)),(23,V.lst s es),(24,iv (↑es.length:Int)),(25,iv (0:Int))]) (Hp.mk [(0,O.mp (trM [] 0 ms.length es_1)),(1,O.rows 2 true (prl ps)),(2,O.rows 40 true [[bv false,bv false,bv false,bv false,bv false,bv false,bv false,bv false,bv false,bv false,bv false,bv false,bv false,bv false,bv false,bv false,bv false,bv false,bv false,bv false,bv false,bv false,bv false,bv false,bv false,bv false,bv false,bv false,bv false,bv false,bv false,bv false,bv false,bv false,bv false,bv false,bv false,bv false,bv false,bv false]])] 3 [(0,Fam.mk 1 (ms++[]))])))) (R (V.lst 2 (sub (prl ps) 0 q)))) (by kernel_rfl) ?_
  refine ifB_mk (fun d=>?_) (fun d=>?_)
  rotate_left
  ·have hi:i=m:=by have:=of_decide_eq_false d; omega
   have hov:ovl l l.length=ps:=by rw [← hml,← hi,gp]
   have hs:sub (prl ps) 0 q=prl ps:=by rw [gq,show ps.length=(prl ps).length from by simp [prl],sub,List.drop_zero,List.take_length]
   show R (V.lst 2 (sub (prl ps) 0 q))
   rw [hs]
   unfold ovlV at hR
   rw [hov] at hR
   cases ps with
   | nil=>exact (gb2 rfl rfl).elim
   | cons p ps=>exact hR
  have hi:i<m:=by have:=of_decide_eq_true d; omega
  obtain ⟨b', hb⟩:=getI (l:=l) (k:=i) (by omega)
  have hbm:=mem_at hb
  have hrow:(bdl l)[i]? = some (bdr b'):=by simp [bdl,hb]
  refine onSome_mk hrow (onSome_mk (x:=V.lst 3 (cll b'.1)) rfl (onLst_lst (guardB_mk hgood ?_)))
  obtain ⟨x,hx⟩ : ∃ x,x=b'.1:=⟨_,rfl⟩
  rw [← hx]
  obtain ⟨n,hnn⟩ : ∃ n,n=(cll x).length:=⟨_,rfl⟩
  rw [← hnn]
  have hnx:n=x.length:=by rw [hnn,cll_length]
  have hx1000:x.length≤1000:=by rw [hx]; exact hl30 b' hbm
  have hxc:cellsAt l i=x:=by unfold cellsAt; rw [hb,hx]; rfl
  refine La.of (σ:=Nat×List V×List (V×V)×List (Option (List (List V)))) (fun s=>oSb l x s.2.1 ps s.2.2.1 s.2.2.2 q m i n s.1) (fun s=>s.1≤n∧s.2.1=cmV (Mk l x s.1)∧s.2.2.1=es_1∧s.2.2.2=ms) (fun s=>n - s.1) (0,List.replicate 40 (bv false),_,_) (by kernel_rfl) ⟨by omega,cm_zero l x,htr,hms⟩ ?_
  rintro ⟨k,cm,es_1,ms⟩ ⟨f1,hcm,ge,gm⟩ D hD
  simp only at f1 hcm ge gm
  subst ge gm
  refine see (p:=ifB (decide ((↑k:Int)<(↑n:Int))) (onSome (cll x)[k]? fun row=>onCons (List.drop 0 row) fun u r=>onIntK IntKind.i64 u fun n_1=>onCons r fun u r=>onIntK IntKind.i64 u fun n_2=>onCons r fun u r=>onIntK IntKind.i64 u fun n_3=>onFind (findK Tryd.prog 27 (V.agg [iv n_1,iv n_2,iv n_3]) es_1 0) (fun i_1 kv vv=>onMem 0 (bif false then V.tup [vv,bv true] else vv) (guardB (es_1.all (goodE [] 0 true)) (La 0 [(0:Tmp),(3:Tmp),(4:Tmp),(5:Tmp),(6:Tmp),(14:Tmp),(15:Tmp),(16:Tmp),(23:Tmp),(24:Tmp),(25:Tmp),(31:Tmp),(32:Tmp),(33:Tmp),(1000001:Tmp),(4000003:Tmp)] (WY Tryd.prog cfO 2975 (Env.mk (Bs.mk 0 []) 0 none 60 16 4) (cdAt [1,1,1,0,1,0,0,1,1,0,0,1,1,0,1,0,0,1,1,0,0,1,1,0,0] (bodyOf Tryd.f16))) (Qblk 4 (Qblk 3 (Qthen (WY Tryd.prog cfO 2980 (Env.mk (Bs.mk 0 []) 0 none 60 16 2) (cdAt [1,1,1,0,1,0,0,1,1,0,0,1,1,0,1,0,0,1,1,1] (bodyOf Tryd.f16)) (Qla 0 [(0:Tmp),(3:Tmp),(4:Tmp),(5:Tmp),(6:Tmp),(14:Tmp),(15:Tmp),(16:Tmp),(23:Tmp),(24:Tmp),(25:Tmp),(1000001:Tmp),(4000003:Tmp)] D (Qblk 2 (Qthen (WY Tryd.prog cfO 2986 (Env.mk (Bs.mk 0 []) 0 none 60 16 1) (cdAt [1,1,1,0,1,0,0,1,1,0,0,1,1,1] (bodyOf Tryd.f16)) (Qblk 1 (Qthen (WY Tryd.prog cfO 2990 (Env.mk (Bs.mk 0 []) 0 none 60 16 0) (cdAt [1,1,1,0,1,0,0,1,1,1] (bodyOf Tryd.f16)) (Qla 0 [(0:Tmp),(3:Tmp),(4:Tmp),(14:Tmp),(15:Tmp),(16:Tmp),(1000001:Tmp),(4000003:Tmp)] C (Qblk 0 (Qthen (WY Tryd.prog cfO 2996 (Env.mk (Bs.mk 0 []) 0 none 60 16 0) (cdAt [1,1,1,1] (bodyOf Tryd.f16)) (QendX Tryd.prog Tryd.f16 fun v h=>R (frzW h v))) (QendX Tryd.prog Tryd.f16 fun v h=>R (frzW h v)))))) (Qla 0 [(0:Tmp),(3:Tmp),(4:Tmp),(14:Tmp),(15:Tmp),(16:Tmp),(1000001:Tmp),(4000003:Tmp)] C (Qblk 0 (Qthen (WY Tryd.prog cfO 2996 (Env.mk (Bs.mk 0 []) 0 none 60 16 0) (cdAt [1,1,1,1] (bodyOf Tryd.f16)) (QendX Tryd.prog Tryd.f16 fun v h=>R (frzW h v))) (QendX Tryd.prog Tryd.f16 fun v h=>R (frzW h v)))))))) (Qblk 1 (Qthen (WY Tryd.prog cfO 2990 (Env.mk (Bs.mk 0 []) 0 none 60 16 0) (cdAt [1,1,1,0,1,0,0,1,1,1] (bodyOf Tryd.f16)) (Qla 0 [(0:Tmp),(3:Tmp),(4:Tmp),(14:Tmp),(15:Tmp),(16:Tmp),(1000001:Tmp),(4000003:Tmp)] C (Qblk 0 (Qthen (WY Tryd.prog cfO 2996 (Env.mk (Bs.mk 0 []) 0 none 60 16 0) (cdAt [1,1,1,1] (bodyOf Tryd.f16)) (QendX Tryd.prog Tryd.f16 fun v h=>R (frzW h v))) (QendX Tryd.prog Tryd.f16 fun v h=>R (frzW h v)))))) (Qla 0 [(0:Tmp),(3:Tmp),(4:Tmp),(14:Tmp),(15:Tmp),(16:Tmp),(1000001:Tmp),(4000003:Tmp)] C (Qblk 0 (Qthen (WY Tryd.prog cfO 2996 (Env.mk (Bs.mk 0 []) 0 none 60 16 0) (cdAt [1,1,1,1] (bodyOf Tryd.f16)) (QendX Tryd.prog Tryd.f16 fun v h=>R (frzW h v))) (QendX Tryd.prog Tryd.f16 fun v h=>R (frzW h v))))))))))) (Qla 0 [(0:Tmp),(3:Tmp),(4:Tmp),(5:Tmp),(6:Tmp),(14:Tmp),(15:Tmp),(16:Tmp),(23:Tmp),(24:Tmp),(25:Tmp),(1000001:Tmp),(4000003:Tmp)] D (Qblk 2 (Qthen (WY Tryd.prog cfO 2986 (Env.mk (Bs.mk 0 []) 0 none 60 16 1) (cdAt [1,1,1,0,1,0,0,1,1,0,0,1,1,1] (bodyOf Tryd.f16)) (Qblk 1 (Qthen (WY Tryd.prog cfO 2990 (Env.mk (Bs.mk 0 []) 0 none 60 16 0) (cdAt [1,1,1,0,1,0,0,1,1,1] (bodyOf Tryd.f16)) (Qla 0 [(0:Tmp),(3:Tmp),(4:Tmp),(14:Tmp),(15:Tmp),(16:Tmp),(1000001:Tmp),(4000003:Tmp)] C (Qblk 0 (Qthen (WY Tryd.prog cfO 2996 (Env.mk (Bs.mk 0 []) 0 none 60 16 0) (cdAt [1,1,1,1] (bodyOf Tryd.f16)) (QendX Tryd.prog Tryd.f16 fun v h=>R (frzW h v))) (QendX Tryd.prog Tryd.f16 fun v h=>R (frzW h v)))))) (Qla 0 [(0:Tmp),(3:Tmp),(4:Tmp),(14:Tmp),(15:Tmp),(16:Tmp),(1000001:Tmp),(4000003:Tmp)] C (Qblk 0 (Qthen (WY Tryd.prog cfO 2996 (Env.mk (Bs.mk 0 []) 0 none 60 16 0) (cdAt [1,1,1,1] (bodyOf Tryd.f16)) (QendX Tryd.prog Tryd.f16 fun v h=>R (frzW h v))) (QendX Tryd.prog Tryd.f16 fun v h=>R (frzW h v)))))))) (Qblk 1 (Qthen (WY Tryd.prog cfO 2990 (Env.mk (Bs.mk 0 []) 0 none 60 16 0) (cdAt [1,1,1,0,1,0,0,1,1,1] (bodyOf Tryd.f16)) (Qla 0 [(0:Tmp),(3:Tmp),(4:Tmp),(14:Tmp),(15:Tmp),(16:Tmp),(1000001:Tmp),(4000003:Tmp)] C (Qblk 0 (Qthen (WY Tryd.prog cfO 2996 (Env.mk (Bs.mk 0 []) 0 none 60 16 0) (cdAt [1,1,1,1] (bodyOf Tryd.f16)) (QendX Tryd.prog Tryd.f16 fun v h=>R (frzW h v))) (QendX Tryd.prog Tryd.f16 fun v h=>R (frzW h v)))))) (Qla 0 [(0:Tmp),(3:Tmp),(4:Tmp),(14:Tmp),(15:Tmp),(16:Tmp),(1000001:Tmp),(4000003:Tmp)] C (Qblk 0 (Qthen (WY Tryd.prog cfO 2996 (Env.mk (Bs.mk 0 []) 0 none 60 16 0) (cdAt [1,1,1,1] (bodyOf Tryd.f16)) (QendX Tryd.prog Tryd.f16 fun v h=>R (frzW h v))) (QendX Tryd.prog Tryd.f16 fun v h=>R (frzW h v))))))))))))) (St.mk (mkT [(0,V.lst 2 (bdl l)),(3,V.mp (Id.p 0)),(4,V.sl (Id.p 1) 0 q),(5,iv (↑i:Int)),(6,V.ptr (Id.p 2) 0 0),(14,V.lst 2 (bdl l)),(15,iv (↑m:Int)),(16,iv (↑i:Int)),(23,V.lst 3 (cll x)),(24,iv (↑n:Int)),(25,iv (↑k:Int)),(31,nilS),(32,iv (0:Int)),(33,iv (0:Int))]) (Hp.mk [(0,O.mp (trM [] 0 ms.length es_1)),(1,O.rows 2 true (prl ps)),(2,O.rows 40 true [cm])] 3 [(0,Fam.mk 1 (ms++[]))])))) fun j n_4=>guardB ((Hp.mk [(3,O.rows 3 false [[iv n_1,iv n_2,iv n_3]]),(0,O.mp es_1),(1,O.rows 2 true (prl ps)),(2,O.rows 40 true [cm])] 4 [(0,Fam.mk 1 ms)]).has (Id.m 0 j)) (guardB (es_1.all (goodE [] 0 true)) (La 0 [(0:Tmp),(3:Tmp),(4:Tmp),(5:Tmp),(6:Tmp),(14:Tmp),(15:Tmp),(16:Tmp),(23:Tmp),(24:Tmp),(25:Tmp),(31:Tmp),(32:Tmp),(33:Tmp),(1000001:Tmp),(4000003:Tmp)] (WY Tryd.prog cfO 2975 (Env.mk (Bs.mk 0 []) 0 none 60 16 4) (cdAt [1,1,1,0,1,0,0,1,1,0,0,1,1,0,1,0,0,1,1,0,0,1,1,0,0] (bodyOf Tryd.f16))) (Qblk 4 (Qblk 3 (Qthen (WY Tryd.prog cfO 2980 (Env.mk (Bs.mk 0 []) 0 none 60 16 2) (cdAt [1,1,1,0,1,0,0,1,1,0,0,1,1,0,1,0,0,1,1,1] (bodyOf Tryd.f16)) (Qla 0 [(0:Tmp),(3:Tmp),(4:Tmp),(5:Tmp),(6:Tmp),(14:Tmp),(15:Tmp),(16:Tmp),(23:Tmp),(24:Tmp),(25:Tmp),(1000001:Tmp),(4000003:Tmp)] D (Qblk 2 (Qthen (WY Tryd.prog cfO 2986 (Env.mk (Bs.mk 0 []) 0 none 60 16 1) (cdAt [1,1,1,0,1,0,0,1,1,0,0,1,1,1] (bodyOf Tryd.f16)) (Qblk 1 (Qthen (WY Tryd.prog cfO 2990 (Env.mk (Bs.mk 0 []) 0 none 60 16 0) (cdAt [1,1,1,0,1,0,0,1,1,1] (bodyOf Tryd.f16)) (Qla 0 [(0:Tmp),(3:Tmp),(4:Tmp),(14:Tmp),(15:Tmp),(16:Tmp),(1000001:Tmp),(4000003:Tmp)] C (Qblk 0 (Qthen (WY Tryd.prog cfO 2996 (Env.mk (Bs.mk 0 []) 0 none 60 16 0) (cdAt [1,1,1,1] (bodyOf Tryd.f16)) (QendX Tryd.prog Tryd.f16 fun v h=>R (frzW h v))) (QendX Tryd.prog Tryd.f16 fun v h=>R (frzW h v)))))) (Qla 0 [(0:Tmp),(3:Tmp),(4:Tmp),(14:Tmp),(15:Tmp),(16:Tmp),(1000001:Tmp),(4000003:Tmp)] C (Qblk 0 (Qthen (WY Tryd.prog cfO 2996 (Env.mk (Bs.mk 0 []) 0 none 60 16 0) (cdAt [1,1,1,1] (bodyOf Tryd.f16)) (QendX Tryd.prog Tryd.f16 fun v h=>R (frzW h v))) (QendX Tryd.prog Tryd.f16 fun v h=>R (frzW h v)))))))) (Qblk 1 (Qthen (WY Tryd.prog cfO 2990 (Env.mk (Bs.mk 0 []) 0 none 60 16 0) (cdAt [1,1,1,0,1,0,0,1,1,1] (bodyOf Tryd.f16)) (Qla 0 [(0:Tmp),(3:Tmp),(4:Tmp),(14:Tmp),(15:Tmp),(16:Tmp),(1000001:Tmp),(4000003:Tmp)] C (Qblk 0 (Qthen (WY Tryd.prog cfO 2996 (Env.mk (Bs.mk 0 []) 0 none 60 16 0) (cdAt [1,1,1,1] (bodyOf Tryd.f16)) (QendX Tryd.prog Tryd.f16 fun v h=>R (frzW h v))) (QendX Tryd.prog Tryd.f16 fun v h=>R (frzW h v)))))) (Qla 0 [(0:Tmp),(3:Tmp),(4:Tmp),(14:Tmp),(15:Tmp),(16:Tmp),(1000001:Tmp),(4000003:Tmp)] C (Qblk 0 (Qthen (WY Tryd.prog cfO 2996 (Env.mk (Bs.mk 0 []) 0 none 60 16 0) (cdAt [1,1,1,1] (bodyOf Tryd.f16)) (QendX Tryd.prog Tryd.f16 fun v h=>R (frzW h v))) (QendX Tryd.prog Tryd.f16 fun v h=>R (frzW h v))))))))))) (Qla 0 [(0:Tmp),(3:Tmp),(4:Tmp),(5:Tmp),(6:Tmp),(14:Tmp),(15:Tmp),(16:Tmp),(23:Tmp),(24:Tmp),(25:Tmp),(1000001:Tmp),(4000003:Tmp)] D (Qblk 2 (Qthen (WY Tryd.prog cfO 2986 (Env.mk (Bs.mk 0 []) 0 none 60 16 1) (cdAt [1,1,1,0,1,0,0,1,1,0,0,1,1,1] (bodyOf Tryd.f16)) (Qblk 1 (Qthen (WY Tryd.prog cfO 2990 (Env.mk (Bs.mk 0 []) 0 none 60 16 0) (cdAt [1,1,1,0,1,0,0,1,1,1] (bodyOf Tryd.f16)) (Qla 0 [(0:Tmp),(3:Tmp),(4:Tmp),(14:Tmp),(15:Tmp),(16:Tmp),(1000001:Tmp),(4000003:Tmp)] C (Qblk 0 (Qthen (WY Tryd.prog cfO 2996 (Env.mk (Bs.mk 0 []) 0 none 60 16 0) (cdAt [1,1,1,1] (bodyOf Tryd.f16)) (QendX Tryd.prog Tryd.f16 fun v h=>R (frzW h v))) (QendX Tryd.prog Tryd.f16 fun v h=>R (frzW h v)))))) (Qla 0 [(0:Tmp),(3:Tmp),(4:Tmp),(14:Tmp),(15:Tmp),(16:Tmp),(1000001:Tmp),(4000003:Tmp)] C (Qblk 0 (Qthen (WY Tryd.prog cfO 2996 (Env.mk (Bs.mk 0 []) 0 none 60 16 0) (cdAt [1,1,1,1] (bodyOf Tryd.f16)) (QendX Tryd.prog Tryd.f16 fun v h=>R (frzW h v))) (QendX Tryd.prog Tryd.f16 fun v h=>R (frzW h v)))))))) (Qblk 1 (Qthen (WY Tryd.prog cfO 2990 (Env.mk (Bs.mk 0 []) 0 none 60 16 0) (cdAt [1,1,1,0,1,0,0,1,1,1] (bodyOf Tryd.f16)) (Qla 0 [(0:Tmp),(3:Tmp),(4:Tmp),(14:Tmp),(15:Tmp),(16:Tmp),(1000001:Tmp),(4000003:Tmp)] C (Qblk 0 (Qthen (WY Tryd.prog cfO 2996 (Env.mk (Bs.mk 0 []) 0 none 60 16 0) (cdAt [1,1,1,1] (bodyOf Tryd.f16)) (QendX Tryd.prog Tryd.f16 fun v h=>R (frzW h v))) (QendX Tryd.prog Tryd.f16 fun v h=>R (frzW h v)))))) (Qla 0 [(0:Tmp),(3:Tmp),(4:Tmp),(14:Tmp),(15:Tmp),(16:Tmp),(1000001:Tmp),(4000003:Tmp)] C (Qblk 0 (Qthen (WY Tryd.prog cfO 2996 (Env.mk (Bs.mk 0 []) 0 none 60 16 0) (cdAt [1,1,1,1] (bodyOf Tryd.f16)) (QendX Tryd.prog Tryd.f16 fun v h=>R (frzW h v))) (QendX Tryd.prog Tryd.f16 fun v h=>R (frzW h v))))))))))))) (St.mk (mkT [(0,V.lst 2 (bdl l)),(3,V.mp (Id.p 0)),(4,V.sl (Id.p 1) 0 q),(5,iv (↑i:Int)),(6,V.ptr (Id.p 2) 0 0),(14,V.lst 2 (bdl l)),(15,iv (↑m:Int)),(16,iv (↑i:Int)),(23,V.lst 3 (cll x)),(24,iv (↑n:Int)),(25,iv (↑k:Int)),(31,V.sl (Id.m 0 j) 0 n_4),(32,iv (↑n_4:Int)),(33,iv (0:Int))]) (Hp.mk [(0,O.mp (trM [] 0 ms.length es_1)),(1,O.rows 2 true (prl ps)),(2,O.rows 40 true [cm])] 3 [(0,Fam.mk 1 (ms++[]))]))))) (guardB (es_1.all (goodE [] 0 true)) (La 0 [(0:Tmp),(3:Tmp),(4:Tmp),(5:Tmp),(6:Tmp),(14:Tmp),(15:Tmp),(16:Tmp),(23:Tmp),(24:Tmp),(25:Tmp),(31:Tmp),(32:Tmp),(33:Tmp),(1000001:Tmp),(4000003:Tmp)] (WY Tryd.prog cfO 2975 (Env.mk (Bs.mk 0 []) 0 none 60 16 4) (cdAt [1,1,1,0,1,0,0,1,1,0,0,1,1,0,1,0,0,1,1,0,0,1,1,0,0] (bodyOf Tryd.f16))) (Qblk 4 (Qblk 3 (Qthen (WY Tryd.prog cfO 2980 (Env.mk (Bs.mk 0 []) 0 none 60 16 2) (cdAt [1,1,1,0,1,0,0,1,1,0,0,1,1,0,1,0,0,1,1,1] (bodyOf Tryd.f16)) (Qla 0 [(0:Tmp),(3:Tmp),(4:Tmp),(5:Tmp),(6:Tmp),(14:Tmp),(15:Tmp),(16:Tmp),(23:Tmp),(24:Tmp),(25:Tmp),(1000001:Tmp),(4000003:Tmp)] D (Qblk 2 (Qthen (WY Tryd.prog cfO 2986 (Env.mk (Bs.mk 0 []) 0 none 60 16 1) (cdAt [1,1,1,0,1,0,0,1,1,0,0,1,1,1] (bodyOf Tryd.f16)) (Qblk 1 (Qthen (WY Tryd.prog cfO 2990 (Env.mk (Bs.mk 0 []) 0 none 60 16 0) (cdAt [1,1,1,0,1,0,0,1,1,1] (bodyOf Tryd.f16)) (Qla 0 [(0:Tmp),(3:Tmp),(4:Tmp),(14:Tmp),(15:Tmp),(16:Tmp),(1000001:Tmp),(4000003:Tmp)] C (Qblk 0 (Qthen (WY Tryd.prog cfO 2996 (Env.mk (Bs.mk 0 []) 0 none 60 16 0) (cdAt [1,1,1,1] (bodyOf Tryd.f16)) (QendX Tryd.prog Tryd.f16 fun v h=>R (frzW h v))) (QendX Tryd.prog Tryd.f16 fun v h=>R (frzW h v)))))) (Qla 0 [(0:Tmp),(3:Tmp),(4:Tmp),(14:Tmp),(15:Tmp),(16:Tmp),(1000001:Tmp),(4000003:Tmp)] C (Qblk 0 (Qthen (WY Tryd.prog cfO 2996 (Env.mk (Bs.mk 0 []) 0 none 60 16 0) (cdAt [1,1,1,1] (bodyOf Tryd.f16)) (QendX Tryd.prog Tryd.f16 fun v h=>R (frzW h v))) (QendX Tryd.prog Tryd.f16 fun v h=>R (frzW h v)))))))) (Qblk 1 (Qthen (WY Tryd.prog cfO 2990 (Env.mk (Bs.mk 0 []) 0 none 60 16 0) (cdAt [1,1,1,0,1,0,0,1,1,1] (bodyOf Tryd.f16)) (Qla 0 [(0:Tmp),(3:Tmp),(4:Tmp),(14:Tmp),(15:Tmp),(16:Tmp),(1000001:Tmp),(4000003:Tmp)] C (Qblk 0 (Qthen (WY Tryd.prog cfO 2996 (Env.mk (Bs.mk 0 []) 0 none 60 16 0) (cdAt [1,1,1,1] (bodyOf Tryd.f16)) (QendX Tryd.prog Tryd.f16 fun v h=>R (frzW h v))) (QendX Tryd.prog Tryd.f16 fun v h=>R (frzW h v)))))) (Qla 0 [(0:Tmp),(3:Tmp),(4:Tmp),(14:Tmp),(15:Tmp),(16:Tmp),(1000001:Tmp),(4000003:Tmp)] C (Qblk 0 (Qthen (WY Tryd.prog cfO 2996 (Env.mk (Bs.mk 0 []) 0 none 60 16 0) (cdAt [1,1,1,1] (bodyOf Tryd.f16)) (QendX Tryd.prog Tryd.f16 fun v h=>R (frzW h v))) (QendX Tryd.prog Tryd.f16 fun v h=>R (frzW h v))))))))))) (Qla 0 [(0:Tmp),(3:Tmp),(4:Tmp),(5:Tmp),(6:Tmp),(14:Tmp),(15:Tmp),(16:Tmp),(23:Tmp),(24:Tmp),(25:Tmp),(1000001:Tmp),(4000003:Tmp)] D (Qblk 2 (Qthen (WY Tryd.prog cfO 2986 (Env.mk (Bs.mk 0 []) 0 none 60 16 1) (cdAt [1,1,1,0,1,0,0,1,1,0,0,1,1,1] (bodyOf Tryd.f16)) (Qblk 1 (Qthen (WY Tryd.prog cfO 2990 (Env.mk (Bs.mk 0 []) 0 none 60 16 0) (cdAt [1,1,1,0,1,0,0,1,1,1] (bodyOf Tryd.f16)) (Qla 0 [(0:Tmp),(3:Tmp),(4:Tmp),(14:Tmp),(15:Tmp),(16:Tmp),(1000001:Tmp),(4000003:Tmp)] C (Qblk 0 (Qthen (WY Tryd.prog cfO 2996 (Env.mk (Bs.mk 0 []) 0 none 60 16 0) (cdAt [1,1,1,1] (bodyOf Tryd.f16)) (QendX Tryd.prog Tryd.f16 fun v h=>R (frzW h v))) (QendX Tryd.prog Tryd.f16 fun v h=>R (frzW h v)))))) (Qla 0 [(0:Tmp),(3:Tmp),(4:Tmp),(14:Tmp),(15:Tmp),(16:Tmp),(1000001:Tmp),(4000003:Tmp)] C (Qblk 0 (Qthen (WY Tryd.prog cfO 2996 (Env.mk (Bs.mk 0 []) 0 none 60 16 0) (cdAt [1,1,1,1] (bodyOf Tryd.f16)) (QendX Tryd.prog Tryd.f16 fun v h=>R (frzW h v))) (QendX Tryd.prog Tryd.f16 fun v h=>R (frzW h v)))))))) (Qblk 1 (Qthen (WY Tryd.prog cfO 2990 (Env.mk (Bs.mk 0 []) 0 none 60 16 0) (cdAt [1,1,1,0,1,0,0,1,1,1] (bodyOf Tryd.f16)) (Qla 0 [(0:Tmp),(3:Tmp),(4:Tmp),(14:Tmp),(15:Tmp),(16:Tmp),(1000001:Tmp),(4000003:Tmp)] C (Qblk 0 (Qthen (WY Tryd.prog cfO 2996 (Env.mk (Bs.mk 0 []) 0 none 60 16 0) (cdAt [1,1,1,1] (bodyOf Tryd.f16)) (QendX Tryd.prog Tryd.f16 fun v h=>R (frzW h v))) (QendX Tryd.prog Tryd.f16 fun v h=>R (frzW h v)))))) (Qla 0 [(0:Tmp),(3:Tmp),(4:Tmp),(14:Tmp),(15:Tmp),(16:Tmp),(1000001:Tmp),(4000003:Tmp)] C (Qblk 0 (Qthen (WY Tryd.prog cfO 2996 (Env.mk (Bs.mk 0 []) 0 none 60 16 0) (cdAt [1,1,1,1] (bodyOf Tryd.f16)) (QendX Tryd.prog Tryd.f16 fun v h=>R (frzW h v))) (QendX Tryd.prog Tryd.f16 fun v h=>R (frzW h v))))))))))))) (St.mk (mkT [(0,V.lst 2 (bdl l)),(3,V.mp (Id.p 0)),(4,V.sl (Id.p 1) 0 q),(5,iv (↑i:Int)),(6,V.ptr (Id.p 2) 0 0),(14,V.lst 2 (bdl l)),(15,iv (↑m:Int)),(16,iv (↑i:Int)),(23,V.lst 3 (cll x)),(24,iv (↑n:Int)),(25,iv (↑k:Int)),(31,nilS),(32,iv (0:Int)),(33,iv (0:Int))]) (Hp.mk [(0,O.mp (trM [] 0 ms.length es_1)),(1,O.rows 2 true (prl ps)),(2,O.rows 40 true [cm])] 3 [(0,Fam.mk 1 (ms++[]))]))))) (guardB (es_1.all (goodE [] 0 true)) (La 0 [(0:Tmp),(3:Tmp),(4:Tmp),(5:Tmp),(6:Tmp),(11:Tmp),(14:Tmp),(15:Tmp),(16:Tmp),(1000001:Tmp),(4000003:Tmp)] (WY Tryd.prog cfO 2983 (Env.mk (Bs.mk 0 []) 0 none 60 16 6) (cdAt [1,1,1,0,1,0,0,1,1,0,0,1,1,1,1,0,0] (bodyOf Tryd.f16))) (Qblk 6 (Qblk 1 (Qthen (WY Tryd.prog cfO 2990 (Env.mk (Bs.mk 0 []) 0 none 60 16 0) (cdAt [1,1,1,0,1,0,0,1,1,1] (bodyOf Tryd.f16)) (Qla 0 [(0:Tmp),(3:Tmp),(4:Tmp),(14:Tmp),(15:Tmp),(16:Tmp),(1000001:Tmp),(4000003:Tmp)] C (Qblk 0 (Qthen (WY Tryd.prog cfO 2996 (Env.mk (Bs.mk 0 []) 0 none 60 16 0) (cdAt [1,1,1,1] (bodyOf Tryd.f16)) (QendX Tryd.prog Tryd.f16 fun v h=>R (frzW h v))) (QendX Tryd.prog Tryd.f16 fun v h=>R (frzW h v)))))) (Qla 0 [(0:Tmp),(3:Tmp),(4:Tmp),(14:Tmp),(15:Tmp),(16:Tmp),(1000001:Tmp),(4000003:Tmp)] C (Qblk 0 (Qthen (WY Tryd.prog cfO 2996 (Env.mk (Bs.mk 0 []) 0 none 60 16 0) (cdAt [1,1,1,1] (bodyOf Tryd.f16)) (QendX Tryd.prog Tryd.f16 fun v h=>R (frzW h v))) (QendX Tryd.prog Tryd.f16 fun v h=>R (frzW h v)))))))) (St.mk (mkT [(0,V.lst 2 (bdl l)),(3,V.mp (Id.p 0)),(4,V.sl (Id.p 1) 0 q),(5,iv (↑i:Int)),(6,V.ptr (Id.p 2) 0 0),(11,iv (IntKind.i64.wrap ((↑i:Int)+(1:Int)))),(14,V.lst 2 (bdl l)),(15,iv (↑m:Int)),(16,iv (↑i:Int))]) (Hp.mk [(0,O.mp (trM [] 0 ms.length es_1)),(1,O.rows 2 true (prl ps)),(2,O.rows 40 true [cm])] 3 [(0,Fam.mk 1 (ms++[]))]))))) (by kernel_rfl) ?_
  refine ifB_mk (fun e=>?_) (fun e=>?_)
  ·have hk:k<n:=by have:=of_decide_eq_true e; omega
   obtain ⟨c,hc⟩:=getI (l:=x) (k:=k) (by omega)
   have hcr:(cll x)[k]? = some (clr c):=by simp [cll,hc]
   have hcx:c∈cellsAt l i:=by rw [hxc]; exact mem_at hc
   obtain ⟨jj,t,h1,h2,h3⟩:=findC_mem 0 (own_find ho (b:=i) (by omega) hcx)
   have htm:=List.mem_of_getElem? h1
   have hbr:=own_brs ho htm
   rw [h2] at hbr
   have hmb:memb ms t.2.2=some (t.2.1.map rowI):=by unfold memb; rw [hr.mem t htm]; rfl
   rw [← hr.es] at h3
   refine onSome_mk hcr (onCons_cons (onIntK_iv (onCons_cons (onIntK_iv (onCons_cons (onIntK_iv ?_))))))
   refine onFind_iff.2 (.inl ⟨0+jj,_,_,h3,?_⟩)
   refine onMem0 (guardB_mk (by show (memb ms t.2.2).isSome=true; rw [hmb]; rfl) (guardB_mk hgood ?_))
   obtain ⟨j,hj⟩ : ∃ j,j=t.2.2:=⟨_,rfl⟩
   obtain ⟨w,hw⟩ : ∃ w,w=t.2.1.length:=⟨_,rfl⟩
   rw [← hj,← hw]
   rw [← hj] at hmb
   have hw1000:w≤1000:=by
    rw [hw,hbr]
    have:=List.length_filter_le (fun b=>dc (c∈cellsAt l b)) (List.range l.length)
    unfold brs
    simp only [List.length_range] at this
    omega
   refine La.of (σ:=Nat×List V×List (V×V)×List (Option (List (List V)))) (fun s=>oSc l x s.2.1 ps s.2.2.1 s.2.2.2 q m i n k j w s.1) (fun s=>s.1≤w∧s.2.1=cmV (fun o=>Mk l x k o∨o∈t.2.1.take s.1)∧s.2.2.1=es_1∧s.2.2.2=ms) (fun s=>w - s.1) (0,cm,_,_) (by kernel_rfl) ⟨by omega,by rw [hcm]; exact cmV_ext (fun o=>by simp),htr,hms⟩ ?_
   rintro ⟨z,cm,es_1,ms⟩ ⟨z1,hcm2,ge,gm⟩ E hE
   simp only at z1 hcm2 ge gm
   subst ge gm
   refine see (p:=ifB (decide ((↑z:Int)<(↑w:Int))) (onSome (memb ms j) fun es=>need (z<w) (onSome (memb ms j) fun es=>onSome es[0+z]? fun row=>onSome row[0]? fun v=>onIntK IntKind.i64 v fun n_5=>onNat n_5 fun m_1=>need (m_1<40) (guardB ((0+m_1 * 1+1).ble cm.length) (guardB (es_1.all (goodE [] 0 true)) (E (St.mk (mkT [(0,V.lst 2 (bdl l)),(3,V.mp (Id.p 0)),(4,V.sl (Id.p 1) 0 q),(5,iv (↑i:Int)),(6,V.ptr (Id.p 2) 0 0),(14,V.lst 2 (bdl l)),(15,iv (↑m:Int)),(16,iv (↑i:Int)),(23,V.lst 3 (cll x)),(24,iv (↑n:Int)),(25,iv (↑k:Int)),(31,V.sl (Id.m 0 j) 0 w),(32,iv (↑w:Int)),(33,iv (IntKind.i64.wrap ((↑z:Int)+(1:Int))))]) (Hp.mk [(0,O.mp (trM [] 0 ms.length es_1)),(1,O.rows 2 true (prl ps)),(2,O.rows 40 true [List.take (0+m_1 * 1) cm++[bv true]++List.drop (0+m_1 * 1+1) cm])] 3 [(0,Fam.mk 1 (ms++[]))]))))))) (guardB (es_1.all (goodE [] 0 true)) (D (St.mk (mkT [(0,V.lst 2 (bdl l)),(3,V.mp (Id.p 0)),(4,V.sl (Id.p 1) 0 q),(5,iv (↑i:Int)),(6,V.ptr (Id.p 2) 0 0),(14,V.lst 2 (bdl l)),(15,iv (↑m:Int)),(16,iv (↑i:Int)),(23,V.lst 3 (cll x)),(24,iv (↑n:Int)),(25,iv (IntKind.i64.wrap ((↑k:Int)+(1:Int))))]) (Hp.mk [(0,O.mp (trM [] 0 ms.length es_1)),(1,O.rows 2 true (prl ps)),(2,O.rows 40 true [cm])] 3 [(0,Fam.mk 1 (ms++[]))]))))) (by kernel_rfl) ?_
   refine ifB_mk (fun e' => ?_) (fun e' => ?_)
   ·have hz:z<w:=by have:=of_decide_eq_true e'; omega
    obtain ⟨o,hot⟩:=getI (l:=t.2.1) (k:=z) (by omega)
    have hom:o<40:=by
     have:=mem_at hot
     rw [hbr] at this
     unfold brs at this
     have:=List.mem_range.1 (List.mem_filter.1 this).1
     omega
    refine onSome_mk hmb (need_mk ⟨hz,onSome_mk hmb (onSome_mk (x:=rowI o) (by simp [hot]) (onSome_mk (x:=iv (o:Int)) rfl (onIntK_iv (onNat_mk (m:=o) rfl (need_mk ⟨hom,guardB_mk (by rw [hcm2,cmV_length]; exact Nat.ble_eq_true_of_le (by omega)) (guardB_mk hgood ?_)⟩)))))⟩)
    rw [wr1i hz (by omega)]
    refine hE (z+1,List.take (0+o * 1) cm++[bv true]++List.drop (0+o * 1+1) cm,_,_) ⟨hz,?_,htr,hms⟩ (by simp only; omega)
    simp only
    rw [hcm2,cmV_set hom]
    refine cmV_ext (fun o' => ?_)
    rw [take_succ' hot]
    simp [or_assoc]
   ·have hz:z=w:=by have:=of_decide_eq_false e'; omega
    refine guardB_mk hgood ?_
    rw [wr1i hk (by omega)]
    refine hD (k+1,cm,_,_) ⟨hk,?_,htr,hms⟩ (by simp only; omega)
    simp only
    rw [hcm2]
    refine cmV_ext (fun o=>?_)
    rw [hz,hw,List.take_length,hbr]
    exact mk_succ hc l.length (fun o h=>cellsAt_lt h) o
  ·have hk:k=n:=by have:=of_decide_eq_false e; omega
   have hcm:cm=cmV (Comm l i):=by
    rw [hcm]
    refine cmV_ext (fun o=>?_)
    unfold Mk Comm
    rw [hk,hnx,List.take_length,hxc]
   refine guardB_mk hgood ?_
   rw [wr1i hi (by omega)]
   refine La.of (σ:=Bool×Nat×Nat×List (Nat×Nat)×List (V×V)×List (Option (List (List V)))) (fun s=>match s.1 with | false=>oNd l cm s.2.2.2.2.1 s.2.2.2.2.2 m i s.2.1 | true=>oSd l cm s.2.2.2.1 s.2.2.2.2.1 s.2.2.2.2.2 s.2.2.1 m i s.2.1) (fun s=>(i<s.2.1∧s.2.1≤m)∧s.2.2.2.2.1=es_1∧s.2.2.2.2.2=ms∧s.2.2.1=s.2.2.2.1.length∧s.2.2.2.1=ovl l i++inn l i s.2.1∧(s.1=false→s.2.2.2.1=[])∧(s.1=true→s.2.2.2.1≠[])) (fun s=>m - s.2.1) (true,i+1,q,ps,_,_) (by kernel_rfl) ⟨⟨by simp only; omega,by simp only; omega⟩,htr,hms,gq,gp.trans (by simp [inn_start]),gb,gb2⟩ ?_
   rintro ⟨bb,o,q,ps,es_1,ms⟩ ⟨⟨o0,o1⟩,ge,gm,gq', gp', gb', gb2'⟩ F hF
   simp only at o0 o1 ge gm gq' gp' gb' gb2'
   subst ge gm
   have hq:q≤2000:=by
    rw [gq', gp', List.length_append]
    have h1:=ovl_len l i
    have h2:=inn_len l i o
    have h3:i * l.length≤40 * 40:=Nat.mul_le_mul (by omega) (by omega)
    omega
   have hend : ∀ h : ¬ o<m,ps=ovl l (i+1):=fun h=>by
    rw [gp', ovl_succ]
    congr 2
    omega
   cases bb with
   | false =>
    exfalso
    have h1:=gb' rfl
    rw [gp', ← gp] at h1
    exact gb2 rfl (List.append_eq_nil_iff.1 h1).1
   | true =>
    refine see (p:=ifB (decide ((↑o:Int)<(↑(bdl l).length:Int))) (need (o<40) (onSome cm[0+o * 1]? fun v=>onBool v fun b=>ifB b (need ((q+1) * 16≤140737488355328) (guardB (es_1.all (goodE [] 0 true)) (F (St.mk (mkT [(0,V.lst 2 (bdl l)),(3,V.mp (Id.p 0)),(4,V.sl (Id.p 1) 0 (q+1)),(5,iv (↑i:Int)),(6,V.ptr (Id.p 2) 0 0),(11,iv (IntKind.i64.wrap ((↑o:Int)+(1:Int)))),(14,V.lst 2 (bdl l)),(15,iv (↑m:Int)),(16,iv (↑i:Int))]) (Hp.mk [(0,O.mp (trM [] 0 ms.length es_1)),(1,O.rows 2 true (List.take q (prl ps)++[[iv (↑i:Int),iv (↑o:Int)]])),(2,O.rows 40 true [cm])] 3 [(0,Fam.mk 1 (ms++[]))]))))) (guardB (es_1.all (goodE [] 0 true)) (F (St.mk (mkT [(0,V.lst 2 (bdl l)),(3,V.mp (Id.p 0)),(4,V.sl (Id.p 1) 0 q),(5,iv (↑i:Int)),(6,V.ptr (Id.p 2) 0 0),(11,iv (IntKind.i64.wrap ((↑o:Int)+(1:Int)))),(14,V.lst 2 (bdl l)),(15,iv (↑m:Int)),(16,iv (↑i:Int))]) (Hp.mk [(0,O.mp (trM [] 0 ms.length es_1)),(1,O.rows 2 true (prl ps)),(2,O.rows 40 true [cm])] 3 [(0,Fam.mk 1 (ms++[]))])))))) (guardB (es_1.all (goodE [] 0 true)) (C (St.mk (mkT [(0,V.lst 2 (bdl l)),(3,V.mp (Id.p 0)),(4,V.sl (Id.p 1) 0 q),(14,V.lst 2 (bdl l)),(15,iv (↑m:Int)),(16,iv (IntKind.i64.wrap ((↑i:Int)+(1:Int))))]) (Hp.mk [(0,O.mp (trM [] 0 ms.length es_1)),(1,O.rows 2 true (prl ps))] 2 [(0,Fam.mk 1 (ms++[]))]))))) (by kernel_rfl) ?_
    refine ifB_mk (fun e' => ?_) (fun e' => ?_)
    ·have hom:o<m:=by have:=of_decide_eq_true e'; rw [← hm] at this; omega
     refine need_mk ⟨by omega,onSome_mk (x:=bv (dc (Comm l i o))) (by rw [hcm]; exact cmV_get (by omega)) (onBool_bv (ifB_mk (fun hc=>?_) (fun hc=>?_)))⟩
     ·refine need_mk ⟨by omega,guardB_mk hgood ?_⟩
      rw [wr1i hom (by omega)]
      have hp:List.take q (prl ps)++[[iv (i:Int),iv (o:Int)]]=prl (ps++[(i,o)]):=by rw [gq', show ps.length=(prl ps).length from by simp [prl],List.take_length]; simp [prl]
      rw [hp]
      refine hF (true,o+1,q+1,ps++[(i,o)],_,_) ⟨⟨by simp only; omega,by simp only; omega⟩,htr,hms,by simp [gq'],?_,(fun h=>by cases h),(fun _=>by simp)⟩ (by simp only; omega)
      simp only
      rw [inn_succ o0,if_pos hc,gp', List.append_assoc]
     ·refine guardB_mk hgood ?_
      rw [wr1i hom (by omega)]
      refine hF (true,o+1,q,ps,_,_) ⟨⟨by simp only; omega,by simp only; omega⟩,htr,hms,gq', ?_,gb', gb2'⟩ (by simp only; omega)
      simp only
      rw [inn_succ o0,hc,if_neg (by simp),gp']
    ·have hom : ¬ o<m:=by have:=of_decide_eq_false e'; rw [← hm] at this; omega
     refine guardB_mk hgood ?_
     rw [wr1i hi (by omega)]
     exact hC (true,i+1,q,ps,_,_) ⟨hi,htr,hms,gq', hend hom,gb', gb2'⟩ (by simp only; omega)
set_option maxRecDepth 100000
def kpVB:FuncId→Nat→Option (List Tmp):=slotsOf [(60,0,[0,1,7,8]),(15,0,[0,7,29,30,31])]
noncomputable def cfVB:Cfg:={ cfgG Tryd.prog glX moZ poP (rtP fN) (inN [43,60,44]) kpVB with clean:=fun g=>true }
noncomputable def sh142 (l:List Kd) (m:List Bk) (s i:Nat):St:=⟨mkT [(0,V.lst 6 (bkl m)),(1,V.fn (Fn.func 44) [] [V.ptr (Id.p 0) 0 0]),(7,iv (s:Int)),(8,iv (i:Int))],⟨[(0,O.rows 1 false [[V.lst 3 (kdl l)]])],1,[]⟩⟩
noncomputable def sh105 (l:List Kd) (m:List Bk) (rs:List (List V)) (s i:Nat):St:=⟨mkT [(0,V.lst 3 (kdl l)),(7,V.sl (Id.p 0) 0 s),(29,V.lst 6 (bkl m)),(30,iv (s:Int)),(31,iv (i:Int))],⟨[(0,O.rows 2 true rs)],1,[]⟩⟩
end Go.Proofs.YtbionhgjgcpogaaDoor
