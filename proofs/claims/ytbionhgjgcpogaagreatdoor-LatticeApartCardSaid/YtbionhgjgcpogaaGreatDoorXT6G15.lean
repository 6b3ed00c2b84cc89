/- A part of the proof. -/
import Derived.Test.YtbionhgjgcpogaaGreatDoorProg
import Derived.Test.YtbionhgjgcpogaaGreatDoorXT6G10
import Derived.Test.YtbionhgjgcpogaaGreatDoorXT6G11
import Derived.Test.YtbionhgjgcpogaaGreatDoorXT6G12
import Derived.Test.YtbionhgjgcpogaaGreatDoorXT6G14
namespace Go.Proofs.YtbionhgjgcpogaaGreatDoor
open Go Go.Proofs.YtbionhgjgcpogaaGreatDoor.Clean
set_option linter.unusedVariables false
set_option linter.unusedSimpArgs false
set_option maxRecDepth 10000
theorem hcQ7:cfQ7.ok Tryz.prog:=by
 have h:(cfgG Tryz.prog glX moQ7 poQ7 (rtP fN) (inN [107]) kpQ7).ok Tryz.prog:=cfgG_ok (rtP_ok fN)
 exact ⟨h.1,h.2⟩
theorem own65 {l:List Bdy} {R:V→Prop} (hl:l.length≤40) (hl30 : ∀ b∈l,b.1.length≤1000) (hn : ∀ b∈l,b.1.Nodup) (rest : ∀ (T:List Ow) (es:List (V×V)) (ms:List (Option (List (List V)))),Rep T es ms→OwnI l l.length [] 0 T→La 0 [(0:Tmp),(3:Tmp),(4:Tmp),(13:Tmp),(14:Tmp),(1000001:Tmp),(4000003:Tmp)] (WY Tryz.prog cfQ7 2993 (Env.mk (Bs.mk 0 []) 0 none 59 65 0) (cdAt [1,1,1,0,1,0,0] (bodyOf Tryz.f65))) (Qblk 0 (Qthen (WY Tryz.prog cfQ7 2996 (Env.mk (Bs.mk 0 []) 0 none 59 65 0) (cdAt [1,1,1,1] (bodyOf Tryz.f65)) (QendX Tryz.prog Tryz.f65 fun v h=>R (frzW h v))) (QendX Tryz.prog Tryz.f65 fun v h=>R (frzW h v)))) (St.mk (mkT [(0,V.lst 2 (bdl l)),(3,V.mp (Id.p 0)),(4,nilS),(13,iv (↑(bdl l).length:Int)),(14,iv (0:Int))]) (Hp.mk [(0,O.mp (trM [] 0 ms.length es))] 1 [(0,Fam.mk 1 (ms++[]))]))):K0G Tryz.prog glX 65 [.lst 2 (bdl l)] R:=by
 refine K0_by hmX hcQ7 3000 Tryz.func65 (p := La 0 [(3 : Tmp), (9 : Tmp), (10 : Tmp), (11 : Tmp), (1000001 : Tmp), (4000003 : Tmp)] (WY Tryz.prog cfQ7 2991 (Env.mk (Bs.mk 0 (spared [] [V.lst 2 (bdl l)] ++ [])) 0 none 34 107 0) (cdAt [1, 1, 0, 1, 0, 0] (bodyOf Tryz.f107))) (Qblk 0 (Qthen (WY Tryz.prog cfQ7 2994 (Env.mk (cfQ7.baseOf (Bs.mk 0 []) 107 [V.lst 2 (bdl l)] (Hp.mk [] 0 [])) 0 none 34 107 0) (cdAt [1, 1, 1] (bodyOf Tryz.f107)) (QendX Tryz.prog Tryz.f107 fun v h' => (fun v h => fzNew (callY Tryz.prog cfQ7 (WY Tryz.prog cfQ7 2997) (Env.mk (Bs.mk 0 []) 0 none Tryz.f65.ntmps (65 : FuncId) 0).base (Env.mk (Bs.mk 0 []) 0 none Tryz.f65.ntmps (65 : FuncId) 0).fid) 0 (Oper.mk (some 11) (Op.call (Call.mk (Callee.value (Operand.func 107)) #[Operand.tmp 10] #[129])) 169 "link.go:16" #[Edge.mk 0 Ground.data] none) v h fun v h => putT (Env.mk (Bs.mk 0 []) 0 none Tryz.f65.ntmps (65 : FuncId) 0).N (mkT [(0, V.lst 2 (bdl l)), (2, nilS), (10, V.lst 2 (bdl l))]) (Oper.mk (some 11) (Op.call (Call.mk (Callee.value (Operand.func 107)) #[Operand.tmp 10] #[129])) 169 "link.go:16" #[Edge.mk 0 Ground.data] none).dst v fun tm => (fun st => fzOld (callY Tryz.prog cfQ7 (WY Tryz.prog cfQ7 2997) (Env.mk (Bs.mk 0 []) 0 none Tryz.f65.ntmps (65 : FuncId) 0).base (Env.mk (Bs.mk 0 []) 0 none Tryz.f65.ntmps (65 : FuncId) 0).fid) (askY cfQ7 (Env.mk (Bs.mk 0 []) 0 none Tryz.f65.ntmps (65 : FuncId) 0).base) (Oper.mk (some 11) (Op.call (Call.mk (Callee.value (Operand.func 107)) #[Operand.tmp 10] #[129])) 169 "link.go:16" #[Edge.mk 0 Ground.data] none) st fun st => wOps Tryz.prog (callY Tryz.prog cfQ7 (WY Tryz.prog cfQ7 2997) (Env.mk (Bs.mk 0 []) 0 none Tryz.f65.ntmps (65 : FuncId) 0).base (Env.mk (Bs.mk 0 []) 0 none Tryz.f65.ntmps (65 : FuncId) 0).fid) (askY cfQ7 (Env.mk (Bs.mk 0 []) 0 none Tryz.f65.ntmps (65 : FuncId) 0).base) (Env.mk (Bs.mk 0 []) 0 none Tryz.f65.ntmps (65 : FuncId) 0).N #[Oper.mk (some 10) (Op.move (Operand.tmp 0)) 129 "link.go:16" #[] none, Oper.mk (some 11) (Op.call (Call.mk (Callee.value (Operand.func 107)) #[Operand.tmp 10] #[129])) 169 "link.go:16" #[Edge.mk 0 Ground.data] none, Oper.mk (some 3) (Op.assign (Operand.tmp 11)) 169 "link.go:16" #[Edge.mk 1 Ground.data, Edge.mk 1 Ground.chain, Edge.mk 0 Ground.phase, Edge.mk 1 Ground.phase] none].toList [Oper.mk (some 3) (Op.assign (Operand.tmp 11)) 169 "link.go:16" #[Edge.mk 1 Ground.data, Edge.mk 1 Ground.chain, Edge.mk 0 Ground.phase, Edge.mk 1 Ground.phase] none] st (Qthen (WY Tryz.prog cfQ7 2998 (Env.mk (Bs.mk 0 []) 0 none 59 65 0) (cdAt [1, 1] (bodyOf Tryz.f65)) (QendX Tryz.prog Tryz.f65 fun v h => R (frzW h v))) (QendX Tryz.prog Tryz.f65 fun v h => R (frzW h v)) Ex.norm)) (St.mk tm h)) v (bif cfQ7.clean 107 then gcH 0 v h' else h'))) (QendX Tryz.prog Tryz.f107 fun v h' => (fun v h => fzNew (callY Tryz.prog cfQ7 (WY Tryz.prog cfQ7 2997) (Env.mk (Bs.mk 0 []) 0 none Tryz.f65.ntmps (65 : FuncId) 0).base (Env.mk (Bs.mk 0 []) 0 none Tryz.f65.ntmps (65 : FuncId) 0).fid) 0 (Oper.mk (some 11) (Op.call (Call.mk (Callee.value (Operand.func 107)) #[Operand.tmp 10] #[129])) 169 "link.go:16" #[Edge.mk 0 Ground.data] none) v h fun v h => putT (Env.mk (Bs.mk 0 []) 0 none Tryz.f65.ntmps (65 : FuncId) 0).N (mkT [(0, V.lst 2 (bdl l)), (2, nilS), (10, V.lst 2 (bdl l))]) (Oper.mk (some 11) (Op.call (Call.mk (Callee.value (Operand.func 107)) #[Operand.tmp 10] #[129])) 169 "link.go:16" #[Edge.mk 0 Ground.data] none).dst v fun tm => (fun st => fzOld (callY Tryz.prog cfQ7 (WY Tryz.prog cfQ7 2997) (Env.mk (Bs.mk 0 []) 0 none Tryz.f65.ntmps (65 : FuncId) 0).base (Env.mk (Bs.mk 0 []) 0 none Tryz.f65.ntmps (65 : FuncId) 0).fid) (askY cfQ7 (Env.mk (Bs.mk 0 []) 0 none Tryz.f65.ntmps (65 : FuncId) 0).base) (Oper.mk (some 11) (Op.call (Call.mk (Callee.value (Operand.func 107)) #[Operand.tmp 10] #[129])) 169 "link.go:16" #[Edge.mk 0 Ground.data] none) st fun st => wOps Tryz.prog (callY Tryz.prog cfQ7 (WY Tryz.prog cfQ7 2997) (Env.mk (Bs.mk 0 []) 0 none Tryz.f65.ntmps (65 : FuncId) 0).base (Env.mk (Bs.mk 0 []) 0 none Tryz.f65.ntmps (65 : FuncId) 0).fid) (askY cfQ7 (Env.mk (Bs.mk 0 []) 0 none Tryz.f65.ntmps (65 : FuncId) 0).base) (Env.mk (Bs.mk 0 []) 0 none Tryz.f65.ntmps (65 : FuncId) 0).N #[Oper.mk (some 10) (Op.move (Operand.tmp 0)) 129 "link.go:16" #[] none, Oper.mk (some 11) (Op.call (Call.mk (Callee.value (Operand.func 107)) #[Operand.tmp 10] #[129])) 169 "link.go:16" #[Edge.mk 0 Ground.data] none, Oper.mk (some 3) (Op.assign (Operand.tmp 11)) 169 "link.go:16" #[Edge.mk 1 Ground.data, Edge.mk 1 Ground.chain, Edge.mk 0 Ground.phase, Edge.mk 1 Ground.phase] none].toList [Oper.mk (some 3) (Op.assign (Operand.tmp 11)) 169 "link.go:16" #[Edge.mk 1 Ground.data, Edge.mk 1 Ground.chain, Edge.mk 0 Ground.phase, Edge.mk 1 Ground.phase] none] st (Qthen (WY Tryz.prog cfQ7 2998 (Env.mk (Bs.mk 0 []) 0 none 59 65 0) (cdAt [1, 1] (bodyOf Tryz.f65)) (QendX Tryz.prog Tryz.f65 fun v h => R (frzW h v))) (QendX Tryz.prog Tryz.f65 fun v h => R (frzW h v)) Ex.norm)) (St.mk tm h)) v (bif cfQ7.clean 107 then gcH 0 v h' else h')))) (St.mk (mkT [(3, V.mp (Id.p 0)), (9, V.lst 2 (bdl l)), (10, iv (↑(bdl l).length : Int)), (11, iv (0 : Int))]) (Hp.mk [(0, O.mp [])] 1 [(0, Fam.mk 1 ([] ++ []))]))) (by kernel_rfl) ?_
 obtain ⟨m,hm⟩ : ∃ m,m=(bdl l).length:=⟨_,rfl⟩
 rw [← hm]
 have hml:m=l.length:=by rw [hm]; simp [bdl]
 have r0:Rep [] [] []:=⟨rfl,List.Pairwise.nil,(fun t ht=>(by cases ht)),List.Pairwise.nil⟩
 have o0:OwnI l 0 [] 0 []:=by
  refine ⟨fun t ht=>(by cases ht),fun c hc=>?_⟩
  rcases hc with ⟨b,hb,_⟩ | hc
  ·omega
  ·simp at hc
 refine La.of (σ:=Nat×List (V×V)×List (Option (List (List V)))) (fun s=>sh107a l s.2.1 s.2.2 m s.1) (fun s=>s.1≤m ∧ ∃ T,Rep T s.2.1 s.2.2∧OwnI l s.1 [] 0 T) (fun s=>m - s.1) (0,[],[]) (by kernel_rfl) ⟨by omega,[],r0,o0⟩ ?_
 rintro ⟨i,es,ms⟩ ⟨g1,T,hr,ho⟩ J hJ
 simp only at g1 hr ho
 refine see (p := ifB (decide ((↑i : Int) < (↑m : Int))) (onSome (bdl l)[i]? fun row => onCons (List.drop 0 row) fun u r => onLst u fun s es_1 => onCons r fun u r => onLst u fun s_1 es_2 => guardB (es.all (goodE [] 0 true)) (La 0 [(3 : Tmp), (4 : Tmp), (9 : Tmp), (10 : Tmp), (11 : Tmp), (17 : Tmp), (18 : Tmp), (19 : Tmp), (1000001 : Tmp), (4000003 : Tmp)] (WY Tryz.prog cfQ7 2983 (Env.mk (Bs.mk 0 (spared [] [V.lst 2 (bdl l)] ++ [])) 0 none 34 107 2) (cdAt [1, 1, 0, 1, 0, 0, 1, 1, 0, 0, 1, 1, 0, 0] (bodyOf Tryz.f107))) (Qblk 2 (Qblk 1 (Qthen (WY Tryz.prog cfQ7 2988 (Env.mk (Bs.mk 0 (spared [] [V.lst 2 (bdl l)] ++ [])) 0 none 34 107 0) (cdAt [1, 1, 0, 1, 0, 0, 1, 1, 1] (bodyOf Tryz.f107)) (Qla 0 [(3 : Tmp), (9 : Tmp), (10 : Tmp), (11 : Tmp), (1000001 : Tmp), (4000003 : Tmp)] J (Qblk 0 (Qthen (WY Tryz.prog cfQ7 2994 (Env.mk (cfQ7.baseOf (Bs.mk 0 []) 107 [V.lst 2 (bdl l)] (Hp.mk [] 0 [])) 0 none 34 107 0) (cdAt [1, 1, 1] (bodyOf Tryz.f107)) (QendX Tryz.prog Tryz.f107 fun v h' => (fun v h => fzNew (callY Tryz.prog cfQ7 (WY Tryz.prog cfQ7 2997) (Env.mk (Bs.mk 0 []) 0 none Tryz.f65.ntmps (65 : FuncId) 0).base (Env.mk (Bs.mk 0 []) 0 none Tryz.f65.ntmps (65 : FuncId) 0).fid) 0 (Oper.mk (some 11) (Op.call (Call.mk (Callee.value (Operand.func 107)) #[Operand.tmp 10] #[129])) 169 "link.go:16" #[Edge.mk 0 Ground.data] none) v h fun v h => putT (Env.mk (Bs.mk 0 []) 0 none Tryz.f65.ntmps (65 : FuncId) 0).N (mkT [(0, V.lst 2 (bdl l)), (2, nilS), (10, V.lst 2 (bdl l))]) (Oper.mk (some 11) (Op.call (Call.mk (Callee.value (Operand.func 107)) #[Operand.tmp 10] #[129])) 169 "link.go:16" #[Edge.mk 0 Ground.data] none).dst v fun tm => (fun st => fzOld (callY Tryz.prog cfQ7 (WY Tryz.prog cfQ7 2997) (Env.mk (Bs.mk 0 []) 0 none Tryz.f65.ntmps (65 : FuncId) 0).base (Env.mk (Bs.mk 0 []) 0 none Tryz.f65.ntmps (65 : FuncId) 0).fid) (askY cfQ7 (Env.mk (Bs.mk 0 []) 0 none Tryz.f65.ntmps (65 : FuncId) 0).base) (Oper.mk (some 11) (Op.call (Call.mk (Callee.value (Operand.func 107)) #[Operand.tmp 10] #[129])) 169 "link.go:16" #[Edge.mk 0 Ground.data] none) st fun st => wOps Tryz.prog (callY Tryz.prog cfQ7 (WY Tryz.prog cfQ7 2997) (Env.mk (Bs.mk 0 []) 0 none Tryz.f65.ntmps (65 : FuncId) 0).base (Env.mk (Bs.mk 0 []) 0 none Tryz.f65.ntmps (65 : FuncId) 0).fid) (askY cfQ7 (Env.mk (Bs.mk 0 []) 0 none Tryz.f65.ntmps (65 : FuncId) 0).base) (Env.mk (Bs.mk 0 []) 0 none Tryz.f65.ntmps (65 : FuncId) 0).N #[Oper.mk (some 10) (Op.move (Operand.tmp 0)) 129 "link.go:16" #[] none, Oper.mk (some 11) (Op.call (Call.mk (Callee.value (Operand.func 107)) #[Operand.tmp 10] #[129])) 169 "link.go:16" #[Edge.mk 0 Ground.data] none, Oper.mk (some 3) (Op.assign (Operand.tmp 11)) 169 "link.go:16" #[Edge.mk 1 Ground.data, Edge.mk 1 Ground.chain, Edge.mk 0 Ground.phase, Edge.mk 1 Ground.phase] none].toList [Oper.mk (some 3) (Op.assign (Operand.tmp 11)) 169 "link.go:16" #[Edge.mk 1 Ground.data, Edge.mk 1 Ground.chain, Edge.mk 0 Ground.phase, Edge.mk 1 Ground.phase] none] st (Qthen (WY Tryz.prog cfQ7 2998 (Env.mk (Bs.mk 0 []) 0 none 59 65 0) (cdAt [1, 1] (bodyOf Tryz.f65)) (QendX Tryz.prog Tryz.f65 fun v h => R (frzW h v))) (QendX Tryz.prog Tryz.f65 fun v h => R (frzW h v)) Ex.norm)) (St.mk tm h)) v (bif cfQ7.clean 107 then gcH 0 v h' else h'))) (QendX Tryz.prog Tryz.f107 fun v h' => (fun v h => fzNew (callY Tryz.prog cfQ7 (WY Tryz.prog cfQ7 2997) (Env.mk (Bs.mk 0 []) 0 none Tryz.f65.ntmps (65 : FuncId) 0).base (Env.mk (Bs.mk 0 []) 0 none Tryz.f65.ntmps (65 : FuncId) 0).fid) 0 (Oper.mk (some 11) (Op.call (Call.mk (Callee.value (Operand.func 107)) #[Operand.tmp 10] #[129])) 169 "link.go:16" #[Edge.mk 0 Ground.data] none) v h fun v h => putT (Env.mk (Bs.mk 0 []) 0 none Tryz.f65.ntmps (65 : FuncId) 0).N (mkT [(0, V.lst 2 (bdl l)), (2, nilS), (10, V.lst 2 (bdl l))]) (Oper.mk (some 11) (Op.call (Call.mk (Callee.value (Operand.func 107)) #[Operand.tmp 10] #[129])) 169 "link.go:16" #[Edge.mk 0 Ground.data] none).dst v fun tm => (fun st => fzOld (callY Tryz.prog cfQ7 (WY Tryz.prog cfQ7 2997) (Env.mk (Bs.mk 0 []) 0 none Tryz.f65.ntmps (65 : FuncId) 0).base (Env.mk (Bs.mk 0 []) 0 none Tryz.f65.ntmps (65 : FuncId) 0).fid) (askY cfQ7 (Env.mk (Bs.mk 0 []) 0 none Tryz.f65.ntmps (65 : FuncId) 0).base) (Oper.mk (some 11) (Op.call (Call.mk (Callee.value (Operand.func 107)) #[Operand.tmp 10] #[129])) 169 "link.go:16" #[Edge.mk 0 Ground.data] none) st fun st => wOps Tryz.prog (callY Tryz.prog cfQ7 (WY Tryz.prog cfQ7 2997) (Env.mk (Bs.mk 0 []) 0 none Tryz.f65.ntmps (65 : FuncId) 0).base (Env.mk (Bs.mk 0 []) 0 none Tryz.f65.ntmps (65 : FuncId) 0).fid) (askY cfQ7 (Env.mk (Bs.mk 0 []) 0 none Tryz.f65.ntmps (65 : FuncId) 0).base) (Env.mk (Bs.mk 0 []) 0 none Tryz.f65.ntmps (65 : FuncId) 0).N #[Oper.mk (some 10) (Op.move (Operand.tmp 0)) 129 "link.go:16" #[] none, Oper.mk (some 11) (Op.call (Call.mk (Callee.value (Operand.func 107)) #[Operand.tmp 10] #[129])) 169 "link.go:16" #[Edge.mk 0 Ground.data] none, Oper.mk (some 3) (Op.assign (Operand.tmp 11)) 169 "link.go:16" #[Edge.mk 1 Ground.data, Edge.mk 1 Ground.chain, Edge.mk 0 Ground.phase, Edge.mk 1 Ground.phase] none].toList [Oper.mk (some 3) (Op.assign (Operand.tmp 11)) 169 "link.go:16" #[Edge.mk 1 Ground.data, Edge.mk 1 Ground.chain, Edge.mk 0 Ground.phase, Edge.mk 1 Ground.phase] none] st (Qthen (WY Tryz.prog cfQ7 2998 (Env.mk (Bs.mk 0 []) 0 none 59 65 0) (cdAt [1, 1] (bodyOf Tryz.f65)) (QendX Tryz.prog Tryz.f65 fun v h => R (frzW h v))) (QendX Tryz.prog Tryz.f65 fun v h => R (frzW h v)) Ex.norm)) (St.mk tm h)) v (bif cfQ7.clean 107 then gcH 0 v h' else h')))))) (Qla 0 [(3 : Tmp), (9 : Tmp), (10 : Tmp), (11 : Tmp), (1000001 : Tmp), (4000003 : Tmp)] J (Qblk 0 (Qthen (WY Tryz.prog cfQ7 2994 (Env.mk (cfQ7.baseOf (Bs.mk 0 []) 107 [V.lst 2 (bdl l)] (Hp.mk [] 0 [])) 0 none 34 107 0) (cdAt [1, 1, 1] (bodyOf Tryz.f107)) (QendX Tryz.prog Tryz.f107 fun v h' => (fun v h => fzNew (callY Tryz.prog cfQ7 (WY Tryz.prog cfQ7 2997) (Env.mk (Bs.mk 0 []) 0 none Tryz.f65.ntmps (65 : FuncId) 0).base (Env.mk (Bs.mk 0 []) 0 none Tryz.f65.ntmps (65 : FuncId) 0).fid) 0 (Oper.mk (some 11) (Op.call (Call.mk (Callee.value (Operand.func 107)) #[Operand.tmp 10] #[129])) 169 "link.go:16" #[Edge.mk 0 Ground.data] none) v h fun v h => putT (Env.mk (Bs.mk 0 []) 0 none Tryz.f65.ntmps (65 : FuncId) 0).N (mkT [(0, V.lst 2 (bdl l)), (2, nilS), (10, V.lst 2 (bdl l))]) (Oper.mk (some 11) (Op.call (Call.mk (Callee.value (Operand.func 107)) #[Operand.tmp 10] #[129])) 169 "link.go:16" #[Edge.mk 0 Ground.data] none).dst v fun tm => (fun st => fzOld (callY Tryz.prog cfQ7 (WY Tryz.prog cfQ7 2997) (Env.mk (Bs.mk 0 []) 0 none Tryz.f65.ntmps (65 : FuncId) 0).base (Env.mk (Bs.mk 0 []) 0 none Tryz.f65.ntmps (65 : FuncId) 0).fid) (askY cfQ7 (Env.mk (Bs.mk 0 []) 0 none Tryz.f65.ntmps (65 : FuncId) 0).base) (Oper.mk (some 11) (Op.call (Call.mk (Callee.value (Operand.func 107)) #[Operand.tmp 10] #[129])) 169 "link.go:16" #[Edge.mk 0 Ground.data] none) st fun st => wOps Tryz.prog (callY Tryz.prog cfQ7 (WY Tryz.prog cfQ7 2997) (Env.mk (Bs.mk 0 []) 0 none Tryz.f65.ntmps (65 : FuncId) 0).base (Env.mk (Bs.mk 0 []) 0 none Tryz.f65.ntmps (65 : FuncId) 0).fid) (askY cfQ7 (Env.mk (Bs.mk 0 []) 0 none Tryz.f65.ntmps (65 : FuncId) 0).base) (Env.mk (Bs.mk 0 []) 0 none Tryz.f65.ntmps (65 : FuncId) 0).N #[Oper.mk (some 10) (Op.move (Operand.tmp 0)) 129 "link.go:16" #[] none, Oper.mk (some 11) (Op.call (Call.mk (Callee.value (Operand.func 107)) #[Operand.tmp 10] #[129])) 169 "link.go:16" #[Edge.mk 0 Ground.data] none, Oper.mk (some 3) (Op.assign (Operand.tmp 11)) 169 "link.go:16" #[Edge.mk 1 Ground.data, Edge.mk 1 Ground.chain, Edge.mk 0 Ground.phase, Edge.mk 1 Ground.phase] none].toList [Oper.mk (some 3) (Op.assign (Operand.tmp 11)) 169 "link.go:16" #[Edge.mk 1 Ground.data, Edge.mk 1 Ground.chain, Edge.mk 0 Ground.phase, Edge.mk 1 Ground.phase] none] st (Qthen (WY Tryz.prog cfQ7 2998 (Env.mk (Bs.mk 0 []) 0 none 59 65 0) (cdAt [1, 1] (bodyOf Tryz.f65)) (QendX Tryz.prog Tryz.f65 fun v h => R (frzW h v))) (QendX Tryz.prog Tryz.f65 fun v h => R (frzW h v)) Ex.norm)) (St.mk tm h)) v (bif cfQ7.clean 107 then gcH 0 v h' else h'))) (QendX Tryz.prog Tryz.f107 fun v h' => (fun v h => fzNew (callY Tryz.prog cfQ7 (WY Tryz.prog cfQ7 2997) (Env.mk (Bs.mk 0 []) 0 none Tryz.f65.ntmps (65 : FuncId) 0).base (Env.mk (Bs.mk 0 []) 0 none Tryz.f65.ntmps (65 : FuncId) 0).fid) 0 (Oper.mk (some 11) (Op.call (Call.mk (Callee.value (Operand.func 107)) #[Operand.tmp 10] #[129])) 169 "link.go:16" #[Edge.mk 0 Ground.data] none) v h fun v h => putT (Env.mk (Bs.mk 0 []) 0 none Tryz.f65.ntmps (65 : FuncId) 0).N (mkT [(0, V.lst 2 (bdl l)), (2, nilS), (10, V.lst 2 (bdl l))]) (Oper.mk (some 11) (Op.call (Call.mk (Callee.value (Operand.func 107)) #[Operand.tmp 10] #[129])) 169 "link.go:16" #[Edge.mk 0 Ground.data] none).dst v fun tm => (fun st => fzOld (callY Tryz.prog cfQ7 (WY Tryz.prog cfQ7 2997) (Env.mk (Bs.mk 0 []) 0 none Tryz.f65.ntmps (65 : FuncId) 0).base (Env.mk (Bs.mk 0 []) 0 none Tryz.f65.ntmps (65 : FuncId) 0).fid) (askY cfQ7 (Env.mk (Bs.mk 0 []) 0 none Tryz.f65.ntmps (65 : FuncId) 0).base) (Oper.mk (some 11) (Op.call (Call.mk (Callee.value (Operand.func 107)) #[Operand.tmp 10] #[129])) 169 "link.go:16" #[Edge.mk 0 Ground.data] none) st fun st => wOps Tryz.prog (callY Tryz.prog cfQ7 (WY Tryz.prog cfQ7 2997) (Env.mk (Bs.mk 0 []) 0 none Tryz.f65.ntmps (65 : FuncId) 0).base (Env.mk (Bs.mk 0 []) 0 none Tryz.f65.ntmps (65 : FuncId) 0).fid) (askY cfQ7 (Env.mk (Bs.mk 0 []) 0 none Tryz.f65.ntmps (65 : FuncId) 0).base) (Env.mk (Bs.mk 0 []) 0 none Tryz.f65.ntmps (65 : FuncId) 0).N #[Oper.mk (some 10) (Op.move (Operand.tmp 0)) 129 "link.go:16" #[] none, Oper.mk (some 11) (Op.call (Call.mk (Callee.value (Operand.func 107)) #[Operand.tmp 10] #[129])) 169 "link.go:16" #[Edge.mk 0 Ground.data] none, Oper.mk (some 3) (Op.assign (Operand.tmp 11)) 169 "link.go:16" #[Edge.mk 1 Ground.data, Edge.mk 1 Ground.chain, Edge.mk 0 Ground.phase, Edge.mk 1 Ground.phase] none].toList [Oper.mk (some 3) (Op.assign (Operand.tmp 11)) 169 "link.go:16" #[Edge.mk 1 Ground.data, Edge.mk 1 Ground.chain, Edge.mk 0 Ground.phase, Edge.mk 1 Ground.phase] none] st (Qthen (WY Tryz.prog cfQ7 2998 (Env.mk (Bs.mk 0 []) 0 none 59 65 0) (cdAt [1, 1] (bodyOf Tryz.f65)) (QendX Tryz.prog Tryz.f65 fun v h => R (frzW h v))) (QendX Tryz.prog Tryz.f65 fun v h => R (frzW h v)) Ex.norm)) (St.mk tm h)) v (bif cfQ7.clean 107 then gcH 0 v h' else h')))))))) (St.mk (mkT [(3, V.mp (Id.p 0)), (4, iv (↑i : Int)), (9, V.lst 2 (bdl l)), (10, iv (↑m : Int)), (11, iv (↑i : Int)), (17, V.lst s es_1), (18, iv (↑es_1.length : Int)), (19, iv (0 : Int))]) (Hp.mk [(0, O.mp (trM [] 0 ms.length es))] 1 [(0, Fam.mk 1 (ms ++ []))])))) (guardB (es.all (goodE [] 0 true)) (La 0 [(0 : Tmp), (3 : Tmp), (4 : Tmp), (13 : Tmp), (14 : Tmp), (1000001 : Tmp), (4000003 : Tmp)] (WY Tryz.prog cfQ7 2993 (Env.mk (Bs.mk 0 []) 0 none 59 65 0) (cdAt [1, 1, 1, 0, 1, 0, 0] (bodyOf Tryz.f65))) (Qblk 0 (Qthen (WY Tryz.prog cfQ7 2996 (Env.mk (Bs.mk 0 []) 0 none 59 65 0) (cdAt [1, 1, 1, 1] (bodyOf Tryz.f65)) (QendX Tryz.prog Tryz.f65 fun v h => R (frzW h v))) (QendX Tryz.prog Tryz.f65 fun v h => R (frzW h v)))) (St.mk (mkT [(0, V.lst 2 (bdl l)), (3, V.mp (Id.p 0)), (4, nilS), (13, iv (↑(bdl l).length : Int)), (14, iv (0 : Int))]) (Hp.mk [(0, O.mp (trM [] 0 ms.length es))] 1 [(0, Fam.mk 1 (ms ++ []))]))))) (by kernel_rfl) ?_
 have hgood : ∀ {T:List Ow} {es:List (V×V)},es=T.map ent→es.all (goodE [] 0 true)=true:=fun e=>by rw [e]; exact good_ent _ _
 have hrep : ∀ {T:List Ow} {es:List (V×V)} {ms:List (Option (List (List V)))},Rep T es ms→Rep T (trM [] 0 ms.length es) (ms++[]):=fun {T es ms} h=>by
  rw [List.append_nil,h.es,trM_ent,← h.es]; exact h
 refine ifB_mk (fun d=>?_) (fun d=>?_)
 rotate_left
 ·have hi:i=m:=by have:=of_decide_eq_false d; omega
  refine guardB_mk (hgood hr.es) ?_
  exact rest T es ms hr (by rw [← hml,← hi]; exact ho)
 have hi:i<m:=by have:=of_decide_eq_true d; omega
 obtain ⟨b,hb⟩:=getI (l:=l) (k:=i) (by omega)
 have hbm:=mem_at hb
 have hrow:(bdl l)[i]? = some (bdr b):=by simp [bdl,hb]
 refine onSome_mk hrow (onCons_cons (onLst_lst (onCons_cons (onLst_lst (guardB_mk (hgood hr.es) ?_)))))
 obtain ⟨x,hx⟩ : ∃ x,x=b.1:=⟨_,rfl⟩
 rw [← hx]
 obtain ⟨n,hnn⟩ : ∃ n,n=(cll x).length:=⟨_,rfl⟩
 rw [← hnn]
 have hnx:n=x.length:=by rw [hnn,cll_length]
 have hx1000:x.length≤1000:=by rw [hx]; exact hl30 b hbm
 refine La.of (σ:=Nat×List (V×V)×List (Option (List (List V)))) (fun s=>sh107b l x s.2.1 s.2.2 m i n s.1) (fun s=>s.1≤n ∧ ∃ T,Rep T s.2.1 s.2.2∧OwnI l i x s.1 T) (fun s=>n - s.1) (0,_,_) (by kernel_rfl) ⟨by omega,T,hrep hr,own_start ho⟩ ?_
 rintro ⟨k,es_1,ms'⟩ ⟨f1,T', hr', ho'⟩ I hI
 simp only at f1 hr' ho'
 obtain ⟨ms,hms⟩ : ∃ q,q=ms' := ⟨_,rfl⟩
 subst hms
 refine see (p:=ifB (decide ((↑k:Int)<(↑n:Int))) (onSome (cll x)[k]? fun row=>onCons (List.drop 0 row) fun u r=>onIntK IntKind.i64 u fun n_1=>onCons r fun u r=>onIntK IntKind.i64 u fun n_2=>onCons r fun u r=>onIntK IntKind.i64 u fun n_3=>onFind (findK Tryz.prog 28 (V.agg [iv n_1,iv n_2,iv n_3]) es_1 0) (fun i_1 kv vv=>guardB (sameC kv (V.agg [iv n_1,iv n_2,iv n_3])) (onMem 0 vv (onSome (es_1.set i_1 (V.agg [iv n_1,iv n_2,iv n_3],vv))[i_1]? fun kv=>guardB (((es_1.set i_1 (V.agg [iv n_1,iv n_2,iv n_3],vv)).set i_1 (kv.1,V.sl (Id.p 3) 0 1)).all (goodE [3,2] 0 true)) (I (St.mk (mkT [(3,V.mp (Id.p 0)),(4,iv (↑i:Int)),(9,V.lst 2 (bdl l)),(10,iv (↑m:Int)),(11,iv (↑i:Int)),(17,V.lst 3 (cll x)),(18,iv (↑n:Int)),(19,iv (IntKind.i64.wrap ((↑k:Int)+(1:Int))))]) (Hp.mk [(0,O.mp (trM [3,2] 0 ms.length ((es_1.set i_1 (V.agg [iv n_1,iv n_2,iv n_3],vv)).set i_1 (kv.1,V.sl (Id.p 3) 0 1))))] 1 [(0,Fam.mk 1 (ms++[some [[iv (↑i:Int)]],some [[iv (↑i:Int)]]]))])))) fun j n_4=>onSome (memb ms j) fun es=>need ((n_4+1) * 8≤140737488355328) (onSome (es_1.set i_1 (V.agg [iv n_1,iv n_2,iv n_3],vv))[i_1]? fun kv=>guardB (((es_1.set i_1 (V.agg [iv n_1,iv n_2,iv n_3],vv)).set i_1 (kv.1,V.sl (Id.p 3) 0 (n_4+1))).all (goodE [3,2] 0 true)) (I (St.mk (mkT [(3,V.mp (Id.p 0)),(4,iv (↑i:Int)),(9,V.lst 2 (bdl l)),(10,iv (↑m:Int)),(11,iv (↑i:Int)),(17,V.lst 3 (cll x)),(18,iv (↑n:Int)),(19,iv (IntKind.i64.wrap ((↑k:Int)+(1:Int))))]) (Hp.mk [(0,O.mp (trM [3,2] 0 ((ms.set j none)).length ((es_1.set i_1 (V.agg [iv n_1,iv n_2,iv n_3],vv)).set i_1 (kv.1,V.sl (Id.p 3) 0 (n_4+1)))))] 1 [(0,Fam.mk 1 (ms.set j none++[some (List.take n_4 es++[[iv (↑i:Int)]]),some [[iv (↑i:Int)]]]))])))))) (onSome (es_1++[(V.agg [iv n_1,iv n_2,iv n_3],nilS)])[es_1.length]? fun kv=>guardB (((es_1++[(V.agg [iv n_1,iv n_2,iv n_3],nilS)]).set es_1.length (kv.1,V.sl (Id.p 3) 0 1)).all (goodE [3,2] 0 true)) (I (St.mk (mkT [(3,V.mp (Id.p 0)),(4,iv (↑i:Int)),(9,V.lst 2 (bdl l)),(10,iv (↑m:Int)),(11,iv (↑i:Int)),(17,V.lst 3 (cll x)),(18,iv (↑n:Int)),(19,iv (IntKind.i64.wrap ((↑k:Int)+(1:Int))))]) (Hp.mk [(0,O.mp (trM [3,2] 0 ms.length ((es_1++[(V.agg [iv n_1,iv n_2,iv n_3],nilS)]).set es_1.length (kv.1,V.sl (Id.p 3) 0 1))))] 1 [(0,Fam.mk 1 (ms++[some [[iv (↑i:Int)]],some [[iv (↑i:Int)]]]))]))))) (guardB (es_1.all (goodE [] 0 true)) (J (St.mk (mkT [(3,V.mp (Id.p 0)),(9,V.lst 2 (bdl l)),(10,iv (↑m:Int)),(11,iv (IntKind.i64.wrap ((↑i:Int)+(1:Int))))]) (Hp.mk [(0,O.mp (trM [] 0 ms.length es_1))] 1 [(0,Fam.mk 1 (ms++[]))]))))) (by kernel_rfl) ?_
 refine ifB_mk (fun e=>?_) (fun e=>?_)
 ·have hk:k<n:=by have:=of_decide_eq_true e; omega
  obtain ⟨c,hc⟩:=getI (l:=x) (k:=k) (by omega)
  have hcr:(cll x)[k]? = some (clr c):=by simp [cll,hc]
  refine onSome_mk hcr (onCons_cons (onIntK_iv (onCons_cons (onIntK_iv (onCons_cons (onIntK_iv ?_))))))
  rw [wr1i hk (by omega)]
  refine own_add (K:=fun e f=>I (sh107b l x e f m i n (k+1))) hr' (fun t ht=>by have:=own_len ho' t ht; omega) (fun T' es' ms' h1 h2=>?_)
  exact hI (k+1,es', ms') ⟨hk,T', h1,own_step ho' hc (by rw [hx]; exact hn b hbm) h2 hr'.cs⟩ (by simp only; omega)
 ·have hk:k=x.length:=by have:=of_decide_eq_false e; omega
  subst hk
  refine guardB_mk (hgood hr'.es) ?_
  rw [wr1i hi (by omega)]
  exact hJ (i+1,_,_) ⟨hi,T', hrep hr', own_next hb (hx ▸ ho')⟩ (by simp only; omega)
def knobsAt (l:List Bdy) (b:Nat):List Kn:=((l[b]?).map (·.2)).getD []
noncomputable def lkC (l:List Bdy) (a i:Nat) (k:Kn) (bs:List Nat):List Lk:=bs.flatMap fun b=>if a<b then lko k (a:Int) (b:Int) (i:Int) (knobsAt l b) else []
noncomputable def lkB (l:List Bdy) (a:Nat) (y:List Kn):List Lk:=y.zipIdx.flatMap fun o=>lkC l a o.2 o.1 (brs l l.length (fc o.1))
noncomputable def lkA (l:List Bdy) (n:Nat):List Lk:=(List.range n).flatMap fun a=>lkB l a (knobsAt l a)
theorem lkC_succ {l:List Bdy} {a i z b:Nat} {k:Kn} {bs:List Nat} (h:bs[z]? = some b):lkC l a i k (bs.take (z+1))=lkC l a i k (bs.take z)++(if a<b then lko k (a:Int) (b:Int) (i:Int) (knobsAt l b) else []):=by
 unfold lkC
 rw [take_succ' h,List.flatMap_append]
 simp
theorem lkB_succ {l:List Bdy} {a k:Nat} {o:Kn} {y:List Kn} (h:y[k]? = some o):lkB l a (y.take (k+1))=lkB l a (y.take k)++lkC l a k o (brs l l.length (fc o)):=by
 have hn:k<y.length:=(List.getElem?_eq_some_iff.1 h).1
 unfold lkB
 rw [take_succ' h,List.zipIdx_append,List.flatMap_append]
 have:(List.take k y).length=k:=by rw [List.length_take]; omega
 simp [this]
theorem lkA_succ {l:List Bdy} {n:Nat}:lkA l (n+1)=lkA l n++lkB l n (knobsAt l n):=by
 unfold lkA
 rw [List.range_succ,List.flatMap_append]
 simp
theorem fm_len {α β:Type} {f:α→List β} {c:Nat} : ∀ {l:List α},(∀ x∈l,(f x).length≤c)→(l.flatMap f).length≤l.length * c
 | [],_=>by simp
 | x::l,h=>by
  rw [List.flatMap_cons,List.length_append,List.length_cons,Nat.succ_mul]
  have h1:=h x (by simp)
  have h2:=fm_len (l:=l) (fun y hy=>h y (by simp [hy]))
  omega
theorem knobsAt_len {l:List Bdy} (h : ∀ b∈l,b.2.length≤1000) (b:Nat):(knobsAt l b).length≤1000:=by
 unfold knobsAt
 cases hb:l[b]? with
 | none=>simp
 | some x=>exact h x (mem_at hb)
theorem brs_len (l:List Bdy) (n:Nat) (c:Cl):(brs l n c).length≤n:=by
 have:=List.length_filter_le (fun b=>dc (c∈cellsAt l b)) (List.range n)
 unfold brs
 simpa using this
theorem lkC_len {l:List Bdy} (h : ∀ b∈l,b.2.length≤1000) (a i:Nat) (k:Kn) (bs:List Nat):(lkC l a i k bs).length≤bs.length * 1000:=fm_len fun b _=>by
 split
 ·exact Nat.le_trans (lko_len ..) (knobsAt_len h b)
 ·simp
theorem lkB_len {l:List Bdy} (hl:l.length≤40) (h : ∀ b∈l,b.2.length≤1000) (a:Nat) (y:List Kn):(lkB l a y).length≤y.length * 40000:=by
 have:=fm_len (f:=fun o:Kn×Nat=>lkC l a o.2 o.1 (brs l l.length (fc o.1))) (c:=40000) (l:=y.zipIdx) (fun o _=>by
  have h1:=lkC_len h a o.2 o.1 (brs l l.length (fc o.1))
  have h2:=brs_len l l.length (fc o.1)
  have h3:=Nat.mul_le_mul_right 1000 h2
  have h4:=Nat.mul_le_mul_right 1000 hl
  omega)
 rw [List.length_zipIdx] at this
 exact this
theorem lkA_len' {l:List Bdy} (hl:l.length≤40) (h : ∀ b∈l,b.2.length≤1000) (n:Nat):(lkA l n).length≤n * 40000000:=by
 have:=fm_len (f:=fun a=>lkB l a (knobsAt l a)) (c:=40000000) (l:=List.range n) (fun a _=>by
  have h1:=lkB_len hl h a (knobsAt l a)
  have h2:=Nat.mul_le_mul_right 40000 (knobsAt_len h a)
  omega)
 rw [List.length_range] at this
 exact this
noncomputable def famLa (l:List Bdy) (m:Nat) (s:Bool×Nat×Nat×List Lk×List (V×V)×List (Option (List (List V)))):St:=match s.1 with | false=>lNa l s.2.2.2.2.1 s.2.2.2.2.2 m s.2.1 | true=>lSa l s.2.2.2.1 s.2.2.2.2.1 s.2.2.2.2.2 s.2.2.1 m s.2.1
noncomputable def famLb (l:List Bdy) (y:List Kn) (m i n:Nat) (s:Bool×Nat×Nat×List Lk×List (V×V)×List (Option (List (List V)))):St:=match s.1 with | false=>lNb l y s.2.2.2.2.1 s.2.2.2.2.2 m i n s.2.1 | true=>lSb l y s.2.2.2.1 s.2.2.2.2.1 s.2.2.2.2.2 s.2.2.1 m i n s.2.1
noncomputable def famLc (l:List Bdy) (y:List Kn) (o:Kn) (m i n k j w:Nat) (s:Bool×Nat×Nat×List Lk×List (V×V)×List (Option (List (List V)))):St:=match s.1 with | false=>lNc l y o s.2.2.2.2.1 s.2.2.2.2.2 m i n k j w s.2.1 | true=>lSc l y o s.2.2.2.1 s.2.2.2.2.1 s.2.2.2.2.2 s.2.2.1 m i n k j w s.2.1
set_option maxHeartbeats 4000000 in
theorem links_rest {l:List Bdy} {R:V→Prop} (hl:l.length≤40) (hk1000 : ∀ b∈l,b.2.length≤1000) (hO : ∀ b∈l, ∀ o∈b.2,KnO o) {T:List Ow} {es:List (V×V)} {ms:List (Option (List (List V)))} (hr:Rep T es ms) (ho:OwnI l l.length [] 0 T) (hR0:lkA l l.length=[]→R nilS) (hR : ∀ l' : List Lk,l'.Perm (lkA l l.length)→l'.Pairwise (fun a b => ¬ BefL b a)→R (.lst 5 (lkl l'))):La 0 [(0:Tmp),(3:Tmp),(4:Tmp),(13:Tmp),(14:Tmp),(1000001:Tmp),(4000003:Tmp)] (WY Tryz.prog cfQ7 2993 (Env.mk (Bs.mk 0 []) 0 none 59 65 0) (cdAt [1,1,1,0,1,0,0] (bodyOf Tryz.f65))) (Qblk 0 (Qthen (WY Tryz.prog cfQ7 2996 (Env.mk (Bs.mk 0 []) 0 none 59 65 0) (cdAt [1,1,1,1] (bodyOf Tryz.f65)) (QendX Tryz.prog Tryz.f65 fun v h=>R (frzW h v))) (QendX Tryz.prog Tryz.f65 fun v h=>R (frzW h v)))) (St.mk (mkT [(0,V.lst 2 (bdl l)),(3,V.mp (Id.p 0)),(4,nilS),(13,iv (↑(bdl l).length:Int)),(14,iv (0:Int))]) (Hp.mk [(0,O.mp (trM [] 0 ms.length es))] 1 [(0,Fam.mk 1 (ms++[]))])):=by
 have hgood:es.all (goodE [] 0 true)=true:=by rw [hr.es]; exact good_ent _ _
 have htr:trM [] 0 ms.length es=es:=by rw [hr.es,trM_ent]
 have hms:ms++[]=ms:=List.append_nil ms
 obtain ⟨m,hm⟩ : ∃ m,m=(bdl l).length:=⟨_,rfl⟩
 rw [← hm]
 have hml:m=l.length:=by rw [hm]; simp [bdl]
 refine La.of (σ:=Bool×Nat×Nat×List Lk×List (V×V)×List (Option (List (List V)))) (famLa l m) (fun s=>s.2.1≤m∧s.2.2.1=s.2.2.2.1.length∧s.2.2.2.1=lkA l s.2.1∧(s.1=false→s.2.2.2.1=[])∧s.2.2.2.2.1=es∧s.2.2.2.2.2=ms) (fun s=>m - s.2.1) (false,0,0,[],_,_) (by kernel_rfl) ⟨by simp only; omega,rfl,rfl,(fun _=>rfl),htr,hms⟩ ?_
 rintro ⟨bb,i,q,L,es_1,ms⟩ ⟨g1,gq,gL,gb,ge,gm⟩ C hC
 simp only at g1 gq gL gb ge gm
 subst ge gm
 have loopD:i<m → ∀ (y:List Kn) (n:Nat),knobsAt l i=y→n=y.length→(∀ o∈y,KnO o)→y.length≤1000 → ∀ (bb:Bool) (q:Nat) (L:List Lk),q=L.length→L=lkA l i++lkB l i (y.take 0)→(bb=false→L=[])→La 0 [(0:Tmp),(3:Tmp),(4:Tmp),(5:Tmp),(13:Tmp),(14:Tmp),(21:Tmp),(22:Tmp),(23:Tmp),(1000001:Tmp),(4000003:Tmp)] (WY Tryz.prog cfQ7 2985 (Env.mk (Bs.mk 0 []) 0 none 59 65 2) (cdAt [1,1,1,0,1,0,0,1,1,0,0,1,1,0,0] (bodyOf Tryz.f65))) (Qblk 2 (Qblk 1 (Qthen (WY Tryz.prog cfQ7 2990 (Env.mk (Bs.mk 0 []) 0 none 59 65 0) (cdAt [1,1,1,0,1,0,0,1,1,1] (bodyOf Tryz.f65)) (Qla 0 [(0:Tmp),(3:Tmp),(4:Tmp),(13:Tmp),(14:Tmp),(1000001:Tmp),(4000003:Tmp)] C (Qblk 0 (Qthen (WY Tryz.prog cfQ7 2996 (Env.mk (Bs.mk 0 []) 0 none 59 65 0) (cdAt [1,1,1,1] (bodyOf Tryz.f65)) (QendX Tryz.prog Tryz.f65 fun v h=>R (frzW h v))) (QendX Tryz.prog Tryz.f65 fun v h=>R (frzW h v)))))) (Qla 0 [(0:Tmp),(3:Tmp),(4:Tmp),(13:Tmp),(14:Tmp),(1000001:Tmp),(4000003:Tmp)] C (Qblk 0 (Qthen (WY Tryz.prog cfQ7 2996 (Env.mk (Bs.mk 0 []) 0 none 59 65 0) (cdAt [1,1,1,1] (bodyOf Tryz.f65)) (QendX Tryz.prog Tryz.f65 fun v h=>R (frzW h v))) (QendX Tryz.prog Tryz.f65 fun v h=>R (frzW h v)))))))) (famLb l y m i n (bb,0,q,L,es_1,ms)):=by
  intro hi y n hkn hny hyO hy1000 bb q L gq gL gb
  refine La.of (σ:=Bool×Nat×Nat×List Lk×List (V×V)×List (Option (List (List V)))) (famLb l y m i n) (fun s=>s.2.1≤n∧s.2.2.1=s.2.2.2.1.length∧s.2.2.2.1=lkA l i++lkB l i (y.take s.2.1)∧(s.1=false→s.2.2.2.1=[])∧s.2.2.2.2.1=es_1∧s.2.2.2.2.2=ms) (fun s=>n - s.2.1) (bb,0,q,L,es_1,ms) rfl ⟨by simp only; omega,gq,gL,gb,rfl,rfl⟩ ?_
  rintro ⟨bb,k,q,L,es_1,ms⟩ ⟨f1,gq,gL,gb,ge,gm⟩ D hD
  simp only at f1 gq gL gb ge gm
  subst ge gm
  have loopE : ∀ (k:Nat) (o:Kn),k<n→y[k]? = some o→KnO o→(∀ (s' : Bool×Nat×Nat×List Lk×List (V×V)×List (Option (List (List V)))),(s'.2.1≤n∧s'.2.2.1=s'.2.2.2.1.length∧s'.2.2.2.1=lkA l i++lkB l i (y.take s'.2.1)∧(s'.1=false→s'.2.2.2.1=[])∧s'.2.2.2.2.1=es_1∧s'.2.2.2.2.2=ms)→n - s'.2.1<n - k→D (famLb l y m i n s')) → ∀ (j w:Nat) (bs:List Nat),memb ms j=some (bs.map rowI)→w=bs.length→bs=brs l l.length (fc o) → ∀ (bb:Bool) (q:Nat) (L:List Lk),q=L.length→L=lkA l i++lkB l i (y.take k)→(bb=false→L=[])→La 0 [(0:Tmp),(3:Tmp),(4:Tmp),(5:Tmp),(6:Tmp),(7:Tmp),(13:Tmp),(14:Tmp),(21:Tmp),(22:Tmp),(23:Tmp),(31:Tmp),(32:Tmp),(33:Tmp),(1000001:Tmp),(4000003:Tmp)] (WY Tryz.prog cfQ7 2977 (Env.mk (Bs.mk 0 []) 0 none 59 65 4) (cdAt [1,1,1,0,1,0,0,1,1,0,0,1,1,0,0,1,1,0,0,1,1,0,0] (bodyOf Tryz.f65))) (Qblk 4 (Qblk 3 (Qthen (WY Tryz.prog cfQ7 2982 (Env.mk (Bs.mk 0 []) 0 none 59 65 2) (cdAt [1,1,1,0,1,0,0,1,1,0,0,1,1,0,0,1,1,1] (bodyOf Tryz.f65)) (Qla 0 [(0:Tmp),(3:Tmp),(4:Tmp),(5:Tmp),(13:Tmp),(14:Tmp),(21:Tmp),(22:Tmp),(23:Tmp),(1000001:Tmp),(4000003:Tmp)] D (Qblk 2 (Qblk 1 (Qthen (WY Tryz.prog cfQ7 2990 (Env.mk (Bs.mk 0 []) 0 none 59 65 0) (cdAt [1,1,1,0,1,0,0,1,1,1] (bodyOf Tryz.f65)) (Qla 0 [(0:Tmp),(3:Tmp),(4:Tmp),(13:Tmp),(14:Tmp),(1000001:Tmp),(4000003:Tmp)] C (Qblk 0 (Qthen (WY Tryz.prog cfQ7 2996 (Env.mk (Bs.mk 0 []) 0 none 59 65 0) (cdAt [1,1,1,1] (bodyOf Tryz.f65)) (QendX Tryz.prog Tryz.f65 fun v h=>R (frzW h v))) (QendX Tryz.prog Tryz.f65 fun v h=>R (frzW h v)))))) (Qla 0 [(0:Tmp),(3:Tmp),(4:Tmp),(13:Tmp),(14:Tmp),(1000001:Tmp),(4000003:Tmp)] C (Qblk 0 (Qthen (WY Tryz.prog cfQ7 2996 (Env.mk (Bs.mk 0 []) 0 none 59 65 0) (cdAt [1,1,1,1] (bodyOf Tryz.f65)) (QendX Tryz.prog Tryz.f65 fun v h=>R (frzW h v))) (QendX Tryz.prog Tryz.f65 fun v h=>R (frzW h v)))))))))) (Qla 0 [(0:Tmp),(3:Tmp),(4:Tmp),(5:Tmp),(13:Tmp),(14:Tmp),(21:Tmp),(22:Tmp),(23:Tmp),(1000001:Tmp),(4000003:Tmp)] D (Qblk 2 (Qblk 1 (Qthen (WY Tryz.prog cfQ7 2990 (Env.mk (Bs.mk 0 []) 0 none 59 65 0) (cdAt [1,1,1,0,1,0,0,1,1,1] (bodyOf Tryz.f65)) (Qla 0 [(0:Tmp),(3:Tmp),(4:Tmp),(13:Tmp),(14:Tmp),(1000001:Tmp),(4000003:Tmp)] C (Qblk 0 (Qthen (WY Tryz.prog cfQ7 2996 (Env.mk (Bs.mk 0 []) 0 none 59 65 0) (cdAt [1,1,1,1] (bodyOf Tryz.f65)) (QendX Tryz.prog Tryz.f65 fun v h=>R (frzW h v))) (QendX Tryz.prog Tryz.f65 fun v h=>R (frzW h v)))))) (Qla 0 [(0:Tmp),(3:Tmp),(4:Tmp),(13:Tmp),(14:Tmp),(1000001:Tmp),(4000003:Tmp)] C (Qblk 0 (Qthen (WY Tryz.prog cfQ7 2996 (Env.mk (Bs.mk 0 []) 0 none 59 65 0) (cdAt [1,1,1,1] (bodyOf Tryz.f65)) (QendX Tryz.prog Tryz.f65 fun v h=>R (frzW h v))) (QendX Tryz.prog Tryz.f65 fun v h=>R (frzW h v)))))))))))) (famLc l y o m i n k j w (bb,0,q,L,es_1,ms)):=by
   intro k o hk hoy hko hD j w bs hmb hw hbs bb q L gq gL gb
   have hw40:w≤40:=by
    have:=brs_len l l.length (fc o)
    rw [hw,hbs]
    omega
   refine La.of (σ:=Bool×Nat×Nat×List Lk×List (V×V)×List (Option (List (List V)))) (famLc l y o m i n k j w) (fun s=>s.2.1≤w∧s.2.2.1=s.2.2.2.1.length∧s.2.2.2.1=lkA l i++lkB l i (y.take k)++lkC l i k o (bs.take s.2.1)∧(s.1=false→s.2.2.2.1=[])∧s.2.2.2.2.1=es_1∧s.2.2.2.2.2=ms) (fun s=>w - s.2.1) (bb,0,q,L,es_1,ms) rfl ⟨by simp only; omega,gq,by simp only; rw [gL]; simp [lkC],gb,rfl,rfl⟩ ?_
   rintro ⟨bb,z,q,L,es_1,ms⟩ ⟨z1,gq2,gL2,gb2,ge,gm⟩ E hE
   simp only at z1 gq2 gL2 gb2 ge gm
   subst ge gm
   have hq:q≤3000000000:=by
    rw [gq2,gL2,List.length_append,List.length_append]
    have h1:=lkA_len' hl hk1000 i
    have h2:=lkB_len hl hk1000 i (y.take k)
    have h3:=lkC_len hk1000 i k o (bs.take z)
    rw [List.length_take] at h2 h3
    have h4:min k y.length * 40000≤1000 * 40000:=Nat.mul_le_mul_right _ (by omega)
    have h5:min z bs.length * 1000≤40 * 1000:=Nat.mul_le_mul_right _ (by omega)
    have h6:i * 40000000≤40 * 40000000:=Nat.mul_le_mul_right _ (by omega)
    omega
   rcases bb with _ | _
   ·refine see (p:=ifB (decide ((↑z:Int)<(↑w:Int))) (onSome (memb ms j) fun es=>need (z<w) (onSome (memb ms j) fun es=>onSome es[0+z]? fun row=>onSome row[0]? fun v=>onIntK IntKind.i64 v fun n_9=>ifB (decide (n_9 > (↑i:Int))) (onNat n_9 fun m_1=>onSome (bdl l)[m_1]? fun row=>onSome row[1]? fun v=>onLst v fun s es=>K0G Tryz.prog glX 109 [V.agg [iv o.1.1,iv o.1.2.1,iv o.1.2.2,V.raw (Value.int IntKind.u8 o.2.1),V.raw (Value.int IntKind.u8 o.2.2)],V.lst s es,V.agg [iv (↑i:Int),iv n_9,iv (↑k:Int),iv (0:Int),V.raw (Value.int IntKind.u8 (0:Int))]] fun v=>onLst v fun s es=>guardB (s.beq 5 || es.isEmpty) (need (es.length * 40≤140737488355328) (guardB (es_1.all (goodE [] 0 true)) (E (St.mk (mkT [(0,V.lst 2 (bdl l)),(3,V.mp (Id.p 0)),(4,V.sl (Id.p 1) 0 es.length),(5,iv (↑i:Int)),(6,iv (↑k:Int)),(7,V.ptr (Id.p 2) 0 0),(13,iv (↑m:Int)),(14,iv (↑i:Int)),(21,V.lst 5 (knl y)),(22,iv (↑n:Int)),(23,iv (↑k:Int)),(31,V.sl (Id.m 0 j) 0 w),(32,iv (↑w:Int)),(33,iv (IntKind.i64.wrap ((↑z:Int)+(1:Int))))]) (Hp.mk [(0,O.mp (trM [] 0 ms.length es_1)),(1,O.rows 5 true es),(2,O.rows 5 false [[iv o.1.1,iv o.1.2.1,iv o.1.2.2,V.raw (Value.int IntKind.u8 o.2.1),V.raw (Value.int IntKind.u8 o.2.2)]])] 3 [(0,Fam.mk 1 (ms++[]))])))))) (guardB (es_1.all (goodE [] 0 true)) (E (St.mk (mkT [(0,V.lst 2 (bdl l)),(3,V.mp (Id.p 0)),(4,nilS),(5,iv (↑i:Int)),(6,iv (↑k:Int)),(7,V.ptr (Id.p 1) 0 0),(13,iv (↑m:Int)),(14,iv (↑i:Int)),(21,V.lst 5 (knl y)),(22,iv (↑n:Int)),(23,iv (↑k:Int)),(31,V.sl (Id.m 0 j) 0 w),(32,iv (↑w:Int)),(33,iv (IntKind.i64.wrap ((↑z:Int)+(1:Int))))]) (Hp.mk [(0,O.mp (trM [] 0 ms.length es_1)),(1,O.rows 5 false [[iv o.1.1,iv o.1.2.1,iv o.1.2.2,V.raw (Value.int IntKind.u8 o.2.1),V.raw (Value.int IntKind.u8 o.2.2)]])] 2 [(0,Fam.mk 1 (ms++[]))])))))) (guardB (es_1.all (goodE [] 0 true)) (D (St.mk (mkT [(0,V.lst 2 (bdl l)),(3,V.mp (Id.p 0)),(4,nilS),(5,iv (↑i:Int)),(13,iv (↑m:Int)),(14,iv (↑i:Int)),(21,V.lst 5 (knl y)),(22,iv (↑n:Int)),(23,iv (IntKind.i64.wrap ((↑k:Int)+(1:Int))))]) (Hp.mk [(0,O.mp (trM [] 0 ms.length es_1))] 1 [(0,Fam.mk 1 (ms++[]))]))))) (by kernel_rfl) ?_
    refine ifB_mk (fun e' => ?_) (fun e' => ?_)
    ·have hz:z<w:=by have:=of_decide_eq_true e'; omega
     obtain ⟨b,hb⟩:=getI (l:=bs) (k:=z) (by omega)
     have hbl:b<l.length:=by
      have:=mem_at hb
      rw [hbs] at this
      unfold brs at this
      have:=List.mem_range.1 (List.mem_filter.1 this).1
      omega
     refine onSome_mk hmb (need_mk ⟨hz,onSome_mk hmb (onSome_mk (x:=rowI b) (by simp [hb]) (onSome_mk (x:=iv (b:Int)) rfl (onIntK_iv (ifB_mk (fun g=>?_) (fun g=>?_)))))⟩)
     ·have hab:i<b:=by have:=of_decide_eq_true g; omega
      obtain ⟨bd,hbd⟩:=getI (l:=l) (k:=b) hbl
      have hrow:(bdl l)[b]? = some (bdr bd):=by simp [bdl,hbd]
      have hkn:knobsAt l b=bd.2:=by unfold knobsAt; rw [hbd]; rfl
      refine onNat_mk (m:=b) rfl (onSome_mk hrow (onSome_mk (x:=V.lst 5 (knl bd.2)) rfl (onLst_lst ?_)))
      have hstep:=lkC_succ (l:=l) (a:=i) (i:=k) (k:=o) hb
      rw [if_pos hab,hkn] at hstep
      have hlen:bd.2.length≤1000:=hk1000 bd (mem_at hbd)
      have hlo:=lko_len o (i:Int) (b:Int) (k:Int) bd.2
      have hfin : ∀ (t:Nat) (es:List (List V)),(t=5∨es=[])→es=lkl (lko o (i:Int) (b:Int) (k:Int) bd.2)→guardB (t.beq 5 || es.isEmpty) (need ((es.length) * 40≤140737488355328) (guardB (es_1.all (goodE [] 0 true)) (E (lSc l y o (L++lko o (i:Int) (b:Int) (k:Int) bd.2) es_1 ms ((lko o (i:Int) (b:Int) (k:Int) bd.2).length) m i n k j w (z+1))))):=by
       intro t es ht hes
       refine guardB_mk (by rcases ht with rfl | rfl <;> simp) (need_mk ⟨by rw [hes,lkl_length]; omega,guardB_mk hgood ?_⟩)
       refine hE (true,z+1,q+(lko o (i:Int) (b:Int) (k:Int) bd.2).length,L++lko o (i:Int) (b:Int) (k:Int) bd.2,es_1,ms) ⟨hz,by simp only; rw [List.length_append,gq2],by simp only; rw [hstep,gL2,List.append_assoc],(fun h=>by cases h),rfl,rfl⟩ (by simp only; omega) |> fun h=>?_
       have e0:q=0:=by rw [gq2,gb2 rfl]; rfl
       rw [e0,Nat.zero_add] at h
       exact h
      refine links109 (k:=o) (x:=((i:Int),(b:Int),(k:Int),(0:Int),(0:Int))) hko (hO bd (mem_at hbd)) (by omega) (fun h0=>onLst_nil ?_) (onLst_lst ?_)
      ·rw [htr,hms,wr1i hz (by omega)]
       have:=hfin 0 [] (.inr rfl) (by rw [h0]; rfl)
       rw [h0] at this
       simp only [List.append_nil,List.length_nil] at this
       rw [gb2 rfl] at this
       exact this
      ·rw [htr,hms,wr1i hz (by omega)]
       have:=hfin 5 _ (.inl rfl) rfl
       rw [gb2 rfl,List.nil_append] at this
       rw [lkl_length] at this ⊢
       exact this
     ·have hab : ¬ i<b:=by have:=of_decide_eq_false g; omega
      have hstep:=lkC_succ (l:=l) (a:=i) (i:=k) (k:=o) hb
      rw [if_neg hab,List.append_nil] at hstep
      refine guardB_mk hgood ?_
      rw [wr1i hz (by omega)]
      exact hE (false,z+1,q,L,_,_) ⟨hz,gq2,by simp only; rw [hstep]; exact gL2,gb2,htr,hms⟩ (by simp only; omega)
    ·have hz:z=w:=by have:=of_decide_eq_false e'; omega
     refine guardB_mk hgood ?_
     rw [wr1i hk (by omega)]
     exact hD (false,k+1,q,L,_,_) ⟨hk,gq2,by simp only; rw [lkB_succ hoy,gL2,hz,hw,List.take_length,hbs,List.append_assoc],gb2,htr,hms⟩ (by simp only; omega)
   ·refine see (p:=ifB (decide ((↑z:Int)<(↑w:Int))) (onSome (memb ms j) fun es=>need (z<w) (onSome (memb ms j) fun es=>onSome es[0+z]? fun row=>onSome row[0]? fun v=>onIntK IntKind.i64 v fun n_9=>ifB (decide (n_9 > (↑i:Int))) (onNat n_9 fun m_1=>onSome (bdl l)[m_1]? fun row=>onSome row[1]? fun v=>onLst v fun s es=>K0G Tryz.prog glX 109 [V.agg [iv o.1.1,iv o.1.2.1,iv o.1.2.2,V.raw (Value.int IntKind.u8 o.2.1),V.raw (Value.int IntKind.u8 o.2.2)],V.lst s es,V.agg [iv (↑i:Int),iv n_9,iv (↑k:Int),iv (0:Int),V.raw (Value.int IntKind.u8 (0:Int))]] fun v=>onLst v fun s es=>guardB (s.beq 5 || es.isEmpty) (need ((q+es.length) * 40≤140737488355328) (guardB (es_1.all (goodE [] 0 true)) (E (St.mk (mkT [(0,V.lst 2 (bdl l)),(3,V.mp (Id.p 0)),(4,V.sl (Id.p 1) 0 (q+es.length)),(5,iv (↑i:Int)),(6,iv (↑k:Int)),(7,V.ptr (Id.p 2) 0 0),(13,iv (↑m:Int)),(14,iv (↑i:Int)),(21,V.lst 5 (knl y)),(22,iv (↑n:Int)),(23,iv (↑k:Int)),(31,V.sl (Id.m 0 j) 0 w),(32,iv (↑w:Int)),(33,iv (IntKind.i64.wrap ((↑z:Int)+(1:Int))))]) (Hp.mk [(0,O.mp (trM [] 0 ms.length es_1)),(1,O.rows 5 true (List.take q (lkl L)++es)),(2,O.rows 5 false [[iv o.1.1,iv o.1.2.1,iv o.1.2.2,V.raw (Value.int IntKind.u8 o.2.1),V.raw (Value.int IntKind.u8 o.2.2)]])] 3 [(0,Fam.mk 1 (ms++[]))])))))) (guardB (es_1.all (goodE [] 0 true)) (E (St.mk (mkT [(0,V.lst 2 (bdl l)),(3,V.mp (Id.p 0)),(4,V.sl (Id.p 1) 0 q),(5,iv (↑i:Int)),(6,iv (↑k:Int)),(7,V.ptr (Id.p 2) 0 0),(13,iv (↑m:Int)),(14,iv (↑i:Int)),(21,V.lst 5 (knl y)),(22,iv (↑n:Int)),(23,iv (↑k:Int)),(31,V.sl (Id.m 0 j) 0 w),(32,iv (↑w:Int)),(33,iv (IntKind.i64.wrap ((↑z:Int)+(1:Int))))]) (Hp.mk [(0,O.mp (trM [] 0 ms.length es_1)),(1,O.rows 5 true (lkl L)),(2,O.rows 5 false [[iv o.1.1,iv o.1.2.1,iv o.1.2.2,V.raw (Value.int IntKind.u8 o.2.1),V.raw (Value.int IntKind.u8 o.2.2)]])] 3 [(0,Fam.mk 1 (ms++[]))])))))) (guardB (es_1.all (goodE [] 0 true)) (D (St.mk (mkT [(0,V.lst 2 (bdl l)),(3,V.mp (Id.p 0)),(4,V.sl (Id.p 1) 0 q),(5,iv (↑i:Int)),(13,iv (↑m:Int)),(14,iv (↑i:Int)),(21,V.lst 5 (knl y)),(22,iv (↑n:Int)),(23,iv (IntKind.i64.wrap ((↑k:Int)+(1:Int))))]) (Hp.mk [(0,O.mp (trM [] 0 ms.length es_1)),(1,O.rows 5 true (lkl L))] 2 [(0,Fam.mk 1 (ms++[]))]))))) (by kernel_rfl) ?_
    refine ifB_mk (fun e' => ?_) (fun e' => ?_)
    ·have hz:z<w:=by have:=of_decide_eq_true e'; omega
     obtain ⟨b,hb⟩:=getI (l:=bs) (k:=z) (by omega)
     have hbl:b<l.length:=by
      have:=mem_at hb
      rw [hbs] at this
      unfold brs at this
      have:=List.mem_range.1 (List.mem_filter.1 this).1
      omega
     refine onSome_mk hmb (need_mk ⟨hz,onSome_mk hmb (onSome_mk (x:=rowI b) (by simp [hb]) (onSome_mk (x:=iv (b:Int)) rfl (onIntK_iv (ifB_mk (fun g=>?_) (fun g=>?_)))))⟩)
     ·have hab:i<b:=by have:=of_decide_eq_true g; omega
      obtain ⟨bd,hbd⟩:=getI (l:=l) (k:=b) hbl
      have hrow:(bdl l)[b]? = some (bdr bd):=by simp [bdl,hbd]
      have hkn:knobsAt l b=bd.2:=by unfold knobsAt; rw [hbd]; rfl
      refine onNat_mk (m:=b) rfl (onSome_mk hrow (onSome_mk (x:=V.lst 5 (knl bd.2)) rfl (onLst_lst ?_)))
      have hstep:=lkC_succ (l:=l) (a:=i) (i:=k) (k:=o) hb
      rw [if_pos hab,hkn] at hstep
      have hlen:bd.2.length≤1000:=hk1000 bd (mem_at hbd)
      have hlo:=lko_len o (i:Int) (b:Int) (k:Int) bd.2
      have hfin : ∀ (t:Nat) (es:List (List V)),(t=5∨es=[])→es=lkl (lko o (i:Int) (b:Int) (k:Int) bd.2)→guardB (t.beq 5 || es.isEmpty) (need ((q+es.length) * 40≤140737488355328) (guardB (es_1.all (goodE [] 0 true)) (E (lSc l y o (L++lko o (i:Int) (b:Int) (k:Int) bd.2) es_1 ms (q+(lko o (i:Int) (b:Int) (k:Int) bd.2).length) m i n k j w (z+1))))):=by
       intro t es ht hes
       refine guardB_mk (by rcases ht with rfl | rfl <;> simp) (need_mk ⟨by rw [hes,lkl_length]; omega,guardB_mk hgood ?_⟩)
       refine hE (true,z+1,q+(lko o (i:Int) (b:Int) (k:Int) bd.2).length,L++lko o (i:Int) (b:Int) (k:Int) bd.2,es_1,ms) ⟨hz,by simp only; rw [List.length_append,gq2],by simp only; rw [hstep,gL2,List.append_assoc],(fun h=>by cases h),rfl,rfl⟩ (by simp only; omega) |> fun h=>?_
       exact h
      refine links109 (k:=o) (x:=((i:Int),(b:Int),(k:Int),(0:Int),(0:Int))) hko (hO bd (mem_at hbd)) (by omega) (fun h0=>onLst_nil ?_) (onLst_lst ?_)
      ·rw [htr,hms,wr1i hz (by omega)]
       have:=hfin 0 [] (.inr rfl) (by rw [h0]; rfl)
       rw [h0] at this
       simp only [List.append_nil,List.length_nil,Nat.add_zero] at this ⊢
       rw [gq2,← lkl_length,List.take_length,lkl_length,← gq2]
       exact this
      ·rw [htr,hms,wr1i hz (by omega)]
       have:=hfin 5 _ (.inl rfl) rfl
       rw [lkl_length] at this ⊢
       have e9:List.take q (lkl L)++lkl (lko o (i:Int) (b:Int) (k:Int) bd.2)=lkl (L++lko o (i:Int) (b:Int) (k:Int) bd.2):=by
        rw [gq2,← lkl_length,List.take_length]
        simp [lkl]
       rw [e9]
       exact this
     ·have hab : ¬ i<b:=by have:=of_decide_eq_false g; omega
      have hstep:=lkC_succ (l:=l) (a:=i) (i:=k) (k:=o) hb
      rw [if_neg hab,List.append_nil] at hstep
      refine guardB_mk hgood ?_
      rw [wr1i hz (by omega)]
      exact hE (true,z+1,q,L,_,_) ⟨hz,gq2,by simp only; rw [hstep]; exact gL2,gb2,htr,hms⟩ (by simp only; omega)
    ·have hz:z=w:=by have:=of_decide_eq_false e'; omega
     refine guardB_mk hgood ?_
     rw [wr1i hk (by omega)]
     exact hD (true,k+1,q,L,_,_) ⟨hk,gq2,by simp only; rw [lkB_succ hoy,gL2,hz,hw,List.take_length,hbs,List.append_assoc],gb2,htr,hms⟩ (by simp only; omega)
  rcases bb with _ | _
  ·refine see (p:=ifB (decide ((↑k:Int)<(↑n:Int))) (onSome (knl y)[k]? fun row=>onCons (List.drop 0 row) fun u r=>onIntK IntKind.i64 u fun n_9=>onCons r fun u r=>onIntK IntKind.i64 u fun n_10=>onCons r fun u r=>onIntK IntKind.i64 u fun n_11=>onCons r fun u r=>onIntK IntKind.u8 u fun n_12=>onCons r fun u r=>onIntK IntKind.u8 u fun n_13=>K0G Tryz.prog glX 108 [V.agg [iv n_9,iv n_10,iv n_11,V.raw (Value.int IntKind.u8 n_12),V.raw (Value.int IntKind.u8 n_13)]] fun v=>onAgg v fun cs=>onCons cs fun u r=>onIntK IntKind.i64 u fun n_14=>onCons r fun u r=>onIntK IntKind.i64 u fun n_15=>onCons r fun u r=>onIntK IntKind.i64 u fun n_16=>onNil r (onFind (findK Tryz.prog 28 (V.agg [iv n_14,iv n_15,iv n_16]) es_1 0) (fun i_2 kv vv=>onMem 0 (bif false then V.tup [vv,bv true] else vv) (guardB (es_1.all (goodE [] 0 true)) (La 0 [(0:Tmp),(3:Tmp),(4:Tmp),(5:Tmp),(6:Tmp),(7:Tmp),(13:Tmp),(14:Tmp),(21:Tmp),(22:Tmp),(23:Tmp),(31:Tmp),(32:Tmp),(33:Tmp),(1000001:Tmp),(4000003:Tmp)] (WY Tryz.prog cfQ7 2977 (Env.mk (Bs.mk 0 []) 0 none 59 65 4) (cdAt [1,1,1,0,1,0,0,1,1,0,0,1,1,0,0,1,1,0,0,1,1,0,0] (bodyOf Tryz.f65))) (Qblk 4 (Qblk 3 (Qthen (WY Tryz.prog cfQ7 2982 (Env.mk (Bs.mk 0 []) 0 none 59 65 2) (cdAt [1,1,1,0,1,0,0,1,1,0,0,1,1,0,0,1,1,1] (bodyOf Tryz.f65)) (Qla 0 [(0:Tmp),(3:Tmp),(4:Tmp),(5:Tmp),(13:Tmp),(14:Tmp),(21:Tmp),(22:Tmp),(23:Tmp),(1000001:Tmp),(4000003:Tmp)] D (Qblk 2 (Qblk 1 (Qthen (WY Tryz.prog cfQ7 2990 (Env.mk (Bs.mk 0 []) 0 none 59 65 0) (cdAt [1,1,1,0,1,0,0,1,1,1] (bodyOf Tryz.f65)) (Qla 0 [(0:Tmp),(3:Tmp),(4:Tmp),(13:Tmp),(14:Tmp),(1000001:Tmp),(4000003:Tmp)] C (Qblk 0 (Qthen (WY Tryz.prog cfQ7 2996 (Env.mk (Bs.mk 0 []) 0 none 59 65 0) (cdAt [1,1,1,1] (bodyOf Tryz.f65)) (QendX Tryz.prog Tryz.f65 fun v h=>R (frzW h v))) (QendX Tryz.prog Tryz.f65 fun v h=>R (frzW h v)))))) (Qla 0 [(0:Tmp),(3:Tmp),(4:Tmp),(13:Tmp),(14:Tmp),(1000001:Tmp),(4000003:Tmp)] C (Qblk 0 (Qthen (WY Tryz.prog cfQ7 2996 (Env.mk (Bs.mk 0 []) 0 none 59 65 0) (cdAt [1,1,1,1] (bodyOf Tryz.f65)) (QendX Tryz.prog Tryz.f65 fun v h=>R (frzW h v))) (QendX Tryz.prog Tryz.f65 fun v h=>R (frzW h v)))))))))) (Qla 0 [(0:Tmp),(3:Tmp),(4:Tmp),(5:Tmp),(13:Tmp),(14:Tmp),(21:Tmp),(22:Tmp),(23:Tmp),(1000001:Tmp),(4000003:Tmp)] D (Qblk 2 (Qblk 1 (Qthen (WY Tryz.prog cfQ7 2990 (Env.mk (Bs.mk 0 []) 0 none 59 65 0) (cdAt [1,1,1,0,1,0,0,1,1,1] (bodyOf Tryz.f65)) (Qla 0 [(0:Tmp),(3:Tmp),(4:Tmp),(13:Tmp),(14:Tmp),(1000001:Tmp),(4000003:Tmp)] C (Qblk 0 (Qthen (WY Tryz.prog cfQ7 2996 (Env.mk (Bs.mk 0 []) 0 none 59 65 0) (cdAt [1,1,1,1] (bodyOf Tryz.f65)) (QendX Tryz.prog Tryz.f65 fun v h=>R (frzW h v))) (QendX Tryz.prog Tryz.f65 fun v h=>R (frzW h v)))))) (Qla 0 [(0:Tmp),(3:Tmp),(4:Tmp),(13:Tmp),(14:Tmp),(1000001:Tmp),(4000003:Tmp)] C (Qblk 0 (Qthen (WY Tryz.prog cfQ7 2996 (Env.mk (Bs.mk 0 []) 0 none 59 65 0) (cdAt [1,1,1,1] (bodyOf Tryz.f65)) (QendX Tryz.prog Tryz.f65 fun v h=>R (frzW h v))) (QendX Tryz.prog Tryz.f65 fun v h=>R (frzW h v)))))))))))) (St.mk (mkT [(0,V.lst 2 (bdl l)),(3,V.mp (Id.p 0)),(4,nilS),(5,iv (↑i:Int)),(6,iv (↑k:Int)),(7,V.ptr (Id.p 1) 0 0),(13,iv (↑m:Int)),(14,iv (↑i:Int)),(21,V.lst 5 (knl y)),(22,iv (↑n:Int)),(23,iv (↑k:Int)),(31,nilS),(32,iv (0:Int)),(33,iv (0:Int))]) (Hp.mk [(0,O.mp (trM [] 0 ms.length es_1)),(1,O.rows 5 false [[iv n_9,iv n_10,iv n_11,V.raw (Value.int IntKind.u8 n_12),V.raw (Value.int IntKind.u8 n_13)]])] 2 [(0,Fam.mk 1 (ms++[]))])))) fun j n_17=>guardB ((Hp.mk [(1,O.rows 5 false [[iv n_9,iv n_10,iv n_11,V.raw (Value.int IntKind.u8 n_12),V.raw (Value.int IntKind.u8 n_13)]]),(0,O.mp es_1)] 2 [(0,Fam.mk 1 ms)]).has (Id.m 0 j)) (guardB (es_1.all (goodE [] 0 true)) (La 0 [(0:Tmp),(3:Tmp),(4:Tmp),(5:Tmp),(6:Tmp),(7:Tmp),(13:Tmp),(14:Tmp),(21:Tmp),(22:Tmp),(23:Tmp),(31:Tmp),(32:Tmp),(33:Tmp),(1000001:Tmp),(4000003:Tmp)] (WY Tryz.prog cfQ7 2977 (Env.mk (Bs.mk 0 []) 0 none 59 65 4) (cdAt [1,1,1,0,1,0,0,1,1,0,0,1,1,0,0,1,1,0,0,1,1,0,0] (bodyOf Tryz.f65))) (Qblk 4 (Qblk 3 (Qthen (WY Tryz.prog cfQ7 2982 (Env.mk (Bs.mk 0 []) 0 none 59 65 2) (cdAt [1,1,1,0,1,0,0,1,1,0,0,1,1,0,0,1,1,1] (bodyOf Tryz.f65)) (Qla 0 [(0:Tmp),(3:Tmp),(4:Tmp),(5:Tmp),(13:Tmp),(14:Tmp),(21:Tmp),(22:Tmp),(23:Tmp),(1000001:Tmp),(4000003:Tmp)] D (Qblk 2 (Qblk 1 (Qthen (WY Tryz.prog cfQ7 2990 (Env.mk (Bs.mk 0 []) 0 none 59 65 0) (cdAt [1,1,1,0,1,0,0,1,1,1] (bodyOf Tryz.f65)) (Qla 0 [(0:Tmp),(3:Tmp),(4:Tmp),(13:Tmp),(14:Tmp),(1000001:Tmp),(4000003:Tmp)] C (Qblk 0 (Qthen (WY Tryz.prog cfQ7 2996 (Env.mk (Bs.mk 0 []) 0 none 59 65 0) (cdAt [1,1,1,1] (bodyOf Tryz.f65)) (QendX Tryz.prog Tryz.f65 fun v h=>R (frzW h v))) (QendX Tryz.prog Tryz.f65 fun v h=>R (frzW h v)))))) (Qla 0 [(0:Tmp),(3:Tmp),(4:Tmp),(13:Tmp),(14:Tmp),(1000001:Tmp),(4000003:Tmp)] C (Qblk 0 (Qthen (WY Tryz.prog cfQ7 2996 (Env.mk (Bs.mk 0 []) 0 none 59 65 0) (cdAt [1,1,1,1] (bodyOf Tryz.f65)) (QendX Tryz.prog Tryz.f65 fun v h=>R (frzW h v))) (QendX Tryz.prog Tryz.f65 fun v h=>R (frzW h v)))))))))) (Qla 0 [(0:Tmp),(3:Tmp),(4:Tmp),(5:Tmp),(13:Tmp),(14:Tmp),(21:Tmp),(22:Tmp),(23:Tmp),(1000001:Tmp),(4000003:Tmp)] D (Qblk 2 (Qblk 1 (Qthen (WY Tryz.prog cfQ7 2990 (Env.mk (Bs.mk 0 []) 0 none 59 65 0) (cdAt [1,1,1,0,1,0,0,1,1,1] (bodyOf Tryz.f65)) (Qla 0 [(0:Tmp),(3:Tmp),(4:Tmp),(13:Tmp),(14:Tmp),(1000001:Tmp),(4000003:Tmp)] C (Qblk 0 (Qthen (WY Tryz.prog cfQ7 2996 (Env.mk (Bs.mk 0 []) 0 none 59 65 0) (cdAt [1,1,1,1] (bodyOf Tryz.f65)) (QendX Tryz.prog Tryz.f65 fun v h=>R (frzW h v))) (QendX Tryz.prog Tryz.f65 fun v h=>R (frzW h v)))))) (Qla 0 [(0:Tmp),(3:Tmp),(4:Tmp),(13:Tmp),(14:Tmp),(1000001:Tmp),(4000003:Tmp)] C (Qblk 0 (Qthen (WY Tryz.prog cfQ7 2996 (Env.mk (Bs.mk 0 []) 0 none 59 65 0) (cdAt [1,1,1,1] (bodyOf Tryz.f65)) (QendX Tryz.prog Tryz.f65 fun v h=>R (frzW h v))) (QendX Tryz.prog Tryz.f65 fun v h=>R (frzW h v)))))))))))) (St.mk (mkT [(0,V.lst 2 (bdl l)),(3,V.mp (Id.p 0)),(4,nilS),(5,iv (↑i:Int)),(6,iv (↑k:Int)),(7,V.ptr (Id.p 1) 0 0),(13,iv (↑m:Int)),(14,iv (↑i:Int)),(21,V.lst 5 (knl y)),(22,iv (↑n:Int)),(23,iv (↑k:Int)),(31,V.sl (Id.m 0 j) 0 n_17),(32,iv (↑n_17:Int)),(33,iv (0:Int))]) (Hp.mk [(0,O.mp (trM [] 0 ms.length es_1)),(1,O.rows 5 false [[iv n_9,iv n_10,iv n_11,V.raw (Value.int IntKind.u8 n_12),V.raw (Value.int IntKind.u8 n_13)]])] 2 [(0,Fam.mk 1 (ms++[]))]))))) (guardB (es_1.all (goodE [] 0 true)) (La 0 [(0:Tmp),(3:Tmp),(4:Tmp),(5:Tmp),(6:Tmp),(7:Tmp),(13:Tmp),(14:Tmp),(21:Tmp),(22:Tmp),(23:Tmp),(31:Tmp),(32:Tmp),(33:Tmp),(1000001:Tmp),(4000003:Tmp)] (WY Tryz.prog cfQ7 2977 (Env.mk (Bs.mk 0 []) 0 none 59 65 4) (cdAt [1,1,1,0,1,0,0,1,1,0,0,1,1,0,0,1,1,0,0,1,1,0,0] (bodyOf Tryz.f65))) (Qblk 4 (Qblk 3 (Qthen (WY Tryz.prog cfQ7 2982 (Env.mk (Bs.mk 0 []) 0 none 59 65 2) (cdAt [1,1,1,0,1,0,0,1,1,0,0,1,1,0,0,1,1,1] (bodyOf Tryz.f65)) (Qla 0 [(0:Tmp),(3:Tmp),(4:Tmp),(5:Tmp),(13:Tmp),(14:Tmp),(21:Tmp),(22:Tmp),(23:Tmp),(1000001:Tmp),(4000003:Tmp)] D (Qblk 2 (Qblk 1 (Qthen (WY Tryz.prog cfQ7 2990 (Env.mk (Bs.mk 0 []) 0 none 59 65 0) (cdAt [1,1,1,0,1,0,0,1,1,1] (bodyOf Tryz.f65)) (Qla 0 [(0:Tmp),(3:Tmp),(4:Tmp),(13:Tmp),(14:Tmp),(1000001:Tmp),(4000003:Tmp)] C (Qblk 0 (Qthen (WY Tryz.prog cfQ7 2996 (Env.mk (Bs.mk 0 []) 0 none 59 65 0) (cdAt [1,1,1,1] (bodyOf Tryz.f65)) (QendX Tryz.prog Tryz.f65 fun v h=>R (frzW h v))) (QendX Tryz.prog Tryz.f65 fun v h=>R (frzW h v)))))) (Qla 0 [(0:Tmp),(3:Tmp),(4:Tmp),(13:Tmp),(14:Tmp),(1000001:Tmp),(4000003:Tmp)] C (Qblk 0 (Qthen (WY Tryz.prog cfQ7 2996 (Env.mk (Bs.mk 0 []) 0 none 59 65 0) (cdAt [1,1,1,1] (bodyOf Tryz.f65)) (QendX Tryz.prog Tryz.f65 fun v h=>R (frzW h v))) (QendX Tryz.prog Tryz.f65 fun v h=>R (frzW h v)))))))))) (Qla 0 [(0:Tmp),(3:Tmp),(4:Tmp),(5:Tmp),(13:Tmp),(14:Tmp),(21:Tmp),(22:Tmp),(23:Tmp),(1000001:Tmp),(4000003:Tmp)] D (Qblk 2 (Qblk 1 (Qthen (WY Tryz.prog cfQ7 2990 (Env.mk (Bs.mk 0 []) 0 none 59 65 0) (cdAt [1,1,1,0,1,0,0,1,1,1] (bodyOf Tryz.f65)) (Qla 0 [(0:Tmp),(3:Tmp),(4:Tmp),(13:Tmp),(14:Tmp),(1000001:Tmp),(4000003:Tmp)] C (Qblk 0 (Qthen (WY Tryz.prog cfQ7 2996 (Env.mk (Bs.mk 0 []) 0 none 59 65 0) (cdAt [1,1,1,1] (bodyOf Tryz.f65)) (QendX Tryz.prog Tryz.f65 fun v h=>R (frzW h v))) (QendX Tryz.prog Tryz.f65 fun v h=>R (frzW h v)))))) (Qla 0 [(0:Tmp),(3:Tmp),(4:Tmp),(13:Tmp),(14:Tmp),(1000001:Tmp),(4000003:Tmp)] C (Qblk 0 (Qthen (WY Tryz.prog cfQ7 2996 (Env.mk (Bs.mk 0 []) 0 none 59 65 0) (cdAt [1,1,1,1] (bodyOf Tryz.f65)) (QendX Tryz.prog Tryz.f65 fun v h=>R (frzW h v))) (QendX Tryz.prog Tryz.f65 fun v h=>R (frzW h v)))))))))))) (St.mk (mkT [(0,V.lst 2 (bdl l)),(3,V.mp (Id.p 0)),(4,nilS),(5,iv (↑i:Int)),(6,iv (↑k:Int)),(7,V.ptr (Id.p 1) 0 0),(13,iv (↑m:Int)),(14,iv (↑i:Int)),(21,V.lst 5 (knl y)),(22,iv (↑n:Int)),(23,iv (↑k:Int)),(31,nilS),(32,iv (0:Int)),(33,iv (0:Int))]) (Hp.mk [(0,O.mp (trM [] 0 ms.length es_1)),(1,O.rows 5 false [[iv n_9,iv n_10,iv n_11,V.raw (Value.int IntKind.u8 n_12),V.raw (Value.int IntKind.u8 n_13)]])] 2 [(0,Fam.mk 1 (ms++[]))])))))) (guardB (es_1.all (goodE [] 0 true)) (C (St.mk (mkT [(0,V.lst 2 (bdl l)),(3,V.mp (Id.p 0)),(4,nilS),(13,iv (↑m:Int)),(14,iv (IntKind.i64.wrap ((↑i:Int)+(1:Int))))]) (Hp.mk [(0,O.mp (trM [] 0 ms.length es_1))] 1 [(0,Fam.mk 1 (ms++[]))]))))) (by kernel_rfl) ?_
   refine ifB_mk (fun e=>?_) (fun e=>?_)
   ·have hk:k<n:=by have:=of_decide_eq_true e; omega
    obtain ⟨o,hoy⟩:=getI (l:=y) (k:=k) (by omega)
    have hko:KnO o:=hyO o (mem_at hoy)
    refine kel hoy (facing108 (k:=o) hko.1.1 hko.1.2 hko.2.2 (onAgg_agg (onCons_cons (onIntK_iv (onCons_cons (onIntK_iv (onCons_cons (onIntK_iv (onNil_nil ?_)))))))))
    by_cases hc:fc o∈T.map (·.1)
    ·obtain ⟨jj,t,h1,h2,h3⟩:=findC_mem 0 hc
     have htm:=List.mem_of_getElem? h1
     have hbr:=own_brs ho htm
     rw [h2] at hbr
     have hmb:memb ms t.2.2=some (t.2.1.map rowI):=by unfold memb; rw [hr.mem t htm]; rfl
     rw [← hr.es] at h3
     refine onFind_iff.2 (.inl ⟨0+jj,_,_,h3,?_⟩)
     refine onMem0 (guardB_mk (by show (memb ms t.2.2).isSome=true; rw [hmb]; rfl) (guardB_mk hgood ?_))
     rw [htr,hms]
     exact see (by kernel_rfl) (loopE k o hk hoy hko hD t.2.2 t.2.1.length t.2.1 hmb rfl hbr false q L gq gL gb)
    ·have h3:=findC_not 0 hc
     rw [← hr.es] at h3
     refine onFind_iff.2 (.inr ⟨h3,guardB_mk hgood ?_⟩)
     rw [htr,hms]
     have hbr:brs l l.length (fc o)=[]:=by
      unfold brs
      rw [List.filter_eq_nil_iff]
      intro b hb hb2
      exact hc (own_find ho (List.mem_range.1 hb) (dc_true hb2))
     have hBs:lkB l i (y.take (k+1))=lkB l i (y.take k):=by
      rw [lkB_succ hoy,hbr]
      simp [lkC]
     refine La.of (σ:=Unit) (fun _=>lN0 l y o es_1 ms m i n k) (fun _=>True) (fun _=>0) () (by kernel_rfl) trivial ?_
     rintro _ _ E hE
     refine see (p:=guardB (es_1.all (goodE [] 0 true)) (D (St.mk (mkT [(0,V.lst 2 (bdl l)),(3,V.mp (Id.p 0)),(4,nilS),(5,iv (↑i:Int)),(13,iv (↑m:Int)),(14,iv (↑i:Int)),(21,V.lst 5 (knl y)),(22,iv (↑n:Int)),(23,iv (IntKind.i64.wrap ((↑k:Int)+(1:Int))))]) (Hp.mk [(0,O.mp (trM [] 0 ms.length es_1))] 1 [(0,Fam.mk 1 (ms++[]))])))) (by kernel_rfl) ?_
     refine guardB_mk hgood ?_
     rw [wr1i hk (by omega)]
     exact hD (false,k+1,q,L,_,_) ⟨hk,gq,by simp only; rw [hBs]; exact gL,gb,htr,hms⟩ (by simp only; omega)
   ·have hk:k=n:=by have:=of_decide_eq_false e; omega
    refine guardB_mk hgood ?_
    rw [wr1i hi (by omega)]
    exact hC (false,i+1,q,L,_,_) ⟨hi,gq,by simp only; rw [lkA_succ,hkn,gL,hk,hny,List.take_length],gb,htr,hms⟩ (by simp only; omega)
  ·refine see (p:=ifB (decide ((↑k:Int)<(↑n:Int))) (onSome (knl y)[k]? fun row=>onCons (List.drop 0 row) fun u r=>onIntK IntKind.i64 u fun n_9=>onCons r fun u r=>onIntK IntKind.i64 u fun n_10=>onCons r fun u r=>onIntK IntKind.i64 u fun n_11=>onCons r fun u r=>onIntK IntKind.u8 u fun n_12=>onCons r fun u r=>onIntK IntKind.u8 u fun n_13=>K0G Tryz.prog glX 108 [V.agg [iv n_9,iv n_10,iv n_11,V.raw (Value.int IntKind.u8 n_12),V.raw (Value.int IntKind.u8 n_13)]] fun v=>onAgg v fun cs=>onCons cs fun u r=>onIntK IntKind.i64 u fun n_14=>onCons r fun u r=>onIntK IntKind.i64 u fun n_15=>onCons r fun u r=>onIntK IntKind.i64 u fun n_16=>onNil r (onFind (findK Tryz.prog 28 (V.agg [iv n_14,iv n_15,iv n_16]) es_1 0) (fun i_2 kv vv=>onMem 0 (bif false then V.tup [vv,bv true] else vv) (guardB (es_1.all (goodE [] 0 true)) (La 0 [(0:Tmp),(3:Tmp),(4:Tmp),(5:Tmp),(6:Tmp),(7:Tmp),(13:Tmp),(14:Tmp),(21:Tmp),(22:Tmp),(23:Tmp),(31:Tmp),(32:Tmp),(33:Tmp),(1000001:Tmp),(4000003:Tmp)] (WY Tryz.prog cfQ7 2977 (Env.mk (Bs.mk 0 []) 0 none 59 65 4) (cdAt [1,1,1,0,1,0,0,1,1,0,0,1,1,0,0,1,1,0,0,1,1,0,0] (bodyOf Tryz.f65))) (Qblk 4 (Qblk 3 (Qthen (WY Tryz.prog cfQ7 2982 (Env.mk (Bs.mk 0 []) 0 none 59 65 2) (cdAt [1,1,1,0,1,0,0,1,1,0,0,1,1,0,0,1,1,1] (bodyOf Tryz.f65)) (Qla 0 [(0:Tmp),(3:Tmp),(4:Tmp),(5:Tmp),(13:Tmp),(14:Tmp),(21:Tmp),(22:Tmp),(23:Tmp),(1000001:Tmp),(4000003:Tmp)] D (Qblk 2 (Qblk 1 (Qthen (WY Tryz.prog cfQ7 2990 (Env.mk (Bs.mk 0 []) 0 none 59 65 0) (cdAt [1,1,1,0,1,0,0,1,1,1] (bodyOf Tryz.f65)) (Qla 0 [(0:Tmp),(3:Tmp),(4:Tmp),(13:Tmp),(14:Tmp),(1000001:Tmp),(4000003:Tmp)] C (Qblk 0 (Qthen (WY Tryz.prog cfQ7 2996 (Env.mk (Bs.mk 0 []) 0 none 59 65 0) (cdAt [1,1,1,1] (bodyOf Tryz.f65)) (QendX Tryz.prog Tryz.f65 fun v h=>R (frzW h v))) (QendX Tryz.prog Tryz.f65 fun v h=>R (frzW h v)))))) (Qla 0 [(0:Tmp),(3:Tmp),(4:Tmp),(13:Tmp),(14:Tmp),(1000001:Tmp),(4000003:Tmp)] C (Qblk 0 (Qthen (WY Tryz.prog cfQ7 2996 (Env.mk (Bs.mk 0 []) 0 none 59 65 0) (cdAt [1,1,1,1] (bodyOf Tryz.f65)) (QendX Tryz.prog Tryz.f65 fun v h=>R (frzW h v))) (QendX Tryz.prog Tryz.f65 fun v h=>R (frzW h v)))))))))) (Qla 0 [(0:Tmp),(3:Tmp),(4:Tmp),(5:Tmp),(13:Tmp),(14:Tmp),(21:Tmp),(22:Tmp),(23:Tmp),(1000001:Tmp),(4000003:Tmp)] D (Qblk 2 (Qblk 1 (Qthen (WY Tryz.prog cfQ7 2990 (Env.mk (Bs.mk 0 []) 0 none 59 65 0) (cdAt [1,1,1,0,1,0,0,1,1,1] (bodyOf Tryz.f65)) (Qla 0 [(0:Tmp),(3:Tmp),(4:Tmp),(13:Tmp),(14:Tmp),(1000001:Tmp),(4000003:Tmp)] C (Qblk 0 (Qthen (WY Tryz.prog cfQ7 2996 (Env.mk (Bs.mk 0 []) 0 none 59 65 0) (cdAt [1,1,1,1] (bodyOf Tryz.f65)) (QendX Tryz.prog Tryz.f65 fun v h=>R (frzW h v))) (QendX Tryz.prog Tryz.f65 fun v h=>R (frzW h v)))))) (Qla 0 [(0:Tmp),(3:Tmp),(4:Tmp),(13:Tmp),(14:Tmp),(1000001:Tmp),(4000003:Tmp)] C (Qblk 0 (Qthen (WY Tryz.prog cfQ7 2996 (Env.mk (Bs.mk 0 []) 0 none 59 65 0) (cdAt [1,1,1,1] (bodyOf Tryz.f65)) (QendX Tryz.prog Tryz.f65 fun v h=>R (frzW h v))) (QendX Tryz.prog Tryz.f65 fun v h=>R (frzW h v)))))))))))) (St.mk (mkT [(0,V.lst 2 (bdl l)),(3,V.mp (Id.p 0)),(4,V.sl (Id.p 1) 0 q),(5,iv (↑i:Int)),(6,iv (↑k:Int)),(7,V.ptr (Id.p 2) 0 0),(13,iv (↑m:Int)),(14,iv (↑i:Int)),(21,V.lst 5 (knl y)),(22,iv (↑n:Int)),(23,iv (↑k:Int)),(31,nilS),(32,iv (0:Int)),(33,iv (0:Int))]) (Hp.mk [(0,O.mp (trM [] 0 ms.length es_1)),(1,O.rows 5 true (lkl L)),(2,O.rows 5 false [[iv n_9,iv n_10,iv n_11,V.raw (Value.int IntKind.u8 n_12),V.raw (Value.int IntKind.u8 n_13)]])] 3 [(0,Fam.mk 1 (ms++[]))])))) fun j n_17=>guardB ((Hp.mk [(2,O.rows 5 false [[iv n_9,iv n_10,iv n_11,V.raw (Value.int IntKind.u8 n_12),V.raw (Value.int IntKind.u8 n_13)]]),(0,O.mp es_1),(1,O.rows 5 true (lkl L))] 3 [(0,Fam.mk 1 ms)]).has (Id.m 0 j)) (guardB (es_1.all (goodE [] 0 true)) (La 0 [(0:Tmp),(3:Tmp),(4:Tmp),(5:Tmp),(6:Tmp),(7:Tmp),(13:Tmp),(14:Tmp),(21:Tmp),(22:Tmp),(23:Tmp),(31:Tmp),(32:Tmp),(33:Tmp),(1000001:Tmp),(4000003:Tmp)] (WY Tryz.prog cfQ7 2977 (Env.mk (Bs.mk 0 []) 0 none 59 65 4) (cdAt [1,1,1,0,1,0,0,1,1,0,0,1,1,0,0,1,1,0,0,1,1,0,0] (bodyOf Tryz.f65))) (Qblk 4 (Qblk 3 (Qthen (WY Tryz.prog cfQ7 2982 (Env.mk (Bs.mk 0 []) 0 none 59 65 2) (cdAt [1,1,1,0,1,0,0,1,1,0,0,1,1,0,0,1,1,1] (bodyOf Tryz.f65)) (Qla 0 [(0:Tmp),(3:Tmp),(4:Tmp),(5:Tmp),(13:Tmp),(14:Tmp),(21:Tmp),(22:Tmp),(23:Tmp),(1000001:Tmp),(4000003:Tmp)] D (Qblk 2 (Qblk 1 (Qthen (WY Tryz.prog cfQ7 2990 (Env.mk (Bs.mk 0 []) 0 none 59 65 0) (cdAt [1,1,1,0,1,0,0,1,1,1] (bodyOf Tryz.f65)) (Qla 0 [(0:Tmp),(3:Tmp),(4:Tmp),(13:Tmp),(14:Tmp),(1000001:Tmp),(4000003:Tmp)] C (Qblk 0 (Qthen (WY Tryz.prog cfQ7 2996 (Env.mk (Bs.mk 0 []) 0 none 59 65 0) (cdAt [1,1,1,1] (bodyOf Tryz.f65)) (QendX Tryz.prog Tryz.f65 fun v h=>R (frzW h v))) (QendX Tryz.prog Tryz.f65 fun v h=>R (frzW h v)))))) (Qla 0 [(0:Tmp),(3:Tmp),(4:Tmp),(13:Tmp),(14:Tmp),(1000001:Tmp),(4000003:Tmp)] C (Qblk 0 (Qthen (WY Tryz.prog cfQ7 2996 (Env.mk (Bs.mk 0 []) 0 none 59 65 0) (cdAt [1,1,1,1] (bodyOf Tryz.f65)) (QendX Tryz.prog Tryz.f65 fun v h=>R (frzW h v))) (QendX Tryz.prog Tryz.f65 fun v h=>R (frzW h v)))))))))) (Qla 0 [(0:Tmp),(3:Tmp),(4:Tmp),(5:Tmp),(13:Tmp),(14:Tmp),(21:Tmp),(22:Tmp),(23:Tmp),(1000001:Tmp),(4000003:Tmp)] D (Qblk 2 (Qblk 1 (Qthen (WY Tryz.prog cfQ7 2990 (Env.mk (Bs.mk 0 []) 0 none 59 65 0) (cdAt [1,1,1,0,1,0,0,1,1,1] (bodyOf Tryz.f65)) (Qla 0 [(0:Tmp),(3:Tmp),(4:Tmp),(13:Tmp),(14:Tmp),(1000001:Tmp),(4000003:Tmp)] C (Qblk 0 (Qthen (WY Tryz.prog cfQ7 2996 (Env.mk (Bs.mk 0 []) 0 none 59 65 0) (cdAt [1,1,1,1] (bodyOf Tryz.f65)) (QendX Tryz.prog Tryz.f65 fun v h=>R (frzW h v))) (QendX Tryz.prog Tryz.f65 fun v h=>R (frzW h v)))))) (Qla 0 [(0:Tmp),(3:Tmp),(4:Tmp),(13:Tmp),(14:Tmp),(1000001:Tmp),(4000003:Tmp)] C (Qblk 0 (Qthen (WY Tryz.prog cfQ7 2996 (Env.mk (Bs.mk 0 []) 0 none 59 65 0) (cdAt [1,1,1,1] (bodyOf Tryz.f65)) (QendX Tryz.prog Tryz.f65 fun v h=>R (frzW h v))) (QendX Tryz.prog Tryz.f65 fun v h=>R (frzW h v)))))))))))) (St.mk (mkT [(0,V.lst 2 (bdl l)),(3,V.mp (Id.p 0)),(4,V.sl (Id.p 1) 0 q),(5,iv (↑i:Int)),(6,iv (↑k:Int)),(7,V.ptr (Id.p 2) 0 0),(13,iv (↑m:Int)),(14,iv (↑i:Int)),(21,V.lst 5 (knl y)),(22,iv (↑n:Int)),(23,iv (↑k:Int)),(31,V.sl (Id.m 0 j) 0 n_17),(32,iv (↑n_17:Int)),(33,iv (0:Int))]) (Hp.mk [(0,O.mp (trM [] 0 ms.length es_1)),(1,O.rows 5 true (lkl L)),(2,O.rows 5 false [[iv n_9,iv n_10,iv n_11,V.raw (Value.int IntKind.u8 n_12),V.raw (Value.int IntKind.u8 n_13)]])] 3 [(0,Fam.mk 1 (ms++[]))]))))) (guardB (es_1.all (goodE [] 0 true)) (La 0 [(0:Tmp),(3:Tmp),(4:Tmp),(5:Tmp),(6:Tmp),(7:Tmp),(13:Tmp),(14:Tmp),(21:Tmp),(22:Tmp),(23:Tmp),(31:Tmp),(32:Tmp),(33:Tmp),(1000001:Tmp),(4000003:Tmp)] (WY Tryz.prog cfQ7 2977 (Env.mk (Bs.mk 0 []) 0 none 59 65 4) (cdAt [1,1,1,0,1,0,0,1,1,0,0,1,1,0,0,1,1,0,0,1,1,0,0] (bodyOf Tryz.f65))) (Qblk 4 (Qblk 3 (Qthen (WY Tryz.prog cfQ7 2982 (Env.mk (Bs.mk 0 []) 0 none 59 65 2) (cdAt [1,1,1,0,1,0,0,1,1,0,0,1,1,0,0,1,1,1] (bodyOf Tryz.f65)) (Qla 0 [(0:Tmp),(3:Tmp),(4:Tmp),(5:Tmp),(13:Tmp),(14:Tmp),(21:Tmp),(22:Tmp),(23:Tmp),(1000001:Tmp),(4000003:Tmp)] D (Qblk 2 (Qblk 1 (Qthen (WY Tryz.prog cfQ7 2990 (Env.mk (Bs.mk 0 []) 0 none 59 65 0) (cdAt [1,1,1,0,1,0,0,1,1,1] (bodyOf Tryz.f65)) (Qla 0 [(0:Tmp),(3:Tmp),(4:Tmp),(13:Tmp),(14:Tmp),(1000001:Tmp),(4000003:Tmp)] C (Qblk 0 (Qthen (WY Tryz.prog cfQ7 2996 (Env.mk (Bs.mk 0 []) 0 none 59 65 0) (cdAt [1,1,1,1] (bodyOf Tryz.f65)) (QendX Tryz.prog Tryz.f65 fun v h=>R (frzW h v))) (QendX Tryz.prog Tryz.f65 fun v h=>R (frzW h v)))))) (Qla 0 [(0:Tmp),(3:Tmp),(4:Tmp),(13:Tmp),(14:Tmp),(1000001:Tmp),(4000003:Tmp)] C (Qblk 0 (Qthen (WY Tryz.prog cfQ7 2996 (Env.mk (Bs.mk 0 []) 0 none 59 65 0) (cdAt [1,1,1,1] (bodyOf Tryz.f65)) (QendX Tryz.prog Tryz.f65 fun v h=>R (frzW h v))) (QendX Tryz.prog Tryz.f65 fun v h=>R (frzW h v)))))))))) (Qla 0 [(0:Tmp),(3:Tmp),(4:Tmp),(5:Tmp),(13:Tmp),(14:Tmp),(21:Tmp),(22:Tmp),(23:Tmp),(1000001:Tmp),(4000003:Tmp)] D (Qblk 2 (Qblk 1 (Qthen (WY Tryz.prog cfQ7 2990 (Env.mk (Bs.mk 0 []) 0 none 59 65 0) (cdAt [1,1,1,0,1,0,0,1,1,1] (bodyOf Tryz.f65)) (Qla 0 [(0:Tmp),(3:Tmp),(4:Tmp),(13:Tmp),(14:Tmp),(1000001:Tmp),(4000003:Tmp)] C (Qblk 0 (Qthen (WY Tryz.prog cfQ7 2996 (Env.mk (Bs.mk 0 []) 0 none 59 65 0) (cdAt [1,1,1,1] (bodyOf Tryz.f65)) (QendX Tryz.prog Tryz.f65 fun v h=>R (frzW h v))) (QendX Tryz.prog Tryz.f65 fun v h=>R (frzW h v)))))) (Qla 0 [(0:Tmp),(3:Tmp),(4:Tmp),(13:Tmp),(14:Tmp),(1000001:Tmp),(4000003:Tmp)] C (Qblk 0 (Qthen (WY Tryz.prog cfQ7 2996 (Env.mk (Bs.mk 0 []) 0 none 59 65 0) (cdAt [1,1,1,1] (bodyOf Tryz.f65)) (QendX Tryz.prog Tryz.f65 fun v h=>R (frzW h v))) (QendX Tryz.prog Tryz.f65 fun v h=>R (frzW h v)))))))))))) (St.mk (mkT [(0,V.lst 2 (bdl l)),(3,V.mp (Id.p 0)),(4,V.sl (Id.p 1) 0 q),(5,iv (↑i:Int)),(6,iv (↑k:Int)),(7,V.ptr (Id.p 2) 0 0),(13,iv (↑m:Int)),(14,iv (↑i:Int)),(21,V.lst 5 (knl y)),(22,iv (↑n:Int)),(23,iv (↑k:Int)),(31,nilS),(32,iv (0:Int)),(33,iv (0:Int))]) (Hp.mk [(0,O.mp (trM [] 0 ms.length es_1)),(1,O.rows 5 true (lkl L)),(2,O.rows 5 false [[iv n_9,iv n_10,iv n_11,V.raw (Value.int IntKind.u8 n_12),V.raw (Value.int IntKind.u8 n_13)]])] 3 [(0,Fam.mk 1 (ms++[]))])))))) (guardB (es_1.all (goodE [] 0 true)) (C (St.mk (mkT [(0,V.lst 2 (bdl l)),(3,V.mp (Id.p 0)),(4,V.sl (Id.p 1) 0 q),(13,iv (↑m:Int)),(14,iv (IntKind.i64.wrap ((↑i:Int)+(1:Int))))]) (Hp.mk [(0,O.mp (trM [] 0 ms.length es_1)),(1,O.rows 5 true (lkl L))] 2 [(0,Fam.mk 1 (ms++[]))]))))) (by kernel_rfl) ?_
   refine ifB_mk (fun e=>?_) (fun e=>?_)
   ·have hk:k<n:=by have:=of_decide_eq_true e; omega
    obtain ⟨o,hoy⟩:=getI (l:=y) (k:=k) (by omega)
    have hko:KnO o:=hyO o (mem_at hoy)
    refine kel hoy (facing108 (k:=o) hko.1.1 hko.1.2 hko.2.2 (onAgg_agg (onCons_cons (onIntK_iv (onCons_cons (onIntK_iv (onCons_cons (onIntK_iv (onNil_nil ?_)))))))))
    by_cases hc:fc o∈T.map (·.1)
    ·obtain ⟨jj,t,h1,h2,h3⟩:=findC_mem 0 hc
     have htm:=List.mem_of_getElem? h1
     have hbr:=own_brs ho htm
     rw [h2] at hbr
     have hmb:memb ms t.2.2=some (t.2.1.map rowI):=by unfold memb; rw [hr.mem t htm]; rfl
     rw [← hr.es] at h3
     refine onFind_iff.2 (.inl ⟨0+jj,_,_,h3,?_⟩)
     refine onMem0 (guardB_mk (by show (memb ms t.2.2).isSome=true; rw [hmb]; rfl) (guardB_mk hgood ?_))
     rw [htr,hms]
     exact see (by kernel_rfl) (loopE k o hk hoy hko hD t.2.2 t.2.1.length t.2.1 hmb rfl hbr true q L gq gL gb)
    ·have h3:=findC_not 0 hc
     rw [← hr.es] at h3
     refine onFind_iff.2 (.inr ⟨h3,guardB_mk hgood ?_⟩)
     rw [htr,hms]
     have hbr:brs l l.length (fc o)=[]:=by
      unfold brs
      rw [List.filter_eq_nil_iff]
      intro b hb hb2
      exact hc (own_find ho (List.mem_range.1 hb) (dc_true hb2))
     have hBs:lkB l i (y.take (k+1))=lkB l i (y.take k):=by
      rw [lkB_succ hoy,hbr]
      simp [lkC]
     refine La.of (σ:=Unit) (fun _=>lS0 l y o L es_1 ms q m i n k) (fun _=>True) (fun _=>0) () (by kernel_rfl) trivial ?_
     rintro _ _ E hE
     refine see (p:=guardB (es_1.all (goodE [] 0 true)) (D (St.mk (mkT [(0,V.lst 2 (bdl l)),(3,V.mp (Id.p 0)),(4,V.sl (Id.p 1) 0 q),(5,iv (↑i:Int)),(13,iv (↑m:Int)),(14,iv (↑i:Int)),(21,V.lst 5 (knl y)),(22,iv (↑n:Int)),(23,iv (IntKind.i64.wrap ((↑k:Int)+(1:Int))))]) (Hp.mk [(0,O.mp (trM [] 0 ms.length es_1)),(1,O.rows 5 true (lkl L))] 2 [(0,Fam.mk 1 (ms++[]))])))) (by kernel_rfl) ?_
     refine guardB_mk hgood ?_
     rw [wr1i hk (by omega)]
     exact hD (true,k+1,q,L,_,_) ⟨hk,gq,by simp only; rw [hBs]; exact gL,gb,htr,hms⟩ (by simp only; omega)
   ·have hk:k=n:=by have:=of_decide_eq_false e; omega
    refine guardB_mk hgood ?_
    rw [wr1i hi (by omega)]
    exact hC (true,i+1,q,L,_,_) ⟨hi,gq,by simp only; rw [lkA_succ,hkn,gL,hk,hny,List.take_length],gb,htr,hms⟩ (by simp only; omega)
 cases bb
 ·refine see (p:=ifB (decide ((↑i:Int)<(↑m:Int))) (onSome (bdl l)[i]? fun row=>onSome row[1]? fun v=>onLst v fun s es=>guardB (es_1.all (goodE [] 0 true)) (La 0 [(0:Tmp),(3:Tmp),(4:Tmp),(5:Tmp),(13:Tmp),(14:Tmp),(21:Tmp),(22:Tmp),(23:Tmp),(1000001:Tmp),(4000003:Tmp)] (WY Tryz.prog cfQ7 2985 (Env.mk (Bs.mk 0 []) 0 none 59 65 2) (cdAt [1,1,1,0,1,0,0,1,1,0,0,1,1,0,0] (bodyOf Tryz.f65))) (Qblk 2 (Qblk 1 (Qthen (WY Tryz.prog cfQ7 2990 (Env.mk (Bs.mk 0 []) 0 none 59 65 0) (cdAt [1,1,1,0,1,0,0,1,1,1] (bodyOf Tryz.f65)) (Qla 0 [(0:Tmp),(3:Tmp),(4:Tmp),(13:Tmp),(14:Tmp),(1000001:Tmp),(4000003:Tmp)] C (Qblk 0 (Qthen (WY Tryz.prog cfQ7 2996 (Env.mk (Bs.mk 0 []) 0 none 59 65 0) (cdAt [1,1,1,1] (bodyOf Tryz.f65)) (QendX Tryz.prog Tryz.f65 fun v h=>R (frzW h v))) (QendX Tryz.prog Tryz.f65 fun v h=>R (frzW h v)))))) (Qla 0 [(0:Tmp),(3:Tmp),(4:Tmp),(13:Tmp),(14:Tmp),(1000001:Tmp),(4000003:Tmp)] C (Qblk 0 (Qthen (WY Tryz.prog cfQ7 2996 (Env.mk (Bs.mk 0 []) 0 none 59 65 0) (cdAt [1,1,1,1] (bodyOf Tryz.f65)) (QendX Tryz.prog Tryz.f65 fun v h=>R (frzW h v))) (QendX Tryz.prog Tryz.f65 fun v h=>R (frzW h v)))))))) (St.mk (mkT [(0,V.lst 2 (bdl l)),(3,V.mp (Id.p 0)),(4,nilS),(5,iv (↑i:Int)),(13,iv (↑m:Int)),(14,iv (↑i:Int)),(21,V.lst s es),(22,iv (↑es.length:Int)),(23,iv (0:Int))]) (Hp.mk [(0,O.mp (trM [] 0 ms.length es_1))] 1 [(0,Fam.mk 1 (ms++[]))])))) (KM Tryz.prog glX 110 [nilS,V.fn (Fn.func 111) [] []] (Hp.mk [] 0 []) (poQ7 110 [nilS,V.fn (Fn.func 111) [] []]) fun v us=>onTup v fun vs=>onNil vs (R nilS))) (by kernel_rfl) ?_
  refine ifB_mk (fun d=>?_) (fun d=>?_)
  ·have hi:i<m:=by have:=of_decide_eq_true d; omega
   obtain ⟨b', hb⟩:=getI (l:=l) (k:=i) (by omega)
   have hrow:(bdl l)[i]? = some (bdr b'):=by simp [bdl,hb]
   have hkn:knobsAt l i=b'.2:=by unfold knobsAt; rw [hb]; rfl
   refine onSome_mk hrow (onSome_mk (x:=V.lst 5 (knl b'.2)) rfl (onLst_lst (guardB_mk hgood ?_)))
   rw [knl_length,htr,hms]
   exact see (by kernel_rfl) (loopD hi b'.2 b'.2.length hkn rfl (hO b' (mem_at hb)) (hk1000 b' (mem_at hb)) false q L gq (by rw [gL]; simp [lkB]) gb)
  ·have hi:i=m:=by have:=of_decide_eq_false d; omega
   have hL:L=lkA l l.length:=by rw [gL,hi,hml]
   refine sort110n rfl (onTup_tup (onNil_nil (hR0 ?_)))
   rw [← hL]
   exact gb rfl
 ·refine see (p:=ifB (decide ((↑i:Int)<(↑m:Int))) (onSome (bdl l)[i]? fun row=>onSome row[1]? fun v=>onLst v fun s es=>guardB (es_1.all (goodE [] 0 true)) (La 0 [(0:Tmp),(3:Tmp),(4:Tmp),(5:Tmp),(13:Tmp),(14:Tmp),(21:Tmp),(22:Tmp),(23:Tmp),(1000001:Tmp),(4000003:Tmp)] (WY Tryz.prog cfQ7 2985 (Env.mk (Bs.mk 0 []) 0 none 59 65 2) (cdAt [1,1,1,0,1,0,0,1,1,0,0,1,1,0,0] (bodyOf Tryz.f65))) (Qblk 2 (Qblk 1 (Qthen (WY Tryz.prog cfQ7 2990 (Env.mk (Bs.mk 0 []) 0 none 59 65 0) (cdAt [1,1,1,0,1,0,0,1,1,1] (bodyOf Tryz.f65)) (Qla 0 [(0:Tmp),(3:Tmp),(4:Tmp),(13:Tmp),(14:Tmp),(1000001:Tmp),(4000003:Tmp)] C (Qblk 0 (Qthen (WY Tryz.prog cfQ7 2996 (Env.mk (Bs.mk 0 []) 0 none 59 65 0) (cdAt [1,1,1,1] (bodyOf Tryz.f65)) (QendX Tryz.prog Tryz.f65 fun v h=>R (frzW h v))) (QendX Tryz.prog Tryz.f65 fun v h=>R (frzW h v)))))) (Qla 0 [(0:Tmp),(3:Tmp),(4:Tmp),(13:Tmp),(14:Tmp),(1000001:Tmp),(4000003:Tmp)] C (Qblk 0 (Qthen (WY Tryz.prog cfQ7 2996 (Env.mk (Bs.mk 0 []) 0 none 59 65 0) (cdAt [1,1,1,1] (bodyOf Tryz.f65)) (QendX Tryz.prog Tryz.f65 fun v h=>R (frzW h v))) (QendX Tryz.prog Tryz.f65 fun v h=>R (frzW h v)))))))) (St.mk (mkT [(0,V.lst 2 (bdl l)),(3,V.mp (Id.p 0)),(4,V.sl (Id.p 1) 0 q),(5,iv (↑i:Int)),(13,iv (↑m:Int)),(14,iv (↑i:Int)),(21,V.lst s es),(22,iv (↑es.length:Int)),(23,iv (0:Int))]) (Hp.mk [(0,O.mp (trM [] 0 ms.length es_1)),(1,O.rows 5 true (lkl L))] 2 [(0,Fam.mk 1 (ms++[]))])))) (KM Tryz.prog glX 110 [V.sl (Id.p 0) 0 q,V.fn (Fn.func 111) [] []] (Hp.mk [(0,O.rows 5 true (lkl L))] 1 []) (poQ7 110 [V.sl (Id.p 1) 0 q,V.fn (Fn.func 111) [] []]) fun v us=>onTup v fun vs=>onNil vs (R (V.lst 5 (sub (List.getD us 0 []) 0 q))))) (by kernel_rfl) ?_
  refine ifB_mk (fun d=>?_) (fun d=>?_)
  ·have hi:i<m:=by have:=of_decide_eq_true d; omega
   obtain ⟨b', hb⟩:=getI (l:=l) (k:=i) (by omega)
   have hrow:(bdl l)[i]? = some (bdr b'):=by simp [bdl,hb]
   have hkn:knobsAt l i=b'.2:=by unfold knobsAt; rw [hb]; rfl
   refine onSome_mk hrow (onSome_mk (x:=V.lst 5 (knl b'.2)) rfl (onLst_lst (guardB_mk hgood ?_)))
   rw [knl_length,htr,hms]
   exact see (by kernel_rfl) (loopD hi b'.2 b'.2.length hkn rfl (hO b' (mem_at hb)) (hk1000 b' (mem_at hb)) true q L gq (by rw [gL]; simp [lkB]) gb)
  ·have hi:i=m:=by have:=of_decide_eq_false d; omega
   have hL:L=lkA l l.length:=by rw [gL,hi,hml]
   rw [gq]
   refine sort110 (l:=L) (by have h1:=lkA_len' hl hk1000 i; have h2:i * 40000000≤40 * 40000000:=Nat.mul_le_mul_right _ (by omega); rw [gL]; omega) (fun us=>rfl) (fun l' hp hs=>onTup_tup (onNil_nil ?_))
   have e:sub ([lkl l'].getD 0 []) 0 L.length=lkl l' := by
    show sub (lkl l') 0 L.length=lkl l'
    rw [← hp.length_eq,← lkl_length,sub,List.drop_zero,List.take_length]
   rw [e]
   exact hR l' (hL ▸ hp) hs
set_option maxRecDepth 100000
noncomputable def cfR8:Cfg:={ cfgG Tryz.prog glX moZ poP (rtP fN) (inN []) (fun _ _=>none) with clean:=fun g=>true }
set_option maxRecDepth 10000
theorem hcR8:cfR8.ok Tryz.prog:=by
 have h:(cfgG Tryz.prog glX moZ poP (rtP fN) (inN []) (fun _ _=>none)).ok Tryz.prog:=cfgG_ok (rtP_ok fN)
 exact ⟨h.1,h.2⟩
structure BodOK (l:List Bdy):Prop where
 n40:l.length≤40
 c1000 : ∀ b∈l,b.1.length≤1000
 k1000 : ∀ b∈l,b.2.length≤1000
 cn : ∀ b∈l,b.1.Nodup
 ko : ∀ b∈l, ∀ o∈b.2,KnO o
 fac : ∀ b∈l,Fac b.2
 kn : ∀ b∈l,b.2.Nodup
 at_ : ∀ b∈l, ∀ o∈b.2,o.1∈b.1
theorem ptRg {n:Nat} (hn:n<24) {d:Int} (hd:0≤d∧d≤5):0≤pt n d∧pt n d≤5:=by
 have key : ∀ n,n<24 → ∀ d,d<6→0≤(ptL.getD n []).getD d 0∧(ptL.getD n []).getD d 0≤5:=by decide
 exact key n hn d.toNat (by omega)
theorem bod_ok {l:List Kd} {m:List Bk} (hl : ∀ q∈l,KdR q) (hr : ∀ b∈m,BkR b) (hA:AskM l m):BodOK (bods l m):=by
 obtain ⟨a1,a2,a3⟩:=bods_ok hl hr hA
 have each : ∀ b∈bods l m, ∃ q n d,b=(plc q n d,knb q n d)∧KnbP q∧n<24∧Bd 1000 d∧KindP q:=by
  intro b hb
  obtain ⟨c,hc,rfl⟩:=List.mem_map.1 hb
  obtain ⟨hP,h2,h3,h4⟩:=putK hA.kinds hl (hA.all c hc) (hr c hc)
  exact ⟨_,_,_,rfl,h2,hP.t24,h3,h4⟩
 refine ⟨a1,a2,?_,a3,?_,?_,?_,?_⟩
 ·intro b hb
  obtain ⟨q,n,d,rfl,hq,hn,hd,hk⟩:=each b hb
  show (knb q n d).length≤1000
  rw [knb_length]
  have:=hq.put.2.2.2
  omega
 ·intro b hb o ho
  obtain ⟨q,n,d,rfl,hq,hn,hd,hk⟩:=each b hb
  obtain ⟨x,hx,rfl⟩:=List.mem_map.1 ho
  have h1:=hq.put.2.2.1 x hx
  have h2:=(hk.2.1.2.1 x hx).2.1
  refine ⟨ptRg hn h1.2,h2,?_⟩
  exact (add_bd (tn_bd (h1.1.mono (c := -15) (d:=15) (by omega) (by omega))) hd).mono (by omega)
 ·intro b hb
  obtain ⟨q,n,d,rfl,hq,hn,hd,hk⟩:=each b hb
  exact knb_fac hq hn
 ·intro b hb
  obtain ⟨q,n,d,rfl,hq,hn,hd,hk⟩:=each b hb
  exact knb_nodup hq hn
 ·intro b hb o ho
  obtain ⟨q,n,d,rfl,hq,hn,hd,hk⟩:=each b hb
  obtain ⟨x,hx,rfl⟩:=List.mem_map.1 ho
  show addC (tn n x.1) d∈plc q n d
  unfold plc
  rw [(sortC_perm _).mem_iff]
  exact List.mem_map.2 ⟨x.1,(hk.2.1.2.1 x hx).2.2.1,rfl⟩
def LkP (l:List Bdy) (x:Lk) (a b i j:Nat) (k o:Kn):Prop:=a<b∧b<l.length∧(knobsAt l a)[i]? = some k∧(knobsAt l b)[j]? = some o∧MeetP k o∧x=((a:Int),(b:Int),(i:Int),(j:Int),mn o.2.2 k.2.2)
theorem mem_lko {k:Kn} {a b i:Int} {y:List Kn} {x:Lk}:x∈lko k a b i y ↔ ∃ j o,y[j]? = some o∧MeetP k o∧x=(a,b,i,((j:Nat):Int),mn o.2.2 k.2.2):=by
 unfold lko
 rw [List.mem_filterMap]
 constructor
 ·rintro ⟨⟨o,j⟩,h1,h2⟩
  rw [List.mem_zipIdx_iff_getElem?] at h1
  simp only at h1 h2
  split at h2
  ·rename_i hm
   exact ⟨j,o,h1,dc_true hm,by simpa using h2.symm⟩
  ·cases h2
 ·rintro ⟨j,o,h1,h2,h3⟩
  exact ⟨(o,j),List.mem_zipIdx_iff_getElem?.2 h1,by simp only; rw [if_pos (dc_t h2),h3]⟩
theorem knobsAt_mem {l:List Bdy} {b j:Nat} {o:Kn} (h:(knobsAt l b)[j]? = some o) : ∃ x,l[b]? = some x∧x.2[j]? = some o:=by
 unfold knobsAt at h
 cases hb:l[b]? with
 | none=>rw [hb] at h; simp at h
 | some x=>rw [hb] at h; exact ⟨x,rfl,h⟩
theorem mem_lkA {l:List Bdy} (hB:BodOK l) {x:Lk}:x∈lkA l l.length ↔ ∃ a b i j k o,LkP l x a b i j k o:=by
 unfold lkA
 rw [List.mem_flatMap]
 constructor
 ·rintro ⟨a,ha,h⟩
  unfold lkB at h
  rw [List.mem_flatMap] at h
  obtain ⟨⟨k,i⟩,h1,h⟩:=h
  rw [List.mem_zipIdx_iff_getElem?] at h1
  unfold lkC at h
  rw [List.mem_flatMap] at h
  obtain ⟨b,h2,h⟩:=h
  split at h
  ·rename_i hab
   rw [mem_lko] at h
   obtain ⟨j,o,h3,h4,h5⟩:=h
   have:b<l.length:=by
    unfold brs at h2
    exact List.mem_range.1 (List.mem_filter.1 h2).1
   exact ⟨a,b,i,j,k,o,hab,this,h1,h3,h4,h5⟩
  ·simp at h
 ·rintro ⟨a,b,i,j,k,o,hab,hb,h1,h3,h4,h5⟩
  refine ⟨a,List.mem_range.2 (by omega),?_⟩
  unfold lkB
  rw [List.mem_flatMap]
  refine ⟨(k,i),List.mem_zipIdx_iff_getElem?.2 h1,?_⟩
  unfold lkC
  rw [List.mem_flatMap]
  refine ⟨b,?_,by rw [if_pos hab,mem_lko]; exact ⟨j,o,h3,h4,h5⟩⟩
  unfold brs
  refine List.mem_filter.2 ⟨List.mem_range.2 hb,dc_t ?_⟩
  obtain ⟨y,hy,hyo⟩:=knobsAt_mem h3
  have:=hB.at_ y (mem_at hy) o (mem_at hyo)
  rw [h4.1]
  unfold cellsAt
  rw [hy]
  exact this
noncomputable def lnk (l:List Bdy):List Lk:=(List.range l.length).flatMap fun a=>(List.range l.length).flatMap fun b=>if a<b then (knobsAt l a).zipIdx.flatMap fun o=>lko o.1 (a:Int) (b:Int) (o.2:Int) (knobsAt l b) else []
theorem mem_lnk {l:List Bdy} {x:Lk}:x∈lnk l ↔ ∃ a b i j k o,LkP l x a b i j k o:=by
 unfold lnk
 rw [List.mem_flatMap]
 constructor
 ·rintro ⟨a,ha,h⟩
  rw [List.mem_flatMap] at h
  obtain ⟨b,hb,h⟩:=h
  split at h
  ·rename_i hab
   rw [List.mem_flatMap] at h
   obtain ⟨⟨k,i⟩,h1,h⟩:=h
   rw [List.mem_zipIdx_iff_getElem?] at h1
   rw [mem_lko] at h
   obtain ⟨j,o,h3,h4,h5⟩:=h
   exact ⟨a,b,i,j,k,o,hab,List.mem_range.1 hb,h1,h3,h4,h5⟩
  ·simp at h
 ·rintro ⟨a,b,i,j,k,o,hab,hb,h1,h3,h4,h5⟩
  refine ⟨a,List.mem_range.2 (by omega),?_⟩
  rw [List.mem_flatMap]
  refine ⟨b,List.mem_range.2 hb,?_⟩
  rw [if_pos hab,List.mem_flatMap]
  exact ⟨(k,i),List.mem_zipIdx_iff_getElem?.2 h1,mem_lko.2 ⟨j,o,h3,h4,h5⟩⟩
def Of1 (x y:Lk):Prop:=x.1<y.1∨x.1=y.1∧(x.2.2.1<y.2.2.1∨x.2.2.1=y.2.2.1∧(x.2.1<y.2.1∨x.2.1=y.2.1∧x.2.2.2.1<y.2.2.2.1))
def Of2 (x y:Lk):Prop:=x.1<y.1∨x.1=y.1∧(x.2.1<y.2.1∨x.2.1=y.2.1∧(x.2.2.1<y.2.2.1∨x.2.2.1=y.2.2.1∧x.2.2.2.1<y.2.2.2.1))
theorem zip_pw {α:Type} (l:List α) (n:Nat):(l.zipIdx n).Pairwise fun a b=>a.2<b.2:=by
 induction l generalizing n with
 | nil=>simp
 | cons x l ih =>
  rw [List.zipIdx_cons,List.pairwise_cons]
  refine ⟨fun p hp=>?_,ih (n+1)⟩
  have:=List.le_snd_of_mem_zipIdx hp
  simp only
  omega
theorem lko_pw (k:Kn) (a b i:Int) (y:List Kn):(lko k a b i y).Pairwise fun x z=>x.2.2.2.1<z.2.2.2.1:=by
 unfold lko
 refine List.Pairwise.filterMap _ ?_ (zip_pw y 0)
 intro p q hpq u hu v hv
 split at hu
 ·split at hv
  ·cases hu; cases hv; simp only; omega
  ·cases hv
 ·cases hu
theorem lko_at {k:Kn} {a b i:Int} {y:List Kn} {x:Lk} (h:x∈lko k a b i y):x.1=a∧x.2.1=b∧x.2.2.1=i:=by
 obtain ⟨j,o,_,_,rfl⟩:=mem_lko.1 h
 exact ⟨rfl,rfl,rfl⟩
theorem lkA_pw (l:List Bdy) (n:Nat):(lkA l n).Pairwise Of1:=by
 unfold lkA
 rw [List.pairwise_flatMap]
 have atB : ∀ {a:Nat} {y:List Kn} {x:Lk},x∈lkB l a y→x.1=(a:Int):=fun {a y x} h=>by
  unfold lkB at h
  obtain ⟨o,_,h⟩:=List.mem_flatMap.1 h
  obtain ⟨b,_,h⟩:=List.mem_flatMap.1 h
  split at h
  ·exact (lko_at h).1
  ·simp at h
 refine ⟨fun a _=>?_,(List.pairwise_lt_range).imp (fun {a b} hab x hx y hy => .inl (by rw [atB hx,atB hy]; omega))⟩
 unfold lkB
 rw [List.pairwise_flatMap]
 have atC : ∀ {i:Nat} {k:Kn} {bs:List Nat} {x:Lk},x∈lkC l a i k bs→x.1=(a:Int)∧x.2.2.1=(i:Int):=fun {i k bs x} h=>by
  obtain ⟨b,_,h⟩:=List.mem_flatMap.1 h
  split at h
  ·exact ⟨(lko_at h).1,(lko_at h).2.2⟩
  ·simp at h
 refine ⟨fun o _=>?_,(zip_pw _ 0).imp (fun {p q} hpq x hx y hy => .inr ⟨by rw [(atC hx).1,(atC hy).1],.inl (by rw [(atC hx).2,(atC hy).2]; omega)⟩)⟩
 unfold lkC
 rw [List.pairwise_flatMap]
 refine ⟨fun b _=>?_,?_⟩
 ·split
  ·refine (lko_pw ..).imp_of_mem (fun {x y} hx hy h=>?_)
   have h1:=lko_at hx
   have h2:=lko_at hy
   exact .inr ⟨by rw [h1.1,h2.1],.inr ⟨by rw [h1.2.2,h2.2.2],.inr ⟨by rw [h1.2.1,h2.2.1],h⟩⟩⟩
  ·exact List.Pairwise.nil
 ·have:(brs l l.length (fc o.1)).Pairwise (· < ·):=(List.pairwise_lt_range).filter _
  refine this.imp (fun {b c} hbc x hx y hy=>?_)
  split at hx
  ·split at hy
   ·have h1:=lko_at hx
    have h2:=lko_at hy
    exact .inr ⟨by rw [h1.1,h2.1],.inr ⟨by rw [h1.2.2,h2.2.2],.inl (by rw [h1.2.1,h2.2.1]; omega)⟩⟩
   ·simp at hy
  ·simp at hx
theorem lnk_pw (l:List Bdy):(lnk l).Pairwise Of2:=by
 unfold lnk
 rw [List.pairwise_flatMap]
 have atB : ∀ {a b:Nat} {x:Lk},x∈(if a<b then (knobsAt l a).zipIdx.flatMap fun o=>lko o.1 (a:Int) (b:Int) (o.2:Int) (knobsAt l b) else [])→x.1=(a:Int)∧x.2.1=(b:Int):=fun {a b x} h=>by
  split at h
  ·obtain ⟨o,_,h⟩:=List.mem_flatMap.1 h
   exact ⟨(lko_at h).1,(lko_at h).2.1⟩
  ·simp at h
 refine ⟨fun a _=>?_,(List.pairwise_lt_range).imp (fun {a b} hab x hx y hy=>?_)⟩
 ·rw [List.pairwise_flatMap]
  refine ⟨fun b _=>?_,(List.pairwise_lt_range).imp (fun {b c} hbc x hx y hy => .inr ⟨by rw [(atB hx).1,(atB hy).1],.inl (by rw [(atB hx).2,(atB hy).2]; omega)⟩)⟩
  split
  ·rw [List.pairwise_flatMap]
   refine ⟨fun o _=>?_,(zip_pw _ 0).imp (fun {p q} hpq x hx y hy=>?_)⟩
   ·refine (lko_pw ..).imp_of_mem (fun {x y} hx hy h=>?_)
    have h1:=lko_at hx
    have h2:=lko_at hy
    exact .inr ⟨by rw [h1.1,h2.1],.inr ⟨by rw [h1.2.1,h2.2.1],.inr ⟨by rw [h1.2.2,h2.2.2],h⟩⟩⟩
   ·have h1:=lko_at hx
    have h2:=lko_at hy
    exact .inr ⟨by rw [h1.1,h2.1],.inr ⟨by rw [h1.2.1,h2.2.1],.inl (by rw [h1.2.2,h2.2.2]; omega)⟩⟩
  ·exact List.Pairwise.nil
 ·obtain ⟨u,_,hx⟩:=List.mem_flatMap.1 hx
  obtain ⟨v,_,hy⟩:=List.mem_flatMap.1 hy
  exact .inl (by rw [(atB hx).1,(atB hy).1]; omega)
theorem Of1.nodup {l:List Lk} (h:l.Pairwise Of1):l.Nodup:=h.imp (fun {a b} h e=>by rw [e] at h; unfold Of1 at h; omega)
theorem Of2.nodup {l:List Lk} (h:l.Pairwise Of2):l.Nodup:=h.imp (fun {a b} h e=>by rw [e] at h; unfold Of2 at h; omega)
theorem lkA_perm {l:List Bdy} (hB:BodOK l):(lkA l l.length).Perm (lnk l):=by
 rw [List.perm_ext_iff_of_nodup (Of1.nodup (lkA_pw ..)) (Of2.nodup (lnk_pw l))]
 intro x
 rw [mem_lkA hB,mem_lnk]
theorem meet_one {l:List Bdy} (hB:BodOK l) {x y:Lk} {a b i j a' b' i' j' : Nat} {k o k' o' : Kn} (h:LkP l x a b i j k o) (h' : LkP l y a' b' i' j' k' o') (e1:x.1=y.1) (e2:x.2.1=y.2.1) (e3:x.2.2.1=y.2.2.1):x=y:=by
 obtain ⟨_,_,h1,h2,h3,rfl⟩:=h
 obtain ⟨_,_,g1,g2,g3,rfl⟩:=h'
 simp only at e1 e2 e3
 have ea:a=a' := by omega
 have eb:b=b' := by omega
 have ei:i=i' := by omega
 subst ea eb ei
 have ek:k=k' := by rw [h1] at g1; exact Option.some.inj g1
 subst ek
 obtain ⟨z,hz,hzo⟩:=knobsAt_mem h2
 obtain ⟨z', hz', hzo'⟩:=knobsAt_mem g2
 rw [hz] at hz'
 cases hz'
 have eo:o=o' := hB.fac z (mem_at hz) o (mem_at hzo) o' (mem_at hzo') (h3.1.symm.trans g3.1) (h3.2.1.trans g3.2.1.symm)
 subst eo
 have:j=j' := by
  obtain ⟨a1,a2⟩:=List.getElem?_eq_some_iff.1 hzo
  obtain ⟨b1,b2⟩:=List.getElem?_eq_some_iff.1 hzo'
  exact (List.getElem_inj (h₀:=a1) (h₁:=b1) (hB.kn z (mem_at hz))).1 (by rw [a2,b2])
 subst this
 rfl
theorem lnk_uniq {l:List Bdy} (hB:BodOK l) {l' : List Lk} (hp:l'.Perm (lkA l l.length)) (hs:l'.Pairwise fun a b => ¬ BefL b a):l' = lnk l:=by
 have hq:=hp.trans (lkA_perm hB)
 refine List.Perm.eq_of_pairwise (le:=fun a b => ¬ BefL b a) (fun x y hx hy h1 h2=>?_) hs ((lnk_pw l).imp (fun {a b} h h' => by unfold Of2 at h; unfold BefL at h'; omega)) hq
 obtain ⟨a,b,i,j,k,o,h⟩:=mem_lnk.1 (hq.mem_iff.1 hx)
 obtain ⟨a', b', i', j', k', o', h'⟩:=mem_lnk.1 hy
 unfold BefL at h1 h2
 exact meet_one hB h h' (by omega) (by omega) (by omega)
theorem links65 {l:List Bdy} {R:V→Prop} (hB:BodOK l) (h0:lnk l=[]→R nilS) (h:R (.lst 5 (lkl (lnk l)))):K0G Tryz.prog glX 65 [.lst 2 (bdl l)] R :=
 own65 hB.n40 hB.c1000 hB.cn (fun T es ms hr ho=>links_rest hB.n40 hB.k1000 hB.ko hr ho (fun e=>h0 (by have:=(lkA_perm hB).length_eq; rw [e] at this; exact List.length_eq_zero_iff.1 this.symm)) (fun l' hp hs=>by rw [lnk_uniq hB hp hs]; exact h))
theorem links29 {l:List Kd} {m:List Bk} {R:V→Prop} (hl : ∀ q∈l,KdR q) (hll:(l.length:Int)≤1000000) (hml:m.length≤1000000) (hr : ∀ b∈m,BkR b) (h1 : ∀ e,errM l m e→e≠0→R (.tup [nilS,iv e])) (h2:OkM l m→lnk (bods l m)=[]→R (.tup [nilS,iv 0])∧R (.tup [.lst 0 [],iv 0])) (h3:OkM l m→R (.tup [.lst 5 (lkl (lnk (bods l m))),iv 0])):K0G Tryz.prog glX 29 [.lst 3 (kdl l),.agg [.lst 6 (bkl m)]] R:=by
 refine K0_by hmX hcR8 3000 Tryz.func29 (p:=K0G Tryz.prog glX 64 [V.lst 3 (kdl l),V.agg [V.lst 6 (bkl m)]] fun v=>onTup v fun vs=>onCons vs fun u r=>onLst u fun s es=>onCons r fun u r=>onIntK IntKind.i64 u fun n=>onNil r (ifB (n != (0:Int)) (R (V.tup [nilS,iv n])) (K0G Tryz.prog glX 65 [V.lst s es] fun v=>onLst v fun s es=>R (V.tup [V.lst s es,iv (0:Int)])))) (by kernel_rfl) ?_
 refine valid64 hl hll hml hr (fun e he hne=>⟨onTup_tup (onCons_cons (onLst_nil (onCons_cons (onIntK_iv (onNil_nil (ifB_t (by simpa using hne) (h1 e he hne))))))),onTup_tup (onCons_cons (onLst_lst (onCons_cons (onIntK_iv (onNil_nil (ifB_t (by simpa using hne) (h1 e he hne)))))))⟩) (fun hA=>?_)
 refine onTup_tup (onCons_cons (onLst_lst (onCons_cons (onIntK_iv (onNil_nil (ifB_f rfl ?_))))))
 exact links65 (bod_ok hl hr hA.ask) (fun e=>onLst_nil (h2 hA e).2) (onLst_lst (h3 hA))
set_option maxRecDepth 100000
abbrev Jt:=Int×Int×Int×Int×Bool
set_option maxRecDepth 10000
theorem lel {L:List Lk} {i:Nat} {x:Lk} {k:Int→Int→Int→Int→Int→Prop} (h:L[i]? = some x) (hk:k x.1 x.2.1 x.2.2.1 x.2.2.2.1 x.2.2.2.2):onSome (lkl L)[i]? fun row=>onCons (List.drop 0 row) fun u r=>onIntK IntKind.i64 u fun n=>onCons r fun u r=>onIntK IntKind.i64 u fun n_1=>onCons r fun u r=>onIntK IntKind.i64 u fun n_2=>onCons r fun u r=>onIntK IntKind.i64 u fun n_3=>onCons r fun u r=>onIntK IntKind.u8 u fun n_4=>k n n_1 n_2 n_3 n_4:=onSome_mk (x:=lkr x) (by simp [lkl,h]) hk
end Go.Proofs.YtbionhgjgcpogaaGreatDoor
