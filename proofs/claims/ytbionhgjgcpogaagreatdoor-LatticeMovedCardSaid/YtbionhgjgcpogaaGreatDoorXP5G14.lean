/- A part of the proof. -/
import Derived.Test.YtbionhgjgcpogaaGreatDoorProg
import Derived.Test.YtbionhgjgcpogaaGreatDoorXP5G10
import Derived.Test.YtbionhgjgcpogaaGreatDoorXP5G11
import Derived.Test.YtbionhgjgcpogaaGreatDoorXP5G13
namespace Go.Proofs.YtbionhgjgcpogaaGreatDoor
open Go Go.Proofs.YtbionhgjgcpogaaGreatDoor.Clean
set_option linter.unusedVariables false
set_option linter.unusedSimpArgs false
set_option maxRecDepth 10000
theorem onMem0 {j len:Nat} {p:Prop} {q:Nat→Nat→Prop} (h:q j len):onMem 0 (V.sl (Id.m 0 j) 0 len) p q:=h
theorem cm_zero (l:List Bdy) (x:List Cl):List.replicate 40 (bv false)=cmV (Mk l x 0):=by
 rw [← cmV_zero]
 exact cmV_ext (fun o=>⟨fun h=>h.elim,fun h=>by obtain ⟨c,h,_⟩:=h; simp at h⟩)
theorem inn_len (l:List Bdy) (i n:Nat):(inn l i n).length≤n:=by
 unfold inn
 rw [List.length_map]
 have:=List.length_filter_le (fun o=>decide (i<o)&&dc (Comm l i o)) (List.range n)
 simpa using this
theorem ovl_len (l:List Bdy) : ∀ i,(ovl l i).length≤i * l.length
 | 0=>by simp [ovl]
 | i+1=>by
  rw [ovl_succ,List.length_append,Nat.succ_mul]
  have:=ovl_len l i
  have:=inn_len l i l.length
  omega
noncomputable def ovlV (l:List Bdy):V:=match ovl l l.length with | []=>nilS | p::ps => .lst 2 (prl (p::ps))
theorem over_rest {l:List Bdy} {R:V→Prop} (hl:l.length≤40) (hl30 : ∀ b∈l,b.1.length≤1000) {T:List Ow} {es:List (V×V)} {ms:List (Option (List (List V)))} (hr:Rep T es ms) (ho:OwnI l l.length [] 0 T) (hR:R (ovlV l)):La 0 [(0:Tmp),(3:Tmp),(4:Tmp),(14:Tmp),(15:Tmp),(16:Tmp),(1000001:Tmp),(4000003:Tmp)] (WY Tryz.prog cfO 2993 (Env.mk (Bs.mk 0 []) 0 none 60 106 0) (cdAt [1,1,1,0,1,0,0] (bodyOf Tryz.f106))) (Qblk 0 (Qthen (WY Tryz.prog cfO 2996 (Env.mk (Bs.mk 0 []) 0 none 60 106 0) (cdAt [1,1,1,1] (bodyOf Tryz.f106)) (QendX Tryz.prog Tryz.f106 fun v h=>R (frzW h v))) (QendX Tryz.prog Tryz.f106 fun v h=>R (frzW h v)))) (St.mk (mkT [(0,V.lst 2 (bdl l)),(3,V.mp (Id.p 0)),(4,nilS),(14,V.lst 2 (bdl l)),(15,iv (↑(bdl l).length:Int)),(16,iv (0:Int))]) (Hp.mk [(0,O.mp (trM [] 0 ms.length es))] 1 [(0,Fam.mk 1 (ms++[]))])):=by
 have hgood:es.all (goodE [] 0 true)=true:=by rw [hr.es]; exact good_ent _ _
 have htr:trM [] 0 ms.length es=es:=by rw [hr.es,trM_ent]
 have hms:ms++[]=ms:=List.append_nil ms
 obtain ⟨m,hm⟩ : ∃ m,m=(bdl l).length:=⟨_,rfl⟩
 rw [← hm]
 have hml:m=l.length:=by rw [hm]; simp [bdl]
 refine La.of (σ:=Bool×Nat×Nat×List (Nat×Nat)×List (V×V)×List (Option (List (List V)))) (fun s=>match s.1 with | false=>oNa l s.2.2.2.2.1 s.2.2.2.2.2 m s.2.1 | true=>oSa l s.2.2.2.1 s.2.2.2.2.1 s.2.2.2.2.2 s.2.2.1 m s.2.1) (fun s=>s.2.1≤m∧s.2.2.2.2.1=es∧s.2.2.2.2.2=ms∧s.2.2.1=s.2.2.2.1.length∧s.2.2.2.1=ovl l s.2.1∧(s.1=false→s.2.2.2.1=[])∧(s.1=true→s.2.2.2.1≠[])) (fun s=>m - s.2.1) (false,0,0,[],_,_) (by kernel_rfl) ⟨by simp only; omega,htr,hms,rfl,rfl,(fun _=>rfl),(fun h=>by cases h)⟩ ?_
 rintro ⟨bb,i,q,ps,es_1,ms⟩ ⟨g1,ge,gm,gq,gp,gb,gb2⟩ C hC
 simp only at g1 ge gm gq gp gb gb2
 subst ge gm
 cases bb
 ·refine see (p:=ifB (decide ((↑i:Int)<(↑m:Int))) (onSome (bdl l)[i]? fun row=>onSome row[0]? fun v=>onLst v fun s es=>guardB (es_1.all (goodE [] 0 true)) (La 0 [(0:Tmp),(3:Tmp),(4:Tmp),(5:Tmp),(6:Tmp),(14:Tmp),(15:Tmp),(16:Tmp),(23:Tmp),(24:Tmp),(25:Tmp),(1000001:Tmp),(4000003:Tmp)] (WY Tryz.prog cfO 2983 (Env.mk (Bs.mk 0 []) 0 none 60 106 2) (cdAt [1,1,1,0,1,0,0,1,1,0,0,1,1,0,1,0,0] (bodyOf Tryz.f106))) (Qblk 2 (Qthen (WY Tryz.prog cfO 2986 (Env.mk (Bs.mk 0 []) 0 none 60 106 1) (cdAt [1,1,1,0,1,0,0,1,1,0,0,1,1,1] (bodyOf Tryz.f106)) (Qblk 1 (Qthen (WY Tryz.prog cfO 2990 (Env.mk (Bs.mk 0 []) 0 none 60 106 0) (cdAt [1,1,1,0,1,0,0,1,1,1] (bodyOf Tryz.f106)) (Qla 0 [(0:Tmp),(3:Tmp),(4:Tmp),(14:Tmp),(15:Tmp),(16:Tmp),(1000001:Tmp),(4000003:Tmp)] C (Qblk 0 (Qthen (WY Tryz.prog cfO 2996 (Env.mk (Bs.mk 0 []) 0 none 60 106 0) (cdAt [1,1,1,1] (bodyOf Tryz.f106)) (QendX Tryz.prog Tryz.f106 fun v h=>R (frzW h v))) (QendX Tryz.prog Tryz.f106 fun v h=>R (frzW h v)))))) (Qla 0 [(0:Tmp),(3:Tmp),(4:Tmp),(14:Tmp),(15:Tmp),(16:Tmp),(1000001:Tmp),(4000003:Tmp)] C (Qblk 0 (Qthen (WY Tryz.prog cfO 2996 (Env.mk (Bs.mk 0 []) 0 none 60 106 0) (cdAt [1,1,1,1] (bodyOf Tryz.f106)) (QendX Tryz.prog Tryz.f106 fun v h=>R (frzW h v))) (QendX Tryz.prog Tryz.f106 fun v h=>R (frzW h v)))))))) (Qblk 1 (Qthen (WY Tryz.prog cfO 2990 (Env.mk (Bs.mk 0 []) 0 none 60 106 0) (cdAt [1,1,1,0,1,0,0,1,1,1] (bodyOf Tryz.f106)) (Qla 0 [(0:Tmp),(3:Tmp),(4:Tmp),(14:Tmp),(15:Tmp),(16:Tmp),(1000001:Tmp),(4000003:Tmp)] C (Qblk 0 (Qthen (WY Tryz.prog cfO 2996 (Env.mk (Bs.mk 0 []) 0 none 60 106 0) (cdAt [1,1,1,1] (bodyOf Tryz.f106)) (QendX Tryz.prog Tryz.f106 fun v h=>R (frzW h v))) (QendX Tryz.prog Tryz.f106 fun v h=>R (frzW h v)))))) (Qla 0 [(0:Tmp),(3:Tmp),(4:Tmp),(14:Tmp),(15:Tmp),(16:Tmp),(1000001:Tmp),(4000003:Tmp)] C (Qblk 0 (Qthen (WY Tryz.prog cfO 2996 (Env.mk (Bs.mk 0 []) 0 none 60 106 0) (cdAt [1,1,1,1] (bodyOf Tryz.f106)) (QendX Tryz.prog Tryz.f106 fun v h=>R (frzW h v))) (QendX Tryz.prog Tryz.f106 fun v h=>R (frzW h v))))))))) (St.mk (mkT [(0,V.lst 2 (bdl l)),(3,V.mp (Id.p 0)),(4,nilS),(5,iv (↑i:Int)),(6,V.ptr (Id.p 1) 0 0),(14,V.lst 2 (bdl l)),(15,iv (↑m:Int)),(16,iv (↑i:Int)),(23,V.lst s es),(24,iv (↑es.length:Int)),(25,iv (0:Int))]) (Hp.mk [(0,O.mp (trM [] 0 ms.length es_1)),(1,O.rows 40 true [[bv false,bv false,bv false,bv false,bv false,bv false,bv false,bv false,bv false,bv false,bv false,bv false,bv false,bv false,bv false,bv false,bv false,bv false,bv false,bv false,bv false,bv false,bv false,bv false,bv false,bv false,bv false,bv false,bv false,bv false,bv false,bv false,bv false,bv false,bv false,bv false,bv false,bv false,bv false,bv false]])] 2 [(0,Fam.mk 1 (ms++[]))])))) (R nilS)) (by kernel_rfl) ?_
  refine ifB_mk (fun d=>?_) (fun d=>?_)
  rotate_left
  ·have hi:i=m:=by have:=of_decide_eq_false d; omega
   have hov:ovl l l.length=ps:=by rw [← hml,← hi,gp]
   rw [gb rfl] at hov
   unfold ovlV at hR
   rw [hov] at hR
   exact hR
  have hi:i<m:=by have:=of_decide_eq_true d; omega
  obtain ⟨b', hb⟩:=getI (l:=l) (k:=i) (by omega)
  have hbm:=mem_at hb
  have hrow:(bdl l)[i]? = some (bdr b'):=by simp [bdl,hb]
  refine onSome_mk hrow (onSome_mk (x:=V.lst 3 (cll b'.1)) rfl (onLst_lst (guardB_mk hgood ?_)))
  obtain ⟨x,hx⟩ : ∃ x,x=b'.1:=⟨_,rfl⟩
  rw [← hx]
  obtain ⟨n,hnn⟩ : ∃ n,n=(cll x).length:=⟨_,rfl⟩
  rw [← hnn]
  have hnx:n=x.length:=by rw [hnn,cll_length]
  have hx1000:x.length≤1000:=by rw [hx]; exact hl30 b' hbm
  have hxc:cellsAt l i=x:=by unfold cellsAt; rw [hb,hx]; rfl
  refine La.of (σ:=Nat×List V×List (V×V)×List (Option (List (List V)))) (fun s=>oNb l x s.2.1 s.2.2.1 s.2.2.2 m i n s.1) (fun s=>s.1≤n∧s.2.1=cmV (Mk l x s.1)∧s.2.2.1=es_1∧s.2.2.2=ms) (fun s=>n - s.1) (0,List.replicate 40 (bv false),_,_) (by kernel_rfl) ⟨by omega,cm_zero l x,htr,hms⟩ ?_
  rintro ⟨k,cm,es_1,ms⟩ ⟨f1,hcm,ge,gm⟩ D hD
  simp only at f1 hcm ge gm
  subst ge gm
  refine see (p:=ifB (decide ((↑k:Int)<(↑n:Int))) (onSome (cll x)[k]? fun row=>onCons (List.drop 0 row) fun u r=>onIntK IntKind.i64 u fun n_1=>onCons r fun u r=>onIntK IntKind.i64 u fun n_2=>onCons r fun u r=>onIntK IntKind.i64 u fun n_3=>onFind (findK Tryz.prog 28 (V.agg [iv n_1,iv n_2,iv n_3]) es_1 0) (fun i_1 kv vv=>onMem 0 (bif false then V.tup [vv,bv true] else vv) (guardB (es_1.all (goodE [] 0 true)) (La 0 [(0:Tmp),(3:Tmp),(4:Tmp),(5:Tmp),(6:Tmp),(14:Tmp),(15:Tmp),(16:Tmp),(23:Tmp),(24:Tmp),(25:Tmp),(31:Tmp),(32:Tmp),(33:Tmp),(1000001:Tmp),(4000003:Tmp)] (WY Tryz.prog cfO 2975 (Env.mk (Bs.mk 0 []) 0 none 60 106 4) (cdAt [1,1,1,0,1,0,0,1,1,0,0,1,1,0,1,0,0,1,1,0,0,1,1,0,0] (bodyOf Tryz.f106))) (Qblk 4 (Qblk 3 (Qthen (WY Tryz.prog cfO 2980 (Env.mk (Bs.mk 0 []) 0 none 60 106 2) (cdAt [1,1,1,0,1,0,0,1,1,0,0,1,1,0,1,0,0,1,1,1] (bodyOf Tryz.f106)) (Qla 0 [(0:Tmp),(3:Tmp),(4:Tmp),(5:Tmp),(6:Tmp),(14:Tmp),(15:Tmp),(16:Tmp),(23:Tmp),(24:Tmp),(25:Tmp),(1000001:Tmp),(4000003:Tmp)] D (Qblk 2 (Qthen (WY Tryz.prog cfO 2986 (Env.mk (Bs.mk 0 []) 0 none 60 106 1) (cdAt [1,1,1,0,1,0,0,1,1,0,0,1,1,1] (bodyOf Tryz.f106)) (Qblk 1 (Qthen (WY Tryz.prog cfO 2990 (Env.mk (Bs.mk 0 []) 0 none 60 106 0) (cdAt [1,1,1,0,1,0,0,1,1,1] (bodyOf Tryz.f106)) (Qla 0 [(0:Tmp),(3:Tmp),(4:Tmp),(14:Tmp),(15:Tmp),(16:Tmp),(1000001:Tmp),(4000003:Tmp)] C (Qblk 0 (Qthen (WY Tryz.prog cfO 2996 (Env.mk (Bs.mk 0 []) 0 none 60 106 0) (cdAt [1,1,1,1] (bodyOf Tryz.f106)) (QendX Tryz.prog Tryz.f106 fun v h=>R (frzW h v))) (QendX Tryz.prog Tryz.f106 fun v h=>R (frzW h v)))))) (Qla 0 [(0:Tmp),(3:Tmp),(4:Tmp),(14:Tmp),(15:Tmp),(16:Tmp),(1000001:Tmp),(4000003:Tmp)] C (Qblk 0 (Qthen (WY Tryz.prog cfO 2996 (Env.mk (Bs.mk 0 []) 0 none 60 106 0) (cdAt [1,1,1,1] (bodyOf Tryz.f106)) (QendX Tryz.prog Tryz.f106 fun v h=>R (frzW h v))) (QendX Tryz.prog Tryz.f106 fun v h=>R (frzW h v)))))))) (Qblk 1 (Qthen (WY Tryz.prog cfO 2990 (Env.mk (Bs.mk 0 []) 0 none 60 106 0) (cdAt [1,1,1,0,1,0,0,1,1,1] (bodyOf Tryz.f106)) (Qla 0 [(0:Tmp),(3:Tmp),(4:Tmp),(14:Tmp),(15:Tmp),(16:Tmp),(1000001:Tmp),(4000003:Tmp)] C (Qblk 0 (Qthen (WY Tryz.prog cfO 2996 (Env.mk (Bs.mk 0 []) 0 none 60 106 0) (cdAt [1,1,1,1] (bodyOf Tryz.f106)) (QendX Tryz.prog Tryz.f106 fun v h=>R (frzW h v))) (QendX Tryz.prog Tryz.f106 fun v h=>R (frzW h v)))))) (Qla 0 [(0:Tmp),(3:Tmp),(4:Tmp),(14:Tmp),(15:Tmp),(16:Tmp),(1000001:Tmp),(4000003:Tmp)] C (Qblk 0 (Qthen (WY Tryz.prog cfO 2996 (Env.mk (Bs.mk 0 []) 0 none 60 106 0) (cdAt [1,1,1,1] (bodyOf Tryz.f106)) (QendX Tryz.prog Tryz.f106 fun v h=>R (frzW h v))) (QendX Tryz.prog Tryz.f106 fun v h=>R (frzW h v))))))))))) (Qla 0 [(0:Tmp),(3:Tmp),(4:Tmp),(5:Tmp),(6:Tmp),(14:Tmp),(15:Tmp),(16:Tmp),(23:Tmp),(24:Tmp),(25:Tmp),(1000001:Tmp),(4000003:Tmp)] D (Qblk 2 (Qthen (WY Tryz.prog cfO 2986 (Env.mk (Bs.mk 0 []) 0 none 60 106 1) (cdAt [1,1,1,0,1,0,0,1,1,0,0,1,1,1] (bodyOf Tryz.f106)) (Qblk 1 (Qthen (WY Tryz.prog cfO 2990 (Env.mk (Bs.mk 0 []) 0 none 60 106 0) (cdAt [1,1,1,0,1,0,0,1,1,1] (bodyOf Tryz.f106)) (Qla 0 [(0:Tmp),(3:Tmp),(4:Tmp),(14:Tmp),(15:Tmp),(16:Tmp),(1000001:Tmp),(4000003:Tmp)] C (Qblk 0 (Qthen (WY Tryz.prog cfO 2996 (Env.mk (Bs.mk 0 []) 0 none 60 106 0) (cdAt [1,1,1,1] (bodyOf Tryz.f106)) (QendX Tryz.prog Tryz.f106 fun v h=>R (frzW h v))) (QendX Tryz.prog Tryz.f106 fun v h=>R (frzW h v)))))) (Qla 0 [(0:Tmp),(3:Tmp),(4:Tmp),(14:Tmp),(15:Tmp),(16:Tmp),(1000001:Tmp),(4000003:Tmp)] C (Qblk 0 (Qthen (WY Tryz.prog cfO 2996 (Env.mk (Bs.mk 0 []) 0 none 60 106 0) (cdAt [1,1,1,1] (bodyOf Tryz.f106)) (QendX Tryz.prog Tryz.f106 fun v h=>R (frzW h v))) (QendX Tryz.prog Tryz.f106 fun v h=>R (frzW h v)))))))) (Qblk 1 (Qthen (WY Tryz.prog cfO 2990 (Env.mk (Bs.mk 0 []) 0 none 60 106 0) (cdAt [1,1,1,0,1,0,0,1,1,1] (bodyOf Tryz.f106)) (Qla 0 [(0:Tmp),(3:Tmp),(4:Tmp),(14:Tmp),(15:Tmp),(16:Tmp),(1000001:Tmp),(4000003:Tmp)] C (Qblk 0 (Qthen (WY Tryz.prog cfO 2996 (Env.mk (Bs.mk 0 []) 0 none 60 106 0) (cdAt [1,1,1,1] (bodyOf Tryz.f106)) (QendX Tryz.prog Tryz.f106 fun v h=>R (frzW h v))) (QendX Tryz.prog Tryz.f106 fun v h=>R (frzW h v)))))) (Qla 0 [(0:Tmp),(3:Tmp),(4:Tmp),(14:Tmp),(15:Tmp),(16:Tmp),(1000001:Tmp),(4000003:Tmp)] C (Qblk 0 (Qthen (WY Tryz.prog cfO 2996 (Env.mk (Bs.mk 0 []) 0 none 60 106 0) (cdAt [1,1,1,1] (bodyOf Tryz.f106)) (QendX Tryz.prog Tryz.f106 fun v h=>R (frzW h v))) (QendX Tryz.prog Tryz.f106 fun v h=>R (frzW h v))))))))))))) (St.mk (mkT [(0,V.lst 2 (bdl l)),(3,V.mp (Id.p 0)),(4,nilS),(5,iv (↑i:Int)),(6,V.ptr (Id.p 1) 0 0),(14,V.lst 2 (bdl l)),(15,iv (↑m:Int)),(16,iv (↑i:Int)),(23,V.lst 3 (cll x)),(24,iv (↑n:Int)),(25,iv (↑k:Int)),(31,nilS),(32,iv (0:Int)),(33,iv (0:Int))]) (Hp.mk [(0,O.mp (trM [] 0 ms.length es_1)),(1,O.rows 40 true [cm])] 2 [(0,Fam.mk 1 (ms++[]))])))) fun j n_4=>guardB ((Hp.mk [(2,O.rows 3 false [[iv n_1,iv n_2,iv n_3]]),(0,O.mp es_1),(1,O.rows 40 true [cm])] 3 [(0,Fam.mk 1 ms)]).has (Id.m 0 j)) (guardB (es_1.all (goodE [] 0 true)) (La 0 [(0:Tmp),(3:Tmp),(4:Tmp),(5:Tmp),(6:Tmp),(14:Tmp),(15:Tmp),(16:Tmp),(23:Tmp),(24:Tmp),(25:Tmp),(31:Tmp),(32:Tmp),(33:Tmp),(1000001:Tmp),(4000003:Tmp)] (WY Tryz.prog cfO 2975 (Env.mk (Bs.mk 0 []) 0 none 60 106 4) (cdAt [1,1,1,0,1,0,0,1,1,0,0,1,1,0,1,0,0,1,1,0,0,1,1,0,0] (bodyOf Tryz.f106))) (Qblk 4 (Qblk 3 (Qthen (WY Tryz.prog cfO 2980 (Env.mk (Bs.mk 0 []) 0 none 60 106 2) (cdAt [1,1,1,0,1,0,0,1,1,0,0,1,1,0,1,0,0,1,1,1] (bodyOf Tryz.f106)) (Qla 0 [(0:Tmp),(3:Tmp),(4:Tmp),(5:Tmp),(6:Tmp),(14:Tmp),(15:Tmp),(16:Tmp),(23:Tmp),(24:Tmp),(25:Tmp),(1000001:Tmp),(4000003:Tmp)] D (Qblk 2 (Qthen (WY Tryz.prog cfO 2986 (Env.mk (Bs.mk 0 []) 0 none 60 106 1) (cdAt [1,1,1,0,1,0,0,1,1,0,0,1,1,1] (bodyOf Tryz.f106)) (Qblk 1 (Qthen (WY Tryz.prog cfO 2990 (Env.mk (Bs.mk 0 []) 0 none 60 106 0) (cdAt [1,1,1,0,1,0,0,1,1,1] (bodyOf Tryz.f106)) (Qla 0 [(0:Tmp),(3:Tmp),(4:Tmp),(14:Tmp),(15:Tmp),(16:Tmp),(1000001:Tmp),(4000003:Tmp)] C (Qblk 0 (Qthen (WY Tryz.prog cfO 2996 (Env.mk (Bs.mk 0 []) 0 none 60 106 0) (cdAt [1,1,1,1] (bodyOf Tryz.f106)) (QendX Tryz.prog Tryz.f106 fun v h=>R (frzW h v))) (QendX Tryz.prog Tryz.f106 fun v h=>R (frzW h v)))))) (Qla 0 [(0:Tmp),(3:Tmp),(4:Tmp),(14:Tmp),(15:Tmp),(16:Tmp),(1000001:Tmp),(4000003:Tmp)] C (Qblk 0 (Qthen (WY Tryz.prog cfO 2996 (Env.mk (Bs.mk 0 []) 0 none 60 106 0) (cdAt [1,1,1,1] (bodyOf Tryz.f106)) (QendX Tryz.prog Tryz.f106 fun v h=>R (frzW h v))) (QendX Tryz.prog Tryz.f106 fun v h=>R (frzW h v)))))))) (Qblk 1 (Qthen (WY Tryz.prog cfO 2990 (Env.mk (Bs.mk 0 []) 0 none 60 106 0) (cdAt [1,1,1,0,1,0,0,1,1,1] (bodyOf Tryz.f106)) (Qla 0 [(0:Tmp),(3:Tmp),(4:Tmp),(14:Tmp),(15:Tmp),(16:Tmp),(1000001:Tmp),(4000003:Tmp)] C (Qblk 0 (Qthen (WY Tryz.prog cfO 2996 (Env.mk (Bs.mk 0 []) 0 none 60 106 0) (cdAt [1,1,1,1] (bodyOf Tryz.f106)) (QendX Tryz.prog Tryz.f106 fun v h=>R (frzW h v))) (QendX Tryz.prog Tryz.f106 fun v h=>R (frzW h v)))))) (Qla 0 [(0:Tmp),(3:Tmp),(4:Tmp),(14:Tmp),(15:Tmp),(16:Tmp),(1000001:Tmp),(4000003:Tmp)] C (Qblk 0 (Qthen (WY Tryz.prog cfO 2996 (Env.mk (Bs.mk 0 []) 0 none 60 106 0) (cdAt [1,1,1,1] (bodyOf Tryz.f106)) (QendX Tryz.prog Tryz.f106 fun v h=>R (frzW h v))) (QendX Tryz.prog Tryz.f106 fun v h=>R (frzW h v))))))))))) (Qla 0 [(0:Tmp),(3:Tmp),(4:Tmp),(5:Tmp),(6:Tmp),(14:Tmp),(15:Tmp),(16:Tmp),(23:Tmp),(24:Tmp),(25:Tmp),(1000001:Tmp),(4000003:Tmp)] D (Qblk 2 (Qthen (WY Tryz.prog cfO 2986 (Env.mk (Bs.mk 0 []) 0 none 60 106 1) (cdAt [1,1,1,0,1,0,0,1,1,0,0,1,1,1] (bodyOf Tryz.f106)) (Qblk 1 (Qthen (WY Tryz.prog cfO 2990 (Env.mk (Bs.mk 0 []) 0 none 60 106 0) (cdAt [1,1,1,0,1,0,0,1,1,1] (bodyOf Tryz.f106)) (Qla 0 [(0:Tmp),(3:Tmp),(4:Tmp),(14:Tmp),(15:Tmp),(16:Tmp),(1000001:Tmp),(4000003:Tmp)] C (Qblk 0 (Qthen (WY Tryz.prog cfO 2996 (Env.mk (Bs.mk 0 []) 0 none 60 106 0) (cdAt [1,1,1,1] (bodyOf Tryz.f106)) (QendX Tryz.prog Tryz.f106 fun v h=>R (frzW h v))) (QendX Tryz.prog Tryz.f106 fun v h=>R (frzW h v)))))) (Qla 0 [(0:Tmp),(3:Tmp),(4:Tmp),(14:Tmp),(15:Tmp),(16:Tmp),(1000001:Tmp),(4000003:Tmp)] C (Qblk 0 (Qthen (WY Tryz.prog cfO 2996 (Env.mk (Bs.mk 0 []) 0 none 60 106 0) (cdAt [1,1,1,1] (bodyOf Tryz.f106)) (QendX Tryz.prog Tryz.f106 fun v h=>R (frzW h v))) (QendX Tryz.prog Tryz.f106 fun v h=>R (frzW h v)))))))) (Qblk 1 (Qthen (WY Tryz.prog cfO 2990 (Env.mk (Bs.mk 0 []) 0 none 60 106 0) (cdAt [1,1,1,0,1,0,0,1,1,1] (bodyOf Tryz.f106)) (Qla 0 [(0:Tmp),(3:Tmp),(4:Tmp),(14:Tmp),(15:Tmp),(16:Tmp),(1000001:Tmp),(4000003:Tmp)] C (Qblk 0 (Qthen (WY Tryz.prog cfO 2996 (Env.mk (Bs.mk 0 []) 0 none 60 106 0) (cdAt [1,1,1,1] (bodyOf Tryz.f106)) (QendX Tryz.prog Tryz.f106 fun v h=>R (frzW h v))) (QendX Tryz.prog Tryz.f106 fun v h=>R (frzW h v)))))) (Qla 0 [(0:Tmp),(3:Tmp),(4:Tmp),(14:Tmp),(15:Tmp),(16:Tmp),(1000001:Tmp),(4000003:Tmp)] C (Qblk 0 (Qthen (WY Tryz.prog cfO 2996 (Env.mk (Bs.mk 0 []) 0 none 60 106 0) (cdAt [1,1,1,1] (bodyOf Tryz.f106)) (QendX Tryz.prog Tryz.f106 fun v h=>R (frzW h v))) (QendX Tryz.prog Tryz.f106 fun v h=>R (frzW h v))))))))))))) (St.mk (mkT [(0,V.lst 2 (bdl l)),(3,V.mp (Id.p 0)),(4,nilS),(5,iv (↑i:Int)),(6,V.ptr (Id.p 1) 0 0),(14,V.lst 2 (bdl l)),(15,iv (↑m:Int)),(16,iv (↑i:Int)),(23,V.lst 3 (cll x)),(24,iv (↑n:Int)),(25,iv (↑k:Int)),(31,V.sl (Id.m 0 j) 0 n_4),(32,iv (↑n_4:Int)),(33,iv (0:Int))]) (Hp.mk [(0,O.mp (trM [] 0 ms.length es_1)),(1,O.rows 40 true [cm])] 2 [(0,Fam.mk 1 (ms++[]))]))))) (guardB (es_1.all (goodE [] 0 true)) (La 0 [(0:Tmp),(3:Tmp),(4:Tmp),(5:Tmp),(6:Tmp),(14:Tmp),(15:Tmp),(16:Tmp),(23:Tmp),(24:Tmp),(25:Tmp),(31:Tmp),(32:Tmp),(33:Tmp),(1000001:Tmp),(4000003:Tmp)] (WY Tryz.prog cfO 2975 (Env.mk (Bs.mk 0 []) 0 none 60 106 4) (cdAt [1,1,1,0,1,0,0,1,1,0,0,1,1,0,1,0,0,1,1,0,0,1,1,0,0] (bodyOf Tryz.f106))) (Qblk 4 (Qblk 3 (Qthen (WY Tryz.prog cfO 2980 (Env.mk (Bs.mk 0 []) 0 none 60 106 2) (cdAt [1,1,1,0,1,0,0,1,1,0,0,1,1,0,1,0,0,1,1,1] (bodyOf Tryz.f106)) (Qla 0 [(0:Tmp),(3:Tmp),(4:Tmp),(5:Tmp),(6:Tmp),(14:Tmp),(15:Tmp),(16:Tmp),(23:Tmp),(24:Tmp),(25:Tmp),(1000001:Tmp),(4000003:Tmp)] D (Qblk 2 (Qthen (WY Tryz.prog cfO 2986 (Env.mk (Bs.mk 0 []) 0 none 60 106 1) (cdAt [1,1,1,0,1,0,0,1,1,0,0,1,1,1] (bodyOf Tryz.f106)) (Qblk 1 (Qthen (WY Tryz.prog cfO 2990 (Env.mk (Bs.mk 0 []) 0 none 60 106 0) (cdAt [1,1,1,0,1,0,0,1,1,1] (bodyOf Tryz.f106)) (Qla 0 [(0:Tmp),(3:Tmp),(4:Tmp),(14:Tmp),(15:Tmp),(16:Tmp),(1000001:Tmp),(4000003:Tmp)] C (Qblk 0 (Qthen (WY Tryz.prog cfO 2996 (Env.mk (Bs.mk 0 []) 0 none 60 106 0) (cdAt [1,1,1,1] (bodyOf Tryz.f106)) (QendX Tryz.prog Tryz.f106 fun v h=>R (frzW h v))) (QendX Tryz.prog Tryz.f106 fun v h=>R (frzW h v)))))) (Qla 0 [(0:Tmp),(3:Tmp),(4:Tmp),(14:Tmp),(15:Tmp),(16:Tmp),(1000001:Tmp),(4000003:Tmp)] C (Qblk 0 (Qthen (WY Tryz.prog cfO 2996 (Env.mk (Bs.mk 0 []) 0 none 60 106 0) (cdAt [1,1,1,1] (bodyOf Tryz.f106)) (QendX Tryz.prog Tryz.f106 fun v h=>R (frzW h v))) (QendX Tryz.prog Tryz.f106 fun v h=>R (frzW h v)))))))) (Qblk 1 (Qthen (WY Tryz.prog cfO 2990 (Env.mk (Bs.mk 0 []) 0 none 60 106 0) (cdAt [1,1,1,0,1,0,0,1,1,1] (bodyOf Tryz.f106)) (Qla 0 [(0:Tmp),(3:Tmp),(4:Tmp),(14:Tmp),(15:Tmp),(16:Tmp),(1000001:Tmp),(4000003:Tmp)] C (Qblk 0 (Qthen (WY Tryz.prog cfO 2996 (Env.mk (Bs.mk 0 []) 0 none 60 106 0) (cdAt [1,1,1,1] (bodyOf Tryz.f106)) (QendX Tryz.prog Tryz.f106 fun v h=>R (frzW h v))) (QendX Tryz.prog Tryz.f106 fun v h=>R (frzW h v)))))) (Qla 0 [(0:Tmp),(3:Tmp),(4:Tmp),(14:Tmp),(15:Tmp),(16:Tmp),(1000001:Tmp),(4000003:Tmp)] C (Qblk 0 (Qthen (WY Tryz.prog cfO 2996 (Env.mk (Bs.mk 0 []) 0 none 60 106 0) (cdAt [1,1,1,1] (bodyOf Tryz.f106)) (QendX Tryz.prog Tryz.f106 fun v h=>R (frzW h v))) (QendX Tryz.prog Tryz.f106 fun v h=>R (frzW h v))))))))))) (Qla 0 [(0:Tmp),(3:Tmp),(4:Tmp),(5:Tmp),(6:Tmp),(14:Tmp),(15:Tmp),(16:Tmp),(23:Tmp),(24:Tmp),(25:Tmp),(1000001:Tmp),(4000003:Tmp)] D (Qblk 2 (Qthen (WY Tryz.prog cfO 2986 (Env.mk (Bs.mk 0 []) 0 none 60 106 1) (cdAt [1,1,1,0,1,0,0,1,1,0,0,1,1,1] (bodyOf Tryz.f106)) (Qblk 1 (Qthen (WY Tryz.prog cfO 2990 (Env.mk (Bs.mk 0 []) 0 none 60 106 0) (cdAt [1,1,1,0,1,0,0,1,1,1] (bodyOf Tryz.f106)) (Qla 0 [(0:Tmp),(3:Tmp),(4:Tmp),(14:Tmp),(15:Tmp),(16:Tmp),(1000001:Tmp),(4000003:Tmp)] C (Qblk 0 (Qthen (WY Tryz.prog cfO 2996 (Env.mk (Bs.mk 0 []) 0 none 60 106 0) (cdAt [1,1,1,1] (bodyOf Tryz.f106)) (QendX Tryz.prog Tryz.f106 fun v h=>R (frzW h v))) (QendX Tryz.prog Tryz.f106 fun v h=>R (frzW h v)))))) (Qla 0 [(0:Tmp),(3:Tmp),(4:Tmp),(14:Tmp),(15:Tmp),(16:Tmp),(1000001:Tmp),(4000003:Tmp)] C (Qblk 0 (Qthen (WY Tryz.prog cfO 2996 (Env.mk (Bs.mk 0 []) 0 none 60 106 0) (cdAt [1,1,1,1] (bodyOf Tryz.f106)) (QendX Tryz.prog Tryz.f106 fun v h=>R (frzW h v))) (QendX Tryz.prog Tryz.f106 fun v h=>R (frzW h v)))))))) (Qblk 1 (Qthen (WY Tryz.prog cfO 2990 (Env.mk (Bs.mk 0 []) 0 none 60 106 0) (cdAt [1,1,1,0,1,0,0,1,1,1] (bodyOf Tryz.f106)) (Qla 0 [(0:Tmp),(3:Tmp),(4:Tmp),(14:Tmp),(15:Tmp),(16:Tmp),(1000001:Tmp),(4000003:Tmp)] C (Qblk 0 (Qthen (WY Tryz.prog cfO 2996 (Env.mk (Bs.mk 0 []) 0 none 60 106 0) (cdAt [1,1,1,1] (bodyOf Tryz.f106)) (QendX Tryz.prog Tryz.f106 fun v h=>R (frzW h v))) (QendX Tryz.prog Tryz.f106 fun v h=>R (frzW h v)))))) (Qla 0 [(0:Tmp),(3:Tmp),(4:Tmp),(14:Tmp),(15:Tmp),(16:Tmp),(1000001:Tmp),(4000003:Tmp)] C (Qblk 0 (Qthen (WY Tryz.prog cfO 2996 (Env.mk (Bs.mk 0 []) 0 none 60 106 0) (cdAt [1,1,1,1] (bodyOf Tryz.f106)) (QendX Tryz.prog Tryz.f106 fun v h=>R (frzW h v))) (QendX Tryz.prog Tryz.f106 fun v h=>R (frzW h v))))))))))))) (St.mk (mkT [(0,V.lst 2 (bdl l)),(3,V.mp (Id.p 0)),(4,nilS),(5,iv (↑i:Int)),(6,V.ptr (Id.p 1) 0 0),(14,V.lst 2 (bdl l)),(15,iv (↑m:Int)),(16,iv (↑i:Int)),(23,V.lst 3 (cll x)),(24,iv (↑n:Int)),(25,iv (↑k:Int)),(31,nilS),(32,iv (0:Int)),(33,iv (0:Int))]) (Hp.mk [(0,O.mp (trM [] 0 ms.length es_1)),(1,O.rows 40 true [cm])] 2 [(0,Fam.mk 1 (ms++[]))]))))) (guardB (es_1.all (goodE [] 0 true)) (La 0 [(0:Tmp),(3:Tmp),(4:Tmp),(5:Tmp),(6:Tmp),(11:Tmp),(14:Tmp),(15:Tmp),(16:Tmp),(1000001:Tmp),(4000003:Tmp)] (WY Tryz.prog cfO 2983 (Env.mk (Bs.mk 0 []) 0 none 60 106 6) (cdAt [1,1,1,0,1,0,0,1,1,0,0,1,1,1,1,0,0] (bodyOf Tryz.f106))) (Qblk 6 (Qblk 1 (Qthen (WY Tryz.prog cfO 2990 (Env.mk (Bs.mk 0 []) 0 none 60 106 0) (cdAt [1,1,1,0,1,0,0,1,1,1] (bodyOf Tryz.f106)) (Qla 0 [(0:Tmp),(3:Tmp),(4:Tmp),(14:Tmp),(15:Tmp),(16:Tmp),(1000001:Tmp),(4000003:Tmp)] C (Qblk 0 (Qthen (WY Tryz.prog cfO 2996 (Env.mk (Bs.mk 0 []) 0 none 60 106 0) (cdAt [1,1,1,1] (bodyOf Tryz.f106)) (QendX Tryz.prog Tryz.f106 fun v h=>R (frzW h v))) (QendX Tryz.prog Tryz.f106 fun v h=>R (frzW h v)))))) (Qla 0 [(0:Tmp),(3:Tmp),(4:Tmp),(14:Tmp),(15:Tmp),(16:Tmp),(1000001:Tmp),(4000003:Tmp)] C (Qblk 0 (Qthen (WY Tryz.prog cfO 2996 (Env.mk (Bs.mk 0 []) 0 none 60 106 0) (cdAt [1,1,1,1] (bodyOf Tryz.f106)) (QendX Tryz.prog Tryz.f106 fun v h=>R (frzW h v))) (QendX Tryz.prog Tryz.f106 fun v h=>R (frzW h v)))))))) (St.mk (mkT [(0,V.lst 2 (bdl l)),(3,V.mp (Id.p 0)),(4,nilS),(5,iv (↑i:Int)),(6,V.ptr (Id.p 1) 0 0),(11,iv (IntKind.i64.wrap ((↑i:Int)+(1:Int)))),(14,V.lst 2 (bdl l)),(15,iv (↑m:Int)),(16,iv (↑i:Int))]) (Hp.mk [(0,O.mp (trM [] 0 ms.length es_1)),(1,O.rows 40 true [cm])] 2 [(0,Fam.mk 1 (ms++[]))]))))) (by kernel_rfl) ?_
  refine ifB_mk (fun e=>?_) (fun e=>?_)
  ·have hk:k<n:=by have:=of_decide_eq_true e; omega
   obtain ⟨c,hc⟩:=getI (l:=x) (k:=k) (by omega)
   have hcr:(cll x)[k]? = some (clr c):=by simp [cll,hc]
   have hcx:c∈cellsAt l i:=by rw [hxc]; exact mem_at hc
   obtain ⟨jj,t,h1,h2,h3⟩:=findC_mem 0 (own_find ho (b:=i) (by omega) hcx)
   have htm:=List.mem_of_getElem? h1
   have hbr:=own_brs ho htm
   rw [h2] at hbr
   have hmb:memb ms t.2.2=some (t.2.1.map rowI):=by unfold memb; rw [hr.mem t htm]; rfl
   rw [← hr.es] at h3
   refine onSome_mk hcr (onCons_cons (onIntK_iv (onCons_cons (onIntK_iv (onCons_cons (onIntK_iv ?_))))))
   refine onFind_iff.2 (.inl ⟨0+jj,_,_,h3,?_⟩)
   refine onMem0 (guardB_mk (by show (memb ms t.2.2).isSome=true; rw [hmb]; rfl) (guardB_mk hgood ?_))
   obtain ⟨j,hj⟩ : ∃ j,j=t.2.2:=⟨_,rfl⟩
   obtain ⟨w,hw⟩ : ∃ w,w=t.2.1.length:=⟨_,rfl⟩
   rw [← hj,← hw]
   rw [← hj] at hmb
   have hw1000:w≤1000:=by
    rw [hw,hbr]
    have:=List.length_filter_le (fun b=>dc (c∈cellsAt l b)) (List.range l.length)
    unfold brs
    simp only [List.length_range] at this
    omega
   refine La.of (σ:=Nat×List V×List (V×V)×List (Option (List (List V)))) (fun s=>oNc l x s.2.1 s.2.2.1 s.2.2.2 m i n k j w s.1) (fun s=>s.1≤w∧s.2.1=cmV (fun o=>Mk l x k o∨o∈t.2.1.take s.1)∧s.2.2.1=es_1∧s.2.2.2=ms) (fun s=>w - s.1) (0,cm,_,_) (by kernel_rfl) ⟨by omega,by rw [hcm]; exact cmV_ext (fun o=>by simp),htr,hms⟩ ?_
   rintro ⟨z,cm,es_1,ms⟩ ⟨z1,hcm2,ge,gm⟩ E hE
   simp only at z1 hcm2 ge gm
   subst ge gm
   refine see (p:=ifB (decide ((↑z:Int)<(↑w:Int))) (onSome (memb ms j) fun es=>need (z<w) (onSome (memb ms j) fun es=>onSome es[0+z]? fun row=>onSome row[0]? fun v=>onIntK IntKind.i64 v fun n_5=>onNat n_5 fun m_1=>need (m_1<40) (guardB ((0+m_1 * 1+1).ble cm.length) (guardB (es_1.all (goodE [] 0 true)) (E (St.mk (mkT [(0,V.lst 2 (bdl l)),(3,V.mp (Id.p 0)),(4,nilS),(5,iv (↑i:Int)),(6,V.ptr (Id.p 1) 0 0),(14,V.lst 2 (bdl l)),(15,iv (↑m:Int)),(16,iv (↑i:Int)),(23,V.lst 3 (cll x)),(24,iv (↑n:Int)),(25,iv (↑k:Int)),(31,V.sl (Id.m 0 j) 0 w),(32,iv (↑w:Int)),(33,iv (IntKind.i64.wrap ((↑z:Int)+(1:Int))))]) (Hp.mk [(0,O.mp (trM [] 0 ms.length es_1)),(1,O.rows 40 true [List.take (0+m_1 * 1) cm++[bv true]++List.drop (0+m_1 * 1+1) cm])] 2 [(0,Fam.mk 1 (ms++[]))]))))))) (guardB (es_1.all (goodE [] 0 true)) (D (St.mk (mkT [(0,V.lst 2 (bdl l)),(3,V.mp (Id.p 0)),(4,nilS),(5,iv (↑i:Int)),(6,V.ptr (Id.p 1) 0 0),(14,V.lst 2 (bdl l)),(15,iv (↑m:Int)),(16,iv (↑i:Int)),(23,V.lst 3 (cll x)),(24,iv (↑n:Int)),(25,iv (IntKind.i64.wrap ((↑k:Int)+(1:Int))))]) (Hp.mk [(0,O.mp (trM [] 0 ms.length es_1)),(1,O.rows 40 true [cm])] 2 [(0,Fam.mk 1 (ms++[]))]))))) (by kernel_rfl) ?_
   refine ifB_mk (fun e' => ?_) (fun e' => ?_)
   ·have hz:z<w:=by have:=of_decide_eq_true e'; omega
    obtain ⟨o,hot⟩:=getI (l:=t.2.1) (k:=z) (by omega)
    have hom:o<40:=by
     have:=mem_at hot
     rw [hbr] at this
     unfold brs at this
     have:=List.mem_range.1 (List.mem_filter.1 this).1
     omega
    refine onSome_mk hmb (need_mk ⟨hz,onSome_mk hmb (onSome_mk (x:=rowI o) (by simp [hot]) (onSome_mk (x:=iv (o:Int)) rfl (onIntK_iv (onNat_mk (m:=o) rfl (need_mk ⟨hom,guardB_mk (by rw [hcm2,cmV_length]; exact Nat.ble_eq_true_of_le (by omega)) (guardB_mk hgood ?_)⟩)))))⟩)
    rw [wr1i hz (by omega)]
    refine hE (z+1,List.take (0+o * 1) cm++[bv true]++List.drop (0+o * 1+1) cm,_,_) ⟨hz,?_,htr,hms⟩ (by simp only; omega)
    simp only
    rw [hcm2,cmV_set hom]
    refine cmV_ext (fun o' => ?_)
    rw [take_succ' hot]
    simp [or_assoc]
   ·have hz:z=w:=by have:=of_decide_eq_false e'; omega
    refine guardB_mk hgood ?_
    rw [wr1i hk (by omega)]
    refine hD (k+1,cm,_,_) ⟨hk,?_,htr,hms⟩ (by simp only; omega)
    simp only
    rw [hcm2]
    refine cmV_ext (fun o=>?_)
    rw [hz,hw,List.take_length,hbr]
    exact mk_succ hc l.length (fun o h=>cellsAt_lt h) o
  ·have hk:k=n:=by have:=of_decide_eq_false e; omega
   have hcm:cm=cmV (Comm l i):=by
    rw [hcm]
    refine cmV_ext (fun o=>?_)
    unfold Mk Comm
    rw [hk,hnx,List.take_length,hxc]
   refine guardB_mk hgood ?_
   rw [wr1i hi (by omega)]
   refine La.of (σ:=Bool×Nat×Nat×List (Nat×Nat)×List (V×V)×List (Option (List (List V)))) (fun s=>match s.1 with | false=>oNd l cm s.2.2.2.2.1 s.2.2.2.2.2 m i s.2.1 | true=>oSd l cm s.2.2.2.1 s.2.2.2.2.1 s.2.2.2.2.2 s.2.2.1 m i s.2.1) (fun s=>(i<s.2.1∧s.2.1≤m)∧s.2.2.2.2.1=es_1∧s.2.2.2.2.2=ms∧s.2.2.1=s.2.2.2.1.length∧s.2.2.2.1=ovl l i++inn l i s.2.1∧(s.1=false→s.2.2.2.1=[])∧(s.1=true→s.2.2.2.1≠[])) (fun s=>m - s.2.1) (false,i+1,q,ps,_,_) (by kernel_rfl) ⟨⟨by simp only; omega,by simp only; omega⟩,htr,hms,gq,gp.trans (by simp [inn_start]),gb,gb2⟩ ?_
   rintro ⟨bb,o,q,ps,es_1,ms⟩ ⟨⟨o0,o1⟩,ge,gm,gq', gp', gb', gb2'⟩ F hF
   simp only at o0 o1 ge gm gq' gp' gb' gb2'
   subst ge gm
   have hq:q≤2000:=by
    rw [gq', gp', List.length_append]
    have h1:=ovl_len l i
    have h2:=inn_len l i o
    have h3:i * l.length≤40 * 40:=Nat.mul_le_mul (by omega) (by omega)
    omega
   have hend : ∀ h : ¬ o<m,ps=ovl l (i+1):=fun h=>by
    rw [gp', ovl_succ]
    congr 2
    omega
   cases bb with
   | false =>
    refine see (p:=ifB (decide ((↑o:Int)<(↑(bdl l).length:Int))) (need (o<40) (onSome cm[0+o * 1]? fun v=>onBool v fun b=>ifB b (guardB (es_1.all (goodE [] 0 true)) (F (St.mk (mkT [(0,V.lst 2 (bdl l)),(3,V.mp (Id.p 0)),(4,V.sl (Id.p 1) 0 1),(5,iv (↑i:Int)),(6,V.ptr (Id.p 2) 0 0),(11,iv (IntKind.i64.wrap ((↑o:Int)+(1:Int)))),(14,V.lst 2 (bdl l)),(15,iv (↑m:Int)),(16,iv (↑i:Int))]) (Hp.mk [(0,O.mp (trM [] 0 ms.length es_1)),(1,O.rows 2 true [[iv (↑i:Int),iv (↑o:Int)]]),(2,O.rows 40 true [cm])] 3 [(0,Fam.mk 1 (ms++[]))])))) (guardB (es_1.all (goodE [] 0 true)) (F (St.mk (mkT [(0,V.lst 2 (bdl l)),(3,V.mp (Id.p 0)),(4,nilS),(5,iv (↑i:Int)),(6,V.ptr (Id.p 1) 0 0),(11,iv (IntKind.i64.wrap ((↑o:Int)+(1:Int)))),(14,V.lst 2 (bdl l)),(15,iv (↑m:Int)),(16,iv (↑i:Int))]) (Hp.mk [(0,O.mp (trM [] 0 ms.length es_1)),(1,O.rows 40 true [cm])] 2 [(0,Fam.mk 1 (ms++[]))])))))) (guardB (es_1.all (goodE [] 0 true)) (C (St.mk (mkT [(0,V.lst 2 (bdl l)),(3,V.mp (Id.p 0)),(4,nilS),(14,V.lst 2 (bdl l)),(15,iv (↑m:Int)),(16,iv (IntKind.i64.wrap ((↑i:Int)+(1:Int))))]) (Hp.mk [(0,O.mp (trM [] 0 ms.length es_1))] 1 [(0,Fam.mk 1 (ms++[]))]))))) (by kernel_rfl) ?_
    refine ifB_mk (fun e' => ?_) (fun e' => ?_)
    ·have hom:o<m:=by have:=of_decide_eq_true e'; rw [← hm] at this; omega
     refine need_mk ⟨by omega,onSome_mk (x:=bv (dc (Comm l i o))) (by rw [hcm]; exact cmV_get (by omega)) (onBool_bv (ifB_mk (fun hc=>?_) (fun hc=>?_)))⟩
     ·refine guardB_mk hgood ?_
      rw [wr1i hom (by omega)]
      refine hF (true,o+1,1,[(i,o)],_,_) ⟨⟨by simp only; omega,by simp only; omega⟩,htr,hms,rfl,?_,(fun h=>by cases h),(fun _ h=>by cases h)⟩ (by simp only; omega)
      simp only
      rw [inn_succ o0,if_pos hc,← List.append_assoc,← gp', gb' rfl]
      rfl
     ·refine guardB_mk hgood ?_
      rw [wr1i hom (by omega)]
      refine hF (false,o+1,q,ps,_,_) ⟨⟨by simp only; omega,by simp only; omega⟩,htr,hms,gq', ?_,gb', gb2'⟩ (by simp only; omega)
      simp only
      rw [inn_succ o0,hc,if_neg (by simp),← gp']
    ·have hom : ¬ o<m:=by have:=of_decide_eq_false e'; rw [← hm] at this; omega
     refine guardB_mk hgood ?_
     rw [wr1i hi (by omega)]
     exact hC (false,i+1,q,ps,_,_) ⟨hi,htr,hms,gq', hend hom,gb', gb2'⟩ (by simp only; omega)
   | true =>
    refine see (p:=ifB (decide ((↑o:Int)<(↑(bdl l).length:Int))) (need (o<40) (onSome cm[0+o * 1]? fun v=>onBool v fun b=>ifB b (need ((q+1) * 16≤140737488355328) (guardB (es_1.all (goodE [] 0 true)) (F (St.mk (mkT [(0,V.lst 2 (bdl l)),(3,V.mp (Id.p 0)),(4,V.sl (Id.p 1) 0 (q+1)),(5,iv (↑i:Int)),(6,V.ptr (Id.p 2) 0 0),(11,iv (IntKind.i64.wrap ((↑o:Int)+(1:Int)))),(14,V.lst 2 (bdl l)),(15,iv (↑m:Int)),(16,iv (↑i:Int))]) (Hp.mk [(0,O.mp (trM [] 0 ms.length es_1)),(1,O.rows 2 true (List.take q (prl ps)++[[iv (↑i:Int),iv (↑o:Int)]])),(2,O.rows 40 true [cm])] 3 [(0,Fam.mk 1 (ms++[]))]))))) (guardB (es_1.all (goodE [] 0 true)) (F (St.mk (mkT [(0,V.lst 2 (bdl l)),(3,V.mp (Id.p 0)),(4,V.sl (Id.p 1) 0 q),(5,iv (↑i:Int)),(6,V.ptr (Id.p 2) 0 0),(11,iv (IntKind.i64.wrap ((↑o:Int)+(1:Int)))),(14,V.lst 2 (bdl l)),(15,iv (↑m:Int)),(16,iv (↑i:Int))]) (Hp.mk [(0,O.mp (trM [] 0 ms.length es_1)),(1,O.rows 2 true (prl ps)),(2,O.rows 40 true [cm])] 3 [(0,Fam.mk 1 (ms++[]))])))))) (guardB (es_1.all (goodE [] 0 true)) (C (St.mk (mkT [(0,V.lst 2 (bdl l)),(3,V.mp (Id.p 0)),(4,V.sl (Id.p 1) 0 q),(14,V.lst 2 (bdl l)),(15,iv (↑m:Int)),(16,iv (IntKind.i64.wrap ((↑i:Int)+(1:Int))))]) (Hp.mk [(0,O.mp (trM [] 0 ms.length es_1)),(1,O.rows 2 true (prl ps))] 2 [(0,Fam.mk 1 (ms++[]))]))))) (by kernel_rfl) ?_
    refine ifB_mk (fun e' => ?_) (fun e' => ?_)
    ·have hom:o<m:=by have:=of_decide_eq_true e'; rw [← hm] at this; omega
     refine need_mk ⟨by omega,onSome_mk (x:=bv (dc (Comm l i o))) (by rw [hcm]; exact cmV_get (by omega)) (onBool_bv (ifB_mk (fun hc=>?_) (fun hc=>?_)))⟩
     ·refine need_mk ⟨by omega,guardB_mk hgood ?_⟩
      rw [wr1i hom (by omega)]
      have hp:List.take q (prl ps)++[[iv (i:Int),iv (o:Int)]]=prl (ps++[(i,o)]):=by rw [gq', show ps.length=(prl ps).length from by simp [prl],List.take_length]; simp [prl]
      rw [hp]
      refine hF (true,o+1,q+1,ps++[(i,o)],_,_) ⟨⟨by simp only; omega,by simp only; omega⟩,htr,hms,by simp [gq'],?_,(fun h=>by cases h),(fun _=>by simp)⟩ (by simp only; omega)
      simp only
      rw [inn_succ o0,if_pos hc,gp', List.append_assoc]
     ·refine guardB_mk hgood ?_
      rw [wr1i hom (by omega)]
      refine hF (true,o+1,q,ps,_,_) ⟨⟨by simp only; omega,by simp only; omega⟩,htr,hms,gq', ?_,gb', gb2'⟩ (by simp only; omega)
      simp only
      rw [inn_succ o0,hc,if_neg (by simp),gp']
    ·have hom : ¬ o<m:=by have:=of_decide_eq_false e'; rw [← hm] at this; omega
     refine guardB_mk hgood ?_
     rw [wr1i hi (by omega)]
     exact hC (true,i+1,q,ps,_,_) ⟨hi,htr,hms,gq', hend hom,gb', gb2'⟩ (by simp only; omega)
 ·refine see (p:=ifB (decide ((↑i:Int)<(↑m:Int))) (onSome (bdl l)[i]? fun row=>onSome row[0]? fun v=>onLst v fun s es=>guardB (es_1.all (goodE [] 0 true)) (La 0 [(0:Tmp),(3:Tmp),(4:Tmp),(5:Tmp),(6:Tmp),(14:Tmp),(15:Tmp),(16:Tmp),(23:Tmp),(24:Tmp),(25:Tmp),(1000001:Tmp),(4000003:Tmp)] (WY Tryz.prog cfO 2983 (Env.mk (Bs.mk 0 []) 0 none 60 106 2) (cdAt [1,1,1,0,1,0,0,1,1,0,0,1,1,0,1,0,0] (bodyOf Tryz.f106))) (Qblk 2 (Qthen (WY Tryz.prog cfO 2986 (Env.mk (Bs.mk 0 []) 0 none 60 106 1) (cdAt [1,1,1,0,1,0,0,1,1,0,0,1,1,1] (bodyOf Tryz.f106)) (Qblk 1 (Qthen (WY Tryz.prog cfO 2990 (Env.mk (Bs.mk 0 []) 0 none 60 106 0) (cdAt [1,1,1,0,1,0,0,1,1,1] (bodyOf Tryz.f106)) (Qla 0 [(0:Tmp),(3:Tmp),(4:Tmp),(14:Tmp),(15:Tmp),(16:Tmp),(1000001:Tmp),(4000003:Tmp)] C (Qblk 0 (Qthen (WY Tryz.prog cfO 2996 (Env.mk (Bs.mk 0 []) 0 none 60 106 0) (cdAt [1,1,1,1] (bodyOf Tryz.f106)) (QendX Tryz.prog Tryz.f106 fun v h=>R (frzW h v))) (QendX Tryz.prog Tryz.f106 fun v h=>R (frzW h v)))))) (Qla 0 [(0:Tmp),(3:Tmp),(4:Tmp),(14:Tmp),(15:Tmp),(16:Tmp),(1000001:Tmp),(4000003:Tmp)] C (Qblk 0 (Qthen (WY Tryz.prog cfO 2996 (Env.mk (Bs.mk 0 []) 0 none 60 106 0) (cdAt [1,1,1,1] (bodyOf Tryz.f106)) (QendX Tryz.prog Tryz.f106 fun v h=>R (frzW h v))) (QendX Tryz.prog Tryz.f106 fun v h=>R (frzW h v)))))))) (Qblk 1 (Qthen (WY Tryz.prog cfO 2990 (Env.mk (Bs.mk 0 []) 0 none 60 106 0) (cdAt [1,1,1,0,1,0,0,1,1,1] (bodyOf Tryz.f106)) (Qla 0 [(0:Tmp),(3:Tmp),(4:Tmp),(14:Tmp),(15:Tmp),(16:Tmp),(1000001:Tmp),(4000003:Tmp)] C (Qblk 0 (Qthen (WY Tryz.prog cfO 2996 (Env.mk (Bs.mk 0 []) 0 none 60 106 0) (cdAt [1,1,1,1] (bodyOf Tryz.f106)) (QendX Tryz.prog Tryz.f106 fun v h=>R (frzW h v))) (QendX Tryz.prog Tryz.f106 fun v h=>R (frzW h v)))))) (Qla 0 [(0:Tmp),(3:Tmp),(4:Tmp),(14:Tmp),(15:Tmp),(16:Tmp),(1000001:Tmp),(4000003:Tmp)] C (Qblk 0 (Qthen (WY Tryz.prog cfO 2996 (Env.mk (Bs.mk 0 []) 0 none 60 106 0) (cdAt [1,1,1,1] (bodyOf Tryz.f106)) (QendX Tryz.prog Tryz.f106 fun v h=>R (frzW h v))) (QendX Tryz.prog Tryz.f106 fun v h=>R (frzW h v))))))))) (St.mk (mkT [(0,V.lst 2 (bdl l)),(3,V.mp (Id.p 0)),(4,V.sl (Id.p 1) 0 q),(5,iv (↑i:Int)),(6,V.ptr (Id.p 2) 0 0),(14,V.lst 2 (bdl l)),(15,iv (↑m:Int)),(16,iv (↑i:Int)),(23,V.lst s es),(24,iv (↑es.length:Int)),(25,iv (0:Int))]) (Hp.mk [(0,O.mp (trM [] 0 ms.length es_1)),(1,O.rows 2 true (prl ps)),(2,O.rows 40 true [[bv false,bv false,bv false,bv false,bv false,bv false,bv false,bv false,bv false,bv false,bv false,bv false,bv false,bv false,bv false,bv false,bv false,bv false,bv false,bv false,bv false,bv false,bv false,bv false,bv false,bv false,bv false,bv false,bv false,bv false,bv false,bv false,bv false,bv false,bv false,bv false,bv false,bv false,bv false,bv false]])] 3 [(0,Fam.mk 1 (ms++[]))])))) (R (V.lst 2 (sub (prl ps) 0 q)))) (by kernel_rfl) ?_
  refine ifB_mk (fun d=>?_) (fun d=>?_)
  rotate_left
  ·have hi:i=m:=by have:=of_decide_eq_false d; omega
   have hov:ovl l l.length=ps:=by rw [← hml,← hi,gp]
   have hs:sub (prl ps) 0 q=prl ps:=by rw [gq,show ps.length=(prl ps).length from by simp [prl],sub,List.drop_zero,List.take_length]
   show R (V.lst 2 (sub (prl ps) 0 q))
   rw [hs]
   unfold ovlV at hR
   rw [hov] at hR
   cases ps with
   | nil=>exact (gb2 rfl rfl).elim
   | cons p ps=>exact hR
  have hi:i<m:=by have:=of_decide_eq_true d; omega
  obtain ⟨b', hb⟩:=getI (l:=l) (k:=i) (by omega)
  have hbm:=mem_at hb
  have hrow:(bdl l)[i]? = some (bdr b'):=by simp [bdl,hb]
  refine onSome_mk hrow (onSome_mk (x:=V.lst 3 (cll b'.1)) rfl (onLst_lst (guardB_mk hgood ?_)))
  obtain ⟨x,hx⟩ : ∃ x,x=b'.1:=⟨_,rfl⟩
  rw [← hx]
  obtain ⟨n,hnn⟩ : ∃ n,n=(cll x).length:=⟨_,rfl⟩
  rw [← hnn]
  have hnx:n=x.length:=by rw [hnn,cll_length]
  have hx1000:x.length≤1000:=by rw [hx]; exact hl30 b' hbm
  have hxc:cellsAt l i=x:=by unfold cellsAt; rw [hb,hx]; rfl
  refine La.of (σ:=Nat×List V×List (V×V)×List (Option (List (List V)))) (fun s=>oSb l x s.2.1 ps s.2.2.1 s.2.2.2 q m i n s.1) (fun s=>s.1≤n∧s.2.1=cmV (Mk l x s.1)∧s.2.2.1=es_1∧s.2.2.2=ms) (fun s=>n - s.1) (0,List.replicate 40 (bv false),_,_) (by kernel_rfl) ⟨by omega,cm_zero l x,htr,hms⟩ ?_
  rintro ⟨k,cm,es_1,ms⟩ ⟨f1,hcm,ge,gm⟩ D hD
  simp only at f1 hcm ge gm
  subst ge gm
  refine see (p:=ifB (decide ((↑k:Int)<(↑n:Int))) (onSome (cll x)[k]? fun row=>onCons (List.drop 0 row) fun u r=>onIntK IntKind.i64 u fun n_1=>onCons r fun u r=>onIntK IntKind.i64 u fun n_2=>onCons r fun u r=>onIntK IntKind.i64 u fun n_3=>onFind (findK Tryz.prog 28 (V.agg [iv n_1,iv n_2,iv n_3]) es_1 0) (fun i_1 kv vv=>onMem 0 (bif false then V.tup [vv,bv true] else vv) (guardB (es_1.all (goodE [] 0 true)) (La 0 [(0:Tmp),(3:Tmp),(4:Tmp),(5:Tmp),(6:Tmp),(14:Tmp),(15:Tmp),(16:Tmp),(23:Tmp),(24:Tmp),(25:Tmp),(31:Tmp),(32:Tmp),(33:Tmp),(1000001:Tmp),(4000003:Tmp)] (WY Tryz.prog cfO 2975 (Env.mk (Bs.mk 0 []) 0 none 60 106 4) (cdAt [1,1,1,0,1,0,0,1,1,0,0,1,1,0,1,0,0,1,1,0,0,1,1,0,0] (bodyOf Tryz.f106))) (Qblk 4 (Qblk 3 (Qthen (WY Tryz.prog cfO 2980 (Env.mk (Bs.mk 0 []) 0 none 60 106 2) (cdAt [1,1,1,0,1,0,0,1,1,0,0,1,1,0,1,0,0,1,1,1] (bodyOf Tryz.f106)) (Qla 0 [(0:Tmp),(3:Tmp),(4:Tmp),(5:Tmp),(6:Tmp),(14:Tmp),(15:Tmp),(16:Tmp),(23:Tmp),(24:Tmp),(25:Tmp),(1000001:Tmp),(4000003:Tmp)] D (Qblk 2 (Qthen (WY Tryz.prog cfO 2986 (Env.mk (Bs.mk 0 []) 0 none 60 106 1) (cdAt [1,1,1,0,1,0,0,1,1,0,0,1,1,1] (bodyOf Tryz.f106)) (Qblk 1 (Qthen (WY Tryz.prog cfO 2990 (Env.mk (Bs.mk 0 []) 0 none 60 106 0) (cdAt [1,1,1,0,1,0,0,1,1,1] (bodyOf Tryz.f106)) (Qla 0 [(0:Tmp),(3:Tmp),(4:Tmp),(14:Tmp),(15:Tmp),(16:Tmp),(1000001:Tmp),(4000003:Tmp)] C (Qblk 0 (Qthen (WY Tryz.prog cfO 2996 (Env.mk (Bs.mk 0 []) 0 none 60 106 0) (cdAt [1,1,1,1] (bodyOf Tryz.f106)) (QendX Tryz.prog Tryz.f106 fun v h=>R (frzW h v))) (QendX Tryz.prog Tryz.f106 fun v h=>R (frzW h v)))))) (Qla 0 [(0:Tmp),(3:Tmp),(4:Tmp),(14:Tmp),(15:Tmp),(16:Tmp),(1000001:Tmp),(4000003:Tmp)] C (Qblk 0 (Qthen (WY Tryz.prog cfO 2996 (Env.mk (Bs.mk 0 []) 0 none 60 106 0) (cdAt [1,1,1,1] (bodyOf Tryz.f106)) (QendX Tryz.prog Tryz.f106 fun v h=>R (frzW h v))) (QendX Tryz.prog Tryz.f106 fun v h=>R (frzW h v)))))))) (Qblk 1 (Qthen (WY Tryz.prog cfO 2990 (Env.mk (Bs.mk 0 []) 0 none 60 106 0) (cdAt [1,1,1,0,1,0,0,1,1,1] (bodyOf Tryz.f106)) (Qla 0 [(0:Tmp),(3:Tmp),(4:Tmp),(14:Tmp),(15:Tmp),(16:Tmp),(1000001:Tmp),(4000003:Tmp)] C (Qblk 0 (Qthen (WY Tryz.prog cfO 2996 (Env.mk (Bs.mk 0 []) 0 none 60 106 0) (cdAt [1,1,1,1] (bodyOf Tryz.f106)) (QendX Tryz.prog Tryz.f106 fun v h=>R (frzW h v))) (QendX Tryz.prog Tryz.f106 fun v h=>R (frzW h v)))))) (Qla 0 [(0:Tmp),(3:Tmp),(4:Tmp),(14:Tmp),(15:Tmp),(16:Tmp),(1000001:Tmp),(4000003:Tmp)] C (Qblk 0 (Qthen (WY Tryz.prog cfO 2996 (Env.mk (Bs.mk 0 []) 0 none 60 106 0) (cdAt [1,1,1,1] (bodyOf Tryz.f106)) (QendX Tryz.prog Tryz.f106 fun v h=>R (frzW h v))) (QendX Tryz.prog Tryz.f106 fun v h=>R (frzW h v))))))))))) (Qla 0 [(0:Tmp),(3:Tmp),(4:Tmp),(5:Tmp),(6:Tmp),(14:Tmp),(15:Tmp),(16:Tmp),(23:Tmp),(24:Tmp),(25:Tmp),(1000001:Tmp),(4000003:Tmp)] D (Qblk 2 (Qthen (WY Tryz.prog cfO 2986 (Env.mk (Bs.mk 0 []) 0 none 60 106 1) (cdAt [1,1,1,0,1,0,0,1,1,0,0,1,1,1] (bodyOf Tryz.f106)) (Qblk 1 (Qthen (WY Tryz.prog cfO 2990 (Env.mk (Bs.mk 0 []) 0 none 60 106 0) (cdAt [1,1,1,0,1,0,0,1,1,1] (bodyOf Tryz.f106)) (Qla 0 [(0:Tmp),(3:Tmp),(4:Tmp),(14:Tmp),(15:Tmp),(16:Tmp),(1000001:Tmp),(4000003:Tmp)] C (Qblk 0 (Qthen (WY Tryz.prog cfO 2996 (Env.mk (Bs.mk 0 []) 0 none 60 106 0) (cdAt [1,1,1,1] (bodyOf Tryz.f106)) (QendX Tryz.prog Tryz.f106 fun v h=>R (frzW h v))) (QendX Tryz.prog Tryz.f106 fun v h=>R (frzW h v)))))) (Qla 0 [(0:Tmp),(3:Tmp),(4:Tmp),(14:Tmp),(15:Tmp),(16:Tmp),(1000001:Tmp),(4000003:Tmp)] C (Qblk 0 (Qthen (WY Tryz.prog cfO 2996 (Env.mk (Bs.mk 0 []) 0 none 60 106 0) (cdAt [1,1,1,1] (bodyOf Tryz.f106)) (QendX Tryz.prog Tryz.f106 fun v h=>R (frzW h v))) (QendX Tryz.prog Tryz.f106 fun v h=>R (frzW h v)))))))) (Qblk 1 (Qthen (WY Tryz.prog cfO 2990 (Env.mk (Bs.mk 0 []) 0 none 60 106 0) (cdAt [1,1,1,0,1,0,0,1,1,1] (bodyOf Tryz.f106)) (Qla 0 [(0:Tmp),(3:Tmp),(4:Tmp),(14:Tmp),(15:Tmp),(16:Tmp),(1000001:Tmp),(4000003:Tmp)] C (Qblk 0 (Qthen (WY Tryz.prog cfO 2996 (Env.mk (Bs.mk 0 []) 0 none 60 106 0) (cdAt [1,1,1,1] (bodyOf Tryz.f106)) (QendX Tryz.prog Tryz.f106 fun v h=>R (frzW h v))) (QendX Tryz.prog Tryz.f106 fun v h=>R (frzW h v)))))) (Qla 0 [(0:Tmp),(3:Tmp),(4:Tmp),(14:Tmp),(15:Tmp),(16:Tmp),(1000001:Tmp),(4000003:Tmp)] C (Qblk 0 (Qthen (WY Tryz.prog cfO 2996 (Env.mk (Bs.mk 0 []) 0 none 60 106 0) (cdAt [1,1,1,1] (bodyOf Tryz.f106)) (QendX Tryz.prog Tryz.f106 fun v h=>R (frzW h v))) (QendX Tryz.prog Tryz.f106 fun v h=>R (frzW h v))))))))))))) (St.mk (mkT [(0,V.lst 2 (bdl l)),(3,V.mp (Id.p 0)),(4,V.sl (Id.p 1) 0 q),(5,iv (↑i:Int)),(6,V.ptr (Id.p 2) 0 0),(14,V.lst 2 (bdl l)),(15,iv (↑m:Int)),(16,iv (↑i:Int)),(23,V.lst 3 (cll x)),(24,iv (↑n:Int)),(25,iv (↑k:Int)),(31,nilS),(32,iv (0:Int)),(33,iv (0:Int))]) (Hp.mk [(0,O.mp (trM [] 0 ms.length es_1)),(1,O.rows 2 true (prl ps)),(2,O.rows 40 true [cm])] 3 [(0,Fam.mk 1 (ms++[]))])))) fun j n_4=>guardB ((Hp.mk [(3,O.rows 3 false [[iv n_1,iv n_2,iv n_3]]),(0,O.mp es_1),(1,O.rows 2 true (prl ps)),(2,O.rows 40 true [cm])] 4 [(0,Fam.mk 1 ms)]).has (Id.m 0 j)) (guardB (es_1.all (goodE [] 0 true)) (La 0 [(0:Tmp),(3:Tmp),(4:Tmp),(5:Tmp),(6:Tmp),(14:Tmp),(15:Tmp),(16:Tmp),(23:Tmp),(24:Tmp),(25:Tmp),(31:Tmp),(32:Tmp),(33:Tmp),(1000001:Tmp),(4000003:Tmp)] (WY Tryz.prog cfO 2975 (Env.mk (Bs.mk 0 []) 0 none 60 106 4) (cdAt [1,1,1,0,1,0,0,1,1,0,0,1,1,0,1,0,0,1,1,0,0,1,1,0,0] (bodyOf Tryz.f106))) (Qblk 4 (Qblk 3 (Qthen (WY Tryz.prog cfO 2980 (Env.mk (Bs.mk 0 []) 0 none 60 106 2) (cdAt [1,1,1,0,1,0,0,1,1,0,0,1,1,0,1,0,0,1,1,1] (bodyOf Tryz.f106)) (Qla 0 [(0:Tmp),(3:Tmp),(4:Tmp),(5:Tmp),(6:Tmp),(14:Tmp),(15:Tmp),(16:Tmp),(23:Tmp),(24:Tmp),(25:Tmp),(1000001:Tmp),(4000003:Tmp)] D (Qblk 2 (Qthen (WY Tryz.prog cfO 2986 (Env.mk (Bs.mk 0 []) 0 none 60 106 1) (cdAt [1,1,1,0,1,0,0,1,1,0,0,1,1,1] (bodyOf Tryz.f106)) (Qblk 1 (Qthen (WY Tryz.prog cfO 2990 (Env.mk (Bs.mk 0 []) 0 none 60 106 0) (cdAt [1,1,1,0,1,0,0,1,1,1] (bodyOf Tryz.f106)) (Qla 0 [(0:Tmp),(3:Tmp),(4:Tmp),(14:Tmp),(15:Tmp),(16:Tmp),(1000001:Tmp),(4000003:Tmp)] C (Qblk 0 (Qthen (WY Tryz.prog cfO 2996 (Env.mk (Bs.mk 0 []) 0 none 60 106 0) (cdAt [1,1,1,1] (bodyOf Tryz.f106)) (QendX Tryz.prog Tryz.f106 fun v h=>R (frzW h v))) (QendX Tryz.prog Tryz.f106 fun v h=>R (frzW h v)))))) (Qla 0 [(0:Tmp),(3:Tmp),(4:Tmp),(14:Tmp),(15:Tmp),(16:Tmp),(1000001:Tmp),(4000003:Tmp)] C (Qblk 0 (Qthen (WY Tryz.prog cfO 2996 (Env.mk (Bs.mk 0 []) 0 none 60 106 0) (cdAt [1,1,1,1] (bodyOf Tryz.f106)) (QendX Tryz.prog Tryz.f106 fun v h=>R (frzW h v))) (QendX Tryz.prog Tryz.f106 fun v h=>R (frzW h v)))))))) (Qblk 1 (Qthen (WY Tryz.prog cfO 2990 (Env.mk (Bs.mk 0 []) 0 none 60 106 0) (cdAt [1,1,1,0,1,0,0,1,1,1] (bodyOf Tryz.f106)) (Qla 0 [(0:Tmp),(3:Tmp),(4:Tmp),(14:Tmp),(15:Tmp),(16:Tmp),(1000001:Tmp),(4000003:Tmp)] C (Qblk 0 (Qthen (WY Tryz.prog cfO 2996 (Env.mk (Bs.mk 0 []) 0 none 60 106 0) (cdAt [1,1,1,1] (bodyOf Tryz.f106)) (QendX Tryz.prog Tryz.f106 fun v h=>R (frzW h v))) (QendX Tryz.prog Tryz.f106 fun v h=>R (frzW h v)))))) (Qla 0 [(0:Tmp),(3:Tmp),(4:Tmp),(14:Tmp),(15:Tmp),(16:Tmp),(1000001:Tmp),(4000003:Tmp)] C (Qblk 0 (Qthen (WY Tryz.prog cfO 2996 (Env.mk (Bs.mk 0 []) 0 none 60 106 0) (cdAt [1,1,1,1] (bodyOf Tryz.f106)) (QendX Tryz.prog Tryz.f106 fun v h=>R (frzW h v))) (QendX Tryz.prog Tryz.f106 fun v h=>R (frzW h v))))))))))) (Qla 0 [(0:Tmp),(3:Tmp),(4:Tmp),(5:Tmp),(6:Tmp),(14:Tmp),(15:Tmp),(16:Tmp),(23:Tmp),(24:Tmp),(25:Tmp),(1000001:Tmp),(4000003:Tmp)] D (Qblk 2 (Qthen (WY Tryz.prog cfO 2986 (Env.mk (Bs.mk 0 []) 0 none 60 106 1) (cdAt [1,1,1,0,1,0,0,1,1,0,0,1,1,1] (bodyOf Tryz.f106)) (Qblk 1 (Qthen (WY Tryz.prog cfO 2990 (Env.mk (Bs.mk 0 []) 0 none 60 106 0) (cdAt [1,1,1,0,1,0,0,1,1,1] (bodyOf Tryz.f106)) (Qla 0 [(0:Tmp),(3:Tmp),(4:Tmp),(14:Tmp),(15:Tmp),(16:Tmp),(1000001:Tmp),(4000003:Tmp)] C (Qblk 0 (Qthen (WY Tryz.prog cfO 2996 (Env.mk (Bs.mk 0 []) 0 none 60 106 0) (cdAt [1,1,1,1] (bodyOf Tryz.f106)) (QendX Tryz.prog Tryz.f106 fun v h=>R (frzW h v))) (QendX Tryz.prog Tryz.f106 fun v h=>R (frzW h v)))))) (Qla 0 [(0:Tmp),(3:Tmp),(4:Tmp),(14:Tmp),(15:Tmp),(16:Tmp),(1000001:Tmp),(4000003:Tmp)] C (Qblk 0 (Qthen (WY Tryz.prog cfO 2996 (Env.mk (Bs.mk 0 []) 0 none 60 106 0) (cdAt [1,1,1,1] (bodyOf Tryz.f106)) (QendX Tryz.prog Tryz.f106 fun v h=>R (frzW h v))) (QendX Tryz.prog Tryz.f106 fun v h=>R (frzW h v)))))))) (Qblk 1 (Qthen (WY Tryz.prog cfO 2990 (Env.mk (Bs.mk 0 []) 0 none 60 106 0) (cdAt [1,1,1,0,1,0,0,1,1,1] (bodyOf Tryz.f106)) (Qla 0 [(0:Tmp),(3:Tmp),(4:Tmp),(14:Tmp),(15:Tmp),(16:Tmp),(1000001:Tmp),(4000003:Tmp)] C (Qblk 0 (Qthen (WY Tryz.prog cfO 2996 (Env.mk (Bs.mk 0 []) 0 none 60 106 0) (cdAt [1,1,1,1] (bodyOf Tryz.f106)) (QendX Tryz.prog Tryz.f106 fun v h=>R (frzW h v))) (QendX Tryz.prog Tryz.f106 fun v h=>R (frzW h v)))))) (Qla 0 [(0:Tmp),(3:Tmp),(4:Tmp),(14:Tmp),(15:Tmp),(16:Tmp),(1000001:Tmp),(4000003:Tmp)] C (Qblk 0 (Qthen (WY Tryz.prog cfO 2996 (Env.mk (Bs.mk 0 []) 0 none 60 106 0) (cdAt [1,1,1,1] (bodyOf Tryz.f106)) (QendX Tryz.prog Tryz.f106 fun v h=>R (frzW h v))) (QendX Tryz.prog Tryz.f106 fun v h=>R (frzW h v))))))))))))) (St.mk (mkT [(0,V.lst 2 (bdl l)),(3,V.mp (Id.p 0)),(4,V.sl (Id.p 1) 0 q),(5,iv (↑i:Int)),(6,V.ptr (Id.p 2) 0 0),(14,V.lst 2 (bdl l)),(15,iv (↑m:Int)),(16,iv (↑i:Int)),(23,V.lst 3 (cll x)),(24,iv (↑n:Int)),(25,iv (↑k:Int)),(31,V.sl (Id.m 0 j) 0 n_4),(32,iv (↑n_4:Int)),(33,iv (0:Int))]) (Hp.mk [(0,O.mp (trM [] 0 ms.length es_1)),(1,O.rows 2 true (prl ps)),(2,O.rows 40 true [cm])] 3 [(0,Fam.mk 1 (ms++[]))]))))) (guardB (es_1.all (goodE [] 0 true)) (La 0 [(0:Tmp),(3:Tmp),(4:Tmp),(5:Tmp),(6:Tmp),(14:Tmp),(15:Tmp),(16:Tmp),(23:Tmp),(24:Tmp),(25:Tmp),(31:Tmp),(32:Tmp),(33:Tmp),(1000001:Tmp),(4000003:Tmp)] (WY Tryz.prog cfO 2975 (Env.mk (Bs.mk 0 []) 0 none 60 106 4) (cdAt [1,1,1,0,1,0,0,1,1,0,0,1,1,0,1,0,0,1,1,0,0,1,1,0,0] (bodyOf Tryz.f106))) (Qblk 4 (Qblk 3 (Qthen (WY Tryz.prog cfO 2980 (Env.mk (Bs.mk 0 []) 0 none 60 106 2) (cdAt [1,1,1,0,1,0,0,1,1,0,0,1,1,0,1,0,0,1,1,1] (bodyOf Tryz.f106)) (Qla 0 [(0:Tmp),(3:Tmp),(4:Tmp),(5:Tmp),(6:Tmp),(14:Tmp),(15:Tmp),(16:Tmp),(23:Tmp),(24:Tmp),(25:Tmp),(1000001:Tmp),(4000003:Tmp)] D (Qblk 2 (Qthen (WY Tryz.prog cfO 2986 (Env.mk (Bs.mk 0 []) 0 none 60 106 1) (cdAt [1,1,1,0,1,0,0,1,1,0,0,1,1,1] (bodyOf Tryz.f106)) (Qblk 1 (Qthen (WY Tryz.prog cfO 2990 (Env.mk (Bs.mk 0 []) 0 none 60 106 0) (cdAt [1,1,1,0,1,0,0,1,1,1] (bodyOf Tryz.f106)) (Qla 0 [(0:Tmp),(3:Tmp),(4:Tmp),(14:Tmp),(15:Tmp),(16:Tmp),(1000001:Tmp),(4000003:Tmp)] C (Qblk 0 (Qthen (WY Tryz.prog cfO 2996 (Env.mk (Bs.mk 0 []) 0 none 60 106 0) (cdAt [1,1,1,1] (bodyOf Tryz.f106)) (QendX Tryz.prog Tryz.f106 fun v h=>R (frzW h v))) (QendX Tryz.prog Tryz.f106 fun v h=>R (frzW h v)))))) (Qla 0 [(0:Tmp),(3:Tmp),(4:Tmp),(14:Tmp),(15:Tmp),(16:Tmp),(1000001:Tmp),(4000003:Tmp)] C (Qblk 0 (Qthen (WY Tryz.prog cfO 2996 (Env.mk (Bs.mk 0 []) 0 none 60 106 0) (cdAt [1,1,1,1] (bodyOf Tryz.f106)) (QendX Tryz.prog Tryz.f106 fun v h=>R (frzW h v))) (QendX Tryz.prog Tryz.f106 fun v h=>R (frzW h v)))))))) (Qblk 1 (Qthen (WY Tryz.prog cfO 2990 (Env.mk (Bs.mk 0 []) 0 none 60 106 0) (cdAt [1,1,1,0,1,0,0,1,1,1] (bodyOf Tryz.f106)) (Qla 0 [(0:Tmp),(3:Tmp),(4:Tmp),(14:Tmp),(15:Tmp),(16:Tmp),(1000001:Tmp),(4000003:Tmp)] C (Qblk 0 (Qthen (WY Tryz.prog cfO 2996 (Env.mk (Bs.mk 0 []) 0 none 60 106 0) (cdAt [1,1,1,1] (bodyOf Tryz.f106)) (QendX Tryz.prog Tryz.f106 fun v h=>R (frzW h v))) (QendX Tryz.prog Tryz.f106 fun v h=>R (frzW h v)))))) (Qla 0 [(0:Tmp),(3:Tmp),(4:Tmp),(14:Tmp),(15:Tmp),(16:Tmp),(1000001:Tmp),(4000003:Tmp)] C (Qblk 0 (Qthen (WY Tryz.prog cfO 2996 (Env.mk (Bs.mk 0 []) 0 none 60 106 0) (cdAt [1,1,1,1] (bodyOf Tryz.f106)) (QendX Tryz.prog Tryz.f106 fun v h=>R (frzW h v))) (QendX Tryz.prog Tryz.f106 fun v h=>R (frzW h v))))))))))) (Qla 0 [(0:Tmp),(3:Tmp),(4:Tmp),(5:Tmp),(6:Tmp),(14:Tmp),(15:Tmp),(16:Tmp),(23:Tmp),(24:Tmp),(25:Tmp),(1000001:Tmp),(4000003:Tmp)] D (Qblk 2 (Qthen (WY Tryz.prog cfO 2986 (Env.mk (Bs.mk 0 []) 0 none 60 106 1) (cdAt [1,1,1,0,1,0,0,1,1,0,0,1,1,1] (bodyOf Tryz.f106)) (Qblk 1 (Qthen (WY Tryz.prog cfO 2990 (Env.mk (Bs.mk 0 []) 0 none 60 106 0) (cdAt [1,1,1,0,1,0,0,1,1,1] (bodyOf Tryz.f106)) (Qla 0 [(0:Tmp),(3:Tmp),(4:Tmp),(14:Tmp),(15:Tmp),(16:Tmp),(1000001:Tmp),(4000003:Tmp)] C (Qblk 0 (Qthen (WY Tryz.prog cfO 2996 (Env.mk (Bs.mk 0 []) 0 none 60 106 0) (cdAt [1,1,1,1] (bodyOf Tryz.f106)) (QendX Tryz.prog Tryz.f106 fun v h=>R (frzW h v))) (QendX Tryz.prog Tryz.f106 fun v h=>R (frzW h v)))))) (Qla 0 [(0:Tmp),(3:Tmp),(4:Tmp),(14:Tmp),(15:Tmp),(16:Tmp),(1000001:Tmp),(4000003:Tmp)] C (Qblk 0 (Qthen (WY Tryz.prog cfO 2996 (Env.mk (Bs.mk 0 []) 0 none 60 106 0) (cdAt [1,1,1,1] (bodyOf Tryz.f106)) (QendX Tryz.prog Tryz.f106 fun v h=>R (frzW h v))) (QendX Tryz.prog Tryz.f106 fun v h=>R (frzW h v)))))))) (Qblk 1 (Qthen (WY Tryz.prog cfO 2990 (Env.mk (Bs.mk 0 []) 0 none 60 106 0) (cdAt [1,1,1,0,1,0,0,1,1,1] (bodyOf Tryz.f106)) (Qla 0 [(0:Tmp),(3:Tmp),(4:Tmp),(14:Tmp),(15:Tmp),(16:Tmp),(1000001:Tmp),(4000003:Tmp)] C (Qblk 0 (Qthen (WY Tryz.prog cfO 2996 (Env.mk (Bs.mk 0 []) 0 none 60 106 0) (cdAt [1,1,1,1] (bodyOf Tryz.f106)) (QendX Tryz.prog Tryz.f106 fun v h=>R (frzW h v))) (QendX Tryz.prog Tryz.f106 fun v h=>R (frzW h v)))))) (Qla 0 [(0:Tmp),(3:Tmp),(4:Tmp),(14:Tmp),(15:Tmp),(16:Tmp),(1000001:Tmp),(4000003:Tmp)] C (Qblk 0 (Qthen (WY Tryz.prog cfO 2996 (Env.mk (Bs.mk 0 []) 0 none 60 106 0) (cdAt [1,1,1,1] (bodyOf Tryz.f106)) (QendX Tryz.prog Tryz.f106 fun v h=>R (frzW h v))) (QendX Tryz.prog Tryz.f106 fun v h=>R (frzW h v))))))))))))) (St.mk (mkT [(0,V.lst 2 (bdl l)),(3,V.mp (Id.p 0)),(4,V.sl (Id.p 1) 0 q),(5,iv (↑i:Int)),(6,V.ptr (Id.p 2) 0 0),(14,V.lst 2 (bdl l)),(15,iv (↑m:Int)),(16,iv (↑i:Int)),(23,V.lst 3 (cll x)),(24,iv (↑n:Int)),(25,iv (↑k:Int)),(31,nilS),(32,iv (0:Int)),(33,iv (0:Int))]) (Hp.mk [(0,O.mp (trM [] 0 ms.length es_1)),(1,O.rows 2 true (prl ps)),(2,O.rows 40 true [cm])] 3 [(0,Fam.mk 1 (ms++[]))]))))) (guardB (es_1.all (goodE [] 0 true)) (La 0 [(0:Tmp),(3:Tmp),(4:Tmp),(5:Tmp),(6:Tmp),(11:Tmp),(14:Tmp),(15:Tmp),(16:Tmp),(1000001:Tmp),(4000003:Tmp)] (WY Tryz.prog cfO 2983 (Env.mk (Bs.mk 0 []) 0 none 60 106 6) (cdAt [1,1,1,0,1,0,0,1,1,0,0,1,1,1,1,0,0] (bodyOf Tryz.f106))) (Qblk 6 (Qblk 1 (Qthen (WY Tryz.prog cfO 2990 (Env.mk (Bs.mk 0 []) 0 none 60 106 0) (cdAt [1,1,1,0,1,0,0,1,1,1] (bodyOf Tryz.f106)) (Qla 0 [(0:Tmp),(3:Tmp),(4:Tmp),(14:Tmp),(15:Tmp),(16:Tmp),(1000001:Tmp),(4000003:Tmp)] C (Qblk 0 (Qthen (WY Tryz.prog cfO 2996 (Env.mk (Bs.mk 0 []) 0 none 60 106 0) (cdAt [1,1,1,1] (bodyOf Tryz.f106)) (QendX Tryz.prog Tryz.f106 fun v h=>R (frzW h v))) (QendX Tryz.prog Tryz.f106 fun v h=>R (frzW h v)))))) (Qla 0 [(0:Tmp),(3:Tmp),(4:Tmp),(14:Tmp),(15:Tmp),(16:Tmp),(1000001:Tmp),(4000003:Tmp)] C (Qblk 0 (Qthen (WY Tryz.prog cfO 2996 (Env.mk (Bs.mk 0 []) 0 none 60 106 0) (cdAt [1,1,1,1] (bodyOf Tryz.f106)) (QendX Tryz.prog Tryz.f106 fun v h=>R (frzW h v))) (QendX Tryz.prog Tryz.f106 fun v h=>R (frzW h v)))))))) (St.mk (mkT [(0,V.lst 2 (bdl l)),(3,V.mp (Id.p 0)),(4,V.sl (Id.p 1) 0 q),(5,iv (↑i:Int)),(6,V.ptr (Id.p 2) 0 0),(11,iv (IntKind.i64.wrap ((↑i:Int)+(1:Int)))),(14,V.lst 2 (bdl l)),(15,iv (↑m:Int)),(16,iv (↑i:Int))]) (Hp.mk [(0,O.mp (trM [] 0 ms.length es_1)),(1,O.rows 2 true (prl ps)),(2,O.rows 40 true [cm])] 3 [(0,Fam.mk 1 (ms++[]))]))))) (by kernel_rfl) ?_
  refine ifB_mk (fun e=>?_) (fun e=>?_)
  ·have hk:k<n:=by have:=of_decide_eq_true e; omega
   obtain ⟨c,hc⟩:=getI (l:=x) (k:=k) (by omega)
   have hcr:(cll x)[k]? = some (clr c):=by simp [cll,hc]
   have hcx:c∈cellsAt l i:=by rw [hxc]; exact mem_at hc
   obtain ⟨jj,t,h1,h2,h3⟩:=findC_mem 0 (own_find ho (b:=i) (by omega) hcx)
   have htm:=List.mem_of_getElem? h1
   have hbr:=own_brs ho htm
   rw [h2] at hbr
   have hmb:memb ms t.2.2=some (t.2.1.map rowI):=by unfold memb; rw [hr.mem t htm]; rfl
   rw [← hr.es] at h3
   refine onSome_mk hcr (onCons_cons (onIntK_iv (onCons_cons (onIntK_iv (onCons_cons (onIntK_iv ?_))))))
   refine onFind_iff.2 (.inl ⟨0+jj,_,_,h3,?_⟩)
   refine onMem0 (guardB_mk (by show (memb ms t.2.2).isSome=true; rw [hmb]; rfl) (guardB_mk hgood ?_))
   obtain ⟨j,hj⟩ : ∃ j,j=t.2.2:=⟨_,rfl⟩
   obtain ⟨w,hw⟩ : ∃ w,w=t.2.1.length:=⟨_,rfl⟩
   rw [← hj,← hw]
   rw [← hj] at hmb
   have hw1000:w≤1000:=by
    rw [hw,hbr]
    have:=List.length_filter_le (fun b=>dc (c∈cellsAt l b)) (List.range l.length)
    unfold brs
    simp only [List.length_range] at this
    omega
   refine La.of (σ:=Nat×List V×List (V×V)×List (Option (List (List V)))) (fun s=>oSc l x s.2.1 ps s.2.2.1 s.2.2.2 q m i n k j w s.1) (fun s=>s.1≤w∧s.2.1=cmV (fun o=>Mk l x k o∨o∈t.2.1.take s.1)∧s.2.2.1=es_1∧s.2.2.2=ms) (fun s=>w - s.1) (0,cm,_,_) (by kernel_rfl) ⟨by omega,by rw [hcm]; exact cmV_ext (fun o=>by simp),htr,hms⟩ ?_
   rintro ⟨z,cm,es_1,ms⟩ ⟨z1,hcm2,ge,gm⟩ E hE
   simp only at z1 hcm2 ge gm
   subst ge gm
   refine see (p:=ifB (decide ((↑z:Int)<(↑w:Int))) (onSome (memb ms j) fun es=>need (z<w) (onSome (memb ms j) fun es=>onSome es[0+z]? fun row=>onSome row[0]? fun v=>onIntK IntKind.i64 v fun n_5=>onNat n_5 fun m_1=>need (m_1<40) (guardB ((0+m_1 * 1+1).ble cm.length) (guardB (es_1.all (goodE [] 0 true)) (E (St.mk (mkT [(0,V.lst 2 (bdl l)),(3,V.mp (Id.p 0)),(4,V.sl (Id.p 1) 0 q),(5,iv (↑i:Int)),(6,V.ptr (Id.p 2) 0 0),(14,V.lst 2 (bdl l)),(15,iv (↑m:Int)),(16,iv (↑i:Int)),(23,V.lst 3 (cll x)),(24,iv (↑n:Int)),(25,iv (↑k:Int)),(31,V.sl (Id.m 0 j) 0 w),(32,iv (↑w:Int)),(33,iv (IntKind.i64.wrap ((↑z:Int)+(1:Int))))]) (Hp.mk [(0,O.mp (trM [] 0 ms.length es_1)),(1,O.rows 2 true (prl ps)),(2,O.rows 40 true [List.take (0+m_1 * 1) cm++[bv true]++List.drop (0+m_1 * 1+1) cm])] 3 [(0,Fam.mk 1 (ms++[]))]))))))) (guardB (es_1.all (goodE [] 0 true)) (D (St.mk (mkT [(0,V.lst 2 (bdl l)),(3,V.mp (Id.p 0)),(4,V.sl (Id.p 1) 0 q),(5,iv (↑i:Int)),(6,V.ptr (Id.p 2) 0 0),(14,V.lst 2 (bdl l)),(15,iv (↑m:Int)),(16,iv (↑i:Int)),(23,V.lst 3 (cll x)),(24,iv (↑n:Int)),(25,iv (IntKind.i64.wrap ((↑k:Int)+(1:Int))))]) (Hp.mk [(0,O.mp (trM [] 0 ms.length es_1)),(1,O.rows 2 true (prl ps)),(2,O.rows 40 true [cm])] 3 [(0,Fam.mk 1 (ms++[]))]))))) (by kernel_rfl) ?_
   refine ifB_mk (fun e' => ?_) (fun e' => ?_)
   ·have hz:z<w:=by have:=of_decide_eq_true e'; omega
    obtain ⟨o,hot⟩:=getI (l:=t.2.1) (k:=z) (by omega)
    have hom:o<40:=by
     have:=mem_at hot
     rw [hbr] at this
     unfold brs at this
     have:=List.mem_range.1 (List.mem_filter.1 this).1
     omega
    refine onSome_mk hmb (need_mk ⟨hz,onSome_mk hmb (onSome_mk (x:=rowI o) (by simp [hot]) (onSome_mk (x:=iv (o:Int)) rfl (onIntK_iv (onNat_mk (m:=o) rfl (need_mk ⟨hom,guardB_mk (by rw [hcm2,cmV_length]; exact Nat.ble_eq_true_of_le (by omega)) (guardB_mk hgood ?_)⟩)))))⟩)
    rw [wr1i hz (by omega)]
    refine hE (z+1,List.take (0+o * 1) cm++[bv true]++List.drop (0+o * 1+1) cm,_,_) ⟨hz,?_,htr,hms⟩ (by simp only; omega)
    simp only
    rw [hcm2,cmV_set hom]
    refine cmV_ext (fun o' => ?_)
    rw [take_succ' hot]
    simp [or_assoc]
   ·have hz:z=w:=by have:=of_decide_eq_false e'; omega
    refine guardB_mk hgood ?_
    rw [wr1i hk (by omega)]
    refine hD (k+1,cm,_,_) ⟨hk,?_,htr,hms⟩ (by simp only; omega)
    simp only
    rw [hcm2]
    refine cmV_ext (fun o=>?_)
    rw [hz,hw,List.take_length,hbr]
    exact mk_succ hc l.length (fun o h=>cellsAt_lt h) o
  ·have hk:k=n:=by have:=of_decide_eq_false e; omega
   have hcm:cm=cmV (Comm l i):=by
    rw [hcm]
    refine cmV_ext (fun o=>?_)
    unfold Mk Comm
    rw [hk,hnx,List.take_length,hxc]
   refine guardB_mk hgood ?_
   rw [wr1i hi (by omega)]
   refine La.of (σ:=Bool×Nat×Nat×List (Nat×Nat)×List (V×V)×List (Option (List (List V)))) (fun s=>match s.1 with | false=>oNd l cm s.2.2.2.2.1 s.2.2.2.2.2 m i s.2.1 | true=>oSd l cm s.2.2.2.1 s.2.2.2.2.1 s.2.2.2.2.2 s.2.2.1 m i s.2.1) (fun s=>(i<s.2.1∧s.2.1≤m)∧s.2.2.2.2.1=es_1∧s.2.2.2.2.2=ms∧s.2.2.1=s.2.2.2.1.length∧s.2.2.2.1=ovl l i++inn l i s.2.1∧(s.1=false→s.2.2.2.1=[])∧(s.1=true→s.2.2.2.1≠[])) (fun s=>m - s.2.1) (true,i+1,q,ps,_,_) (by kernel_rfl) ⟨⟨by simp only; omega,by simp only; omega⟩,htr,hms,gq,gp.trans (by simp [inn_start]),gb,gb2⟩ ?_
   rintro ⟨bb,o,q,ps,es_1,ms⟩ ⟨⟨o0,o1⟩,ge,gm,gq', gp', gb', gb2'⟩ F hF
   simp only at o0 o1 ge gm gq' gp' gb' gb2'
   subst ge gm
   have hq:q≤2000:=by
    rw [gq', gp', List.length_append]
    have h1:=ovl_len l i
    have h2:=inn_len l i o
    have h3:i * l.length≤40 * 40:=Nat.mul_le_mul (by omega) (by omega)
    omega
   have hend : ∀ h : ¬ o<m,ps=ovl l (i+1):=fun h=>by
    rw [gp', ovl_succ]
    congr 2
    omega
   cases bb with
   | false =>
    exfalso
    have h1:=gb' rfl
    rw [gp', ← gp] at h1
    exact gb2 rfl (List.append_eq_nil_iff.1 h1).1
   | true =>
    refine see (p:=ifB (decide ((↑o:Int)<(↑(bdl l).length:Int))) (need (o<40) (onSome cm[0+o * 1]? fun v=>onBool v fun b=>ifB b (need ((q+1) * 16≤140737488355328) (guardB (es_1.all (goodE [] 0 true)) (F (St.mk (mkT [(0,V.lst 2 (bdl l)),(3,V.mp (Id.p 0)),(4,V.sl (Id.p 1) 0 (q+1)),(5,iv (↑i:Int)),(6,V.ptr (Id.p 2) 0 0),(11,iv (IntKind.i64.wrap ((↑o:Int)+(1:Int)))),(14,V.lst 2 (bdl l)),(15,iv (↑m:Int)),(16,iv (↑i:Int))]) (Hp.mk [(0,O.mp (trM [] 0 ms.length es_1)),(1,O.rows 2 true (List.take q (prl ps)++[[iv (↑i:Int),iv (↑o:Int)]])),(2,O.rows 40 true [cm])] 3 [(0,Fam.mk 1 (ms++[]))]))))) (guardB (es_1.all (goodE [] 0 true)) (F (St.mk (mkT [(0,V.lst 2 (bdl l)),(3,V.mp (Id.p 0)),(4,V.sl (Id.p 1) 0 q),(5,iv (↑i:Int)),(6,V.ptr (Id.p 2) 0 0),(11,iv (IntKind.i64.wrap ((↑o:Int)+(1:Int)))),(14,V.lst 2 (bdl l)),(15,iv (↑m:Int)),(16,iv (↑i:Int))]) (Hp.mk [(0,O.mp (trM [] 0 ms.length es_1)),(1,O.rows 2 true (prl ps)),(2,O.rows 40 true [cm])] 3 [(0,Fam.mk 1 (ms++[]))])))))) (guardB (es_1.all (goodE [] 0 true)) (C (St.mk (mkT [(0,V.lst 2 (bdl l)),(3,V.mp (Id.p 0)),(4,V.sl (Id.p 1) 0 q),(14,V.lst 2 (bdl l)),(15,iv (↑m:Int)),(16,iv (IntKind.i64.wrap ((↑i:Int)+(1:Int))))]) (Hp.mk [(0,O.mp (trM [] 0 ms.length es_1)),(1,O.rows 2 true (prl ps))] 2 [(0,Fam.mk 1 (ms++[]))]))))) (by kernel_rfl) ?_
    refine ifB_mk (fun e' => ?_) (fun e' => ?_)
    ·have hom:o<m:=by have:=of_decide_eq_true e'; rw [← hm] at this; omega
     refine need_mk ⟨by omega,onSome_mk (x:=bv (dc (Comm l i o))) (by rw [hcm]; exact cmV_get (by omega)) (onBool_bv (ifB_mk (fun hc=>?_) (fun hc=>?_)))⟩
     ·refine need_mk ⟨by omega,guardB_mk hgood ?_⟩
      rw [wr1i hom (by omega)]
      have hp:List.take q (prl ps)++[[iv (i:Int),iv (o:Int)]]=prl (ps++[(i,o)]):=by rw [gq', show ps.length=(prl ps).length from by simp [prl],List.take_length]; simp [prl]
      rw [hp]
      refine hF (true,o+1,q+1,ps++[(i,o)],_,_) ⟨⟨by simp only; omega,by simp only; omega⟩,htr,hms,by simp [gq'],?_,(fun h=>by cases h),(fun _=>by simp)⟩ (by simp only; omega)
      simp only
      rw [inn_succ o0,if_pos hc,gp', List.append_assoc]
     ·refine guardB_mk hgood ?_
      rw [wr1i hom (by omega)]
      refine hF (true,o+1,q,ps,_,_) ⟨⟨by simp only; omega,by simp only; omega⟩,htr,hms,gq', ?_,gb', gb2'⟩ (by simp only; omega)
      simp only
      rw [inn_succ o0,hc,if_neg (by simp),gp']
    ·have hom : ¬ o<m:=by have:=of_decide_eq_false e'; rw [← hm] at this; omega
     refine guardB_mk hgood ?_
     rw [wr1i hi (by omega)]
     exact hC (true,i+1,q,ps,_,_) ⟨hi,htr,hms,gq', hend hom,gb', gb2'⟩ (by simp only; omega)
set_option maxRecDepth 100000
def kpVB:FuncId→Nat→Option (List Tmp):=slotsOf [(142,0,[0,1,7,8]),(105,0,[0,7,29,30,31])]
noncomputable def cfVB:Cfg:={ cfgG Tryz.prog glX moZ poP (rtP fN) (inN [121,142,122]) kpVB with clean:=fun g=>true }
noncomputable def sh142 (l:List Kd) (m:List Bk) (s i:Nat):St:=⟨mkT [(0,V.lst 6 (bkl m)),(1,V.fn (Fn.func 122) [] [V.ptr (Id.p 0) 0 0]),(7,iv (s:Int)),(8,iv (i:Int))],⟨[(0,O.rows 1 false [[V.lst 3 (kdl l)]])],1,[]⟩⟩
noncomputable def sh105 (l:List Kd) (m:List Bk) (rs:List (List V)) (s i:Nat):St:=⟨mkT [(0,V.lst 3 (kdl l)),(7,V.sl (Id.p 0) 0 s),(29,V.lst 6 (bkl m)),(30,iv (s:Int)),(31,iv (i:Int))],⟨[(0,O.rows 2 true rs)],1,[]⟩⟩
end Go.Proofs.YtbionhgjgcpogaaGreatDoor
