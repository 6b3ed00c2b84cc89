/- A part of the proof. -/
import Derived.Test.YtbionhgjgcpogaaGreatDoorProg
import Derived.Test.YtbionhgjgcpogaaGreatDoorXT6G10
import Derived.Test.YtbionhgjgcpogaaGreatDoorXT6G11
namespace Go.Proofs.YtbionhgjgcpogaaGreatDoor
open Go Go.Proofs.YtbionhgjgcpogaaGreatDoor.Clean
set_option linter.unusedVariables false
set_option linter.unusedSimpArgs false
set_option maxRecDepth 10000
theorem Bd.qz {b:Int} {c:Cl} (h:Bd b c):Bd b (qz c):=by
 unfold Bd Nr at *
 simp only [Go.Proofs.YtbionhgjgcpogaaGreatDoor.qz]
 omega
theorem Bd.qx {b:Int} {c:Cl} (h:Bd b c):Bd b (qx c):=by
 unfold Bd Nr at *
 simp only [Go.Proofs.YtbionhgjgcpogaaGreatDoor.qx]
 omega
theorem itr_ind {P:Cl→Prop} {f:Cl→Cl} (hf : ∀ c,P c→P (f c)) : ∀ (n:Nat) (c:Cl),P c→P (itr f n c)
 | 0,c,h=>h
 | n+1,c,h=>itr_ind hf n (f c) (hf c h)
theorem tn_ind {P:Cl→Prop} (hz : ∀ c,P c→P (qz c)) (hx : ∀ c,P c→P (qx c)) (n:Nat) {c:Cl} (h:P c):P (tn n c):=by
 unfold tn
 split
 ·exact itr_ind hx _ _ (itr_ind hz _ _ h)
 ·exact itr_ind hz _ _ (hx _ (itr_ind hz _ _ h))
theorem tn_bd {b:Int} {n:Nat} {c:Cl} (h:Bd b c):Bd b (tn n c):=tn_ind (P:=Bd b) (fun _ h=>h.qz) (fun _ h=>h.qx) n h
theorem add_bd {a b:Int} {c d:Cl} (h:Bd a c) (h' : Bd b d):Bd (a+b) (addC c d):=by
 unfold Bd Nr at *
 simp only [addC]
 omega
theorem Bd.mono {a b:Int} {c:Cl} (h:Bd a c) (hab:a≤b):Bd b c:=Nr.mono h (by omega) hab
theorem add97 {a b:Cl} {R:V→Prop} (ha:Bd 1000000 a) (hb:Bd 1000000 b) (h:R (.agg (clr (addC a b)))):K0G Tryz.prog glX 97 [.agg (clr a),.agg (clr b)] R:=by
 refine K0_by hmX hcR 3000 Tryz.func97 (p:=R (V.agg [iv (IntKind.i64.wrap (a.1+b.1)),iv (IntKind.i64.wrap (a.2.1+b.2.1)),iv (IntKind.i64.wrap (a.2.2+b.2.2))])) (by kernel_rfl) ?_
 unfold Bd Nr at ha hb
 rw [wr (n:=a.1+_) (by omega) (by omega),wr (n:=a.2.1+_) (by omega) (by omega),wr (n:=a.2.2+_) (by omega) (by omega)]
 exact h
def fill {α β:Type} (f:α→β) (z:β) (l:List α) (i:Nat):List β:=(l.take i).map f++List.replicate (l.length - i) z
section
variable {α β:Type} {f:α→β} {z:β} {l:List α} {i:Nat}
theorem fill_zero:fill f z l 0=List.replicate l.length z:=by simp [fill]
theorem fill_full:fill f z l l.length=l.map f:=by simp [fill]
theorem fill_get (h:i<l.length):(fill f z l i)[i]? = some z:=by
 unfold fill
 rw [List.getElem?_append_right (by simp; omega)]
 have:i - ((l.take i).map f).length=0:=by simp; omega
 rw [this,List.getElem?_replicate,if_pos (by omega)]
theorem fill_set {x:α} (hx:l[i]? = some x):(fill f z l i).set i (f x)=fill f z l (i+1):=by
 have hi:=(List.getElem?_eq_some_iff.1 hx).1
 unfold fill
 rw [List.set_append_right _ _ (by simp; omega),show l.length - i=(l.length - (i+1))+1 from by omega,List.replicate_succ,take_succ' hx]
 have:i - ((l.take i).map f).length=0:=by simp; omega
 rw [this]
 simp
end
theorem cll_set (L:List Cl) (i:Nat) (c:Cl):(cll L).set (0+i) (iv c.1::iv c.2.1::iv c.2.2::List.append [] (List.drop 3 (clr (0,0,0))))=cll (L.set i c):=by rw [Nat.zero_add]; simp [cll,List.map_set,clr]
theorem knl_set (L:List Kn) (i:Nat) (c:Kn):(knl L).set (0+i) (iv c.1.1::iv c.1.2.1::iv c.1.2.2::V.raw (.int .u8 c.2.1)::V.raw (.int .u8 c.2.2)::List.append [] (List.drop 5 (knr ((0,0,0),0,0))))=knl (L.set i c):=by rw [Nat.zero_add]; simp [knl,List.map_set,knr,u8]
def plc (q:Kd) (n:Nat) (by_:Cl):List Cl:=sortC (q.1.map fun c=>addC (tn n c) by_)
def knb (q:Kd) (n:Nat) (by_:Cl):List Kn:=q.2.1.map fun k=>(addC (tn n k.1) by_,pt n k.2.1,k.2.2)
theorem pt_rg (n:Nat) (d:Int):0≤pt n d∧pt n d≤5:=by
 have h : ∀ n,n<24 → ∀ d,d<6→0≤(ptL.getD n []).getD d 0∧(ptL.getD n []).getD d 0≤5:=by decide
 unfold pt
 by_cases hn:n<24
 ·by_cases hd:d.toNat<6
  ·exact h n hn _ hd
  ·have hl : ∀ n,n<24→(ptL.getD n []).length=6:=by decide
   rw [List.getD_eq_getElem?_getD (l:=ptL.getD n []),List.getElem?_eq_none (by rw [hl n hn]; omega)]
   simp
 ·have:ptL.getD n []=[]:=by rw [List.getD_eq_getElem?_getD,List.getElem?_eq_none (by simp [ptL]; omega)]; rfl
  rw [this]; simp
theorem u8w {n:Int} (h:0≤n) (h' : n≤255):IntKind.u8.wrap n=n:=by
 have:IntKind.u8.wrap n=n % 256:=rfl
 rw [this]; omega
def PutP (q:Kd):Prop:=(∀ c∈q.1,Nr 0 15 c)∧q.1.length≤30∧(∀ k∈q.2.1,Nr 0 15 k.1∧0≤k.2.1∧k.2.1≤5)∧q.2.1.length≤60
set_option maxHeartbeats 2000000 in
theorem put95A {q:Kd} {k t:Int} {by_:Cl} {n:Nat} {R:V→Prop} (hch:K0G Tryz.prog glX 82 [iv t] fun v=>v=(chA k)) (hcell : ∀ {c:Cl} {R:V→Prop},Bd 3000 c→R (.agg (clr (tn n c)))→K0G Tryz.prog glX 85 [(chA k),.agg (clr c)] R) (hdir : ∀ {d:Nat} {R:V→Prop},d<6→R (iv (pt n (d:Int)))→K0G Tryz.prog glX 83 [(chA k),iv (d:Int)] R)
  (hq:PutP q) (hby:Bd 2000 by_) (h:R (.agg [.lst 3 (cll (plc q n by_)),.lst 5 (knl (knb q n by_))])):K0G Tryz.prog glX 95 [.agg (kdr q),iv t,.agg (clr by_)] R:=by
 refine K0_of_WY0 hmX (hcP (chA k)) 3000 Tryz.func95 (see (p:=KM Tryz.prog glX 82 [iv t] (Hp.mk [] 0 []) (poP 82 [iv t]) fun v us=>v=V.agg [V.fn (Fn.func (124:FuncId)) [] [],iv k,V.raw Value.nilFunc,iv (0:Int),V.raw Value.nilFunc,iv (0:Int)]∧need ((knl q.2.1).length≤(knl q.2.1).length) (need (32 * (knl q.2.1).length≤140737488355328) (need ((knl q.2.1).length≤9223372036854775807) (need ((cll q.1).length≤(cll q.1).length) (need (24 * (cll q.1).length≤140737488355328) (need ((cll q.1).length≤9223372036854775807) (need ((knl q.2.1).length≤(knl q.2.1).length) (need (32 * (knl q.2.1).length≤140737488355328) (need ((knl q.2.1).length≤9223372036854775807) (La 0 [(3:Tmp),(5:Tmp),(6:Tmp),(7:Tmp),(8:Tmp),(26:Tmp),(27:Tmp),(28:Tmp)] (WY Tryz.prog (cfP (chA k)) 2993 (Env.mk (Bs.mk 0 []) 0 none 76 95 0) (cdAt [1,1,1,0,1,0,0] (bodyOf Tryz.f95))) (Qblk 0 (Qthen (WY Tryz.prog (cfP (chA k)) 2996 (Env.mk (Bs.mk 0 []) 0 none 76 95 0) (cdAt [1,1,1,1] (bodyOf Tryz.f95)) (QendX Tryz.prog Tryz.f95 fun v h=>R (frzW h v))) (QendX Tryz.prog Tryz.f95 fun v h=>R (frzW h v)))) (St.mk (mkT [(3,V.ptr (Id.p 0) 0 0),(5,V.ptr (Id.p 1) 0 0),(6,V.ptr (Id.p 2) 0 0),(7,V.ptr (Id.p 3) 0 0),(8,V.ptr (Id.p 4) 0 0),(26,V.lst 3 (cll q.1)),(27,iv (↑(cll q.1).length:Int)),(28,iv (0:Int))]) (Hp.mk [(0,O.rows 3 false [[V.lst 3 (cll q.1),V.lst 5 (knl q.2.1),iv q.2.2]]),(1,O.rows 3 false [[iv by_.1,iv by_.2.1,iv by_.2.2]]),(2,O.rows 2 false [[nilS,nilS]]),(3,O.rows 6 false [[V.fn (Fn.func (124:FuncId)) [] [],iv k,V.raw Value.nilFunc,iv (0:Int),V.raw Value.nilFunc,iv (0:Int)]]),(4,O.rows 2 false [[V.sl (Id.p 5) 0 (cll q.1).length,V.sl (Id.p 6) 0 (knl q.2.1).length]]),(5,O.rows 3 true (List.replicate (cll q.1).length [iv (0:Int),iv (0:Int),iv (0:Int)])),(6,O.rows 5 true (List.replicate (knl q.2.1).length [iv (0:Int),iv (0:Int),iv (0:Int),V.raw (Value.int IntKind.u8 (0:Int)),V.raw (Value.int IntKind.u8 (0:Int))]))] 7 [])))))))))))) (by kernel_rfl) ?_)
 obtain ⟨hc,hcl,hk,hkl⟩:=hq
 have cl:=cll_length q.1
 have kl:=knl_length q.2.1
 refine KM_of_K0 rfl rfl (hch.mono' fun v e=>⟨e,?_⟩)
 refine need_mk ⟨Nat.le_refl _,need_mk ⟨by omega,need_mk ⟨by omega,need_mk ⟨Nat.le_refl _,need_mk ⟨by omega,need_mk ⟨by omega,need_mk ⟨Nat.le_refl _,need_mk ⟨by omega,need_mk ⟨by omega,?_⟩⟩⟩⟩⟩⟩⟩⟩⟩
 have e1:List.replicate (cll q.1).length [iv (0:Int),iv (0:Int),iv (0:Int)]=cll (fill (fun c=>addC (tn n c) by_) (0,0,0) q.1 0):=by rw [cl,fill_zero]; simp [cll,clr]
 have e2:List.replicate (knl q.2.1).length [iv (0:Int),iv (0:Int),iv (0:Int),V.raw (Value.int IntKind.u8 (0:Int)),V.raw (Value.int IntKind.u8 (0:Int))]=knl (fill (fun k:Kn=>((addC (tn n k.1) by_,pt n k.2.1,k.2.2):Kn)) ((0,0,0),0,0) q.2.1 0):=by rw [kl,fill_zero]; simp [knl,knr,u8]
 rw [e1,e2]
 generalize hK:fill (fun k:Kn=>((addC (tn n k.1) by_,pt n k.2.1,k.2.2):Kn)) ((0,0,0),0,0) q.2.1 0=K
 refine La.of (σ:=Nat) (fun i=>sh95a (chAr k) q by_ (fill (fun c=>addC (tn n c) by_) (0,0,0) q.1 i) K i) (fun i=>i≤q.1.length) (fun i=>q.1.length - i) 0 (by kernel_rfl) (by omega) ?_
 intro i g1 J hJ
 generalize hL:fill (fun c=>addC (tn n c) by_) (0,0,0) q.1 i=L
 refine see (p:=ifB (decide ((↑i:Int)<(↑(cll q.1).length:Int))) (onSome (cll q.1)[i]? fun row=>onCons (List.drop 0 row) fun u r=>onIntK IntKind.i64 u fun n=>onCons r fun u r=>onIntK IntKind.i64 u fun n_1=>onCons r fun u r=>onIntK IntKind.i64 u fun n_2=>K0G Tryz.prog glX 85 [V.agg [V.fn (Fn.func (124:FuncId)) [] [],iv k,V.raw Value.nilFunc,iv (0:Int),V.raw Value.nilFunc,iv (0:Int)],V.agg [iv n,iv n_1,iv n_2]] fun v=>onAgg v fun cs=>onCons cs fun u r=>onIntK IntKind.i64 u fun n=>onCons r fun u r=>onIntK IntKind.i64 u fun n_3=>onCons r fun u r=>onIntK IntKind.i64 u fun n_4=>onNil r (K0G Tryz.prog glX 97 [V.agg [iv n,iv n_3,iv n_4],V.agg [iv by_.1,iv by_.2.1,iv by_.2.2]] fun v=>onAgg v fun cs=>onCons cs fun u r=>onIntK IntKind.i64 u fun n=>onCons r fun u r=>onIntK IntKind.i64 u fun n_5=>onCons r fun u r=>onIntK IntKind.i64 u fun n_6=>onNil r (need (i<(cll q.1).length) (onSome (cll L)[0+i]? fun row=>guardB ((0+3).ble row.length) (J (St.mk (mkT [(3,V.ptr (Id.p 0) 0 0),(5,V.ptr (Id.p 1) 0 0),(6,V.ptr (Id.p 2) 0 0),(7,V.ptr (Id.p 3) 0 0),(8,V.ptr (Id.p 4) 0 0),(26,V.lst 3 (cll q.1)),(27,iv (↑(cll q.1).length:Int)),(28,iv (IntKind.i64.wrap ((↑i:Int)+(1:Int))))]) (Hp.mk [(0,O.rows 3 false [[V.lst 3 (cll q.1),V.lst 5 (knl q.2.1),iv q.2.2]]),(1,O.rows 3 false [[iv by_.1,iv by_.2.1,iv by_.2.2]]),(2,O.rows 2 false [[nilS,nilS]]),(3,O.rows 6 false [[V.fn (Fn.func (124:FuncId)) [] [],iv k,V.raw Value.nilFunc,iv (0:Int),V.raw Value.nilFunc,iv (0:Int)]]),(4,O.rows 2 false [[V.sl (Id.p 5) 0 (cll q.1).length,V.sl (Id.p 6) 0 (knl q.2.1).length]]),(5,O.rows 3 true ((cll L).set (0+i) (iv n::iv n_5::iv n_6::(List.append []) (List.drop 3 row)))),(6,O.rows 5 true (knl K))] 7 []))))))) (KM Tryz.prog glX 129 [V.sl (Id.p 0) 0 (cll q.1).length,V.fn (Fn.func 89) [] []] (Hp.mk [(0,O.rows 3 true (cll L))] 1 []) (poP 129 [V.sl (Id.p 5) 0 (cll q.1).length,V.fn (Fn.func 89) [] []]) fun v us=>onTup v fun vs=>onNil vs (La 0 [(5:Tmp),(6:Tmp),(7:Tmp),(8:Tmp),(47:Tmp),(48:Tmp),(49:Tmp)] (WY Tryz.prog (cfP (chA k)) 2991 (Env.mk (Bs.mk 0 []) 0 none 76 95 2) (cdAt [1,1,1,1,1,0,1,0,0] (bodyOf Tryz.f95))) (Qblk 2 (Qthen (WY Tryz.prog (cfP (chA k)) 2994 (Env.mk (Bs.mk 0 []) 0 none 76 95 0) (cdAt [1,1,1,1,1,1] (bodyOf Tryz.f95)) (QendX Tryz.prog Tryz.f95 fun v h=>R (frzW h v))) (QendX Tryz.prog Tryz.f95 fun v h=>R (frzW h v)))) (St.mk (mkT [(5,V.ptr (Id.p 0) 0 0),(6,V.ptr (Id.p 1) 0 0),(7,V.ptr (Id.p 2) 0 0),(8,V.ptr (Id.p 3) 0 0),(47,V.lst 5 (knl q.2.1)),(48,iv (↑(knl q.2.1).length:Int)),(49,iv (0:Int))]) (Hp.mk [(0,O.rows 3 false [[iv by_.1,iv by_.2.1,iv by_.2.2]]),(1,O.rows 2 false [[nilS,nilS]]),(2,O.rows 6 false [[V.fn (Fn.func (124:FuncId)) [] [],iv k,V.raw Value.nilFunc,iv (0:Int),V.raw Value.nilFunc,iv (0:Int)]]),(3,O.rows 2 false [[V.sl (Id.p 4) 0 (cll q.1).length,V.sl (Id.p 5) 0 (knl q.2.1).length]]),(4,O.rows 3 true (List.getD us 0 [])),(5,O.rows 5 true (knl K))] 6 []))))) (by kernel_rfl) ?_
 refine ifB_mk (fun d=>?_) (fun d=>?_)
 ·have hlt:i<q.1.length:=by have:=of_decide_eq_true d; omega
  obtain ⟨x,hx⟩:=getI hlt
  have hxb:Bd 15 x:=(hc x (mem_at hx)).mono (by omega) (by omega)
  refine cel hx (hcell (c:=x) (hxb.mono (by omega)) (onC (add97 (a:=tn n x) (b:=by_) ((tn_bd hxb).mono (by omega)) (hby.mono (by omega)) (onC (need_mk ⟨by omega,?_⟩)))))
  have hz:(cll L)[0+i]? = some (clr (0,0,0)):=by
   have:=fill_get (f:=fun c=>addC (tn n c) by_) (z:=((0,0,0):Cl)) hlt
   rw [hL] at this
   rw [Nat.zero_add]; simp [cll,this]
  refine onSome_mk hz (guardB_mk rfl ?_)
  rw [wr1i hlt (by omega),cll_set L i (addC (tn n x) by_),← hL,fill_set hx]
  exact hJ (i+1) hlt (by omega)
 ·have hi:i=q.1.length:=by have:=of_decide_eq_false d; omega
  subst hi
  rw [fill_full] at hL
  have el:(cll q.1).length=L.length:=by rw [cl,← hL]; simp
  rw [el]
  refine sort129 (l:=L) (by omega) (fun us=>rfl) (onTup_tup (onNil_nil ?_))
  have hs:sortC L=plc q n by_:=by rw [← hL]; rfl
  rw [hs]
  rw [← el]
  clear hJ
  refine La.of (σ:=Nat) (fun i=>sh95b (chAr k) q by_ (plc q n by_) (fill (fun k:Kn=>((addC (tn n k.1) by_,pt n k.2.1,k.2.2):Kn)) ((0,0,0),0,0) q.2.1 i) i) (fun i=>i≤q.2.1.length) (fun i=>q.2.1.length - i) 0 (by rw [← hK]; kernel_rfl) (by omega) ?_
  intro i g1 I hI
  clear hL hs el
  generalize hL2:plc q n by_=L
  clear hK
  generalize hK2:fill (fun k:Kn=>((addC (tn n k.1) by_,pt n k.2.1,k.2.2):Kn)) ((0,0,0),0,0) q.2.1 i=K
  refine see (p:=ifB (decide ((↑i:Int)<(↑(knl q.2.1).length:Int))) (onSome (knl q.2.1)[i]? fun row=>onCons (List.drop 0 row) fun u r=>onIntK IntKind.i64 u fun n=>onCons r fun u r=>onIntK IntKind.i64 u fun n_1=>onCons r fun u r=>onIntK IntKind.i64 u fun n_2=>onCons r fun u r=>onIntK IntKind.u8 u fun n_3=>onCons r fun u r=>onIntK IntKind.u8 u fun n_4=>K0G Tryz.prog glX 85 [V.agg [V.fn (Fn.func (124:FuncId)) [] [],iv k,V.raw Value.nilFunc,iv (0:Int),V.raw Value.nilFunc,iv (0:Int)],V.agg [iv n,iv n_1,iv n_2]] fun v=>onAgg v fun cs=>onCons cs fun u r=>onIntK IntKind.i64 u fun n=>onCons r fun u r=>onIntK IntKind.i64 u fun n_5=>onCons r fun u r=>onIntK IntKind.i64 u fun n_6=>onNil r (K0G Tryz.prog glX 97 [V.agg [iv n,iv n_5,iv n_6],V.agg [iv by_.1,iv by_.2.1,iv by_.2.2]] fun v=>onAgg v fun cs=>onCons cs fun u r=>onIntK IntKind.i64 u fun n=>onCons r fun u r=>onIntK IntKind.i64 u fun n_7=>onCons r fun u r=>onIntK IntKind.i64 u fun n_8=>onNil r (K0G Tryz.prog glX 83 [V.agg [V.fn (Fn.func (124:FuncId)) [] [],iv k,V.raw Value.nilFunc,iv (0:Int),V.raw Value.nilFunc,iv (0:Int)],iv (IntKind.i64.wrap n_3)] fun v=>onIntK IntKind.i64 v fun n_9=>need (i<(knl q.2.1).length) (onSome (knl K)[0+i]? fun row=>guardB ((0+5).ble row.length) (I (St.mk (mkT [(5,V.ptr (Id.p 0) 0 0),(6,V.ptr (Id.p 1) 0 0),(7,V.ptr (Id.p 2) 0 0),(8,V.ptr (Id.p 3) 0 0),(47,V.lst 5 (knl q.2.1)),(48,iv (↑(knl q.2.1).length:Int)),(49,iv (IntKind.i64.wrap ((↑i:Int)+(1:Int))))]) (Hp.mk [(0,O.rows 3 false [[iv by_.1,iv by_.2.1,iv by_.2.2]]),(1,O.rows 2 false [[nilS,nilS]]),(2,O.rows 6 false [[V.fn (Fn.func (124:FuncId)) [] [],iv k,V.raw Value.nilFunc,iv (0:Int),V.raw Value.nilFunc,iv (0:Int)]]),(3,O.rows 2 false [[V.sl (Id.p 4) 0 (cll q.1).length,V.sl (Id.p 5) 0 (knl q.2.1).length]]),(4,O.rows 3 true (cll L)),(5,O.rows 5 true ((knl K).set (0+i) (iv n::iv n_7::iv n_8::V.raw (Value.int IntKind.u8 (IntKind.u8.wrap n_9))::V.raw (Value.int IntKind.u8 n_4)::(List.append []) (List.drop 5 row))))] 6 []))))))) (R (V.agg [V.lst 3 (sub (cll L) 0 (cll q.1).length),V.lst 5 (sub (knl K) 0 (knl q.2.1).length)]))) (by kernel_rfl) ?_
  refine ifB_mk (fun d=>?_) (fun d=>?_)
  ·have hlt:i<q.2.1.length:=by have:=of_decide_eq_true d; omega
   obtain ⟨x,hx⟩:=getI hlt
   obtain ⟨x1,x2,x3⟩:=hk x (mem_at hx)
   have hxb:Bd 15 x.1:=x1.mono (by omega) (by omega)
   obtain ⟨p1,p2⟩:=pt_rg n x.2.1
   refine kel hx (hcell (c:=x.1) (hxb.mono (by omega)) (onC (add97 (a:=tn n x.1) (b:=by_) ((tn_bd hxb).mono (by omega)) (hby.mono (by omega)) (onC ?_))))
   rw [wr (n:=x.2.1) (by omega) (by omega)]
   obtain ⟨m,hm⟩ : ∃ m:Nat,x.2.1=(m:Int):=⟨x.2.1.toNat,by omega⟩
   rw [hm]
   rw [hm] at p1 p2
   refine hdir (d:=m) (by omega) (onIntK_iv (need_mk ⟨by omega,?_⟩))
   have hz:(knl K)[0+i]? = some (knr ((0,0,0),0,0)):=by
    have:=fill_get (f:=fun k:Kn=>((addC (tn n k.1) by_,pt n k.2.1,k.2.2):Kn)) (z:=(((0,0,0),0,0):Kn)) hlt
    rw [hK2] at this
    rw [Nat.zero_add]; simp [knl,this]
   refine onSome_mk hz (guardB_mk rfl ?_)
   rw [wr1i hlt (by omega),u8w p1 (by omega)]
   have fs:(fill (fun k:Kn=>((addC (tn n k.1) by_,pt n k.2.1,k.2.2):Kn)) ((0,0,0),0,0) q.2.1 i).set i ((addC (tn n x.1) by_,pt n x.2.1,x.2.2):Kn)=fill (fun k:Kn=>((addC (tn n k.1) by_,pt n k.2.1,k.2.2):Kn)) ((0,0,0),0,0) q.2.1 (i+1):=fill_set hx
   rw [hK2] at fs
   have es:(knl K).set (0+i) (iv (addC (tn n x.1) by_).1::iv (addC (tn n x.1) by_).2.1::iv (addC (tn n x.1) by_).2.2::V.raw (.int .u8 (pt n (m:Int)))::V.raw (.int .u8 x.2.2)::List.append [] (List.drop 5 (knr ((0,0,0),0,0))))=knl (fill (fun k:Kn=>((addC (tn n k.1) by_,pt n k.2.1,k.2.2):Kn)) ((0,0,0),0,0) q.2.1 (i+1)):=by
    rw [← fs,← hm]
    exact knl_set K i ((addC (tn n x.1) by_,pt n x.2.1,x.2.2):Kn)
   rw [es,← hL2]
   exact hI (i+1) hlt (by omega)
  ·have hi:i=q.2.1.length:=by have:=of_decide_eq_false d; omega
   subst hi
   rw [fill_full] at hK2
   have s1:sub (cll L) 0 (cll q.1).length=cll (plc q n by_):=by
    rw [← hL2,sub,List.drop_zero,List.take_of_length_le]
    rw [cll_length,cl,plc,(sortC_perm _).length_eq]; simp
   have s2:sub (knl K) 0 (knl q.2.1).length=knl (knb q n by_):=by
    rw [sub,List.drop_zero,List.take_of_length_le (by rw [knl_length,kl,← hK2]; simp),← hK2]; rfl
   rw [s1,s2]
   exact h
set_option maxHeartbeats 2000000 in
theorem put95B {q:Kd} {k s t:Int} {by_:Cl} {n:Nat} {R:V→Prop} (hch:K0G Tryz.prog glX 82 [iv t] fun v=>v=(chB k s)) (hcell : ∀ {c:Cl} {R:V→Prop},Bd 3000 c→R (.agg (clr (tn n c)))→K0G Tryz.prog glX 85 [(chB k s),.agg (clr c)] R) (hdir : ∀ {d:Nat} {R:V→Prop},d<6→R (iv (pt n (d:Int)))→K0G Tryz.prog glX 83 [(chB k s),iv (d:Int)] R)
  (hq:PutP q) (hby:Bd 2000 by_) (h:R (.agg [.lst 3 (cll (plc q n by_)),.lst 5 (knl (knb q n by_))])):K0G Tryz.prog glX 95 [.agg (kdr q),iv t,.agg (clr by_)] R:=by
 refine K0_of_WY0 hmX (hcP (chB k s)) 3000 Tryz.func95 (see (p:=KM Tryz.prog glX 82 [iv t] (Hp.mk [] 0 []) (poP 82 [iv t]) fun v us=>v=V.agg [V.fn (Fn.func (124:FuncId)) [] [],iv k,V.fn (Fn.func (123:FuncId)) [] [],iv s,V.raw Value.nilFunc,iv (0:Int)]∧need ((knl q.2.1).length≤(knl q.2.1).length) (need (32 * (knl q.2.1).length≤140737488355328) (need ((knl q.2.1).length≤9223372036854775807) (need ((cll q.1).length≤(cll q.1).length) (need (24 * (cll q.1).length≤140737488355328) (need ((cll q.1).length≤9223372036854775807) (need ((knl q.2.1).length≤(knl q.2.1).length) (need (32 * (knl q.2.1).length≤140737488355328) (need ((knl q.2.1).length≤9223372036854775807) (La 0 [(3:Tmp),(5:Tmp),(6:Tmp),(7:Tmp),(8:Tmp),(26:Tmp),(27:Tmp),(28:Tmp)] (WY Tryz.prog (cfP (chB k s)) 2993 (Env.mk (Bs.mk 0 []) 0 none 76 95 0) (cdAt [1,1,1,0,1,0,0] (bodyOf Tryz.f95))) (Qblk 0 (Qthen (WY Tryz.prog (cfP (chB k s)) 2996 (Env.mk (Bs.mk 0 []) 0 none 76 95 0) (cdAt [1,1,1,1] (bodyOf Tryz.f95)) (QendX Tryz.prog Tryz.f95 fun v h=>R (frzW h v))) (QendX Tryz.prog Tryz.f95 fun v h=>R (frzW h v)))) (St.mk (mkT [(3,V.ptr (Id.p 0) 0 0),(5,V.ptr (Id.p 1) 0 0),(6,V.ptr (Id.p 2) 0 0),(7,V.ptr (Id.p 3) 0 0),(8,V.ptr (Id.p 4) 0 0),(26,V.lst 3 (cll q.1)),(27,iv (↑(cll q.1).length:Int)),(28,iv (0:Int))]) (Hp.mk [(0,O.rows 3 false [[V.lst 3 (cll q.1),V.lst 5 (knl q.2.1),iv q.2.2]]),(1,O.rows 3 false [[iv by_.1,iv by_.2.1,iv by_.2.2]]),(2,O.rows 2 false [[nilS,nilS]]),(3,O.rows 6 false [[V.fn (Fn.func (124:FuncId)) [] [],iv k,V.fn (Fn.func (123:FuncId)) [] [],iv s,V.raw Value.nilFunc,iv (0:Int)]]),(4,O.rows 2 false [[V.sl (Id.p 5) 0 (cll q.1).length,V.sl (Id.p 6) 0 (knl q.2.1).length]]),(5,O.rows 3 true (List.replicate (cll q.1).length [iv (0:Int),iv (0:Int),iv (0:Int)])),(6,O.rows 5 true (List.replicate (knl q.2.1).length [iv (0:Int),iv (0:Int),iv (0:Int),V.raw (Value.int IntKind.u8 (0:Int)),V.raw (Value.int IntKind.u8 (0:Int))]))] 7 [])))))))))))) (by kernel_rfl) ?_)
 obtain ⟨hc,hcl,hk,hkl⟩:=hq
 have cl:=cll_length q.1
 have kl:=knl_length q.2.1
 refine KM_of_K0 rfl rfl (hch.mono' fun v e=>⟨e,?_⟩)
 refine need_mk ⟨Nat.le_refl _,need_mk ⟨by omega,need_mk ⟨by omega,need_mk ⟨Nat.le_refl _,need_mk ⟨by omega,need_mk ⟨by omega,need_mk ⟨Nat.le_refl _,need_mk ⟨by omega,need_mk ⟨by omega,?_⟩⟩⟩⟩⟩⟩⟩⟩⟩
 have e1:List.replicate (cll q.1).length [iv (0:Int),iv (0:Int),iv (0:Int)]=cll (fill (fun c=>addC (tn n c) by_) (0,0,0) q.1 0):=by rw [cl,fill_zero]; simp [cll,clr]
 have e2:List.replicate (knl q.2.1).length [iv (0:Int),iv (0:Int),iv (0:Int),V.raw (Value.int IntKind.u8 (0:Int)),V.raw (Value.int IntKind.u8 (0:Int))]=knl (fill (fun k:Kn=>((addC (tn n k.1) by_,pt n k.2.1,k.2.2):Kn)) ((0,0,0),0,0) q.2.1 0):=by rw [kl,fill_zero]; simp [knl,knr,u8]
 rw [e1,e2]
 generalize hK:fill (fun k:Kn=>((addC (tn n k.1) by_,pt n k.2.1,k.2.2):Kn)) ((0,0,0),0,0) q.2.1 0=K
 refine La.of (σ:=Nat) (fun i=>sh95a (chBr k s) q by_ (fill (fun c=>addC (tn n c) by_) (0,0,0) q.1 i) K i) (fun i=>i≤q.1.length) (fun i=>q.1.length - i) 0 (by kernel_rfl) (by omega) ?_
 intro i g1 J hJ
 generalize hL:fill (fun c=>addC (tn n c) by_) (0,0,0) q.1 i=L
 refine see (p:=ifB (decide ((↑i:Int)<(↑(cll q.1).length:Int))) (onSome (cll q.1)[i]? fun row=>onCons (List.drop 0 row) fun u r=>onIntK IntKind.i64 u fun n=>onCons r fun u r=>onIntK IntKind.i64 u fun n_1=>onCons r fun u r=>onIntK IntKind.i64 u fun n_2=>K0G Tryz.prog glX 85 [V.agg [V.fn (Fn.func (124:FuncId)) [] [],iv k,V.fn (Fn.func (123:FuncId)) [] [],iv s,V.raw Value.nilFunc,iv (0:Int)],V.agg [iv n,iv n_1,iv n_2]] fun v=>onAgg v fun cs=>onCons cs fun u r=>onIntK IntKind.i64 u fun n=>onCons r fun u r=>onIntK IntKind.i64 u fun n_3=>onCons r fun u r=>onIntK IntKind.i64 u fun n_4=>onNil r (K0G Tryz.prog glX 97 [V.agg [iv n,iv n_3,iv n_4],V.agg [iv by_.1,iv by_.2.1,iv by_.2.2]] fun v=>onAgg v fun cs=>onCons cs fun u r=>onIntK IntKind.i64 u fun n=>onCons r fun u r=>onIntK IntKind.i64 u fun n_5=>onCons r fun u r=>onIntK IntKind.i64 u fun n_6=>onNil r (need (i<(cll q.1).length) (onSome (cll L)[0+i]? fun row=>guardB ((0+3).ble row.length) (J (St.mk (mkT [(3,V.ptr (Id.p 0) 0 0),(5,V.ptr (Id.p 1) 0 0),(6,V.ptr (Id.p 2) 0 0),(7,V.ptr (Id.p 3) 0 0),(8,V.ptr (Id.p 4) 0 0),(26,V.lst 3 (cll q.1)),(27,iv (↑(cll q.1).length:Int)),(28,iv (IntKind.i64.wrap ((↑i:Int)+(1:Int))))]) (Hp.mk [(0,O.rows 3 false [[V.lst 3 (cll q.1),V.lst 5 (knl q.2.1),iv q.2.2]]),(1,O.rows 3 false [[iv by_.1,iv by_.2.1,iv by_.2.2]]),(2,O.rows 2 false [[nilS,nilS]]),(3,O.rows 6 false [[V.fn (Fn.func (124:FuncId)) [] [],iv k,V.fn (Fn.func (123:FuncId)) [] [],iv s,V.raw Value.nilFunc,iv (0:Int)]]),(4,O.rows 2 false [[V.sl (Id.p 5) 0 (cll q.1).length,V.sl (Id.p 6) 0 (knl q.2.1).length]]),(5,O.rows 3 true ((cll L).set (0+i) (iv n::iv n_5::iv n_6::(List.append []) (List.drop 3 row)))),(6,O.rows 5 true (knl K))] 7 []))))))) (KM Tryz.prog glX 129 [V.sl (Id.p 0) 0 (cll q.1).length,V.fn (Fn.func 89) [] []] (Hp.mk [(0,O.rows 3 true (cll L))] 1 []) (poP 129 [V.sl (Id.p 5) 0 (cll q.1).length,V.fn (Fn.func 89) [] []]) fun v us=>onTup v fun vs=>onNil vs (La 0 [(5:Tmp),(6:Tmp),(7:Tmp),(8:Tmp),(47:Tmp),(48:Tmp),(49:Tmp)] (WY Tryz.prog (cfP (chB k s)) 2991 (Env.mk (Bs.mk 0 []) 0 none 76 95 2) (cdAt [1,1,1,1,1,0,1,0,0] (bodyOf Tryz.f95))) (Qblk 2 (Qthen (WY Tryz.prog (cfP (chB k s)) 2994 (Env.mk (Bs.mk 0 []) 0 none 76 95 0) (cdAt [1,1,1,1,1,1] (bodyOf Tryz.f95)) (QendX Tryz.prog Tryz.f95 fun v h=>R (frzW h v))) (QendX Tryz.prog Tryz.f95 fun v h=>R (frzW h v)))) (St.mk (mkT [(5,V.ptr (Id.p 0) 0 0),(6,V.ptr (Id.p 1) 0 0),(7,V.ptr (Id.p 2) 0 0),(8,V.ptr (Id.p 3) 0 0),(47,V.lst 5 (knl q.2.1)),(48,iv (↑(knl q.2.1).length:Int)),(49,iv (0:Int))]) (Hp.mk [(0,O.rows 3 false [[iv by_.1,iv by_.2.1,iv by_.2.2]]),(1,O.rows 2 false [[nilS,nilS]]),(2,O.rows 6 false [[V.fn (Fn.func (124:FuncId)) [] [],iv k,V.fn (Fn.func (123:FuncId)) [] [],iv s,V.raw Value.nilFunc,iv (0:Int)]]),(3,O.rows 2 false [[V.sl (Id.p 4) 0 (cll q.1).length,V.sl (Id.p 5) 0 (knl q.2.1).length]]),(4,O.rows 3 true (List.getD us 0 [])),(5,O.rows 5 true (knl K))] 6 []))))) (by kernel_rfl) ?_
 refine ifB_mk (fun d=>?_) (fun d=>?_)
 ·have hlt:i<q.1.length:=by have:=of_decide_eq_true d; omega
  obtain ⟨x,hx⟩:=getI hlt
  have hxb:Bd 15 x:=(hc x (mem_at hx)).mono (by omega) (by omega)
  refine cel hx (hcell (c:=x) (hxb.mono (by omega)) (onC (add97 (a:=tn n x) (b:=by_) ((tn_bd hxb).mono (by omega)) (hby.mono (by omega)) (onC (need_mk ⟨by omega,?_⟩)))))
  have hz:(cll L)[0+i]? = some (clr (0,0,0)):=by
   have:=fill_get (f:=fun c=>addC (tn n c) by_) (z:=((0,0,0):Cl)) hlt
   rw [hL] at this
   rw [Nat.zero_add]; simp [cll,this]
  refine onSome_mk hz (guardB_mk rfl ?_)
  rw [wr1i hlt (by omega),cll_set L i (addC (tn n x) by_),← hL,fill_set hx]
  exact hJ (i+1) hlt (by omega)
 ·have hi:i=q.1.length:=by have:=of_decide_eq_false d; omega
  subst hi
  rw [fill_full] at hL
  have el:(cll q.1).length=L.length:=by rw [cl,← hL]; simp
  rw [el]
  refine sort129 (l:=L) (by omega) (fun us=>rfl) (onTup_tup (onNil_nil ?_))
  have hs:sortC L=plc q n by_:=by rw [← hL]; rfl
  rw [hs]
  rw [← el]
  clear hJ
  refine La.of (σ:=Nat) (fun i=>sh95b (chBr k s) q by_ (plc q n by_) (fill (fun k:Kn=>((addC (tn n k.1) by_,pt n k.2.1,k.2.2):Kn)) ((0,0,0),0,0) q.2.1 i) i) (fun i=>i≤q.2.1.length) (fun i=>q.2.1.length - i) 0 (by rw [← hK]; kernel_rfl) (by omega) ?_
  intro i g1 I hI
  clear hL hs el
  generalize hL2:plc q n by_=L
  clear hK
  generalize hK2:fill (fun k:Kn=>((addC (tn n k.1) by_,pt n k.2.1,k.2.2):Kn)) ((0,0,0),0,0) q.2.1 i=K
  refine see (p:=ifB (decide ((↑i:Int)<(↑(knl q.2.1).length:Int))) (onSome (knl q.2.1)[i]? fun row=>onCons (List.drop 0 row) fun u r=>onIntK IntKind.i64 u fun n=>onCons r fun u r=>onIntK IntKind.i64 u fun n_1=>onCons r fun u r=>onIntK IntKind.i64 u fun n_2=>onCons r fun u r=>onIntK IntKind.u8 u fun n_3=>onCons r fun u r=>onIntK IntKind.u8 u fun n_4=>K0G Tryz.prog glX 85 [V.agg [V.fn (Fn.func (124:FuncId)) [] [],iv k,V.fn (Fn.func (123:FuncId)) [] [],iv s,V.raw Value.nilFunc,iv (0:Int)],V.agg [iv n,iv n_1,iv n_2]] fun v=>onAgg v fun cs=>onCons cs fun u r=>onIntK IntKind.i64 u fun n=>onCons r fun u r=>onIntK IntKind.i64 u fun n_5=>onCons r fun u r=>onIntK IntKind.i64 u fun n_6=>onNil r (K0G Tryz.prog glX 97 [V.agg [iv n,iv n_5,iv n_6],V.agg [iv by_.1,iv by_.2.1,iv by_.2.2]] fun v=>onAgg v fun cs=>onCons cs fun u r=>onIntK IntKind.i64 u fun n=>onCons r fun u r=>onIntK IntKind.i64 u fun n_7=>onCons r fun u r=>onIntK IntKind.i64 u fun n_8=>onNil r (K0G Tryz.prog glX 83 [V.agg [V.fn (Fn.func (124:FuncId)) [] [],iv k,V.fn (Fn.func (123:FuncId)) [] [],iv s,V.raw Value.nilFunc,iv (0:Int)],iv (IntKind.i64.wrap n_3)] fun v=>onIntK IntKind.i64 v fun n_9=>need (i<(knl q.2.1).length) (onSome (knl K)[0+i]? fun row=>guardB ((0+5).ble row.length) (I (St.mk (mkT [(5,V.ptr (Id.p 0) 0 0),(6,V.ptr (Id.p 1) 0 0),(7,V.ptr (Id.p 2) 0 0),(8,V.ptr (Id.p 3) 0 0),(47,V.lst 5 (knl q.2.1)),(48,iv (↑(knl q.2.1).length:Int)),(49,iv (IntKind.i64.wrap ((↑i:Int)+(1:Int))))]) (Hp.mk [(0,O.rows 3 false [[iv by_.1,iv by_.2.1,iv by_.2.2]]),(1,O.rows 2 false [[nilS,nilS]]),(2,O.rows 6 false [[V.fn (Fn.func (124:FuncId)) [] [],iv k,V.fn (Fn.func (123:FuncId)) [] [],iv s,V.raw Value.nilFunc,iv (0:Int)]]),(3,O.rows 2 false [[V.sl (Id.p 4) 0 (cll q.1).length,V.sl (Id.p 5) 0 (knl q.2.1).length]]),(4,O.rows 3 true (cll L)),(5,O.rows 5 true ((knl K).set (0+i) (iv n::iv n_7::iv n_8::V.raw (Value.int IntKind.u8 (IntKind.u8.wrap n_9))::V.raw (Value.int IntKind.u8 n_4)::(List.append []) (List.drop 5 row))))] 6 []))))))) (R (V.agg [V.lst 3 (sub (cll L) 0 (cll q.1).length),V.lst 5 (sub (knl K) 0 (knl q.2.1).length)]))) (by kernel_rfl) ?_
  refine ifB_mk (fun d=>?_) (fun d=>?_)
  ·have hlt:i<q.2.1.length:=by have:=of_decide_eq_true d; omega
   obtain ⟨x,hx⟩:=getI hlt
   obtain ⟨x1,x2,x3⟩:=hk x (mem_at hx)
   have hxb:Bd 15 x.1:=x1.mono (by omega) (by omega)
   obtain ⟨p1,p2⟩:=pt_rg n x.2.1
   refine kel hx (hcell (c:=x.1) (hxb.mono (by omega)) (onC (add97 (a:=tn n x.1) (b:=by_) ((tn_bd hxb).mono (by omega)) (hby.mono (by omega)) (onC ?_))))
   rw [wr (n:=x.2.1) (by omega) (by omega)]
   obtain ⟨m,hm⟩ : ∃ m:Nat,x.2.1=(m:Int):=⟨x.2.1.toNat,by omega⟩
   rw [hm]
   rw [hm] at p1 p2
   refine hdir (d:=m) (by omega) (onIntK_iv (need_mk ⟨by omega,?_⟩))
   have hz:(knl K)[0+i]? = some (knr ((0,0,0),0,0)):=by
    have:=fill_get (f:=fun k:Kn=>((addC (tn n k.1) by_,pt n k.2.1,k.2.2):Kn)) (z:=(((0,0,0),0,0):Kn)) hlt
    rw [hK2] at this
    rw [Nat.zero_add]; simp [knl,this]
   refine onSome_mk hz (guardB_mk rfl ?_)
   rw [wr1i hlt (by omega),u8w p1 (by omega)]
   have fs:(fill (fun k:Kn=>((addC (tn n k.1) by_,pt n k.2.1,k.2.2):Kn)) ((0,0,0),0,0) q.2.1 i).set i ((addC (tn n x.1) by_,pt n x.2.1,x.2.2):Kn)=fill (fun k:Kn=>((addC (tn n k.1) by_,pt n k.2.1,k.2.2):Kn)) ((0,0,0),0,0) q.2.1 (i+1):=fill_set hx
   rw [hK2] at fs
   have es:(knl K).set (0+i) (iv (addC (tn n x.1) by_).1::iv (addC (tn n x.1) by_).2.1::iv (addC (tn n x.1) by_).2.2::V.raw (.int .u8 (pt n (m:Int)))::V.raw (.int .u8 x.2.2)::List.append [] (List.drop 5 (knr ((0,0,0),0,0))))=knl (fill (fun k:Kn=>((addC (tn n k.1) by_,pt n k.2.1,k.2.2):Kn)) ((0,0,0),0,0) q.2.1 (i+1)):=by
    rw [← fs,← hm]
    exact knl_set K i ((addC (tn n x.1) by_,pt n x.2.1,x.2.2):Kn)
   rw [es,← hL2]
   exact hI (i+1) hlt (by omega)
  ·have hi:i=q.2.1.length:=by have:=of_decide_eq_false d; omega
   subst hi
   rw [fill_full] at hK2
   have s1:sub (cll L) 0 (cll q.1).length=cll (plc q n by_):=by
    rw [← hL2,sub,List.drop_zero,List.take_of_length_le]
    rw [cll_length,cl,plc,(sortC_perm _).length_eq]; simp
   have s2:sub (knl K) 0 (knl q.2.1).length=knl (knb q n by_):=by
    rw [sub,List.drop_zero,List.take_of_length_le (by rw [knl_length,kl,← hK2]; simp),← hK2]; rfl
   rw [s1,s2]
   exact h
set_option maxHeartbeats 2000000 in
theorem put95C {q:Kd} {k j t:Int} {by_:Cl} {n:Nat} {R:V→Prop} (hch:K0G Tryz.prog glX 82 [iv t] fun v=>v=(chC k j)) (hcell : ∀ {c:Cl} {R:V→Prop},Bd 3000 c→R (.agg (clr (tn n c)))→K0G Tryz.prog glX 85 [(chC k j),.agg (clr c)] R) (hdir : ∀ {d:Nat} {R:V→Prop},d<6→R (iv (pt n (d:Int)))→K0G Tryz.prog glX 83 [(chC k j),iv (d:Int)] R)
  (hq:PutP q) (hby:Bd 2000 by_) (h:R (.agg [.lst 3 (cll (plc q n by_)),.lst 5 (knl (knb q n by_))])):K0G Tryz.prog glX 95 [.agg (kdr q),iv t,.agg (clr by_)] R:=by
 refine K0_of_WY0 hmX (hcP (chC k j)) 3000 Tryz.func95 (see (p:=KM Tryz.prog glX 82 [iv t] (Hp.mk [] 0 []) (poP 82 [iv t]) fun v us=>v=V.agg [V.fn (Fn.func (124:FuncId)) [] [],iv k,V.fn (Fn.func (123:FuncId)) [] [],iv (1:Int),V.fn (Fn.func (124:FuncId)) [] [],iv j]∧need ((knl q.2.1).length≤(knl q.2.1).length) (need (32 * (knl q.2.1).length≤140737488355328) (need ((knl q.2.1).length≤9223372036854775807) (need ((cll q.1).length≤(cll q.1).length) (need (24 * (cll q.1).length≤140737488355328) (need ((cll q.1).length≤9223372036854775807) (need ((knl q.2.1).length≤(knl q.2.1).length) (need (32 * (knl q.2.1).length≤140737488355328) (need ((knl q.2.1).length≤9223372036854775807) (La 0 [(3:Tmp),(5:Tmp),(6:Tmp),(7:Tmp),(8:Tmp),(26:Tmp),(27:Tmp),(28:Tmp)] (WY Tryz.prog (cfP (chC k j)) 2993 (Env.mk (Bs.mk 0 []) 0 none 76 95 0) (cdAt [1,1,1,0,1,0,0] (bodyOf Tryz.f95))) (Qblk 0 (Qthen (WY Tryz.prog (cfP (chC k j)) 2996 (Env.mk (Bs.mk 0 []) 0 none 76 95 0) (cdAt [1,1,1,1] (bodyOf Tryz.f95)) (QendX Tryz.prog Tryz.f95 fun v h=>R (frzW h v))) (QendX Tryz.prog Tryz.f95 fun v h=>R (frzW h v)))) (St.mk (mkT [(3,V.ptr (Id.p 0) 0 0),(5,V.ptr (Id.p 1) 0 0),(6,V.ptr (Id.p 2) 0 0),(7,V.ptr (Id.p 3) 0 0),(8,V.ptr (Id.p 4) 0 0),(26,V.lst 3 (cll q.1)),(27,iv (↑(cll q.1).length:Int)),(28,iv (0:Int))]) (Hp.mk [(0,O.rows 3 false [[V.lst 3 (cll q.1),V.lst 5 (knl q.2.1),iv q.2.2]]),(1,O.rows 3 false [[iv by_.1,iv by_.2.1,iv by_.2.2]]),(2,O.rows 2 false [[nilS,nilS]]),(3,O.rows 6 false [[V.fn (Fn.func (124:FuncId)) [] [],iv k,V.fn (Fn.func (123:FuncId)) [] [],iv (1:Int),V.fn (Fn.func (124:FuncId)) [] [],iv j]]),(4,O.rows 2 false [[V.sl (Id.p 5) 0 (cll q.1).length,V.sl (Id.p 6) 0 (knl q.2.1).length]]),(5,O.rows 3 true (List.replicate (cll q.1).length [iv (0:Int),iv (0:Int),iv (0:Int)])),(6,O.rows 5 true (List.replicate (knl q.2.1).length [iv (0:Int),iv (0:Int),iv (0:Int),V.raw (Value.int IntKind.u8 (0:Int)),V.raw (Value.int IntKind.u8 (0:Int))]))] 7 [])))))))))))) (by kernel_rfl) ?_)
 obtain ⟨hc,hcl,hk,hkl⟩:=hq
 have cl:=cll_length q.1
 have kl:=knl_length q.2.1
 refine KM_of_K0 rfl rfl (hch.mono' fun v e=>⟨e,?_⟩)
 refine need_mk ⟨Nat.le_refl _,need_mk ⟨by omega,need_mk ⟨by omega,need_mk ⟨Nat.le_refl _,need_mk ⟨by omega,need_mk ⟨by omega,need_mk ⟨Nat.le_refl _,need_mk ⟨by omega,need_mk ⟨by omega,?_⟩⟩⟩⟩⟩⟩⟩⟩⟩
 have e1:List.replicate (cll q.1).length [iv (0:Int),iv (0:Int),iv (0:Int)]=cll (fill (fun c=>addC (tn n c) by_) (0,0,0) q.1 0):=by rw [cl,fill_zero]; simp [cll,clr]
 have e2:List.replicate (knl q.2.1).length [iv (0:Int),iv (0:Int),iv (0:Int),V.raw (Value.int IntKind.u8 (0:Int)),V.raw (Value.int IntKind.u8 (0:Int))]=knl (fill (fun k:Kn=>((addC (tn n k.1) by_,pt n k.2.1,k.2.2):Kn)) ((0,0,0),0,0) q.2.1 0):=by rw [kl,fill_zero]; simp [knl,knr,u8]
 rw [e1,e2]
 generalize hK:fill (fun k:Kn=>((addC (tn n k.1) by_,pt n k.2.1,k.2.2):Kn)) ((0,0,0),0,0) q.2.1 0=K
 refine La.of (σ:=Nat) (fun i=>sh95a (chCr k j) q by_ (fill (fun c=>addC (tn n c) by_) (0,0,0) q.1 i) K i) (fun i=>i≤q.1.length) (fun i=>q.1.length - i) 0 (by kernel_rfl) (by omega) ?_
 intro i g1 J hJ
 generalize hL:fill (fun c=>addC (tn n c) by_) (0,0,0) q.1 i=L
 refine see (p:=ifB (decide ((↑i:Int)<(↑(cll q.1).length:Int))) (onSome (cll q.1)[i]? fun row=>onCons (List.drop 0 row) fun u r=>onIntK IntKind.i64 u fun n=>onCons r fun u r=>onIntK IntKind.i64 u fun n_1=>onCons r fun u r=>onIntK IntKind.i64 u fun n_2=>K0G Tryz.prog glX 85 [V.agg [V.fn (Fn.func (124:FuncId)) [] [],iv k,V.fn (Fn.func (123:FuncId)) [] [],iv (1:Int),V.fn (Fn.func (124:FuncId)) [] [],iv j],V.agg [iv n,iv n_1,iv n_2]] fun v=>onAgg v fun cs=>onCons cs fun u r=>onIntK IntKind.i64 u fun n=>onCons r fun u r=>onIntK IntKind.i64 u fun n_3=>onCons r fun u r=>onIntK IntKind.i64 u fun n_4=>onNil r (K0G Tryz.prog glX 97 [V.agg [iv n,iv n_3,iv n_4],V.agg [iv by_.1,iv by_.2.1,iv by_.2.2]] fun v=>onAgg v fun cs=>onCons cs fun u r=>onIntK IntKind.i64 u fun n=>onCons r fun u r=>onIntK IntKind.i64 u fun n_5=>onCons r fun u r=>onIntK IntKind.i64 u fun n_6=>onNil r (need (i<(cll q.1).length) (onSome (cll L)[0+i]? fun row=>guardB ((0+3).ble row.length) (J (St.mk (mkT [(3,V.ptr (Id.p 0) 0 0),(5,V.ptr (Id.p 1) 0 0),(6,V.ptr (Id.p 2) 0 0),(7,V.ptr (Id.p 3) 0 0),(8,V.ptr (Id.p 4) 0 0),(26,V.lst 3 (cll q.1)),(27,iv (↑(cll q.1).length:Int)),(28,iv (IntKind.i64.wrap ((↑i:Int)+(1:Int))))]) (Hp.mk [(0,O.rows 3 false [[V.lst 3 (cll q.1),V.lst 5 (knl q.2.1),iv q.2.2]]),(1,O.rows 3 false [[iv by_.1,iv by_.2.1,iv by_.2.2]]),(2,O.rows 2 false [[nilS,nilS]]),(3,O.rows 6 false [[V.fn (Fn.func (124:FuncId)) [] [],iv k,V.fn (Fn.func (123:FuncId)) [] [],iv (1:Int),V.fn (Fn.func (124:FuncId)) [] [],iv j]]),(4,O.rows 2 false [[V.sl (Id.p 5) 0 (cll q.1).length,V.sl (Id.p 6) 0 (knl q.2.1).length]]),(5,O.rows 3 true ((cll L).set (0+i) (iv n::iv n_5::iv n_6::(List.append []) (List.drop 3 row)))),(6,O.rows 5 true (knl K))] 7 []))))))) (KM Tryz.prog glX 129 [V.sl (Id.p 0) 0 (cll q.1).length,V.fn (Fn.func 89) [] []] (Hp.mk [(0,O.rows 3 true (cll L))] 1 []) (poP 129 [V.sl (Id.p 5) 0 (cll q.1).length,V.fn (Fn.func 89) [] []]) fun v us=>onTup v fun vs=>onNil vs (La 0 [(5:Tmp),(6:Tmp),(7:Tmp),(8:Tmp),(47:Tmp),(48:Tmp),(49:Tmp)] (WY Tryz.prog (cfP (chC k j)) 2991 (Env.mk (Bs.mk 0 []) 0 none 76 95 2) (cdAt [1,1,1,1,1,0,1,0,0] (bodyOf Tryz.f95))) (Qblk 2 (Qthen (WY Tryz.prog (cfP (chC k j)) 2994 (Env.mk (Bs.mk 0 []) 0 none 76 95 0) (cdAt [1,1,1,1,1,1] (bodyOf Tryz.f95)) (QendX Tryz.prog Tryz.f95 fun v h=>R (frzW h v))) (QendX Tryz.prog Tryz.f95 fun v h=>R (frzW h v)))) (St.mk (mkT [(5,V.ptr (Id.p 0) 0 0),(6,V.ptr (Id.p 1) 0 0),(7,V.ptr (Id.p 2) 0 0),(8,V.ptr (Id.p 3) 0 0),(47,V.lst 5 (knl q.2.1)),(48,iv (↑(knl q.2.1).length:Int)),(49,iv (0:Int))]) (Hp.mk [(0,O.rows 3 false [[iv by_.1,iv by_.2.1,iv by_.2.2]]),(1,O.rows 2 false [[nilS,nilS]]),(2,O.rows 6 false [[V.fn (Fn.func (124:FuncId)) [] [],iv k,V.fn (Fn.func (123:FuncId)) [] [],iv (1:Int),V.fn (Fn.func (124:FuncId)) [] [],iv j]]),(3,O.rows 2 false [[V.sl (Id.p 4) 0 (cll q.1).length,V.sl (Id.p 5) 0 (knl q.2.1).length]]),(4,O.rows 3 true (List.getD us 0 [])),(5,O.rows 5 true (knl K))] 6 []))))) (by kernel_rfl) ?_
 refine ifB_mk (fun d=>?_) (fun d=>?_)
 ·have hlt:i<q.1.length:=by have:=of_decide_eq_true d; omega
  obtain ⟨x,hx⟩:=getI hlt
  have hxb:Bd 15 x:=(hc x (mem_at hx)).mono (by omega) (by omega)
  refine cel hx (hcell (c:=x) (hxb.mono (by omega)) (onC (add97 (a:=tn n x) (b:=by_) ((tn_bd hxb).mono (by omega)) (hby.mono (by omega)) (onC (need_mk ⟨by omega,?_⟩)))))
  have hz:(cll L)[0+i]? = some (clr (0,0,0)):=by
   have:=fill_get (f:=fun c=>addC (tn n c) by_) (z:=((0,0,0):Cl)) hlt
   rw [hL] at this
   rw [Nat.zero_add]; simp [cll,this]
  refine onSome_mk hz (guardB_mk rfl ?_)
  rw [wr1i hlt (by omega),cll_set L i (addC (tn n x) by_),← hL,fill_set hx]
  exact hJ (i+1) hlt (by omega)
 ·have hi:i=q.1.length:=by have:=of_decide_eq_false d; omega
  subst hi
  rw [fill_full] at hL
  have el:(cll q.1).length=L.length:=by rw [cl,← hL]; simp
  rw [el]
  refine sort129 (l:=L) (by omega) (fun us=>rfl) (onTup_tup (onNil_nil ?_))
  have hs:sortC L=plc q n by_:=by rw [← hL]; rfl
  rw [hs]
  rw [← el]
  clear hJ
  refine La.of (σ:=Nat) (fun i=>sh95b (chCr k j) q by_ (plc q n by_) (fill (fun k:Kn=>((addC (tn n k.1) by_,pt n k.2.1,k.2.2):Kn)) ((0,0,0),0,0) q.2.1 i) i) (fun i=>i≤q.2.1.length) (fun i=>q.2.1.length - i) 0 (by rw [← hK]; kernel_rfl) (by omega) ?_
  intro i g1 I hI
  clear hL hs el
  generalize hL2:plc q n by_=L
  clear hK
  generalize hK2:fill (fun k:Kn=>((addC (tn n k.1) by_,pt n k.2.1,k.2.2):Kn)) ((0,0,0),0,0) q.2.1 i=K
  refine see (p:=ifB (decide ((↑i:Int)<(↑(knl q.2.1).length:Int))) (onSome (knl q.2.1)[i]? fun row=>onCons (List.drop 0 row) fun u r=>onIntK IntKind.i64 u fun n=>onCons r fun u r=>onIntK IntKind.i64 u fun n_1=>onCons r fun u r=>onIntK IntKind.i64 u fun n_2=>onCons r fun u r=>onIntK IntKind.u8 u fun n_3=>onCons r fun u r=>onIntK IntKind.u8 u fun n_4=>K0G Tryz.prog glX 85 [V.agg [V.fn (Fn.func (124:FuncId)) [] [],iv k,V.fn (Fn.func (123:FuncId)) [] [],iv (1:Int),V.fn (Fn.func (124:FuncId)) [] [],iv j],V.agg [iv n,iv n_1,iv n_2]] fun v=>onAgg v fun cs=>onCons cs fun u r=>onIntK IntKind.i64 u fun n=>onCons r fun u r=>onIntK IntKind.i64 u fun n_5=>onCons r fun u r=>onIntK IntKind.i64 u fun n_6=>onNil r (K0G Tryz.prog glX 97 [V.agg [iv n,iv n_5,iv n_6],V.agg [iv by_.1,iv by_.2.1,iv by_.2.2]] fun v=>onAgg v fun cs=>onCons cs fun u r=>onIntK IntKind.i64 u fun n=>onCons r fun u r=>onIntK IntKind.i64 u fun n_7=>onCons r fun u r=>onIntK IntKind.i64 u fun n_8=>onNil r (K0G Tryz.prog glX 83 [V.agg [V.fn (Fn.func (124:FuncId)) [] [],iv k,V.fn (Fn.func (123:FuncId)) [] [],iv (1:Int),V.fn (Fn.func (124:FuncId)) [] [],iv j],iv (IntKind.i64.wrap n_3)] fun v=>onIntK IntKind.i64 v fun n_9=>need (i<(knl q.2.1).length) (onSome (knl K)[0+i]? fun row=>guardB ((0+5).ble row.length) (I (St.mk (mkT [(5,V.ptr (Id.p 0) 0 0),(6,V.ptr (Id.p 1) 0 0),(7,V.ptr (Id.p 2) 0 0),(8,V.ptr (Id.p 3) 0 0),(47,V.lst 5 (knl q.2.1)),(48,iv (↑(knl q.2.1).length:Int)),(49,iv (IntKind.i64.wrap ((↑i:Int)+(1:Int))))]) (Hp.mk [(0,O.rows 3 false [[iv by_.1,iv by_.2.1,iv by_.2.2]]),(1,O.rows 2 false [[nilS,nilS]]),(2,O.rows 6 false [[V.fn (Fn.func (124:FuncId)) [] [],iv k,V.fn (Fn.func (123:FuncId)) [] [],iv (1:Int),V.fn (Fn.func (124:FuncId)) [] [],iv j]]),(3,O.rows 2 false [[V.sl (Id.p 4) 0 (cll q.1).length,V.sl (Id.p 5) 0 (knl q.2.1).length]]),(4,O.rows 3 true (cll L)),(5,O.rows 5 true ((knl K).set (0+i) (iv n::iv n_7::iv n_8::V.raw (Value.int IntKind.u8 (IntKind.u8.wrap n_9))::V.raw (Value.int IntKind.u8 n_4)::(List.append []) (List.drop 5 row))))] 6 []))))))) (R (V.agg [V.lst 3 (sub (cll L) 0 (cll q.1).length),V.lst 5 (sub (knl K) 0 (knl q.2.1).length)]))) (by kernel_rfl) ?_
  refine ifB_mk (fun d=>?_) (fun d=>?_)
  ·have hlt:i<q.2.1.length:=by have:=of_decide_eq_true d; omega
   obtain ⟨x,hx⟩:=getI hlt
   obtain ⟨x1,x2,x3⟩:=hk x (mem_at hx)
   have hxb:Bd 15 x.1:=x1.mono (by omega) (by omega)
   obtain ⟨p1,p2⟩:=pt_rg n x.2.1
   refine kel hx (hcell (c:=x.1) (hxb.mono (by omega)) (onC (add97 (a:=tn n x.1) (b:=by_) ((tn_bd hxb).mono (by omega)) (hby.mono (by omega)) (onC ?_))))
   rw [wr (n:=x.2.1) (by omega) (by omega)]
   obtain ⟨m,hm⟩ : ∃ m:Nat,x.2.1=(m:Int):=⟨x.2.1.toNat,by omega⟩
   rw [hm]
   rw [hm] at p1 p2
   refine hdir (d:=m) (by omega) (onIntK_iv (need_mk ⟨by omega,?_⟩))
   have hz:(knl K)[0+i]? = some (knr ((0,0,0),0,0)):=by
    have:=fill_get (f:=fun k:Kn=>((addC (tn n k.1) by_,pt n k.2.1,k.2.2):Kn)) (z:=(((0,0,0),0,0):Kn)) hlt
    rw [hK2] at this
    rw [Nat.zero_add]; simp [knl,this]
   refine onSome_mk hz (guardB_mk rfl ?_)
   rw [wr1i hlt (by omega),u8w p1 (by omega)]
   have fs:(fill (fun k:Kn=>((addC (tn n k.1) by_,pt n k.2.1,k.2.2):Kn)) ((0,0,0),0,0) q.2.1 i).set i ((addC (tn n x.1) by_,pt n x.2.1,x.2.2):Kn)=fill (fun k:Kn=>((addC (tn n k.1) by_,pt n k.2.1,k.2.2):Kn)) ((0,0,0),0,0) q.2.1 (i+1):=fill_set hx
   rw [hK2] at fs
   have es:(knl K).set (0+i) (iv (addC (tn n x.1) by_).1::iv (addC (tn n x.1) by_).2.1::iv (addC (tn n x.1) by_).2.2::V.raw (.int .u8 (pt n (m:Int)))::V.raw (.int .u8 x.2.2)::List.append [] (List.drop 5 (knr ((0,0,0),0,0))))=knl (fill (fun k:Kn=>((addC (tn n k.1) by_,pt n k.2.1,k.2.2):Kn)) ((0,0,0),0,0) q.2.1 (i+1)):=by
    rw [← fs,← hm]
    exact knl_set K i ((addC (tn n x.1) by_,pt n x.2.1,x.2.2):Kn)
   rw [es,← hL2]
   exact hI (i+1) hlt (by omega)
  ·have hi:i=q.2.1.length:=by have:=of_decide_eq_false d; omega
   subst hi
   rw [fill_full] at hK2
   have s1:sub (cll L) 0 (cll q.1).length=cll (plc q n by_):=by
    rw [← hL2,sub,List.drop_zero,List.take_of_length_le]
    rw [cll_length,cl,plc,(sortC_perm _).length_eq]; simp
   have s2:sub (knl K) 0 (knl q.2.1).length=knl (knb q n by_):=by
    rw [sub,List.drop_zero,List.take_of_length_le (by rw [knl_length,kl,← hK2]; simp),← hK2]; rfl
   rw [s1,s2]
   exact h
theorem put95 {q:Kd} {by_:Cl} {n:Nat} {R:V→Prop} (hn:n<24) (hq:PutP q) (hby:Bd 2000 by_) (h:R (.agg [.lst 3 (cll (plc q n by_)),.lst 5 (knl (knb q n by_))])):K0G Tryz.prog glX 95 [.agg (kdr q),iv (n:Int),.agg (clr by_)] R:=by
 have c1:K0G Tryz.prog glX 82 [iv (n:Int)] fun v=>v=ch n:=chain82 n hn rfl
 have c2 : ∀ {c:Cl} {R:V→Prop},Bd 3000 c→R (.agg (clr (tn n c)))→K0G Tryz.prog glX 85 [ch n,.agg (clr c)] R:=fun hb h=>cell85 hb n hn h
 have c3 : ∀ {d:Nat} {R:V→Prop},d<6→R (iv (pt n (d:Int)))→K0G Tryz.prog glX 83 [ch n,iv (d:Int)] R:=fun hd h=>dir83 hd n hn h
 unfold ch at c1 c2 c3
 by_cases h1:n / 4<1
 ·rw [if_pos h1] at c1 c2 c3
  exact put95A c1 c2 c3 hq hby h
 ·rw [if_neg h1] at c1 c2 c3
  by_cases h2:n / 4<4
  ·rw [if_pos h2] at c1 c2 c3
   exact put95B c1 c2 c3 hq hby h
  ·rw [if_neg h2] at c1 c2 c3
   exact put95C c1 c2 c3 hq hby h
end Go.Proofs.YtbionhgjgcpogaaGreatDoor
namespace Go.Proofs.YtbionhgjgcpogaaGreatDoor
open Go Go.Proofs.YtbionhgjgcpogaaGreatDoor.Clean
set_option linter.unusedVariables false
set_option maxRecDepth 100000
def kpQ:FuncId→Nat→Option (List Tmp):=slotsOf [(101,0,[3,4]),(101,2,[3,4,5]),(59,0,[3,5,6,7]),(60,0,[3,5,6,7])]
noncomputable def cfQ:Cfg:=cfgM Tryz.prog glX moZ tyZ (inN [78,77]) kpQ
set_option linter.unusedSimpArgs false
set_option maxRecDepth 10000
theorem hcQ:cfQ.ok Tryz.prog:=cfgM_ok
structure PutB (l:List Kd) (b:Bk) (q:Kd) (n:Nat):Prop where
 at_:l[b.1.toNat]? = some q
 k0:0≤b.1
 put:PutP q
 pos:1≤q.1.length
 turn:b.2.2.1=(n:Int)
 t24:n<24
 bd:Bd 2000 b.2.1
set_option maxRecDepth 100000
def moD (f:FuncId):Nat:=bif inN [104] f then 3 else bif inN [103] f then 1 else 0
set_option maxRecDepth 10000
theorem plc_length (q:Kd) (n:Nat) (d:Cl):(plc q n d).length=q.1.length:=by rw [plc,(sortC_perm _).length_eq]; simp
theorem knb_length (q:Kd) (n:Nat) (d:Cl):(knb q n d).length=q.2.1.length:=by simp [knb]
theorem addC_inj {a b d:Cl} (h:addC a d=addC b d):a=b:=by
 have h1:(addC a d).1=(addC b d).1:=by rw [h]
 have h2:(addC a d).2.1=(addC b d).2.1:=by rw [h]
 have h3:(addC a d).2.2=(addC b d).2.2:=by rw [h]
 simp only [addC] at h1 h2 h3
 exact cl_ext (by omega) (by omega) (by omega)
theorem qz_inj {a b:Cl} (h:qz a=qz b):a=b:=by
 simp only [qz,Prod.mk.injEq] at h
 exact cl_ext h.2.1 (by omega) h.2.2
theorem qx_inj {a b:Cl} (h:qx a=qx b):a=b:=by
 simp only [qx,Prod.mk.injEq] at h
 exact cl_ext h.1 h.2.2 (by omega)
theorem itr_inj {f:Cl→Cl} (hf : ∀ a b,f a=f b→a=b) : ∀ (n:Nat) (a b:Cl),itr f n a=itr f n b→a=b
 | 0,a,b,h=>h
 | n+1,a,b,h=>hf _ _ (itr_inj hf n _ _ h)
theorem tn_inj {n:Nat} {a b:Cl} (h:tn n a=tn n b):a=b:=by
 unfold tn at h
 split at h
 ·exact itr_inj (fun _ _=>qz_inj) _ _ _ (itr_inj (fun _ _=>qx_inj) _ _ _ h)
 ·exact itr_inj (fun _ _=>qz_inj) _ _ _ (qx_inj (itr_inj (fun _ _=>qz_inj) _ _ _ h))
theorem pt_inj {n:Nat} (hn:n<24) {d e:Int} (hd:0≤d∧d≤5) (he:0≤e∧e≤5) (h:pt n d=pt n e):d=e:=by
 have key : ∀ n,n<24 → ∀ d,d<6 → ∀ e,e<6→(ptL.getD n []).getD d 0=(ptL.getD n []).getD e 0→d=e:=by decide
 have:=key n hn d.toNat (by omega) e.toNat (by omega) h
 omega
def Fac (l:List Kn):Prop := ∀ a∈l, ∀ b∈l,a.1=b.1→a.2.1=b.2.1→a=b
theorem pw_mem {α:Type} {r:α→α→Prop} : ∀ {l:List α},l.Pairwise r → ∀ a∈l, ∀ b∈l,a=b∨r a b∨r b a
 | [],_,a,ha,_,_=>by simp at ha
 | x::l,h,a,ha,b,hb=>by
  have h1:=List.pairwise_cons.1 h
  rcases List.mem_cons.1 ha with ea | ha'
  ·rcases List.mem_cons.1 hb with eb | hb'
   ·exact .inl (ea.trans eb.symm)
   ·rw [ea]; exact .inr (.inl (h1.1 b hb'))
  ·rcases List.mem_cons.1 hb with eb | hb'
   ·rw [eb]; exact .inr (.inr (h1.1 a ha'))
   ·exact pw_mem h1.2 a ha' b hb'
theorem Fac.of {l:List Kn} (h:l.Pairwise BefK):Fac l:=fun a ha b hb e1 e2=>by
 rcases pw_mem h a ha b hb with h | h | h
 ·exact h
 ·rcases h with h | ⟨_,h⟩
  ·rw [e1] at h; exact absurd h (Bef.irr _)
  ·omega
 ·rcases h with h | ⟨_,h⟩
  ·rw [e1] at h; exact absurd h (Bef.irr _)
  ·omega
structure KnbP (q:Kd):Prop where
 put:PutP q
 pw:q.2.1.Pairwise BefK
theorem knb_fac {q:Kd} {t:Nat} {d:Cl} (hq:KnbP q) (ht:t<24):Fac (knb q t d):=fun a ha b hb e1 e2=>by
 obtain ⟨x,hx,rfl⟩:=List.mem_map.1 ha
 obtain ⟨y,hy,rfl⟩:=List.mem_map.1 hb
 have:=Fac.of hq.pw x hx y hy (tn_inj (addC_inj e1)) (pt_inj ht (hq.put.2.2.1 x hx).2 (hq.put.2.2.1 y hy).2 e2)
 rw [this]
theorem knb_nodup {q:Kd} {t:Nat} {d:Cl} (hq:KnbP q) (ht:t<24):(knb q t d).Nodup:=by
 unfold knb
 rw [List.Nodup,List.pairwise_map]
 refine hq.pw.imp_of_mem (fun {a b} ha hb hab he=>?_)
 have e1:addC (tn t a.1) d=addC (tn t b.1) d:=congrArg Prod.fst he
 have e2:pt t a.2.1=pt t b.2.1:=congrArg (fun z:Kn=>z.2.1) he
 have:=Fac.of hq.pw a ha b hb (tn_inj (addC_inj e1)) (pt_inj ht (hq.put.2.2.1 a ha).2 (hq.put.2.2.1 b hb).2 e2)
 rw [this] at hab
 exact BefK.irr _ hab
set_option maxRecDepth 100000
set_option maxRecDepth 10000
theorem KindP.put {q:Kd} (h:KindP q) (hr:KdR q):KnbP q:=by
 obtain ⟨⟨⟨c1,c2⟩,c3,c4⟩,⟨k1,k2,k3⟩,w⟩:=h
 exact ⟨⟨c3,by omega,fun k hk=>⟨c3 _ (k2 k hk).2.2.1,(hr.1 k hk).1.1,(k2 k hk).1⟩,by omega⟩,k3⟩
theorem putb {l:List Kd} {b:Bk} (hK:KindsP l) (hl : ∀ q∈l,KdR q) (hB:BrickP l.length b) (hr:BkR b) : ∃ q n,PutB l b q n∧KnbP q∧Bd 1000 b.2.1∧KindP q:=by
 obtain ⟨⟨b1,b2⟩,b3,b4,b5⟩:=hB
 obtain ⟨q,hq⟩:=getI (l:=l) (k:=b.1.toNat) (by omega)
 have hm:=mem_at hq
 have hP:=(hK.2 q hm).put (hl q hm)
 exact ⟨q,b.2.2.1.toNat,⟨hq,b1,hP.put,(hK.2 q hm).1.1.1,by have:=hr.1.1; omega,by have:=hr.1.1; omega,b3.mono (by omega)⟩,hP,b3,hK.2 q hm⟩
theorem body57 {l:List Kd} {b:Bk} {R:V→Prop} (hl : ∀ q∈l,KdR q) (hll:(l.length:Int)≤1000000) (hr:BkR b) (h1 : ∀ e,askE l b e→e≠0→R (.tup [.agg [nilS,nilS],iv e])) (h2:askE l b 0 → ∀ q n,PutB l b q n→KnbP q→Bd 1000 b.2.1→R (.tup [.agg [.lst 3 (cll (plc q n b.2.1)),.lst 5 (knl (knb q n b.2.1))],iv 0])):K0G Tryz.prog glX 57 [.lst 3 (kdl l),.agg (bkr b)] R:=by
 refine K0_by hmX hcQ 3000 Tryz.func57 (p:=K0G Tryz.prog glX 16 [V.lst 3 (kdl l)] fun v=>onIntK IntKind.i64 v fun n=>ifB (n != (0:Int)) (R (V.tup [V.agg [nilS,nilS],iv n])) (K0G Tryz.prog glX 98 [V.lst 3 (kdl l),V.agg [iv b.1,iv b.2.1.1,iv b.2.1.2.1,iv b.2.1.2.2,V.raw (Value.int IntKind.u8 b.2.2.1),V.raw (Value.int IntKind.u8 b.2.2.2)]] fun v=>onBool v fun b_1=>ifB (!b_1) (R (V.tup [V.agg [nilS,nilS],iv (11:Int)])) (onNat b.1 fun m=>onSome (kdl l)[m]? fun row=>onCons (List.drop 0 row) fun u r=>onLst u fun s es=>onCons r fun u r=>onLst u fun s_1 es_1=>onCons r fun u r=>onIntK IntKind.i64 u fun n=>K0G Tryz.prog glX 95 [V.agg [V.lst s es,V.lst s_1 es_1,iv n],iv (IntKind.i64.wrap b.2.2.1),V.agg [iv b.2.1.1,iv b.2.1.2.1,iv b.2.1.2.2]] fun v=>onAgg v fun cs=>onCons cs fun u r=>onLst u fun s es=>onCons r fun u r=>onLst u fun s_2 es_2=>onNil r (R (V.tup [V.agg [V.lst s es,V.lst s_2 es_2],iv (0:Int)]))))) (by kernel_rfl) ?_
 refine kinds16 hl (fun hK=>onIntK_iv (ifB_f rfl (brick98 hr hll (onBool_bv (ifB_mk (fun c=>h1 11 (.inr (.inr (.inl ⟨hK,nbt c,rfl⟩))) (by decide)) (fun c=>?_)))))) (fun h16=>onIntK_iv (ifB_t rfl (h1 4 (.inl ⟨h16,rfl⟩) (by decide)))) (fun h16 hn=>onIntK_iv (ifB_t rfl (h1 10 (.inr (.inl ⟨h16,hn,rfl⟩)) (by decide))))
 have hB:=nb c
 obtain ⟨q,n,hP,h3,h4,_⟩:=putb hK hl hB hr
 refine onNat_mk (m:=b.1.toNat) (by have:=hP.k0; omega) (del hP.at_ ?_)
 rw [hP.turn,wr (by have:=hP.t24; omega) (by have:=hP.t24; omega)]
 exact put95 (by_:=b.2.1) hP.t24 hP.put hP.bd (onAgg_agg (onCons_cons (onLst_lst (onCons_cons (onLst_lst (onNil_nil (h2 (.inr (.inr (.inr ⟨hK,hB,rfl⟩))) q n hP h3 h4)))))))
set_option maxRecDepth 100000
def bdr (b:List Cl×List Kn):List V:=[V.lst 3 (cll b.1),V.lst 5 (knl b.2)]
def bdl (l:List (List Cl×List Kn)):List (List V):=l.map bdr
def kpO:FuncId→Nat→Option (List Tmp):=slotsOf [(107,0,[3,9,10,11,1000001,4000003]),(107,2,[3,4,9,10,11,17,18,19,1000001,4000003]),(106,0,[0,3,4,14,15,16,1000001,4000003]),(106,2,[0,3,4,5,6,14,15,16,23,24,25,1000001,4000003]),(106,4,[0,3,4,5,6,14,15,16,23,24,25,31,32,33,1000001,4000003]),(106,6,[0,3,4,5,6,11,14,15,16,1000001,4000003])]
def fzO (f:FuncId) (t:Tmp):Bool:=(f.beq 107&&t.beq 1000025) || (f.beq 106&&t.beq 1000031)
noncomputable def cfO:Cfg:={ cfgG Tryz.prog glX moD poP (rtP fN) (inN [107]) kpO with clean:=fun g => !inN [107] g,fz:=fzO }
noncomputable def sh107a (l:List (List Cl×List Kn)) (es:List (V×V)) (ms:List (Option (List (List V)))) (m i:Nat):St:=⟨mkT [(3,V.mp (Id.p 0)),(9,V.lst 2 (bdl l)),(10,iv (m:Int)),(11,iv (i:Int))],⟨[(0,O.mp es)],1,[(0,Fam.mk 1 ms)]⟩⟩
noncomputable def sh107b (l:List (List Cl×List Kn)) (x:List Cl) (es:List (V×V)) (ms:List (Option (List (List V)))) (m i n k:Nat):St:=⟨mkT [(3,V.mp (Id.p 0)),(4,iv (i:Int)),(9,V.lst 2 (bdl l)),(10,iv (m:Int)),(11,iv (i:Int)),(17,V.lst 3 (cll x)),(18,iv (n:Int)),(19,iv (k:Int))],⟨[(0,O.mp es)],1,[(0,Fam.mk 1 ms)]⟩⟩
set_option maxRecDepth 10000
abbrev Ow:=Cl×List Nat×Nat
def ent (t:Ow):V×V:=(V.agg (clr t.1),V.sl (Id.m 0 t.2.2) 0 t.2.1.length)
def rowI (b:Nat):List V:=[iv (b:Int)]
structure Rep (T:List Ow) (es:List (V×V)) (ms:List (Option (List (List V)))):Prop where
 es:es=T.map ent
 ks:(T.map (·.2.2)).Nodup
 mem : ∀ t∈T,ms[t.2.2]? = some (some (t.2.1.map rowI))
 cs:(T.map (·.1)).Nodup
theorem eqC_c (c d:Cl) : ∃ b,eqC Tryz.prog 8 28 (V.agg (clr c)) (V.agg (clr d))=some b∧(b=true↔c=d):=by
 refine ⟨c.1==d.1&&(c.2.1==d.2.1&&(c.2.2==d.2.2&&true)),by kernel_rfl,?_⟩
 obtain ⟨a,b,e⟩:=c
 obtain ⟨a', b', e'⟩:=d
 simp
theorem findC_mem {c:Cl} : ∀ {T:List Ow} (i:Nat),c∈T.map (·.1) → ∃ j t,T[j]? = some t∧t.1=c∧findK Tryz.prog 28 (V.agg (clr c)) (T.map ent) i=some (some (i+j,V.agg (clr c),V.sl (Id.m 0 t.2.2) 0 t.2.1.length))
 | t::T,i,h=>by
  obtain ⟨b,hb,hbt⟩:=eqC_c c t.1
  have hstep:findK Tryz.prog 28 (V.agg (clr c)) ((t::T).map ent) i=bif b then some (some (i,V.agg (clr t.1),V.sl (Id.m 0 t.2.2) 0 t.2.1.length)) else findK Tryz.prog 28 (V.agg (clr c)) (T.map ent) (i+1):=by
   show (eqC Tryz.prog 8 28 (V.agg (clr c)) (V.agg (clr t.1))).bind _=_
   rw [hb]
   rfl
  by_cases e:c=t.1
  ·refine ⟨0,t,rfl,e.symm,?_⟩
   rw [hstep,hbt.2 e,cond_true,← e]
   rfl
  ·obtain ⟨j,t', h1,h2,h3⟩:=findC_mem (T:=T) (i+1) (by
    rcases List.mem_cons.1 h with h | h
    ·exact (e h).elim
    ·exact h)
   refine ⟨j+1,t', h1,h2,?_⟩
   have hbf:b=false:=Bool.eq_false_iff.2 (fun g=>e (hbt.1 g))
   rw [hstep,hbf,cond_false,h3]
   rw [show i+1+j=i+(j+1) from by omega]
theorem findC_not {c:Cl} : ∀ {T:List Ow} (i:Nat), ¬ c∈T.map (·.1)→findK Tryz.prog 28 (V.agg (clr c)) (T.map ent) i=some none
 | [],i,h=>rfl
 | t::T,i,h=>by
  obtain ⟨b,hb,hbt⟩:=eqC_c c t.1
  have hstep:findK Tryz.prog 28 (V.agg (clr c)) ((t::T).map ent) i=bif b then some (some (i,V.agg (clr t.1),V.sl (Id.m 0 t.2.2) 0 t.2.1.length)) else findK Tryz.prog 28 (V.agg (clr c)) (T.map ent) (i+1):=by
   show (eqC Tryz.prog 8 28 (V.agg (clr c)) (V.agg (clr t.1))).bind _=_
   rw [hb]
   rfl
  have hbf:b=false:=Bool.eq_false_iff.2 (fun g=>h (by rw [hbt.1 g]; simp))
  rw [hstep,hbf,cond_false]
  exact findC_not (i+1) (fun g=>h (List.mem_cons_of_mem _ g))
theorem trM_ent (tk:List Nat) (n0:Nat) (T:List Ow):trM tk 0 n0 (T.map ent)=T.map ent:=by
 unfold trM
 rw [List.map_map]
 exact List.map_congr_left fun t _=>rfl
theorem good_ent (tk:List Nat) (T:List Ow):(T.map ent).all (goodE tk 0 true)=true:=by
 rw [List.all_eq_true]
 intro x hx
 obtain ⟨t,_,rfl⟩:=List.mem_map.1 hx
 rfl
def AddO (T:List Ow) (c:Cl) (i:Nat) (T' : List Ow):Prop:=(∃ j t n,T[j]? = some t∧t.1=c∧T' = T.set j (c,t.2.1++[i],n))∨(¬ c∈T.map (·.1) ∧ ∃ n,T' = T++[(c,[i],n)])
theorem rep_set {T:List Ow} {es:List (V×V)} {ms:List (Option (List (List V)))} (h:Rep T es ms) {j:Nat} {t:Ow} (hj:T[j]? = some t) (i:Nat) (x:Option (List (List V))) :
  Rep (T.set j (t.1,t.2.1++[i],ms.length)) (trM [3,2] 0 ms.length (es.set j (V.agg (clr t.1),V.sl (Id.p 3) 0 (t.2.1.length+1)))) (ms.set t.2.2 none++[some (t.2.1.map rowI++[rowI i]),x]):=by
 have hlt : ∀ t∈T,t.2.2<ms.length:=fun t ht=>(List.getElem?_eq_some_iff.1 (h.mem t ht)).1
 have htm:=List.mem_of_getElem? hj
 have hjl:=(List.getElem?_eq_some_iff.1 hj).1
 refine ⟨?_,?_,?_,?_⟩
 ·rw [h.es,List.map_set]
  unfold trM
  rw [List.map_set]
  have:=trM_ent [3,2] ms.length T
  unfold trM at this
  rw [this]
  simp [ent,trMv,posOf]
 ·rw [List.map_set]
  rw [List.nodup_iff_pairwise_ne,List.pairwise_iff_getElem]
  intro a b ha hb hab
  simp only [List.length_set,List.length_map] at ha hb
  have hn:=List.pairwise_iff_getElem.1 (List.nodup_iff_pairwise_ne.1 h.ks)
  rw [List.getElem_set,List.getElem_set]
  have la:=hlt _ (List.getElem_mem ha)
  have lb:=hlt _ (List.getElem_mem hb)
  split <;> split
  ·omega
  ·simp only [List.getElem_map]; omega
  ·simp only [List.getElem_map]; omega
  ·exact hn a b (by simpa using ha) (by simpa using hb) hab
 ·intro u hu
  obtain ⟨a,ha⟩:=List.mem_iff_getElem?.1 hu
  rw [List.getElem?_set] at ha
  by_cases e:j=a
  ·subst e
   rw [if_pos rfl,if_pos hjl] at ha
   cases ha
   rw [List.getElem?_append_right (by simp)]
   simp
  ·rw [if_neg e] at ha
   have hum:=List.mem_of_getElem? ha
   have hne:t.2.2≠u.2.2:=fun he=>by
    obtain ⟨a1,a2⟩:=List.getElem?_eq_some_iff.1 ha
    obtain ⟨b1,b2⟩:=List.getElem?_eq_some_iff.1 hj
    have:=(List.getElem_inj (xs:=T.map (·.2.2)) (i:=j) (j:=a) (h₀:=by simpa using b1) (h₁:=by simpa using a1) h.ks).1 (by simp [a2,b2,he])
    exact e this
   rw [List.getElem?_append_left (by rw [List.length_set]; exact hlt u hum),List.getElem?_set,if_neg hne]
   exact h.mem u hum
 ·rw [List.map_set]
  have:(T.map (·.1)).set j t.1=T.map (·.1):=by
   apply List.ext_getElem?
   intro a
   rw [List.getElem?_set]
   by_cases e:j=a
   ·subst e
    rw [if_pos rfl,if_pos (by simpa using hjl),List.getElem?_map,hj]
    rfl
   ·rw [if_neg e]
  rw [this]
  exact h.cs
theorem rep_new {T:List Ow} {es:List (V×V)} {ms:List (Option (List (List V)))} (h:Rep T es ms) {c:Cl} (hc : ¬ c∈T.map (·.1)) (i:Nat) (x:Option (List (List V))) :
  Rep (T++[(c,[i],ms.length)]) (trM [3,2] 0 ms.length (es++[(V.agg (clr c),V.sl (Id.p 3) 0 1)])) (ms++[some [rowI i],x]):=by
 have hlt : ∀ t∈T,t.2.2<ms.length:=fun t ht=>(List.getElem?_eq_some_iff.1 (h.mem t ht)).1
 refine ⟨?_,?_,?_,?_⟩
 ·rw [h.es,List.map_append]
  have:=trM_ent [3,2] ms.length T
  unfold trM at this ⊢
  rw [List.map_append,this]
  simp [ent,trMv,posOf]
 ·rw [List.map_append,List.nodup_append]
  refine ⟨h.ks,by simp,fun a ha b hb=>?_⟩
  obtain ⟨t,ht,rfl⟩:=List.mem_map.1 ha
  simp at hb
  subst hb
  have:=hlt t ht
  omega
 ·intro u hu
  rcases List.mem_append.1 hu with hu | hu
  ·rw [List.getElem?_append_left (hlt u hu)]
   exact h.mem u hu
  ·simp at hu
   subst hu
   rw [List.getElem?_append_right (by simp)]
   simp
 ·rw [List.map_append,List.nodup_append]
  refine ⟨h.cs,by simp,fun a ha b hb=>?_⟩
  simp at hb
  subst hb
  exact fun e=>hc (e ▸ ha)
theorem own_add {T:List Ow} {es:List (V×V)} {ms:List (Option (List (List V)))} {c:Cl} {i:Nat} {nilP:Nat→V→V→Prop} {K:List (V×V)→List (Option (List (List V)))→Prop} (h:Rep T es ms) (hlen : ∀ t∈T,t.2.1.length≤1000000) (hK : ∀ T' es' ms', Rep T' es' ms' → AddO T c i T' → K es' ms') :
  onFind (findK Tryz.prog 28 (V.agg [iv c.1,iv c.2.1,iv c.2.2]) es 0) (fun i_1 kv vv=>guardB (sameC kv (V.agg [iv c.1,iv c.2.1,iv c.2.2])) (onMem 0 vv (nilP i_1 kv vv) fun j n_4=>onSome (memb ms j) fun es_2=>need ((n_4+1) * 8≤140737488355328) (onSome (es.set i_1 (V.agg [iv c.1,iv c.2.1,iv c.2.2],vv))[i_1]? fun kv=>guardB (((es.set i_1 (V.agg [iv c.1,iv c.2.1,iv c.2.2],vv)).set i_1 (kv.1,V.sl (Id.p 3) 0 (n_4+1))).all (goodE [3,2] 0 true)) (K (trM [3,2] 0 (ms.set j none).length ((es.set i_1 (V.agg [iv c.1,iv c.2.1,iv c.2.2],vv)).set i_1 (kv.1,V.sl (Id.p 3) 0 (n_4+1)))) (ms.set j none++[some (List.take n_4 es_2++[[iv (i:Int)]]),some [[iv (i:Int)]]])))))
   (onSome (es++[(V.agg [iv c.1,iv c.2.1,iv c.2.2],nilS)])[es.length]? fun kv=>guardB (((es++[(V.agg [iv c.1,iv c.2.1,iv c.2.2],nilS)]).set es.length (kv.1,V.sl (Id.p 3) 0 1)).all (goodE [3,2] 0 true)) (K (trM [3,2] 0 ms.length ((es++[(V.agg [iv c.1,iv c.2.1,iv c.2.2],nilS)]).set es.length (kv.1,V.sl (Id.p 3) 0 1))) (ms++[some [[iv (i:Int)]],some [[iv (i:Int)]]]))):=by
 have gd : ∀ {l:List (V×V)} {k:Nat} {n:Nat},l.all (goodE [3,2] 0 true)=true→(l.set k (V.agg (clr c),V.sl (Id.p 3) 0 n)).all (goodE [3,2] 0 true)=true:=fun {l k n} hl=>by
  rw [List.all_eq_true] at hl ⊢
  intro x hx
  rcases List.mem_or_eq_of_mem_set hx with hx | hx
  ·exact hl x hx
  ·subst hx; rfl
 have hgood:es.all (goodE [3,2] 0 true)=true:=by rw [h.es]; exact good_ent _ _
 by_cases hc:c∈T.map (·.1)
 ·obtain ⟨j,t,h1,h2,h3⟩:=findC_mem 0 hc
  rw [Nat.zero_add,← h.es] at h3
  subst h2
  have hjl:j<es.length:=by rw [h.es,List.length_map]; exact (List.getElem?_eq_some_iff.1 h1).1
  have htm:=List.mem_of_getElem? h1
  have hm:=h.mem t htm
  refine onFind_iff.2 (.inl ⟨j,_,_,h3,guardB_mk (by simp [sameC,sameRs,sameR,clr,iv]) ?_⟩)
  show onSome (memb ms t.2.2) _
  have hmb:memb ms t.2.2=some (t.2.1.map rowI):=by unfold memb; rw [hm]; rfl
  refine onSome_mk hmb (need_mk ⟨by have:=hlen t htm; omega,?_⟩)
  refine onSome_mk (x:=(V.agg (clr t.1),V.sl (Id.m 0 t.2.2) 0 t.2.1.length)) (by rw [List.getElem?_set,if_pos rfl,if_pos hjl]; rfl) ?_
  refine guardB_mk (by rw [List.set_set]; exact gd hgood) ?_
  rw [List.set_set,List.length_set]
  have htk:List.take t.2.1.length (t.2.1.map rowI)=t.2.1.map rowI:=by rw [List.take_of_length_le (by simp)]
  rw [htk]
  exact hK _ _ _ (rep_set h h1 i (some [rowI i])) (.inl ⟨j,t,_,h1,rfl,rfl⟩)
 ·refine onFind_iff.2 (.inr ⟨by rw [h.es]; exact findC_not 0 hc,?_⟩)
  have e1 : ∀ x:V×V,(es++[(V.agg (clr c),nilS)]).set es.length x=es++[x]:=fun x=>by rw [List.set_append_right _ _ (Nat.le_refl _),Nat.sub_self]; rfl
  refine onSome_mk (x:=(V.agg (clr c),nilS)) (by rw [List.getElem?_append_right (Nat.le_refl _),Nat.sub_self]; rfl) ?_
  have e2:=e1 (V.agg (clr c),V.sl (Id.p 3) 0 1)
  refine guardB_mk (by
   refine (congrArg (fun l=>List.all l (goodE [3,2] 0 true)) e2).trans ?_
   rw [List.all_append,hgood]
   rfl) ?_
  have hr:=rep_new h hc i (some [rowI i])
  rw [← e2] at hr
  exact hK _ _ _ hr (.inr ⟨hc,_,rfl⟩)
theorem hcO:cfO.ok Tryz.prog:=by
 have h:(cfgG Tryz.prog glX moD poP (rtP fN) (inN [107]) kpO).ok Tryz.prog:=cfgG_ok (rtP_ok fN)
 exact ⟨h.1,h.2⟩
abbrev Bdy:=List Cl×List Kn
noncomputable def cellsAt (l:List Bdy) (b:Nat):List Cl:=((l[b]?).map (·.1)).getD []
noncomputable def brs (l:List Bdy) (i:Nat) (c:Cl):List Nat:=(List.range i).filter fun b=>dc (c∈cellsAt l b)
def OwnI (l:List Bdy) (i:Nat) (x:List Cl) (k:Nat) (T:List Ow):Prop :=
 (∀ t∈T,t.2.1=brs l i t.1++(bif dc (t.1∈x.take k) then [i] else [])) ∧ ∀ c,((∃ b,b<i∧c∈cellsAt l b)∨c∈x.take k)→c∈T.map (·.1)
theorem own_len {l:List Bdy} {i k:Nat} {x:List Cl} {T:List Ow} (h:OwnI l i x k T) : ∀ t∈T,t.2.1.length≤i+1:=fun t ht=>by
 rw [h.1 t ht,List.length_append]
 have:(brs l i t.1).length≤i:=by
  have:=List.length_filter_le (fun b=>dc (t.1∈cellsAt l b)) (List.range i)
  unfold brs
  simpa using this
 cases dc (t.1∈x.take k) <;> simp <;> omega
theorem own_step {l:List Bdy} {i k:Nat} {x:List Cl} {T T' : List Ow} {c:Cl} (h:OwnI l i x k T) (hc:x[k]? = some c) (hn:x.Nodup) (ha:AddO T c i T') (hcs:(T.map (·.1)).Nodup):OwnI l i x (k+1) T' := by
 have ht:x.take (k+1)=x.take k++[c]:=take_succ' hc
 have hnot : ¬ c∈x.take k:=fun hm=>by
  obtain ⟨j,hj⟩:=List.mem_iff_getElem?.1 hm
  have hjk:j<k:=by
   have:=(List.getElem?_eq_some_iff.1 hj).1
   simp at this
   omega
  rw [List.getElem?_take,if_pos hjk] at hj
  obtain ⟨a1,a2⟩:=List.getElem?_eq_some_iff.1 hj
  obtain ⟨b1,b2⟩:=List.getElem?_eq_some_iff.1 hc
  have:=(List.getElem_inj (h₀:=a1) (h₁:=b1) hn).1 (by rw [a2,b2])
  omega
 have other : ∀ t∈T,t.1≠c→t.2.1=brs l i t.1++(bif dc (t.1∈x.take (k+1)) then [i] else []):=fun t htm hne=>by
  rw [h.1 t htm]
  have:dc (t.1∈x.take (k+1))=dc (t.1∈x.take k):=dc_iff (by rw [ht]; simp [hne])
  rw [this]
 have new:dc (c∈x.take (k+1))=true:=dc_t (by rw [ht]; simp)
 rcases ha with ⟨j,t,n,h1,h2,rfl⟩ | ⟨h1,n,rfl⟩
 ·subst h2
  have hjl:=(List.getElem?_eq_some_iff.1 h1).1
  constructor
  ·intro u hu
   obtain ⟨a,hau⟩:=List.mem_iff_getElem?.1 hu
   rw [List.getElem?_set] at hau
   by_cases e:j=a
   ·rw [if_pos e,if_pos hjl] at hau
    cases hau
    simp only
    rw [new,cond_true,h.1 t (List.mem_of_getElem? h1),dc_f hnot,cond_false,List.append_nil]
   ·rw [if_neg e] at hau
    refine other u (List.mem_of_getElem? hau) fun he=>e ?_
    obtain ⟨a1,a2⟩:=List.getElem?_eq_some_iff.1 hau
    obtain ⟨b1,b2⟩:=List.getElem?_eq_some_iff.1 h1
    exact (List.getElem_inj (xs:=T.map (·.1)) (i:=j) (j:=a) (h₀:=by simpa using b1) (h₁:=by simpa using a1) hcs).1 (by simp [a2,b2,he])
  ·intro d hd
   have hset:(T.set j (t.1,t.2.1++[i],n)).map (·.1)=T.map (·.1):=by
    rw [List.map_set]
    apply List.ext_getElem?
    intro a
    rw [List.getElem?_set]
    by_cases e:j=a
    ·subst e
     rw [if_pos rfl,if_pos (by simpa using hjl),List.getElem?_map,h1]
     rfl
    ·rw [if_neg e]
   rw [hset]
   rcases hd with hd | hd
   ·exact h.2 d (.inl hd)
   ·rw [ht] at hd
    rcases List.mem_append.1 hd with hd | hd
    ·exact h.2 d (.inr hd)
    ·rw [List.mem_singleton.1 hd]
     exact List.mem_map.2 ⟨t,List.mem_of_getElem? h1,rfl⟩
 ·constructor
  ·intro u hu
   rcases List.mem_append.1 hu with hu | hu
   ·exact other u hu fun he=>h1 (he ▸ List.mem_map.2 ⟨u,hu,rfl⟩)
   ·rw [List.mem_singleton.1 hu]
    simp only
    rw [new,cond_true]
    have:brs l i c=[]:=by
     unfold brs
     rw [List.filter_eq_nil_iff]
     intro b hb hb2
     exact h1 (h.2 c (.inl ⟨b,List.mem_range.1 hb,dc_true hb2⟩))
    rw [this]
    rfl
  ·intro d hd
   rw [List.map_append]
   rcases hd with hd | hd
   ·exact List.mem_append.2 (.inl (h.2 d (.inl hd)))
   ·rw [ht] at hd
    rcases List.mem_append.1 hd with hd | hd
    ·exact List.mem_append.2 (.inl (h.2 d (.inr hd)))
    ·exact List.mem_append.2 (.inr (by simpa using hd))
theorem own_next {l:List Bdy} {i:Nat} {b:Bdy} {T:List Ow} (hb:l[i]? = some b) (h:OwnI l i b.1 b.1.length T):OwnI l (i+1) [] 0 T:=by
 have hx:cellsAt l i=b.1:=by unfold cellsAt; rw [hb]; rfl
 have e:b.1.take b.1.length=b.1:=List.take_length
 constructor
 ·intro t ht
  rw [h.1 t ht,e]
  unfold brs
  rw [List.range_succ,List.filter_append,List.filter_cons,hx]
  cases dc (t.1∈b.1) <;> simp [dc]
 ·intro c hc
  rcases hc with ⟨j,hj,hj2⟩ | hc
  ·rcases Nat.lt_succ_iff_lt_or_eq.1 hj with g | g
   ·exact h.2 c (.inl ⟨j,g,hj2⟩)
   ·subst g
    rw [hx] at hj2
    exact h.2 c (.inr (by rw [e]; exact hj2))
  ·simp at hc
theorem own_start {l:List Bdy} {i:Nat} {x:List Cl} {T:List Ow} (h:OwnI l i [] 0 T):OwnI l i x 0 T:=⟨fun t ht=>by rw [h.1 t ht]; simp,fun c hc=>h.2 c (by simpa using hc)⟩
set_option maxRecDepth 100000
def prl (ps:List (Nat×Nat)):List (List V):=ps.map fun p=>[iv (p.1:Int),iv (p.2:Int)]
noncomputable def oNa (l:List (List Cl×List Kn)) (es:List (V×V)) (ms:List (Option (List (List V)))) (m i:Nat):St:=⟨mkT [(0,V.lst 2 (bdl l)),(3,V.mp (Id.p 0)),(4,nilS),(14,V.lst 2 (bdl l)),(15,iv (m:Int)),(16,iv (i:Int))],⟨[(0,O.mp es)],1,[(0,Fam.mk 1 ms)]⟩⟩
noncomputable def oSa (l:List (List Cl×List Kn)) (ps:List (Nat×Nat)) (es:List (V×V)) (ms:List (Option (List (List V)))) (q m i:Nat):St:=⟨mkT [(0,V.lst 2 (bdl l)),(3,V.mp (Id.p 0)),(4,V.sl (Id.p 1) 0 q),(14,V.lst 2 (bdl l)),(15,iv (m:Int)),(16,iv (i:Int))],⟨[(0,O.mp es),(1,O.rows 2 true (prl ps))],2,[(0,Fam.mk 1 ms)]⟩⟩
noncomputable def oNb (l:List (List Cl×List Kn)) (x:List Cl) (cm:List V) (es:List (V×V)) (ms:List (Option (List (List V)))) (m i n k:Nat):St:=⟨mkT [(0,V.lst 2 (bdl l)),(3,V.mp (Id.p 0)),(4,nilS),(5,iv (i:Int)),(6,V.ptr (Id.p 1) 0 0),(14,V.lst 2 (bdl l)),(15,iv (m:Int)),(16,iv (i:Int)),(23,V.lst 3 (cll x)),(24,iv (n:Int)),(25,iv (k:Int))],⟨[(0,O.mp es),(1,O.rows 40 true [cm])],2,[(0,Fam.mk 1 ms)]⟩⟩
noncomputable def oSb (l:List (List Cl×List Kn)) (x:List Cl) (cm:List V) (ps:List (Nat×Nat)) (es:List (V×V)) (ms:List (Option (List (List V)))) (q m i n k:Nat):St:=⟨mkT [(0,V.lst 2 (bdl l)),(3,V.mp (Id.p 0)),(4,V.sl (Id.p 1) 0 q),(5,iv (i:Int)),(6,V.ptr (Id.p 2) 0 0),(14,V.lst 2 (bdl l)),(15,iv (m:Int)),(16,iv (i:Int)),(23,V.lst 3 (cll x)),(24,iv (n:Int)),(25,iv (k:Int))],⟨[(0,O.mp es),(1,O.rows 2 true (prl ps)),(2,O.rows 40 true [cm])],3,[(0,Fam.mk 1 ms)]⟩⟩
noncomputable def oNc (l:List (List Cl×List Kn)) (x:List Cl) (cm:List V) (es:List (V×V)) (ms:List (Option (List (List V)))) (m i n k j w z:Nat):St:=⟨mkT [(0,V.lst 2 (bdl l)),(3,V.mp (Id.p 0)),(4,nilS),(5,iv (i:Int)),(6,V.ptr (Id.p 1) 0 0),(14,V.lst 2 (bdl l)),(15,iv (m:Int)),(16,iv (i:Int)),(23,V.lst 3 (cll x)),(24,iv (n:Int)),(25,iv (k:Int)),(31,V.sl (Id.m 0 j) 0 w),(32,iv (w:Int)),(33,iv (z:Int))],⟨[(0,O.mp es),(1,O.rows 40 true [cm])],2,[(0,Fam.mk 1 ms)]⟩⟩
noncomputable def oSc (l:List (List Cl×List Kn)) (x:List Cl) (cm:List V) (ps:List (Nat×Nat)) (es:List (V×V)) (ms:List (Option (List (List V)))) (q m i n k j w z:Nat):St:=⟨mkT [(0,V.lst 2 (bdl l)),(3,V.mp (Id.p 0)),(4,V.sl (Id.p 1) 0 q),(5,iv (i:Int)),(6,V.ptr (Id.p 2) 0 0),(14,V.lst 2 (bdl l)),(15,iv (m:Int)),(16,iv (i:Int)),(23,V.lst 3 (cll x)),(24,iv (n:Int)),(25,iv (k:Int)),(31,V.sl (Id.m 0 j) 0 w),(32,iv (w:Int)),(33,iv (z:Int))],⟨[(0,O.mp es),(1,O.rows 2 true (prl ps)),(2,O.rows 40 true [cm])],3,[(0,Fam.mk 1 ms)]⟩⟩
noncomputable def oNd (l:List (List Cl×List Kn)) (cm:List V) (es:List (V×V)) (ms:List (Option (List (List V)))) (m i o:Nat):St:=⟨mkT [(0,V.lst 2 (bdl l)),(3,V.mp (Id.p 0)),(4,nilS),(5,iv (i:Int)),(6,V.ptr (Id.p 1) 0 0),(11,iv (o:Int)),(14,V.lst 2 (bdl l)),(15,iv (m:Int)),(16,iv (i:Int))],⟨[(0,O.mp es),(1,O.rows 40 true [cm])],2,[(0,Fam.mk 1 ms)]⟩⟩
noncomputable def oSd (l:List (List Cl×List Kn)) (cm:List V) (ps:List (Nat×Nat)) (es:List (V×V)) (ms:List (Option (List (List V)))) (q m i o:Nat):St:=⟨mkT [(0,V.lst 2 (bdl l)),(3,V.mp (Id.p 0)),(4,V.sl (Id.p 1) 0 q),(5,iv (i:Int)),(6,V.ptr (Id.p 2) 0 0),(11,iv (o:Int)),(14,V.lst 2 (bdl l)),(15,iv (m:Int)),(16,iv (i:Int))],⟨[(0,O.mp es),(1,O.rows 2 true (prl ps)),(2,O.rows 40 true [cm])],3,[(0,Fam.mk 1 ms)]⟩⟩
set_option maxRecDepth 10000
noncomputable def cmV (P:Nat→Prop):List V:=(List.range 40).map fun o=>bv (dc (P o))
theorem cmV_length (P:Nat→Prop):(cmV P).length=40:=by simp [cmV]
theorem cmV_ext {P Q:Nat→Prop} (h : ∀ o,P o↔Q o):cmV P=cmV Q:=by
 have:P=Q:=funext fun o=>propext (h o)
 rw [this]
theorem cmV_get {P:Nat→Prop} {o:Nat} (ho:o<40):(cmV P)[0+o * 1]? = some (bv (dc (P o))):=by
 rw [Nat.zero_add,Nat.mul_one]
 simp [cmV,ho]
theorem cmV_zero:cmV (fun _=>False)=List.replicate 40 (bv false):=by
 unfold cmV
 rw [List.map_congr_left (g:=fun _=>bv false) (fun o _=>by rw [dc_f (fun h=>h)])]
 simp [List.map_const']
theorem cmV_set {P:Nat→Prop} {b:Nat} (hb:b<40):List.take (0+b * 1) (cmV P)++[bv true]++List.drop (0+b * 1+1) (cmV P)=cmV fun o=>P o∨o=b:=by
 rw [Nat.zero_add,Nat.mul_one]
 have h1:List.take b (cmV P)++[bv true]++List.drop (b+1) (cmV P)=(cmV P).set b (bv true):=by
  rw [List.set_eq_take_append_cons_drop,if_pos (by rw [cmV_length]; exact hb)]
  simp
 rw [h1]
 apply List.ext_getElem?
 intro o
 rw [List.getElem?_set]
 by_cases ho:o<40
 ·by_cases e:b=o
  ·subst e
   rw [if_pos rfl,if_pos (by rw [cmV_length]; exact hb)]
   simp only [cmV,List.getElem?_map,List.getElem?_range ho,Option.map_some]
   rw [dc_t (p:=P b∨True) (.inr trivial)]
  ·rw [if_neg e]
   simp only [cmV,List.getElem?_map,List.getElem?_range ho,Option.map_some]
   rw [dc_iff (p:=P o) (q:=P o∨o=b) ⟨.inl,fun h=>h.resolve_right (fun g=>e g.symm)⟩]
 ·rw [if_neg (by omega)]
  simp [cmV,ho]
def Comm (l:List Bdy) (b o:Nat):Prop := ∃ c,c∈cellsAt l b∧c∈cellsAt l o
noncomputable def inn (l:List Bdy) (i n:Nat):List (Nat×Nat):=((List.range n).filter fun o=>decide (i<o)&&dc (Comm l i o)).map fun o=>(i,o)
noncomputable def ovl (l:List Bdy) (i:Nat):List (Nat×Nat):=(List.range i).flatMap fun b=>inn l b l.length
theorem ovl_succ (l:List Bdy) (i:Nat):ovl l (i+1)=ovl l i++inn l i l.length:=by
 unfold ovl
 rw [List.range_succ,List.flatMap_append]
 simp
theorem inn_start (l:List Bdy) (i:Nat):inn l i (i+1)=[]:=by
 unfold inn
 rw [List.map_eq_nil_iff,List.filter_eq_nil_iff]
 intro o ho
 have:=List.mem_range.1 ho
 have h:decide (i<o)=false:=by simp; omega
 rw [h]
 simp
theorem inn_succ {l:List Bdy} {i n:Nat} (h:i<n):inn l i (n+1)=if dc (Comm l i n)=true then inn l i n++[(i,n)] else inn l i n:=by
 unfold inn
 rw [List.range_succ,List.filter_append,List.filter_cons]
 have h' : decide (i<n)=true:=by simpa using h
 rw [h']
 cases dc (Comm l i n) <;> simp
theorem own_find {l:List Bdy} {T:List Ow} {m:Nat} {c:Cl} (ho:OwnI l m [] 0 T) {b:Nat} (hb:b<m) (hc:c∈cellsAt l b):c∈T.map (·.1):=ho.2 c (.inl ⟨b,hb,hc⟩)
theorem own_brs {l:List Bdy} {T:List Ow} {m:Nat} (ho:OwnI l m [] 0 T) {t:Ow} (ht:t∈T):t.2.1=brs l m t.1:=by
 rw [ho.1 t ht]
 have:dc (t.1∈([]:List Cl).take 0)=false:=dc_f (by simp)
 rw [this]
 simp
def Mk (l:List Bdy) (x:List Cl) (k:Nat) (o:Nat):Prop := ∃ c,c∈x.take k∧c∈cellsAt l o
theorem mk_succ {l:List Bdy} {x:List Cl} {k:Nat} {c:Cl} (hc:x[k]? = some c) (m:Nat) (hm : ∀ o,c∈cellsAt l o→o<m) (o:Nat):(Mk l x k o∨o∈brs l m c)↔Mk l x (k+1) o:=by
 have ht:x.take (k+1)=x.take k++[c]:=take_succ' hc
 unfold Mk brs
 rw [ht,List.mem_filter,List.mem_range]
 constructor
 ·rintro (⟨d,h1,h2⟩ | ⟨h1,h2⟩)
  ·exact ⟨d,by simp [h1],h2⟩
  ·exact ⟨c,by simp,dc_true h2⟩
 ·rintro ⟨d,h1,h2⟩
  rcases List.mem_append.1 h1 with h1 | h1
  ·exact .inl ⟨d,h1,h2⟩
  ·rw [List.mem_singleton.1 h1] at h2
   exact .inr ⟨hm o h2,dc_t h2⟩
theorem cellsAt_lt {l:List Bdy} {o:Nat} {c:Cl} (h:c∈cellsAt l o):o<l.length:=by
 unfold cellsAt at h
 rcases Nat.lt_or_ge o l.length with g | g
 ·exact g
 ·rw [List.getElem?_eq_none g] at h
  simp at h
end Go.Proofs.YtbionhgjgcpogaaGreatDoor
