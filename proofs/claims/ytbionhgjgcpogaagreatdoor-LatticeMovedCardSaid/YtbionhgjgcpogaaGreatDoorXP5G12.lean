/- A part of the proof. -/
import Derived.Test.YtbionhgjgcpogaaGreatDoorProg
import Derived.Test.YtbionhgjgcpogaaGreatDoorXP5G10
import Derived.Test.YtbionhgjgcpogaaGreatDoorXP5G11
namespace Go.Proofs.YtbionhgjgcpogaaGreatDoor
open Go Go.Proofs.YtbionhgjgcpogaaGreatDoor.Clean
set_option linter.unusedVariables false
set_option linter.unusedSimpArgs false
set_option maxRecDepth 10000
theorem Bd.qz {b:Int} {c:Cl} (h:Bd b c):Bd b (qz c):=by
 unfold Bd Nr at *
 simp only [Go.Proofs.YtbionhgjgcpogaaGreatDoor.qz]
 omega
theorem Bd.qx {b:Int} {c:Cl} (h:Bd b c):Bd b (qx c):=by
 unfold Bd Nr at *
 simp only [Go.Proofs.YtbionhgjgcpogaaGreatDoor.qx]
 omega
theorem itr_ind {P:Cl→Prop} {f:Cl→Cl} (hf : ∀ c,P c→P (f c)) : ∀ (n:Nat) (c:Cl),P c→P (itr f n c)
 | 0,c,h=>h
 | n+1,c,h=>itr_ind hf n (f c) (hf c h)
theorem tn_ind {P:Cl→Prop} (hz : ∀ c,P c→P (qz c)) (hx : ∀ c,P c→P (qx c)) (n:Nat) {c:Cl} (h:P c):P (tn n c):=by
 unfold tn
 split
 ·exact itr_ind hx _ _ (itr_ind hz _ _ h)
 ·exact itr_ind hz _ _ (hx _ (itr_ind hz _ _ h))
theorem tn_bd {b:Int} {n:Nat} {c:Cl} (h:Bd b c):Bd b (tn n c):=tn_ind (P:=Bd b) (fun _ h=>h.qz) (fun _ h=>h.qx) n h
theorem add_bd {a b:Int} {c d:Cl} (h:Bd a c) (h' : Bd b d):Bd (a+b) (addC c d):=by
 unfold Bd Nr at *
 simp only [addC]
 omega
theorem Bd.mono {a b:Int} {c:Cl} (h:Bd a c) (hab:a≤b):Bd b c:=Nr.mono h (by omega) hab
theorem add97 {a b:Cl} {R:V→Prop} (ha:Bd 1000000 a) (hb:Bd 1000000 b) (h:R (.agg (clr (addC a b)))):K0G Tryz.prog glX 97 [.agg (clr a),.agg (clr b)] R:=by
 refine K0_by hmX hcR 3000 Tryz.func97 (p:=R (V.agg [iv (IntKind.i64.wrap (a.1+b.1)),iv (IntKind.i64.wrap (a.2.1+b.2.1)),iv (IntKind.i64.wrap (a.2.2+b.2.2))])) (by kernel_rfl) ?_
 unfold Bd Nr at ha hb
 rw [wr (n:=a.1+_) (by omega) (by omega),wr (n:=a.2.1+_) (by omega) (by omega),wr (n:=a.2.2+_) (by omega) (by omega)]
 exact h
def fill {α β:Type} (f:α→β) (z:β) (l:List α) (i:Nat):List β:=(l.take i).map f++List.replicate (l.length - i) z
section
variable {α β:Type} {f:α→β} {z:β} {l:List α} {i:Nat}
theorem fill_zero:fill f z l 0=List.replicate l.length z:=by simp [fill]
theorem fill_full:fill f z l l.length=l.map f:=by simp [fill]
theorem fill_get (h:i<l.length):(fill f z l i)[i]? = some z:=by
 unfold fill
 rw [List.getElem?_append_right (by simp; omega)]
 have:i - ((l.take i).map f).length=0:=by simp; omega
 rw [this,List.getElem?_replicate,if_pos (by omega)]
theorem fill_set {x:α} (hx:l[i]? = some x):(fill f z l i).set i (f x)=fill f z l (i+1):=by
 have hi:=(List.getElem?_eq_some_iff.1 hx).1
 unfold fill
 rw [List.set_append_right _ _ (by simp; omega),show l.length - i=(l.length - (i+1))+1 from by omega,List.replicate_succ,take_succ' hx]
 have:i - ((l.take i).map f).length=0:=by simp; omega
 rw [this]
 simp
end
theorem cll_set (L:List Cl) (i:Nat) (c:Cl):(cll L).set (0+i) (iv c.1::iv c.2.1::iv c.2.2::List.append [] (List.drop 3 (clr (0,0,0))))=cll (L.set i c):=by rw [Nat.zero_add]; simp [cll,List.map_set,clr]
theorem knl_set (L:List Kn) (i:Nat) (c:Kn):(knl L).set (0+i) (iv c.1.1::iv c.1.2.1::iv c.1.2.2::V.raw (.int .u8 c.2.1)::V.raw (.int .u8 c.2.2)::List.append [] (List.drop 5 (knr ((0,0,0),0,0))))=knl (L.set i c):=by rw [Nat.zero_add]; simp [knl,List.map_set,knr,u8]
def plc (q:Kd) (n:Nat) (by_:Cl):List Cl:=sortC (q.1.map fun c=>addC (tn n c) by_)
def knb (q:Kd) (n:Nat) (by_:Cl):List Kn:=q.2.1.map fun k=>(addC (tn n k.1) by_,pt n k.2.1,k.2.2)
theorem pt_rg (n:Nat) (d:Int):0≤pt n d∧pt n d≤5:=by
 have h : ∀ n,n<24 → ∀ d,d<6→0≤(ptL.getD n []).getD d 0∧(ptL.getD n []).getD d 0≤5:=by decide
 unfold pt
 by_cases hn:n<24
 ·by_cases hd:d.toNat<6
  ·exact h n hn _ hd
  ·have hl : ∀ n,n<24→(ptL.getD n []).length=6:=by decide
   rw [List.getD_eq_getElem?_getD (l:=ptL.getD n []),List.getElem?_eq_none (by rw [hl n hn]; omega)]
   simp
 ·have:ptL.getD n []=[]:=by rw [List.getD_eq_getElem?_getD,List.getElem?_eq_none (by simp [ptL]; omega)]; rfl
  rw [this]; simp
theorem u8w {n:Int} (h:0≤n) (h' : n≤255):IntKind.u8.wrap n=n:=by
 have:IntKind.u8.wrap n=n % 256:=rfl
 rw [this]; omega
def PutP (q:Kd):Prop:=(∀ c∈q.1,Nr 0 15 c)∧q.1.length≤30∧(∀ k∈q.2.1,Nr 0 15 k.1∧0≤k.2.1∧k.2.1≤5)∧q.2.1.length≤60
set_option maxHeartbeats 2000000 in
theorem put95A {q:Kd} {k t:Int} {by_:Cl} {n:Nat} {R:V→Prop} (hch:K0G Tryz.prog glX 82 [iv t] fun v=>v=(chA k)) (hcell : ∀ {c:Cl} {R:V→Prop},Bd 3000 c→R (.agg (clr (tn n c)))→K0G Tryz.prog glX 85 [(chA k),.agg (clr c)] R) (hdir : ∀ {d:Nat} {R:V→Prop},d<6→R (iv (pt n (d:Int)))→K0G Tryz.prog glX 83 [(chA k),iv (d:Int)] R)
  (hq:PutP q) (hby:Bd 2000 by_) (h:R (.agg [.lst 3 (cll (plc q n by_)),.lst 5 (knl (knb q n by_))])):K0G Tryz.prog glX 95 [.agg (kdr q),iv t,.agg (clr by_)] R:=by
 refine K0_of_WY0 hmX (hcP (chA k)) 3000 Tryz.func95 (see (p:=KM Tryz.prog glX 82 [iv t] (Hp.mk [] 0 []) (poP 82 [iv t]) fun v us=>v=V.agg [V.fn (Fn.func (124:FuncId)) [] [],iv k,V.raw Value.nilFunc,iv (0:Int),V.raw Value.nilFunc,iv (0:Int)]∧need ((knl q.2.1).length≤(knl q.2.1).length) (need (32 * (knl q.2.1).length≤140737488355328) (need ((knl q.2.1).length≤9223372036854775807) (need ((cll q.1).length≤(cll q.1).length) (need (24 * (cll q.1).length≤140737488355328) (need ((cll q.1).length≤9223372036854775807) (need ((knl q.2.1).length≤(knl q.2.1).length) (need (32 * (knl q.2.1).length≤140737488355328) (need ((knl q.2.1).length≤9223372036854775807) (La 0 [(3:Tmp),(5:Tmp),(6:Tmp),(7:Tmp),(8:Tmp),(26:Tmp),(27:Tmp),(28:Tmp)] (WY Tryz.prog (cfP (chA k)) 2993 (Env.mk (Bs.mk 0 []) 0 none 76 95 0) (cdAt [1,1,1,0,1,0,0] (bodyOf Tryz.f95))) (Qblk 0 (Qthen (WY Tryz.prog (cfP (chA k)) 2996 (Env.mk (Bs.mk 0 []) 0 none 76 95 0) (cdAt [1,1,1,1] (bodyOf Tryz.f95)) (QendX Tryz.prog Tryz.f95 fun v h=>R (frzW h v))) (QendX Tryz.prog Tryz.f95 fun v h=>R (frzW h v)))) (St.mk (mkT [(3,V.ptr (Id.p 0) 0 0),(5,V.ptr (Id.p 1) 0 0),(6,V.ptr (Id.p 2) 0 0),(7,V.ptr (Id.p 3) 0 0),(8,V.ptr (Id.p 4) 0 0),(26,V.lst 3 (cll q.1)),(27,iv (↑(cll q.1).length:Int)),(28,iv (0:Int))]) (Hp.mk [(0,O.rows 3 false [[V.lst 3 (cll q.1),V.lst 5 (knl q.2.1),iv q.2.2]]),(1,O.rows 3 false [[iv by_.1,iv by_.2.1,iv by_.2.2]]),(2,O.rows 2 false [[nilS,nilS]]),(3,O.rows 6 false [[V.fn (Fn.func (124:FuncId)) [] [],iv k,V.raw Value.nilFunc,iv (0:Int),V.raw Value.nilFunc,iv (0:Int)]]),(4,O.rows 2 false [[V.sl (Id.p 5) 0 (cll q.1).length,V.sl (Id.p 6) 0 (knl q.2.1).length]]),(5,O.rows 3 true (List.replicate (cll q.1).length [iv (0:Int),iv (0:Int),iv (0:Int)])),(6,O.rows 5 true (List.replicate (knl q.2.1).length [iv (0:Int),iv (0:Int),iv (0:Int),V.raw (Value.int IntKind.u8 (0:Int)),V.raw (Value.int IntKind.u8 (0:Int))]))] 7 [])))))))))))) (by kernel_rfl) ?_)
 obtain ⟨hc,hcl,hk,hkl⟩:=hq
 have cl:=cll_length q.1
 have kl:=knl_length q.2.1
 refine KM_of_K0 rfl rfl (hch.mono' fun v e=>⟨e,?_⟩)
 refine need_mk ⟨Nat.le_refl _,need_mk ⟨by omega,need_mk ⟨by omega,need_mk ⟨Nat.le_refl _,need_mk ⟨by omega,need_mk ⟨by omega,need_mk ⟨Nat.le_refl _,need_mk ⟨by omega,need_mk ⟨by omega,?_⟩⟩⟩⟩⟩⟩⟩⟩⟩
 have e1:List.replicate (cll q.1).length [iv (0:Int),iv (0:Int),iv (0:Int)]=cll (fill (fun c=>addC (tn n c) by_) (0,0,0) q.1 0):=by rw [cl,fill_zero]; simp [cll,clr]
 have e2:List.replicate (knl q.2.1).length [iv (0:Int),iv (0:Int),iv (0:Int),V.raw (Value.int IntKind.u8 (0:Int)),V.raw (Value.int IntKind.u8 (0:Int))]=knl (fill (fun k:Kn=>((addC (tn n k.1) by_,pt n k.2.1,k.2.2):Kn)) ((0,0,0),0,0) q.2.1 0):=by rw [kl,fill_zero]; simp [knl,knr,u8]
 rw [e1,e2]
 generalize hK:fill (fun k:Kn=>((addC (tn n k.1) by_,pt n k.2.1,k.2.2):Kn)) ((0,0,0),0,0) q.2.1 0=K
 refine La.of (σ:=Nat) (fun i=>sh95a (chAr k) q by_ (fill (fun c=>addC (tn n c) by_) (0,0,0) q.1 i) K i) (fun i=>i≤q.1.length) (fun i=>q.1.length - i) 0 (by kernel_rfl) (by omega) ?_
 intro i g1 J hJ
 generalize hL:fill (fun c=>addC (tn n c) by_) (0,0,0) q.1 i=L
 refine see (p:=ifB (decide ((↑i:Int)<(↑(cll q.1).length:Int))) (onSome (cll q.1)[i]? fun row=>onCons (List.drop 0 row) fun u r=>onIntK IntKind.i64 u fun n=>onCons r fun u r=>onIntK IntKind.i64 u fun n_1=>onCons r fun u r=>onIntK IntKind.i64 u fun n_2=>K0G Tryz.prog glX 85 [V.agg [V.fn (Fn.func (124:FuncId)) [] [],iv k,V.raw Value.nilFunc,iv (0:Int),V.raw Value.nilFunc,iv (0:Int)],V.agg [iv n,iv n_1,iv n_2]] fun v=>onAgg v fun cs=>onCons cs fun u r=>onIntK IntKind.i64 u fun n=>onCons r fun u r=>onIntK IntKind.i64 u fun n_3=>onCons r fun u r=>onIntK IntKind.i64 u fun n_4=>onNil r (K0G Tryz.prog glX 97 [V.agg [iv n,iv n_3,iv n_4],V.agg [iv by_.1,iv by_.2.1,iv by_.2.2]] fun v=>onAgg v fun cs=>onCons cs fun u r=>onIntK IntKind.i64 u fun n=>onCons r fun u r=>onIntK IntKind.i64 u fun n_5=>onCons r fun u r=>onIntK IntKind.i64 u fun n_6=>onNil r (need (i<(cll q.1).length) (onSome (cll L)[0+i]? fun row=>guardB ((0+3).ble row.length) (J (St.mk (mkT [(3,V.ptr (Id.p 0) 0 0),(5,V.ptr (Id.p 1) 0 0),(6,V.ptr (Id.p 2) 0 0),(7,V.ptr (Id.p 3) 0 0),(8,V.ptr (Id.p 4) 0 0),(26,V.lst 3 (cll q.1)),(27,iv (↑(cll q.1).length:Int)),(28,iv (IntKind.i64.wrap ((↑i:Int)+(1:Int))))]) (Hp.mk [(0,O.rows 3 false [[V.lst 3 (cll q.1),V.lst 5 (knl q.2.1),iv q.2.2]]),(1,O.rows 3 false [[iv by_.1,iv by_.2.1,iv by_.2.2]]),(2,O.rows 2 false [[nilS,nilS]]),(3,O.rows 6 false [[V.fn (Fn.func (124:FuncId)) [] [],iv k,V.raw Value.nilFunc,iv (0:Int),V.raw Value.nilFunc,iv (0:Int)]]),(4,O.rows 2 false [[V.sl (Id.p 5) 0 (cll q.1).length,V.sl (Id.p 6) 0 (knl q.2.1).length]]),(5,O.rows 3 true ((cll L).set (0+i) (iv n::iv n_5::iv n_6::(List.append []) (List.drop 3 row)))),(6,O.rows 5 true (knl K))] 7 []))))))) (KM Tryz.prog glX 129 [V.sl (Id.p 0) 0 (cll q.1).length,V.fn (Fn.func 89) [] []] (Hp.mk [(0,O.rows 3 true (cll L))] 1 []) (poP 129 [V.sl (Id.p 5) 0 (cll q.1).length,V.fn (Fn.func 89) [] []]) fun v us=>onTup v fun vs=>onNil vs (La 0 [(5:Tmp),(6:Tmp),(7:Tmp),(8:Tmp),(47:Tmp),(48:Tmp),(49:Tmp)] (WY Tryz.prog (cfP (chA k)) 2991 (Env.mk (Bs.mk 0 []) 0 none 76 95 2) (cdAt [1,1,1,1,1,0,1,0,0] (bodyOf Tryz.f95))) (Qblk 2 (Qthen (WY Tryz.prog (cfP (chA k)) 2994 (Env.mk (Bs.mk 0 []) 0 none 76 95 0) (cdAt [1,1,1,1,1,1] (bodyOf Tryz.f95)) (QendX Tryz.prog Tryz.f95 fun v h=>R (frzW h v))) (QendX Tryz.prog Tryz.f95 fun v h=>R (frzW h v)))) (St.mk (mkT [(5,V.ptr (Id.p 0) 0 0),(6,V.ptr (Id.p 1) 0 0),(7,V.ptr (Id.p 2) 0 0),(8,V.ptr (Id.p 3) 0 0),(47,V.lst 5 (knl q.2.1)),(48,iv (↑(knl q.2.1).length:Int)),(49,iv (0:Int))]) (Hp.mk [(0,O.rows 3 false [[iv by_.1,iv by_.2.1,iv by_.2.2]]),(1,O.rows 2 false [[nilS,nilS]]),(2,O.rows 6 false [[V.fn (Fn.func (124:FuncId)) [] [],iv k,V.raw Value.nilFunc,iv (0:Int),V.raw Value.nilFunc,iv (0:Int)]]),(3,O.rows 2 false [[V.sl (Id.p 4) 0 (cll q.1).length,V.sl (Id.p 5) 0 (knl q.2.1).length]]),(4,O.rows 3 true (List.getD us 0 [])),(5,O.rows 5 true (knl K))] 6 []))))) (by kernel_rfl) ?_
 refine ifB_mk (fun d=>?_) (fun d=>?_)
 ·have hlt:i<q.1.length:=by have:=of_decide_eq_true d; omega
  obtain ⟨x,hx⟩:=getI hlt
  have hxb:Bd 15 x:=(hc x (mem_at hx)).mono (by omega) (by omega)
  refine cel hx (hcell (c:=x) (hxb.mono (by omega)) (onC (add97 (a:=tn n x) (b:=by_) ((tn_bd hxb).mono (by omega)) (hby.mono (by omega)) (onC (need_mk ⟨by omega,?_⟩)))))
  have hz:(cll L)[0+i]? = some (clr (0,0,0)):=by
   have:=fill_get (f:=fun c=>addC (tn n c) by_) (z:=((0,0,0):Cl)) hlt
   rw [hL] at this
   rw [Nat.zero_add]; simp [cll,this]
  refine onSome_mk hz (guardB_mk rfl ?_)
  rw [wr1i hlt (by omega),cll_set L i (addC (tn n x) by_),← hL,fill_set hx]
  exact hJ (i+1) hlt (by omega)
 ·have hi:i=q.1.length:=by have:=of_decide_eq_false d; omega
  subst hi
  rw [fill_full] at hL
  have el:(cll q.1).length=L.length:=by rw [cl,← hL]; simp
  rw [el]
  refine sort129 (l:=L) (by omega) (fun us=>rfl) (onTup_tup (onNil_nil ?_))
  have hs:sortC L=plc q n by_:=by rw [← hL]; rfl
  rw [hs]
  rw [← el]
  clear hJ
  refine La.of (σ:=Nat) (fun i=>sh95b (chAr k) q by_ (plc q n by_) (fill (fun k:Kn=>((addC (tn n k.1) by_,pt n k.2.1,k.2.2):Kn)) ((0,0,0),0,0) q.2.1 i) i) (fun i=>i≤q.2.1.length) (fun i=>q.2.1.length - i) 0 (by rw [← hK]; kernel_rfl) (by omega) ?_
  intro i g1 I hI
  clear hL hs el
  generalize hL2:plc q n by_=L
  clear hK
  generalize hK2:fill (fun k:Kn=>((addC (tn n k.1) by_,pt n k.2.1,k.2.2):Kn)) ((0,0,0),0,0) q.2.1 i=K
  refine see (p:=ifB (decide ((↑i:Int)<(↑(knl q.2.1).length:Int))) (onSome (knl q.2.1)[i]? fun row=>onCons (List.drop 0 row) fun u r=>onIntK IntKind.i64 u fun n=>onCons r fun u r=>onIntK IntKind.i64 u fun n_1=>onCons r fun u r=>onIntK IntKind.i64 u fun n_2=>onCons r fun u r=>onIntK IntKind.u8 u fun n_3=>onCons r fun u r=>onIntK IntKind.u8 u fun n_4=>K0G Tryz.prog glX 85 [V.agg [V.fn (Fn.func (124:FuncId)) [] [],iv k,V.raw Value.nilFunc,iv (0:Int),V.raw Value.nilFunc,iv (0:Int)],V.agg [iv n,iv n_1,iv n_2]] fun v=>onAgg v fun cs=>onCons cs fun u r=>onIntK IntKind.i64 u fun n=>onCons r fun u r=>onIntK IntKind.i64 u fun n_5=>onCons r fun u r=>onIntK IntKind.i64 u fun n_6=>onNil r (K0G Tryz.prog glX 97 [V.agg [iv n,iv n_5,iv n_6],V.agg [iv by_.1,iv by_.2.1,iv by_.2.2]] fun v=>onAgg v fun cs=>onCons cs fun u r=>onIntK IntKind.i64 u fun n=>onCons r fun u r=>onIntK IntKind.i64 u fun n_7=>onCons r fun u r=>onIntK IntKind.i64 u fun n_8=>onNil r (K0G Tryz.prog glX 83 [V.agg [V.fn (Fn.func (124:FuncId)) [] [],iv k,V.raw Value.nilFunc,iv (0:Int),V.raw Value.nilFunc,iv (0:Int)],iv (IntKind.i64.wrap n_3)] fun v=>onIntK IntKind.i64 v fun n_9=>need (i<(knl q.2.1).length) (onSome (knl K)[0+i]? fun row=>guardB ((0+5).ble row.length) (I (St.mk (mkT [(5,V.ptr (Id.p 0) 0 0),(6,V.ptr (Id.p 1) 0 0),(7,V.ptr (Id.p 2) 0 0),(8,V.ptr (Id.p 3) 0 0),(47,V.lst 5 (knl q.2.1)),(48,iv (↑(knl q.2.1).length:Int)),(49,iv (IntKind.i64.wrap ((↑i:Int)+(1:Int))))]) (Hp.mk [(0,O.rows 3 false [[iv by_.1,iv by_.2.1,iv by_.2.2]]),(1,O.rows 2 false [[nilS,nilS]]),(2,O.rows 6 false [[V.fn (Fn.func (124:FuncId)) [] [],iv k,V.raw Value.nilFunc,iv (0:Int),V.raw Value.nilFunc,iv (0:Int)]]),(3,O.rows 2 false [[V.sl (Id.p 4) 0 (cll q.1).length,V.sl (Id.p 5) 0 (knl q.2.1).length]]),(4,O.rows 3 true (cll L)),(5,O.rows 5 true ((knl K).set (0+i) (iv n::iv n_7::iv n_8::V.raw (Value.int IntKind.u8 (IntKind.u8.wrap n_9))::V.raw (Value.int IntKind.u8 n_4)::(List.append []) (List.drop 5 row))))] 6 []))))))) (R (V.agg [V.lst 3 (sub (cll L) 0 (cll q.1).length),V.lst 5 (sub (knl K) 0 (knl q.2.1).length)]))) (by kernel_rfl) ?_
  refine ifB_mk (fun d=>?_) (fun d=>?_)
  ·have hlt:i<q.2.1.length:=by have:=of_decide_eq_true d; omega
   obtain ⟨x,hx⟩:=getI hlt
   obtain ⟨x1,x2,x3⟩:=hk x (mem_at hx)
   have hxb:Bd 15 x.1:=x1.mono (by omega) (by omega)
   obtain ⟨p1,p2⟩:=pt_rg n x.2.1
   refine kel hx (hcell (c:=x.1) (hxb.mono (by omega)) (onC (add97 (a:=tn n x.1) (b:=by_) ((tn_bd hxb).mono (by omega)) (hby.mono (by omega)) (onC ?_))))
   rw [wr (n:=x.2.1) (by omega) (by omega)]
   obtain ⟨m,hm⟩ : ∃ m:Nat,x.2.1=(m:Int):=⟨x.2.1.toNat,by omega⟩
   rw [hm]
   rw [hm] at p1 p2
   refine hdir (d:=m) (by omega) (onIntK_iv (need_mk ⟨by omega,?_⟩))
   have hz:(knl K)[0+i]? = some (knr ((0,0,0),0,0)):=by
    have:=fill_get (f:=fun k:Kn=>((addC (tn n k.1) by_,pt n k.2.1,k.2.2):Kn)) (z:=(((0,0,0),0,0):Kn)) hlt
    rw [hK2] at this
    rw [Nat.zero_add]; simp [knl,this]
   refine onSome_mk hz (guardB_mk rfl ?_)
   rw [wr1i hlt (by omega),u8w p1 (by omega)]
   have fs:(fill (fun k:Kn=>((addC (tn n k.1) by_,pt n k.2.1,k.2.2):Kn)) ((0,0,0),0,0) q.2.1 i).set i ((addC (tn n x.1) by_,pt n x.2.1,x.2.2):Kn)=fill (fun k:Kn=>((addC (tn n k.1) by_,pt n k.2.1,k.2.2):Kn)) ((0,0,0),0,0) q.2.1 (i+1):=fill_set hx
   rw [hK2] at fs
   have es:(knl K).set (0+i) (iv (addC (tn n x.1) by_).1::iv (addC (tn n x.1) by_).2.1::iv (addC (tn n x.1) by_).2.2::V.raw (.int .u8 (pt n (m:Int)))::V.raw (.int .u8 x.2.2)::List.append [] (List.drop 5 (knr ((0,0,0),0,0))))=knl (fill (fun k:Kn=>((addC (tn n k.1) by_,pt n k.2.1,k.2.2):Kn)) ((0,0,0),0,0) q.2.1 (i+1)):=by
    rw [← fs,← hm]
    exact knl_set K i ((addC (tn n x.1) by_,pt n x.2.1,x.2.2):Kn)
   rw [es,← hL2]
   exact hI (i+1) hlt (by omega)
  ·have hi:i=q.2.1.length:=by have:=of_decide_eq_false d; omega
   subst hi
   rw [fill_full] at hK2
   have s1:sub (cll L) 0 (cll q.1).length=cll (plc q n by_):=by
    rw [← hL2,sub,List.drop_zero,List.take_of_length_le]
    rw [cll_length,cl,plc,(sortC_perm _).length_eq]; simp
   have s2:sub (knl K) 0 (knl q.2.1).length=knl (knb q n by_):=by
    rw [sub,List.drop_zero,List.take_of_length_le (by rw [knl_length,kl,← hK2]; simp),← hK2]; rfl
   rw [s1,s2]
   exact h
set_option maxHeartbeats 2000000 in
theorem put95B {q:Kd} {k s t:Int} {by_:Cl} {n:Nat} {R:V→Prop} (hch:K0G Tryz.prog glX 82 [iv t] fun v=>v=(chB k s)) (hcell : ∀ {c:Cl} {R:V→Prop},Bd 3000 c→R (.agg (clr (tn n c)))→K0G Tryz.prog glX 85 [(chB k s),.agg (clr c)] R) (hdir : ∀ {d:Nat} {R:V→Prop},d<6→R (iv (pt n (d:Int)))→K0G Tryz.prog glX 83 [(chB k s),iv (d:Int)] R)
  (hq:PutP q) (hby:Bd 2000 by_) (h:R (.agg [.lst 3 (cll (plc q n by_)),.lst 5 (knl (knb q n by_))])):K0G Tryz.prog glX 95 [.agg (kdr q),iv t,.agg (clr by_)] R:=by
 refine K0_of_WY0 hmX (hcP (chB k s)) 3000 Tryz.func95 (see (p:=KM Tryz.prog glX 82 [iv t] (Hp.mk [] 0 []) (poP 82 [iv t]) fun v us=>v=V.agg [V.fn (Fn.func (124:FuncId)) [] [],iv k,V.fn (Fn.func (123:FuncId)) [] [],iv s,V.raw Value.nilFunc,iv (0:Int)]∧need ((knl q.2.1).length≤(knl q.2.1).length) (need (32 * (knl q.2.1).length≤140737488355328) (need ((knl q.2.1).length≤9223372036854775807) (need ((cll q.1).length≤(cll q.1).length) (need (24 * (cll q.1).length≤140737488355328) (need ((cll q.1).length≤9223372036854775807) (need ((knl q.2.1).length≤(knl q.2.1).length) (need (32 * (knl q.2.1).length≤140737488355328) (need ((knl q.2.1).length≤9223372036854775807) (La 0 [(3:Tmp),(5:Tmp),(6:Tmp),(7:Tmp),(8:Tmp),(26:Tmp),(27:Tmp),(28:Tmp)] (WY Tryz.prog (cfP (chB k s)) 2993 (Env.mk (Bs.mk 0 []) 0 none 76 95 0) (cdAt [1,1,1,0,1,0,0] (bodyOf Tryz.f95))) (Qblk 0 (Qthen (WY Tryz.prog (cfP (chB k s)) 2996 (Env.mk (Bs.mk 0 []) 0 none 76 95 0) (cdAt [1,1,1,1] (bodyOf Tryz.f95)) (QendX Tryz.prog Tryz.f95 fun v h=>R (frzW h v))) (QendX Tryz.prog Tryz.f95 fun v h=>R (frzW h v)))) (St.mk (mkT [(3,V.ptr (Id.p 0) 0 0),(5,V.ptr (Id.p 1) 0 0),(6,V.ptr (Id.p 2) 0 0),(7,V.ptr (Id.p 3) 0 0),(8,V.ptr (Id.p 4) 0 0),(26,V.lst 3 (cll q.1)),(27,iv (↑(cll q.1).length:Int)),(28,iv (0:Int))]) (Hp.mk [(0,O.rows 3 false [[V.lst 3 (cll q.1),V.lst 5 (knl q.2.1),iv q.2.2]]),(1,O.rows 3 false [[iv by_.1,iv by_.2.1,iv by_.2.2]]),(2,O.rows 2 false [[nilS,nilS]]),(3,O.rows 6 false [[V.fn (Fn.func (124:FuncId)) [] [],iv k,V.fn (Fn.func (123:FuncId)) [] [],iv s,V.raw Value.nilFunc,iv (0:Int)]]),(4,O.rows 2 false [[V.sl (Id.p 5) 0 (cll q.1).length,V.sl (Id.p 6) 0 (knl q.2.1).length]]),(5,O.rows 3 true (List.replicate (cll q.1).length [iv (0:Int),iv (0:Int),iv (0:Int)])),(6,O.rows 5 true (List.replicate (knl q.2.1).length [iv (0:Int),iv (0:Int),iv (0:Int),V.raw (Value.int IntKind.u8 (0:Int)),V.raw (Value.int IntKind.u8 (0:Int))]))] 7 [])))))))))))) (by kernel_rfl) ?_)
 obtain ⟨hc,hcl,hk,hkl⟩:=hq
 have cl:=cll_length q.1
 have kl:=knl_length q.2.1
 refine KM_of_K0 rfl rfl (hch.mono' fun v e=>⟨e,?_⟩)
 refine need_mk ⟨Nat.le_refl _,need_mk ⟨by omega,need_mk ⟨by omega,need_mk ⟨Nat.le_refl _,need_mk ⟨by omega,need_mk ⟨by omega,need_mk ⟨Nat.le_refl _,need_mk ⟨by omega,need_mk ⟨by omega,?_⟩⟩⟩⟩⟩⟩⟩⟩⟩
 have e1:List.replicate (cll q.1).length [iv (0:Int),iv (0:Int),iv (0:Int)]=cll (fill (fun c=>addC (tn n c) by_) (0,0,0) q.1 0):=by rw [cl,fill_zero]; simp [cll,clr]
 have e2:List.replicate (knl q.2.1).length [iv (0:Int),iv (0:Int),iv (0:Int),V.raw (Value.int IntKind.u8 (0:Int)),V.raw (Value.int IntKind.u8 (0:Int))]=knl (fill (fun k:Kn=>((addC (tn n k.1) by_,pt n k.2.1,k.2.2):Kn)) ((0,0,0),0,0) q.2.1 0):=by rw [kl,fill_zero]; simp [knl,knr,u8]
 rw [e1,e2]
 generalize hK:fill (fun k:Kn=>((addC (tn n k.1) by_,pt n k.2.1,k.2.2):Kn)) ((0,0,0),0,0) q.2.1 0=K
 refine La.of (σ:=Nat) (fun i=>sh95a (chBr k s) q by_ (fill (fun c=>addC (tn n c) by_) (0,0,0) q.1 i) K i) (fun i=>i≤q.1.length) (fun i=>q.1.length - i) 0 (by kernel_rfl) (by omega) ?_
 intro i g1 J hJ
 generalize hL:fill (fun c=>addC (tn n c) by_) (0,0,0) q.1 i=L
 refine see (p:=ifB (decide ((↑i:Int)<(↑(cll q.1).length:Int))) (onSome (cll q.1)[i]? fun row=>onCons (List.drop 0 row) fun u r=>onIntK IntKind.i64 u fun n=>onCons r fun u r=>onIntK IntKind.i64 u fun n_1=>onCons r fun u r=>onIntK IntKind.i64 u fun n_2=>K0G Tryz.prog glX 85 [V.agg [V.fn (Fn.func (124:FuncId)) [] [],iv k,V.fn (Fn.func (123:FuncId)) [] [],iv s,V.raw Value.nilFunc,iv (0:Int)],V.agg [iv n,iv n_1,iv n_2]] fun v=>onAgg v fun cs=>onCons cs fun u r=>onIntK IntKind.i64 u fun n=>onCons r fun u r=>onIntK IntKind.i64 u fun n_3=>onCons r fun u r=>onIntK IntKind.i64 u fun n_4=>onNil r (K0G Tryz.prog glX 97 [V.agg [iv n,iv n_3,iv n_4],V.agg [iv by_.1,iv by_.2.1,iv by_.2.2]] fun v=>onAgg v fun cs=>onCons cs fun u r=>onIntK IntKind.i64 u fun n=>onCons r fun u r=>onIntK IntKind.i64 u fun n_5=>onCons r fun u r=>onIntK IntKind.i64 u fun n_6=>onNil r (need (i<(cll q.1).length) (onSome (cll L)[0+i]? fun row=>guardB ((0+3).ble row.length) (J (St.mk (mkT [(3,V.ptr (Id.p 0) 0 0),(5,V.ptr (Id.p 1) 0 0),(6,V.ptr (Id.p 2) 0 0),(7,V.ptr (Id.p 3) 0 0),(8,V.ptr (Id.p 4) 0 0),(26,V.lst 3 (cll q.1)),(27,iv (↑(cll q.1).length:Int)),(28,iv (IntKind.i64.wrap ((↑i:Int)+(1:Int))))]) (Hp.mk [(0,O.rows 3 false [[V.lst 3 (cll q.1),V.lst 5 (knl q.2.1),iv q.2.2]]),(1,O.rows 3 false [[iv by_.1,iv by_.2.1,iv by_.2.2]]),(2,O.rows 2 false [[nilS,nilS]]),(3,O.rows 6 false [[V.fn (Fn.func (124:FuncId)) [] [],iv k,V.fn (Fn.func (123:FuncId)) [] [],iv s,V.raw Value.nilFunc,iv (0:Int)]]),(4,O.rows 2 false [[V.sl (Id.p 5) 0 (cll q.1).length,V.sl (Id.p 6) 0 (knl q.2.1).length]]),(5,O.rows 3 true ((cll L).set (0+i) (iv n::iv n_5::iv n_6::(List.append []) (List.drop 3 row)))),(6,O.rows 5 true (knl K))] 7 []))))))) (KM Tryz.prog glX 129 [V.sl (Id.p 0) 0 (cll q.1).length,V.fn (Fn.func 89) [] []] (Hp.mk [(0,O.rows 3 true (cll L))] 1 []) (poP 129 [V.sl (Id.p 5) 0 (cll q.1).length,V.fn (Fn.func 89) [] []]) fun v us=>onTup v fun vs=>onNil vs (La 0 [(5:Tmp),(6:Tmp),(7:Tmp),(8:Tmp),(47:Tmp),(48:Tmp),(49:Tmp)] (WY Tryz.prog (cfP (chB k s)) 2991 (Env.mk (Bs.mk 0 []) 0 none 76 95 2) (cdAt [1,1,1,1,1,0,1,0,0] (bodyOf Tryz.f95))) (Qblk 2 (Qthen (WY Tryz.prog (cfP (chB k s)) 2994 (Env.mk (Bs.mk 0 []) 0 none 76 95 0) (cdAt [1,1,1,1,1,1] (bodyOf Tryz.f95)) (QendX Tryz.prog Tryz.f95 fun v h=>R (frzW h v))) (QendX Tryz.prog Tryz.f95 fun v h=>R (frzW h v)))) (St.mk (mkT [(5,V.ptr (Id.p 0) 0 0),(6,V.ptr (Id.p 1) 0 0),(7,V.ptr (Id.p 2) 0 0),(8,V.ptr (Id.p 3) 0 0),(47,V.lst 5 (knl q.2.1)),(48,iv (↑(knl q.2.1).length:Int)),(49,iv (0:Int))]) (Hp.mk [(0,O.rows 3 false [[iv by_.1,iv by_.2.1,iv by_.2.2]]),(1,O.rows 2 false [[nilS,nilS]]),(2,O.rows 6 false [[V.fn (Fn.func (124:FuncId)) [] [],iv k,V.fn (Fn.func (123:FuncId)) [] [],iv s,V.raw Value.nilFunc,iv (0:Int)]]),(3,O.rows 2 false [[V.sl (Id.p 4) 0 (cll q.1).length,V.sl (Id.p 5) 0 (knl q.2.1).length]]),(4,O.rows 3 true (List.getD us 0 [])),(5,O.rows 5 true (knl K))] 6 []))))) (by kernel_rfl) ?_
 refine ifB_mk (fun d=>?_) (fun d=>?_)
 ·have hlt:i<q.1.length:=by have:=of_decide_eq_true d; omega
  obtain ⟨x,hx⟩:=getI hlt
  have hxb:Bd 15 x:=(hc x (mem_at hx)).mono (by omega) (by omega)
  refine cel hx (hcell (c:=x) (hxb.mono (by omega)) (onC (add97 (a:=tn n x) (b:=by_) ((tn_bd hxb).mono (by omega)) (hby.mono (by omega)) (onC (need_mk ⟨by omega,?_⟩)))))
  have hz:(cll L)[0+i]? = some (clr (0,0,0)):=by
   have:=fill_get (f:=fun c=>addC (tn n c) by_) (z:=((0,0,0):Cl)) hlt
   rw [hL] at this
   rw [Nat.zero_add]; simp [cll,this]
  refine onSome_mk hz (guardB_mk rfl ?_)
  rw [wr1i hlt (by omega),cll_set L i (addC (tn n x) by_),← hL,fill_set hx]
  exact hJ (i+1) hlt (by omega)
 ·have hi:i=q.1.length:=by have:=of_decide_eq_false d; omega
  subst hi
  rw [fill_full] at hL
  have el:(cll q.1).length=L.length:=by rw [cl,← hL]; simp
  rw [el]
  refine sort129 (l:=L) (by omega) (fun us=>rfl) (onTup_tup (onNil_nil ?_))
  have hs:sortC L=plc q n by_:=by rw [← hL]; rfl
  rw [hs]
  rw [← el]
  clear hJ
  refine La.of (σ:=Nat) (fun i=>sh95b (chBr k s) q by_ (plc q n by_) (fill (fun k:Kn=>((addC (tn n k.1) by_,pt n k.2.1,k.2.2):Kn)) ((0,0,0),0,0) q.2.1 i) i) (fun i=>i≤q.2.1.length) (fun i=>q.2.1.length - i) 0 (by rw [← hK]; kernel_rfl) (by omega) ?_
  intro i g1 I hI
  clear hL hs el
  generalize hL2:plc q n by_=L
  clear hK
  generalize hK2:fill (fun k:Kn=>((addC (tn n k.1) by_,pt n k.2.1,k.2.2):Kn)) ((0,0,0),0,0) q.2.1 i=K
  refine see (p:=ifB (decide ((↑i:Int)<(↑(knl q.2.1).length:Int))) (onSome (knl q.2.1)[i]? fun row=>onCons (List.drop 0 row) fun u r=>onIntK IntKind.i64 u fun n=>onCons r fun u r=>onIntK IntKind.i64 u fun n_1=>onCons r fun u r=>onIntK IntKind.i64 u fun n_2=>onCons r fun u r=>onIntK IntKind.u8 u fun n_3=>onCons r fun u r=>onIntK IntKind.u8 u fun n_4=>K0G Tryz.prog glX 85 [V.agg [V.fn (Fn.func (124:FuncId)) [] [],iv k,V.fn (Fn.func (123:FuncId)) [] [],iv s,V.raw Value.nilFunc,iv (0:Int)],V.agg [iv n,iv n_1,iv n_2]] fun v=>onAgg v fun cs=>onCons cs fun u r=>onIntK IntKind.i64 u fun n=>onCons r fun u r=>onIntK IntKind.i64 u fun n_5=>onCons r fun u r=>onIntK IntKind.i64 u fun n_6=>onNil r (K0G Tryz.prog glX 97 [V.agg [iv n,iv n_5,iv n_6],V.agg [iv by_.1,iv by_.2.1,iv by_.2.2]] fun v=>onAgg v fun cs=>onCons cs fun u r=>onIntK IntKind.i64 u fun n=>onCons r fun u r=>onIntK IntKind.i64 u fun n_7=>onCons r fun u r=>onIntK IntKind.i64 u fun n_8=>onNil r (K0G Tryz.prog glX 83 [V.agg [V.fn (Fn.func (124:FuncId)) [] [],iv k,V.fn (Fn.func (123:FuncId)) [] [],iv s,V.raw Value.nilFunc,iv (0:Int)],iv (IntKind.i64.wrap n_3)] fun v=>onIntK IntKind.i64 v fun n_9=>need (i<(knl q.2.1).length) (onSome (knl K)[0+i]? fun row=>guardB ((0+5).ble row.length) (I (St.mk (mkT [(5,V.ptr (Id.p 0) 0 0),(6,V.ptr (Id.p 1) 0 0),(7,V.ptr (Id.p 2) 0 0),(8,V.ptr (Id.p 3) 0 0),(47,V.lst 5 (knl q.2.1)),(48,iv (↑(knl q.2.1).length:Int)),(49,iv (IntKind.i64.wrap ((↑i:Int)+(1:Int))))]) (Hp.mk [(0,O.rows 3 false [[iv by_.1,iv by_.2.1,iv by_.2.2]]),(1,O.rows 2 false [[nilS,nilS]]),(2,O.rows 6 false [[V.fn (Fn.func (124:FuncId)) [] [],iv k,V.fn (Fn.func (123:FuncId)) [] [],iv s,V.raw Value.nilFunc,iv (0:Int)]]),(3,O.rows 2 false [[V.sl (Id.p 4) 0 (cll q.1).length,V.sl (Id.p 5) 0 (knl q.2.1).length]]),(4,O.rows 3 true (cll L)),(5,O.rows 5 true ((knl K).set (0+i) (iv n::iv n_7::iv n_8::V.raw (Value.int IntKind.u8 (IntKind.u8.wrap n_9))::V.raw (Value.int IntKind.u8 n_4)::(List.append []) (List.drop 5 row))))] 6 []))))))) (R (V.agg [V.lst 3 (sub (cll L) 0 (cll q.1).length),V.lst 5 (sub (knl K) 0 (knl q.2.1).length)]))) (by kernel_rfl) ?_
  refine ifB_mk (fun d=>?_) (fun d=>?_)
  ·have hlt:i<q.2.1.length:=by have:=of_decide_eq_true d; omega
   obtain ⟨x,hx⟩:=getI hlt
   obtain ⟨x1,x2,x3⟩:=hk x (mem_at hx)
   have hxb:Bd 15 x.1:=x1.mono (by omega) (by omega)
   obtain ⟨p1,p2⟩:=pt_rg n x.2.1
   refine kel hx (hcell (c:=x.1) (hxb.mono (by omega)) (onC (add97 (a:=tn n x.1) (b:=by_) ((tn_bd hxb).mono (by omega)) (hby.mono (by omega)) (onC ?_))))
   rw [wr (n:=x.2.1) (by omega) (by omega)]
   obtain ⟨m,hm⟩ : ∃ m:Nat,x.2.1=(m:Int):=⟨x.2.1.toNat,by omega⟩
   rw [hm]
   rw [hm] at p1 p2
   refine hdir (d:=m) (by omega) (onIntK_iv (need_mk ⟨by omega,?_⟩))
   have hz:(knl K)[0+i]? = some (knr ((0,0,0),0,0)):=by
    have:=fill_get (f:=fun k:Kn=>((addC (tn n k.1) by_,pt n k.2.1,k.2.2):Kn)) (z:=(((0,0,0),0,0):Kn)) hlt
    rw [hK2] at this
    rw [Nat.zero_add]; simp [knl,this]
   refine onSome_mk hz (guardB_mk rfl ?_)
   rw [wr1i hlt (by omega),u8w p1 (by omega)]
   have fs:(fill (fun k:Kn=>((addC (tn n k.1) by_,pt n k.2.1,k.2.2):Kn)) ((0,0,0),0,0) q.2.1 i).set i ((addC (tn n x.1) by_,pt n x.2.1,x.2.2):Kn)=fill (fun k:Kn=>((addC (tn n k.1) by_,pt n k.2.1,k.2.2):Kn)) ((0,0,0),0,0) q.2.1 (i+1):=fill_set hx
   rw [hK2] at fs
   have es:(knl K).set (0+i) (iv (addC (tn n x.1) by_).1::iv (addC (tn n x.1) by_).2.1::iv (addC (tn n x.1) by_).2.2::V.raw (.int .u8 (pt n (m:Int)))::V.raw (.int .u8 x.2.2)::List.append [] (List.drop 5 (knr ((0,0,0),0,0))))=knl (fill (fun k:Kn=>((addC (tn n k.1) by_,pt n k.2.1,k.2.2):Kn)) ((0,0,0),0,0) q.2.1 (i+1)):=by
    rw [← fs,← hm]
    exact knl_set K i ((addC (tn n x.1) by_,pt n x.2.1,x.2.2):Kn)
   rw [es,← hL2]
   exact hI (i+1) hlt (by omega)
  ·have hi:i=q.2.1.length:=by have:=of_decide_eq_false d; omega
   subst hi
   rw [fill_full] at hK2
   have s1:sub (cll L) 0 (cll q.1).length=cll (plc q n by_):=by
    rw [← hL2,sub,List.drop_zero,List.take_of_length_le]
    rw [cll_length,cl,plc,(sortC_perm _).length_eq]; simp
   have s2:sub (knl K) 0 (knl q.2.1).length=knl (knb q n by_):=by
    rw [sub,List.drop_zero,List.take_of_length_le (by rw [knl_length,kl,← hK2]; simp),← hK2]; rfl
   rw [s1,s2]
   exact h
set_option maxHeartbeats 2000000 in
theorem put95C {q:Kd} {k j t:Int} {by_:Cl} {n:Nat} {R:V→Prop} (hch:K0G Tryz.prog glX 82 [iv t] fun v=>v=(chC k j)) (hcell : ∀ {c:Cl} {R:V→Prop},Bd 3000 c→R (.agg (clr (tn n c)))→K0G Tryz.prog glX 85 [(chC k j),.agg (clr c)] R) (hdir : ∀ {d:Nat} {R:V→Prop},d<6→R (iv (pt n (d:Int)))→K0G Tryz.prog glX 83 [(chC k j),iv (d:Int)] R)
  (hq:PutP q) (hby:Bd 2000 by_) (h:R (.agg [.lst 3 (cll (plc q n by_)),.lst 5 (knl (knb q n by_))])):K0G Tryz.prog glX 95 [.agg (kdr q),iv t,.agg (clr by_)] R:=by
 refine K0_of_WY0 hmX (hcP (chC k j)) 3000 Tryz.func95 (see (p:=KM Tryz.prog glX 82 [iv t] (Hp.mk [] 0 []) (poP 82 [iv t]) fun v us=>v=V.agg [V.fn (Fn.func (124:FuncId)) [] [],iv k,V.fn (Fn.func (123:FuncId)) [] [],iv (1:Int),V.fn (Fn.func (124:FuncId)) [] [],iv j]∧need ((knl q.2.1).length≤(knl q.2.1).length) (need (32 * (knl q.2.1).length≤140737488355328) (need ((knl q.2.1).length≤9223372036854775807) (need ((cll q.1).length≤(cll q.1).length) (need (24 * (cll q.1).length≤140737488355328) (need ((cll q.1).length≤9223372036854775807) (need ((knl q.2.1).length≤(knl q.2.1).length) (need (32 * (knl q.2.1).length≤140737488355328) (need ((knl q.2.1).length≤9223372036854775807) (La 0 [(3:Tmp),(5:Tmp),(6:Tmp),(7:Tmp),(8:Tmp),(26:Tmp),(27:Tmp),(28:Tmp)] (WY Tryz.prog (cfP (chC k j)) 2993 (Env.mk (Bs.mk 0 []) 0 none 76 95 0) (cdAt [1,1,1,0,1,0,0] (bodyOf Tryz.f95))) (Qblk 0 (Qthen (WY Tryz.prog (cfP (chC k j)) 2996 (Env.mk (Bs.mk 0 []) 0 none 76 95 0) (cdAt [1,1,1,1] (bodyOf Tryz.f95)) (QendX Tryz.prog Tryz.f95 fun v h=>R (frzW h v))) (QendX Tryz.prog Tryz.f95 fun v h=>R (frzW h v)))) (St.mk (mkT [(3,V.ptr (Id.p 0) 0 0),(5,V.ptr (Id.p 1) 0 0),(6,V.ptr (Id.p 2) 0 0),(7,V.ptr (Id.p 3) 0 0),(8,V.ptr (Id.p 4) 0 0),(26,V.lst 3 (cll q.1)),(27,iv (↑(cll q.1).length:Int)),(28,iv (0:Int))]) (Hp.mk [(0,O.rows 3 false [[V.lst 3 (cll q.1),V.lst 5 (knl q.2.1),iv q.2.2]]),(1,O.rows 3 false [[iv by_.1,iv by_.2.1,iv by_.2.2]]),(2,O.rows 2 false [[nilS,nilS]]),(3,O.rows 6 false [[V.fn (Fn.func (124:FuncId)) [] [],iv k,V.fn (Fn.func (123:FuncId)) [] [],iv (1:Int),V.fn (Fn.func (124:FuncId)) [] [],iv j]]),(4,O.rows 2 false [[V.sl (Id.p 5) 0 (cll q.1).length,V.sl (Id.p 6) 0 (knl q.2.1).length]]),(5,O.rows 3 true (List.replicate (cll q.1).length [iv (0:Int),iv (0:Int),iv (0:Int)])),(6,O.rows 5 true (List.replicate (knl q.2.1).length [iv (0:Int),iv (0:Int),iv (0:Int),V.raw (Value.int IntKind.u8 (0:Int)),V.raw (Value.int IntKind.u8 (0:Int))]))] 7 [])))))))))))) (by kernel_rfl) ?_)
 obtain ⟨hc,hcl,hk,hkl⟩:=hq
 have cl:=cll_length q.1
 have kl:=knl_length q.2.1
 refine KM_of_K0 rfl rfl (hch.mono' fun v e=>⟨e,?_⟩)
 refine need_mk ⟨Nat.le_refl _,need_mk ⟨by omega,need_mk ⟨by omega,need_mk ⟨Nat.le_refl _,need_mk ⟨by omega,need_mk ⟨by omega,need_mk ⟨Nat.le_refl _,need_mk ⟨by omega,need_mk ⟨by omega,?_⟩⟩⟩⟩⟩⟩⟩⟩⟩
 have e1:List.replicate (cll q.1).length [iv (0:Int),iv (0:Int),iv (0:Int)]=cll (fill (fun c=>addC (tn n c) by_) (0,0,0) q.1 0):=by rw [cl,fill_zero]; simp [cll,clr]
 have e2:List.replicate (knl q.2.1).length [iv (0:Int),iv (0:Int),iv (0:Int),V.raw (Value.int IntKind.u8 (0:Int)),V.raw (Value.int IntKind.u8 (0:Int))]=knl (fill (fun k:Kn=>((addC (tn n k.1) by_,pt n k.2.1,k.2.2):Kn)) ((0,0,0),0,0) q.2.1 0):=by rw [kl,fill_zero]; simp [knl,knr,u8]
 rw [e1,e2]
 generalize hK:fill (fun k:Kn=>((addC (tn n k.1) by_,pt n k.2.1,k.2.2):Kn)) ((0,0,0),0,0) q.2.1 0=K
 refine La.of (σ:=Nat) (fun i=>sh95a (chCr k j) q by_ (fill (fun c=>addC (tn n c) by_) (0,0,0) q.1 i) K i) (fun i=>i≤q.1.length) (fun i=>q.1.length - i) 0 (by kernel_rfl) (by omega) ?_
 intro i g1 J hJ
 generalize hL:fill (fun c=>addC (tn n c) by_) (0,0,0) q.1 i=L
 refine see (p:=ifB (decide ((↑i:Int)<(↑(cll q.1).length:Int))) (onSome (cll q.1)[i]? fun row=>onCons (List.drop 0 row) fun u r=>onIntK IntKind.i64 u fun n=>onCons r fun u r=>onIntK IntKind.i64 u fun n_1=>onCons r fun u r=>onIntK IntKind.i64 u fun n_2=>K0G Tryz.prog glX 85 [V.agg [V.fn (Fn.func (124:FuncId)) [] [],iv k,V.fn (Fn.func (123:FuncId)) [] [],iv (1:Int),V.fn (Fn.func (124:FuncId)) [] [],iv j],V.agg [iv n,iv n_1,iv n_2]] fun v=>onAgg v fun cs=>onCons cs fun u r=>onIntK IntKind.i64 u fun n=>onCons r fun u r=>onIntK IntKind.i64 u fun n_3=>onCons r fun u r=>onIntK IntKind.i64 u fun n_4=>onNil r (K0G Tryz.prog glX 97 [V.agg [iv n,iv n_3,iv n_4],V.agg [iv by_.1,iv by_.2.1,iv by_.2.2]] fun v=>onAgg v fun cs=>onCons cs fun u r=>onIntK IntKind.i64 u fun n=>onCons r fun u r=>onIntK IntKind.i64 u fun n_5=>onCons r fun u r=>onIntK IntKind.i64 u fun n_6=>onNil r (need (i<(cll q.1).length) (onSome (cll L)[0+i]? fun row=>guardB ((0+3).ble row.length) (J (St.mk (mkT [(3,V.ptr (Id.p 0) 0 0),(5,V.ptr (Id.p 1) 0 0),(6,V.ptr (Id.p 2) 0 0),(7,V.ptr (Id.p 3) 0 0),(8,V.ptr (Id.p 4) 0 0),(26,V.lst 3 (cll q.1)),(27,iv (↑(cll q.1).length:Int)),(28,iv (IntKind.i64.wrap ((↑i:Int)+(1:Int))))]) (Hp.mk [(0,O.rows 3 false [[V.lst 3 (cll q.1),V.lst 5 (knl q.2.1),iv q.2.2]]),(1,O.rows 3 false [[iv by_.1,iv by_.2.1,iv by_.2.2]]),(2,O.rows 2 false [[nilS,nilS]]),(3,O.rows 6 false [[V.fn (Fn.func (124:FuncId)) [] [],iv k,V.fn (Fn.func (123:FuncId)) [] [],iv (1:Int),V.fn (Fn.func (124:FuncId)) [] [],iv j]]),(4,O.rows 2 false [[V.sl (Id.p 5) 0 (cll q.1).length,V.sl (Id.p 6) 0 (knl q.2.1).length]]),(5,O.rows 3 true ((cll L).set (0+i) (iv n::iv n_5::iv n_6::(List.append []) (List.drop 3 row)))),(6,O.rows 5 true (knl K))] 7 []))))))) (KM Tryz.prog glX 129 [V.sl (Id.p 0) 0 (cll q.1).length,V.fn (Fn.func 89) [] []] (Hp.mk [(0,O.rows 3 true (cll L))] 1 []) (poP 129 [V.sl (Id.p 5) 0 (cll q.1).length,V.fn (Fn.func 89) [] []]) fun v us=>onTup v fun vs=>onNil vs (La 0 [(5:Tmp),(6:Tmp),(7:Tmp),(8:Tmp),(47:Tmp),(48:Tmp),(49:Tmp)] (WY Tryz.prog (cfP (chC k j)) 2991 (Env.mk (Bs.mk 0 []) 0 none 76 95 2) (cdAt [1,1,1,1,1,0,1,0,0] (bodyOf Tryz.f95))) (Qblk 2 (Qthen (WY Tryz.prog (cfP (chC k j)) 2994 (Env.mk (Bs.mk 0 []) 0 none 76 95 0) (cdAt [1,1,1,1,1,1] (bodyOf Tryz.f95)) (QendX Tryz.prog Tryz.f95 fun v h=>R (frzW h v))) (QendX Tryz.prog Tryz.f95 fun v h=>R (frzW h v)))) (St.mk (mkT [(5,V.ptr (Id.p 0) 0 0),(6,V.ptr (Id.p 1) 0 0),(7,V.ptr (Id.p 2) 0 0),(8,V.ptr (Id.p 3) 0 0),(47,V.lst 5 (knl q.2.1)),(48,iv (↑(knl q.2.1).length:Int)),(49,iv (0:Int))]) (Hp.mk [(0,O.rows 3 false [[iv by_.1,iv by_.2.1,iv by_.2.2]]),(1,O.rows 2 false [[nilS,nilS]]),(2,O.rows 6 false [[V.fn (Fn.func (124:FuncId)) [] [],iv k,V.fn (Fn.func (123:FuncId)) [] [],iv (1:Int),V.fn (Fn.func (124:FuncId)) [] [],iv j]]),(3,O.rows 2 false [[V.sl (Id.p 4) 0 (cll q.1).length,V.sl (Id.p 5) 0 (knl q.2.1).length]]),(4,O.rows 3 true (List.getD us 0 [])),(5,O.rows 5 true (knl K))] 6 []))))) (by kernel_rfl) ?_
 refine ifB_mk (fun d=>?_) (fun d=>?_)
 ·have hlt:i<q.1.length:=by have:=of_decide_eq_true d; omega
  obtain ⟨x,hx⟩:=getI hlt
  have hxb:Bd 15 x:=(hc x (mem_at hx)).mono (by omega) (by omega)
  refine cel hx (hcell (c:=x) (hxb.mono (by omega)) (onC (add97 (a:=tn n x) (b:=by_) ((tn_bd hxb).mono (by omega)) (hby.mono (by omega)) (onC (need_mk ⟨by omega,?_⟩)))))
  have hz:(cll L)[0+i]? = some (clr (0,0,0)):=by
   have:=fill_get (f:=fun c=>addC (tn n c) by_) (z:=((0,0,0):Cl)) hlt
   rw [hL] at this
   rw [Nat.zero_add]; simp [cll,this]
  refine onSome_mk hz (guardB_mk rfl ?_)
  rw [wr1i hlt (by omega),cll_set L i (addC (tn n x) by_),← hL,fill_set hx]
  exact hJ (i+1) hlt (by omega)
 ·have hi:i=q.1.length:=by have:=of_decide_eq_false d; omega
  subst hi
  rw [fill_full] at hL
  have el:(cll q.1).length=L.length:=by rw [cl,← hL]; simp
  rw [el]
  refine sort129 (l:=L) (by omega) (fun us=>rfl) (onTup_tup (onNil_nil ?_))
  have hs:sortC L=plc q n by_:=by rw [← hL]; rfl
  rw [hs]
  rw [← el]
  clear hJ
  refine La.of (σ:=Nat) (fun i=>sh95b (chCr k j) q by_ (plc q n by_) (fill (fun k:Kn=>((addC (tn n k.1) by_,pt n k.2.1,k.2.2):Kn)) ((0,0,0),0,0) q.2.1 i) i) (fun i=>i≤q.2.1.length) (fun i=>q.2.1.length - i) 0 (by rw [← hK]; kernel_rfl) (by omega) ?_
  intro i g1 I hI
  clear hL hs el
  generalize hL2:plc q n by_=L
  clear hK
  generalize hK2:fill (fun k:Kn=>((addC (tn n k.1) by_,pt n k.2.1,k.2.2):Kn)) ((0,0,0),0,0) q.2.1 i=K
  refine see (p:=ifB (decide ((↑i:Int)<(↑(knl q.2.1).length:Int))) (onSome (knl q.2.1)[i]? fun row=>onCons (List.drop 0 row) fun u r=>onIntK IntKind.i64 u fun n=>onCons r fun u r=>onIntK IntKind.i64 u fun n_1=>onCons r fun u r=>onIntK IntKind.i64 u fun n_2=>onCons r fun u r=>onIntK IntKind.u8 u fun n_3=>onCons r fun u r=>onIntK IntKind.u8 u fun n_4=>K0G Tryz.prog glX 85 [V.agg [V.fn (Fn.func (124:FuncId)) [] [],iv k,V.fn (Fn.func (123:FuncId)) [] [],iv (1:Int),V.fn (Fn.func (124:FuncId)) [] [],iv j],V.agg [iv n,iv n_1,iv n_2]] fun v=>onAgg v fun cs=>onCons cs fun u r=>onIntK IntKind.i64 u fun n=>onCons r fun u r=>onIntK IntKind.i64 u fun n_5=>onCons r fun u r=>onIntK IntKind.i64 u fun n_6=>onNil r (K0G Tryz.prog glX 97 [V.agg [iv n,iv n_5,iv n_6],V.agg [iv by_.1,iv by_.2.1,iv by_.2.2]] fun v=>onAgg v fun cs=>onCons cs fun u r=>onIntK IntKind.i64 u fun n=>onCons r fun u r=>onIntK IntKind.i64 u fun n_7=>onCons r fun u r=>onIntK IntKind.i64 u fun n_8=>onNil r (K0G Tryz.prog glX 83 [V.agg [V.fn (Fn.func (124:FuncId)) [] [],iv k,V.fn (Fn.func (123:FuncId)) [] [],iv (1:Int),V.fn (Fn.func (124:FuncId)) [] [],iv j],iv (IntKind.i64.wrap n_3)] fun v=>onIntK IntKind.i64 v fun n_9=>need (i<(knl q.2.1).length) (onSome (knl K)[0+i]? fun row=>guardB ((0+5).ble row.length) (I (St.mk (mkT [(5,V.ptr (Id.p 0) 0 0),(6,V.ptr (Id.p 1) 0 0),(7,V.ptr (Id.p 2) 0 0),(8,V.ptr (Id.p 3) 0 0),(47,V.lst 5 (knl q.2.1)),(48,iv (↑(knl q.2.1).length:Int)),(49,iv (IntKind.i64.wrap ((↑i:Int)+(1:Int))))]) (Hp.mk [(0,O.rows 3 false [[iv by_.1,iv by_.2.1,iv by_.2.2]]),(1,O.rows 2 false [[nilS,nilS]]),(2,O.rows 6 false [[V.fn (Fn.func (124:FuncId)) [] [],iv k,V.fn (Fn.func (123:FuncId)) [] [],iv (1:Int),V.fn (Fn.func (124:FuncId)) [] [],iv j]]),(3,O.rows 2 false [[V.sl (Id.p 4) 0 (cll q.1).length,V.sl (Id.p 5) 0 (knl q.2.1).length]]),(4,O.rows 3 true (cll L)),(5,O.rows 5 true ((knl K).set (0+i) (iv n::iv n_7::iv n_8::V.raw (Value.int IntKind.u8 (IntKind.u8.wrap n_9))::V.raw (Value.int IntKind.u8 n_4)::(List.append []) (List.drop 5 row))))] 6 []))))))) (R (V.agg [V.lst 3 (sub (cll L) 0 (cll q.1).length),V.lst 5 (sub (knl K) 0 (knl q.2.1).length)]))) (by kernel_rfl) ?_
  refine ifB_mk (fun d=>?_) (fun d=>?_)
  ·have hlt:i<q.2.1.length:=by have:=of_decide_eq_true d; omega
   obtain ⟨x,hx⟩:=getI hlt
   obtain ⟨x1,x2,x3⟩:=hk x (mem_at hx)
   have hxb:Bd 15 x.1:=x1.mono (by omega) (by omega)
   obtain ⟨p1,p2⟩:=pt_rg n x.2.1
   refine kel hx (hcell (c:=x.1) (hxb.mono (by omega)) (onC (add97 (a:=tn n x.1) (b:=by_) ((tn_bd hxb).mono (by omega)) (hby.mono (by omega)) (onC ?_))))
   rw [wr (n:=x.2.1) (by omega) (by omega)]
   obtain ⟨m,hm⟩ : ∃ m:Nat,x.2.1=(m:Int):=⟨x.2.1.toNat,by omega⟩
   rw [hm]
   rw [hm] at p1 p2
   refine hdir (d:=m) (by omega) (onIntK_iv (need_mk ⟨by omega,?_⟩))
   have hz:(knl K)[0+i]? = some (knr ((0,0,0),0,0)):=by
    have:=fill_get (f:=fun k:Kn=>((addC (tn n k.1) by_,pt n k.2.1,k.2.2):Kn)) (z:=(((0,0,0),0,0):Kn)) hlt
    rw [hK2] at this
    rw [Nat.zero_add]; simp [knl,this]
   refine onSome_mk hz (guardB_mk rfl ?_)
   rw [wr1i hlt (by omega),u8w p1 (by omega)]
   have fs:(fill (fun k:Kn=>((addC (tn n k.1) by_,pt n k.2.1,k.2.2):Kn)) ((0,0,0),0,0) q.2.1 i).set i ((addC (tn n x.1) by_,pt n x.2.1,x.2.2):Kn)=fill (fun k:Kn=>((addC (tn n k.1) by_,pt n k.2.1,k.2.2):Kn)) ((0,0,0),0,0) q.2.1 (i+1):=fill_set hx
   rw [hK2] at fs
   have es:(knl K).set (0+i) (iv (addC (tn n x.1) by_).1::iv (addC (tn n x.1) by_).2.1::iv (addC (tn n x.1) by_).2.2::V.raw (.int .u8 (pt n (m:Int)))::V.raw (.int .u8 x.2.2)::List.append [] (List.drop 5 (knr ((0,0,0),0,0))))=knl (fill (fun k:Kn=>((addC (tn n k.1) by_,pt n k.2.1,k.2.2):Kn)) ((0,0,0),0,0) q.2.1 (i+1)):=by
    rw [← fs,← hm]
    exact knl_set K i ((addC (tn n x.1) by_,pt n x.2.1,x.2.2):Kn)
   rw [es,← hL2]
   exact hI (i+1) hlt (by omega)
  ·have hi:i=q.2.1.length:=by have:=of_decide_eq_false d; omega
   subst hi
   rw [fill_full] at hK2
   have s1:sub (cll L) 0 (cll q.1).length=cll (plc q n by_):=by
    rw [← hL2,sub,List.drop_zero,List.take_of_length_le]
    rw [cll_length,cl,plc,(sortC_perm _).length_eq]; simp
   have s2:sub (knl K) 0 (knl q.2.1).length=knl (knb q n by_):=by
    rw [sub,List.drop_zero,List.take_of_length_le (by rw [knl_length,kl,← hK2]; simp),← hK2]; rfl
   rw [s1,s2]
   exact h
theorem put95 {q:Kd} {by_:Cl} {n:Nat} {R:V→Prop} (hn:n<24) (hq:PutP q) (hby:Bd 2000 by_) (h:R (.agg [.lst 3 (cll (plc q n by_)),.lst 5 (knl (knb q n by_))])):K0G Tryz.prog glX 95 [.agg (kdr q),iv (n:Int),.agg (clr by_)] R:=by
 have c1:K0G Tryz.prog glX 82 [iv (n:Int)] fun v=>v=ch n:=chain82 n hn rfl
 have c2 : ∀ {c:Cl} {R:V→Prop},Bd 3000 c→R (.agg (clr (tn n c)))→K0G Tryz.prog glX 85 [ch n,.agg (clr c)] R:=fun hb h=>cell85 hb n hn h
 have c3 : ∀ {d:Nat} {R:V→Prop},d<6→R (iv (pt n (d:Int)))→K0G Tryz.prog glX 83 [ch n,iv (d:Int)] R:=fun hd h=>dir83 hd n hn h
 unfold ch at c1 c2 c3
 by_cases h1:n / 4<1
 ·rw [if_pos h1] at c1 c2 c3
  exact put95A c1 c2 c3 hq hby h
 ·rw [if_neg h1] at c1 c2 c3
  by_cases h2:n / 4<4
  ·rw [if_pos h2] at c1 c2 c3
   exact put95B c1 c2 c3 hq hby h
  ·rw [if_neg h2] at c1 c2 c3
   exact put95C c1 c2 c3 hq hby h
end Go.Proofs.YtbionhgjgcpogaaGreatDoor
namespace Go.Proofs.YtbionhgjgcpogaaGreatDoor
open Go Go.Proofs.YtbionhgjgcpogaaGreatDoor.Clean
set_option linter.unusedVariables false
set_option maxRecDepth 100000
set_option linter.unusedSimpArgs false
set_option maxRecDepth 10000
structure PutB (l:List Kd) (b:Bk) (q:Kd) (n:Nat):Prop where
 at_:l[b.1.toNat]? = some q
 k0:0≤b.1
 put:PutP q
 pos:1≤q.1.length
 turn:b.2.2.1=(n:Int)
 t24:n<24
 bd:Bd 2000 b.2.1
set_option maxRecDepth 100000
def moD (f:FuncId):Nat:=bif inN [104] f then 3 else bif inN [103] f then 1 else 0
def kpD:FuncId→Nat→Option (List Tmp):=slotsOf [(55,0,[2,3,4,6,21,22,23]),(55,2,[3,4,6,40,41,42]),(23,0,[0,1,5]),(20,0,[0,1,5]),(88,0,[0,1,5]),(88,2,[0,1,5,6,7]),(63,0,[0,3,4,5]),(19,0,[1,4,5]),(13,0,[3,6,7,8]),(28,0,[0,1,13,14]),(28,2,[0,1,5,13,14,62,63])]
noncomputable def cfD:Cfg:={ cfgG Tryz.prog glX moD poP (rtP fN) (inN [78,62,96]) kpD with clean:=fun g=>true,fz:=fun f t=>inN [13] f&&inN [15,19] t }
noncomputable def sh20 (a b:List Int) (i:Nat):St:=⟨mkT [(0,V.lst 1 (nl a)),(1,V.lst 1 (nl b)),(5,iv (i:Int))],⟨[],0,[]⟩⟩
set_option maxRecDepth 10000
theorem hcD:cfD.ok Tryz.prog:=by
 have h:(cfgG Tryz.prog glX moD poP (rtP fN) (inN [78,62,96]) kpD).ok Tryz.prog:=cfgG_ok (rtP_ok fN)
 exact ⟨h.1,h.2⟩
theorem take_eq {α:Type} {a b:List α} {i:Nat} {x:α} (h:a.take i=b.take i) (hx:a[i]? = some x) (hy:b[i]? = some x):a.take (i+1)=b.take (i+1):=by rw [take_succ' hx,take_succ' hy,h]
theorem iel {l:List Int} {i:Nat} {x:Int} {k:Int→Prop} (h:l[i]? = some x) (hk:k x):onSome (nl l)[i]? fun row=>onSome row[0]? fun v=>onIntK IntKind.i64 v fun n=>k n:=onSome_mk (by simp [nl,h]:(nl l)[i]? = some [iv x]) hk
theorem same20 {a b:List Int} {R:V→Prop} (hl:a.length≤1000000) (h:R (bv (dc (a=b)))):K0G Tryz.prog glX 20 [.lst 1 (nl a),.lst 1 (nl b)] R:=by
 refine K0_of_WY0 hmX hcD 3000 Tryz.func20 (see (p:=ifB ((↑(nl a).length:Int) != (↑(nl b).length:Int)) (R (bv false)) (La 0 [(0:Tmp),(1:Tmp),(5:Tmp)] (WY Tryz.prog cfD 2994 (Env.mk (Bs.mk 0 []) 0 none 26 20 0) (cdAt [1,1,0,1,0,0] (bodyOf Tryz.f20))) (Qblk 0 (Qthen (WY Tryz.prog cfD 2997 (Env.mk (Bs.mk 0 []) 0 none 26 20 0) (cdAt [1,1,1] (bodyOf Tryz.f20)) (QendX Tryz.prog Tryz.f20 fun v h=>R (frzW h v))) (QendX Tryz.prog Tryz.f20 fun v h=>R (frzW h v)))) (St.mk (mkT [(0,V.lst 1 (nl a)),(1,V.lst 1 (nl b)),(5,iv (0:Int))]) (Hp.mk [] 0 [])))) (by kernel_rfl) ?_)
 rw [nl_length,nl_length]
 refine ifB_mk (fun c=>rf h (fun e=>by rw [e] at c; simp at c)) (fun c=>?_)
 have hlen:a.length=b.length:=by simp at c; omega
 refine La.of (σ:=Nat) (fun i=>sh20 a b i) (fun i=>i≤a.length∧a.take i=b.take i) (fun i=>a.length - i) 0 (by kernel_rfl) ⟨by omega,by simp⟩ ?_
 rintro i ⟨g1,g2⟩ J hJ
 refine see (p:=ifB (decide ((↑i:Int)<(↑(nl a).length:Int))) (onSome (nl a)[i]? fun row=>onSome row[0]? fun v=>onIntK IntKind.i64 v fun n=>onSome (nl b)[i]? fun row=>onSome row[0]? fun v=>onIntK IntKind.i64 v fun n_1=>ifB (n != n_1) (R (bv false)) (J (St.mk (mkT [(0,V.lst 1 (nl a)),(1,V.lst 1 (nl b)),(5,iv (IntKind.i64.wrap ((↑i:Int)+(1:Int))))]) (Hp.mk [] 0 [])))) (R (bv true))) (by kernel_rfl) ?_
 rw [nl_length]
 refine ifB_mk (fun d=>?_) (fun d=>?_)
 ·have hi:i<a.length:=by have:=of_decide_eq_true d; omega
  obtain ⟨x,hx⟩:=getI hi
  obtain ⟨y,hy⟩:=getI (l:=b) (k:=i) (by omega)
  refine iel hx (iel hy (ifB_mk (fun e=>rf h (fun q=>?_)) (fun e=>?_)))
  ·subst q; rw [hx] at hy; cases hy; simp at e
  ·have exy:x=y:=by simpa using e
   subst exy
   rw [wr1i hi (by omega)]
   exact hJ (i+1) ⟨hi,take_eq g2 hx hy⟩ (by omega)
 ·have hi:a.length≤i:=by have:=of_decide_eq_false d; omega
  rw [List.take_of_length_le hi,List.take_of_length_le (by omega)] at g2
  exact rt h g2
theorem K0_args {P:Program} {G:Nat→Option (List V)} {f:FuncId} {args args' : List V} {R:V→Prop} (h:K0G P G f args R) (hr : ∀ F w xs,riL F w args' xs→riL F w args xs):K0G P G f args' R:=fun F w xs g1 g2 g3=>h F w xs g1 g2 (hr F w xs g3)
theorem plc_length (q:Kd) (n:Nat) (d:Cl):(plc q n d).length=q.1.length:=by rw [plc,(sortC_perm _).length_eq]; simp
theorem knb_length (q:Kd) (n:Nat) (d:Cl):(knb q n d).length=q.2.1.length:=by simp [knb]
theorem addC_assoc (a b c:Cl):addC (addC a b) c=addC a (addC b c):=cl_ext (by simp only [addC]; omega) (by simp only [addC]; omega) (by simp only [addC]; omega)
theorem addC_inj {a b d:Cl} (h:addC a d=addC b d):a=b:=by
 have h1:(addC a d).1=(addC b d).1:=by rw [h]
 have h2:(addC a d).2.1=(addC b d).2.1:=by rw [h]
 have h3:(addC a d).2.2=(addC b d).2.2:=by rw [h]
 simp only [addC] at h1 h2 h3
 exact cl_ext (by omega) (by omega) (by omega)
theorem qz_inj {a b:Cl} (h:qz a=qz b):a=b:=by
 simp only [qz,Prod.mk.injEq] at h
 exact cl_ext h.2.1 (by omega) h.2.2
theorem qx_inj {a b:Cl} (h:qx a=qx b):a=b:=by
 simp only [qx,Prod.mk.injEq] at h
 exact cl_ext h.1 h.2.2 (by omega)
theorem itr_inj {f:Cl→Cl} (hf : ∀ a b,f a=f b→a=b) : ∀ (n:Nat) (a b:Cl),itr f n a=itr f n b→a=b
 | 0,a,b,h=>h
 | n+1,a,b,h=>hf _ _ (itr_inj hf n _ _ h)
theorem tn_inj {n:Nat} {a b:Cl} (h:tn n a=tn n b):a=b:=by
 unfold tn at h
 split at h
 ·exact itr_inj (fun _ _=>qz_inj) _ _ _ (itr_inj (fun _ _=>qx_inj) _ _ _ h)
 ·exact itr_inj (fun _ _=>qz_inj) _ _ _ (qx_inj (itr_inj (fun _ _=>qz_inj) _ _ _ h))
theorem pt_inj {n:Nat} (hn:n<24) {d e:Int} (hd:0≤d∧d≤5) (he:0≤e∧e≤5) (h:pt n d=pt n e):d=e:=by
 have key : ∀ n,n<24 → ∀ d,d<6 → ∀ e,e<6→(ptL.getD n []).getD d 0=(ptL.getD n []).getD e 0→d=e:=by decide
 have:=key n hn d.toNat (by omega) e.toNat (by omega) h
 omega
def Fac (l:List Kn):Prop := ∀ a∈l, ∀ b∈l,a.1=b.1→a.2.1=b.2.1→a=b
theorem pw_mem {α:Type} {r:α→α→Prop} : ∀ {l:List α},l.Pairwise r → ∀ a∈l, ∀ b∈l,a=b∨r a b∨r b a
 | [],_,a,ha,_,_=>by simp at ha
 | x::l,h,a,ha,b,hb=>by
  have h1:=List.pairwise_cons.1 h
  rcases List.mem_cons.1 ha with ea | ha'
  ·rcases List.mem_cons.1 hb with eb | hb'
   ·exact .inl (ea.trans eb.symm)
   ·rw [ea]; exact .inr (.inl (h1.1 b hb'))
  ·rcases List.mem_cons.1 hb with eb | hb'
   ·rw [eb]; exact .inr (.inr (h1.1 a ha'))
   ·exact pw_mem h1.2 a ha' b hb'
theorem Fac.of {l:List Kn} (h:l.Pairwise BefK):Fac l:=fun a ha b hb e1 e2=>by
 rcases pw_mem h a ha b hb with h | h | h
 ·exact h
 ·rcases h with h | ⟨_,h⟩
  ·rw [e1] at h; exact absurd h (Bef.irr _)
  ·omega
 ·rcases h with h | ⟨_,h⟩
  ·rw [e1] at h; exact absurd h (Bef.irr _)
  ·omega
structure KnbP (q:Kd):Prop where
 put:PutP q
 pw:q.2.1.Pairwise BefK
theorem knb_fac {q:Kd} {t:Nat} {d:Cl} (hq:KnbP q) (ht:t<24):Fac (knb q t d):=fun a ha b hb e1 e2=>by
 obtain ⟨x,hx,rfl⟩:=List.mem_map.1 ha
 obtain ⟨y,hy,rfl⟩:=List.mem_map.1 hb
 have:=Fac.of hq.pw x hx y hy (tn_inj (addC_inj e1)) (pt_inj ht (hq.put.2.2.1 x hx).2 (hq.put.2.2.1 y hy).2 e2)
 rw [this]
theorem knb_nodup {q:Kd} {t:Nat} {d:Cl} (hq:KnbP q) (ht:t<24):(knb q t d).Nodup:=by
 unfold knb
 rw [List.Nodup,List.pairwise_map]
 refine hq.pw.imp_of_mem (fun {a b} ha hb hab he=>?_)
 have e1:addC (tn t a.1) d=addC (tn t b.1) d:=congrArg Prod.fst he
 have e2:pt t a.2.1=pt t b.2.1:=congrArg (fun z:Kn=>z.2.1) he
 have:=Fac.of hq.pw a ha b hb (tn_inj (addC_inj e1)) (pt_inj ht (hq.put.2.2.1 a ha).2 (hq.put.2.2.1 b hb).2 e2)
 rw [this] at hab
 exact BefK.irr _ hab
set_option maxHeartbeats 2000000 in
theorem pub95A {q:Kd} {k t:Int} {by_:Cl} {n:Nat} {R:V→Prop} (hch:K0G Tryz.prog glX 82 [iv t] fun v=>v=(chA k)) (hcell : ∀ {c:Cl} {R:V→Prop},Bd 3000 c→R (.agg (clr (tn n c)))→K0G Tryz.prog glX 85 [(chA k),.agg (clr c)] R) (hdir : ∀ {d:Nat} {R:V→Prop},d<6→R (iv (pt n (d:Int)))→K0G Tryz.prog glX 83 [(chA k),iv (d:Int)] R)
  (hq:PutP q) (hby:Bd 2000 by_) (h:R (.agg [.lst 3 (cll (plc q n by_)),.lst 5 (knl (knb q n by_))])):KB Tryz.prog glX 95 [.agg (kdr q),iv t,.agg (clr by_)] ⟨[],0,[]⟩ R:=by
 refine KB_of_WYB hmX (hcP (chA k)) 3000 Tryz.func95 rfl (see (p:=KM Tryz.prog glX 82 [iv t] (Hp.mk [] 0 []) (poP 82 [iv t]) fun v us=>v=V.agg [V.fn (Fn.func (124:FuncId)) [] [],iv k,V.raw Value.nilFunc,iv (0:Int),V.raw Value.nilFunc,iv (0:Int)]∧need ((knl q.2.1).length≤(knl q.2.1).length) (need (32 * (knl q.2.1).length≤140737488355328) (need ((knl q.2.1).length≤9223372036854775807) (need ((cll q.1).length≤(cll q.1).length) (need (24 * (cll q.1).length≤140737488355328) (need ((cll q.1).length≤9223372036854775807) (need ((knl q.2.1).length≤(knl q.2.1).length) (need (32 * (knl q.2.1).length≤140737488355328) (need ((knl q.2.1).length≤9223372036854775807) (La 0 [(3:Tmp),(5:Tmp),(6:Tmp),(7:Tmp),(8:Tmp),(26:Tmp),(27:Tmp),(28:Tmp)] (WY Tryz.prog (cfP (chA k)) 2993 (Env.mk (Bs.mk 0 []) 0 none 76 95 0) (cdAt [1,1,1,0,1,0,0] (bodyOf Tryz.f95))) (Qblk 0 (Qthen (WY Tryz.prog (cfP (chA k)) 2996 (Env.mk (Bs.mk 0 []) 0 none 76 95 0) (cdAt [1,1,1,1] (bodyOf Tryz.f95)) (QendX Tryz.prog Tryz.f95 fun v h' => dataT 0 (gcH 0 v h') v R)) (QendX Tryz.prog Tryz.f95 fun v h' => dataT 0 (gcH 0 v h') v R))) (St.mk (mkT [(3,V.ptr (Id.p 0) 0 0),(5,V.ptr (Id.p 1) 0 0),(6,V.ptr (Id.p 2) 0 0),(7,V.ptr (Id.p 3) 0 0),(8,V.ptr (Id.p 4) 0 0),(26,V.lst 3 (cll q.1)),(27,iv (↑(cll q.1).length:Int)),(28,iv (0:Int))]) (Hp.mk [(0,O.rows 3 false [[V.lst 3 (cll q.1),V.lst 5 (knl q.2.1),iv q.2.2]]),(1,O.rows 3 false [[iv by_.1,iv by_.2.1,iv by_.2.2]]),(2,O.rows 2 false [[nilS,nilS]]),(3,O.rows 6 false [[V.fn (Fn.func (124:FuncId)) [] [],iv k,V.raw Value.nilFunc,iv (0:Int),V.raw Value.nilFunc,iv (0:Int)]]),(4,O.rows 2 false [[V.sl (Id.p 5) 0 (cll q.1).length,V.sl (Id.p 6) 0 (knl q.2.1).length]]),(5,O.rows 3 true (List.replicate (cll q.1).length [iv (0:Int),iv (0:Int),iv (0:Int)])),(6,O.rows 5 true (List.replicate (knl q.2.1).length [iv (0:Int),iv (0:Int),iv (0:Int),V.raw (Value.int IntKind.u8 (0:Int)),V.raw (Value.int IntKind.u8 (0:Int))]))] 7 [])))))))))))) (by kernel_rfl) ?_)
 obtain ⟨hc,hcl,hk,hkl⟩:=hq
 have cl:=cll_length q.1
 have kl:=knl_length q.2.1
 refine KM_of_K0 rfl rfl (hch.mono' fun v e=>⟨e,?_⟩)
 refine need_mk ⟨Nat.le_refl _,need_mk ⟨by omega,need_mk ⟨by omega,need_mk ⟨Nat.le_refl _,need_mk ⟨by omega,need_mk ⟨by omega,need_mk ⟨Nat.le_refl _,need_mk ⟨by omega,need_mk ⟨by omega,?_⟩⟩⟩⟩⟩⟩⟩⟩⟩
 have e1:List.replicate (cll q.1).length [iv (0:Int),iv (0:Int),iv (0:Int)]=cll (fill (fun c=>addC (tn n c) by_) (0,0,0) q.1 0):=by rw [cl,fill_zero]; simp [cll,clr]
 have e2:List.replicate (knl q.2.1).length [iv (0:Int),iv (0:Int),iv (0:Int),V.raw (Value.int IntKind.u8 (0:Int)),V.raw (Value.int IntKind.u8 (0:Int))]=knl (fill (fun k:Kn=>((addC (tn n k.1) by_,pt n k.2.1,k.2.2):Kn)) ((0,0,0),0,0) q.2.1 0):=by rw [kl,fill_zero]; simp [knl,knr,u8]
 rw [e1,e2]
 generalize hK:fill (fun k:Kn=>((addC (tn n k.1) by_,pt n k.2.1,k.2.2):Kn)) ((0,0,0),0,0) q.2.1 0=K
 refine La.of (σ:=Nat) (fun i=>sh95a (chAr k) q by_ (fill (fun c=>addC (tn n c) by_) (0,0,0) q.1 i) K i) (fun i=>i≤q.1.length) (fun i=>q.1.length - i) 0 (by kernel_rfl) (by omega) ?_
 intro i g1 J hJ
 generalize hL:fill (fun c=>addC (tn n c) by_) (0,0,0) q.1 i=L
 refine see (p:=ifB (decide ((↑i:Int)<(↑(cll q.1).length:Int))) (onSome (cll q.1)[i]? fun row=>onCons (List.drop 0 row) fun u r=>onIntK IntKind.i64 u fun n=>onCons r fun u r=>onIntK IntKind.i64 u fun n_1=>onCons r fun u r=>onIntK IntKind.i64 u fun n_2=>K0G Tryz.prog glX 85 [V.agg [V.fn (Fn.func (124:FuncId)) [] [],iv k,V.raw Value.nilFunc,iv (0:Int),V.raw Value.nilFunc,iv (0:Int)],V.agg [iv n,iv n_1,iv n_2]] fun v=>onAgg v fun cs=>onCons cs fun u r=>onIntK IntKind.i64 u fun n=>onCons r fun u r=>onIntK IntKind.i64 u fun n_3=>onCons r fun u r=>onIntK IntKind.i64 u fun n_4=>onNil r (K0G Tryz.prog glX 97 [V.agg [iv n,iv n_3,iv n_4],V.agg [iv by_.1,iv by_.2.1,iv by_.2.2]] fun v=>onAgg v fun cs=>onCons cs fun u r=>onIntK IntKind.i64 u fun n=>onCons r fun u r=>onIntK IntKind.i64 u fun n_5=>onCons r fun u r=>onIntK IntKind.i64 u fun n_6=>onNil r (need (i<(cll q.1).length) (onSome (cll L)[0+i]? fun row=>guardB ((0+3).ble row.length) (J (St.mk (mkT [(3,V.ptr (Id.p 0) 0 0),(5,V.ptr (Id.p 1) 0 0),(6,V.ptr (Id.p 2) 0 0),(7,V.ptr (Id.p 3) 0 0),(8,V.ptr (Id.p 4) 0 0),(26,V.lst 3 (cll q.1)),(27,iv (↑(cll q.1).length:Int)),(28,iv (IntKind.i64.wrap ((↑i:Int)+(1:Int))))]) (Hp.mk [(0,O.rows 3 false [[V.lst 3 (cll q.1),V.lst 5 (knl q.2.1),iv q.2.2]]),(1,O.rows 3 false [[iv by_.1,iv by_.2.1,iv by_.2.2]]),(2,O.rows 2 false [[nilS,nilS]]),(3,O.rows 6 false [[V.fn (Fn.func (124:FuncId)) [] [],iv k,V.raw Value.nilFunc,iv (0:Int),V.raw Value.nilFunc,iv (0:Int)]]),(4,O.rows 2 false [[V.sl (Id.p 5) 0 (cll q.1).length,V.sl (Id.p 6) 0 (knl q.2.1).length]]),(5,O.rows 3 true ((cll L).set (0+i) (iv n::iv n_5::iv n_6::(List.append []) (List.drop 3 row)))),(6,O.rows 5 true (knl K))] 7 []))))))) (KM Tryz.prog glX 129 [V.sl (Id.p 0) 0 (cll q.1).length,V.fn (Fn.func 89) [] []] (Hp.mk [(0,O.rows 3 true (cll L))] 1 []) (poP 129 [V.sl (Id.p 5) 0 (cll q.1).length,V.fn (Fn.func 89) [] []]) fun v us=>onTup v fun vs=>onNil vs (La 0 [(5:Tmp),(6:Tmp),(7:Tmp),(8:Tmp),(47:Tmp),(48:Tmp),(49:Tmp)] (WY Tryz.prog (cfP (chA k)) 2991 (Env.mk (Bs.mk 0 []) 0 none 76 95 2) (cdAt [1,1,1,1,1,0,1,0,0] (bodyOf Tryz.f95))) (Qblk 2 (Qthen (WY Tryz.prog (cfP (chA k)) 2994 (Env.mk (Bs.mk 0 []) 0 none 76 95 0) (cdAt [1,1,1,1,1,1] (bodyOf Tryz.f95)) (QendX Tryz.prog Tryz.f95 fun v h' => dataT 0 (gcH 0 v h') v R)) (QendX Tryz.prog Tryz.f95 fun v h' => dataT 0 (gcH 0 v h') v R))) (St.mk (mkT [(5,V.ptr (Id.p 0) 0 0),(6,V.ptr (Id.p 1) 0 0),(7,V.ptr (Id.p 2) 0 0),(8,V.ptr (Id.p 3) 0 0),(47,V.lst 5 (knl q.2.1)),(48,iv (↑(knl q.2.1).length:Int)),(49,iv (0:Int))]) (Hp.mk [(0,O.rows 3 false [[iv by_.1,iv by_.2.1,iv by_.2.2]]),(1,O.rows 2 false [[nilS,nilS]]),(2,O.rows 6 false [[V.fn (Fn.func (124:FuncId)) [] [],iv k,V.raw Value.nilFunc,iv (0:Int),V.raw Value.nilFunc,iv (0:Int)]]),(3,O.rows 2 false [[V.sl (Id.p 4) 0 (cll q.1).length,V.sl (Id.p 5) 0 (knl q.2.1).length]]),(4,O.rows 3 true (List.getD us 0 [])),(5,O.rows 5 true (knl K))] 6 []))))) (by kernel_rfl) ?_
 refine ifB_mk (fun d=>?_) (fun d=>?_)
 ·have hlt:i<q.1.length:=by have:=of_decide_eq_true d; omega
  obtain ⟨x,hx⟩:=getI hlt
  have hxb:Bd 15 x:=(hc x (mem_at hx)).mono (by omega) (by omega)
  refine cel hx (hcell (c:=x) (hxb.mono (by omega)) (onC (add97 (a:=tn n x) (b:=by_) ((tn_bd hxb).mono (by omega)) (hby.mono (by omega)) (onC (need_mk ⟨by omega,?_⟩)))))
  have hz:(cll L)[0+i]? = some (clr (0,0,0)):=by
   have:=fill_get (f:=fun c=>addC (tn n c) by_) (z:=((0,0,0):Cl)) hlt
   rw [hL] at this
   rw [Nat.zero_add]; simp [cll,this]
  refine onSome_mk hz (guardB_mk rfl ?_)
  rw [wr1i hlt (by omega),cll_set L i (addC (tn n x) by_),← hL,fill_set hx]
  exact hJ (i+1) hlt (by omega)
 ·have hi:i=q.1.length:=by have:=of_decide_eq_false d; omega
  subst hi
  rw [fill_full] at hL
  have el:(cll q.1).length=L.length:=by rw [cl,← hL]; simp
  rw [el]
  refine sort129 (l:=L) (by omega) (fun us=>rfl) (onTup_tup (onNil_nil ?_))
  have hs:sortC L=plc q n by_:=by rw [← hL]; rfl
  rw [hs]
  rw [← el]
  clear hJ
  refine La.of (σ:=Nat) (fun i=>sh95b (chAr k) q by_ (plc q n by_) (fill (fun k:Kn=>((addC (tn n k.1) by_,pt n k.2.1,k.2.2):Kn)) ((0,0,0),0,0) q.2.1 i) i) (fun i=>i≤q.2.1.length) (fun i=>q.2.1.length - i) 0 (by rw [← hK]; kernel_rfl) (by omega) ?_
  intro i g1 I hI
  clear hL hs el
  generalize hL2:plc q n by_=L
  clear hK
  generalize hK2:fill (fun k:Kn=>((addC (tn n k.1) by_,pt n k.2.1,k.2.2):Kn)) ((0,0,0),0,0) q.2.1 i=K
  refine see (p:=ifB (decide ((↑i:Int)<(↑(knl q.2.1).length:Int))) (onSome (knl q.2.1)[i]? fun row=>onCons (List.drop 0 row) fun u r=>onIntK IntKind.i64 u fun n=>onCons r fun u r=>onIntK IntKind.i64 u fun n_1=>onCons r fun u r=>onIntK IntKind.i64 u fun n_2=>onCons r fun u r=>onIntK IntKind.u8 u fun n_3=>onCons r fun u r=>onIntK IntKind.u8 u fun n_4=>K0G Tryz.prog glX 85 [V.agg [V.fn (Fn.func (124:FuncId)) [] [],iv k,V.raw Value.nilFunc,iv (0:Int),V.raw Value.nilFunc,iv (0:Int)],V.agg [iv n,iv n_1,iv n_2]] fun v=>onAgg v fun cs=>onCons cs fun u r=>onIntK IntKind.i64 u fun n=>onCons r fun u r=>onIntK IntKind.i64 u fun n_5=>onCons r fun u r=>onIntK IntKind.i64 u fun n_6=>onNil r (K0G Tryz.prog glX 97 [V.agg [iv n,iv n_5,iv n_6],V.agg [iv by_.1,iv by_.2.1,iv by_.2.2]] fun v=>onAgg v fun cs=>onCons cs fun u r=>onIntK IntKind.i64 u fun n=>onCons r fun u r=>onIntK IntKind.i64 u fun n_7=>onCons r fun u r=>onIntK IntKind.i64 u fun n_8=>onNil r (K0G Tryz.prog glX 83 [V.agg [V.fn (Fn.func (124:FuncId)) [] [],iv k,V.raw Value.nilFunc,iv (0:Int),V.raw Value.nilFunc,iv (0:Int)],iv (IntKind.i64.wrap n_3)] fun v=>onIntK IntKind.i64 v fun n_9=>need (i<(knl q.2.1).length) (onSome (knl K)[0+i]? fun row=>guardB ((0+5).ble row.length) (I (St.mk (mkT [(5,V.ptr (Id.p 0) 0 0),(6,V.ptr (Id.p 1) 0 0),(7,V.ptr (Id.p 2) 0 0),(8,V.ptr (Id.p 3) 0 0),(47,V.lst 5 (knl q.2.1)),(48,iv (↑(knl q.2.1).length:Int)),(49,iv (IntKind.i64.wrap ((↑i:Int)+(1:Int))))]) (Hp.mk [(0,O.rows 3 false [[iv by_.1,iv by_.2.1,iv by_.2.2]]),(1,O.rows 2 false [[nilS,nilS]]),(2,O.rows 6 false [[V.fn (Fn.func (124:FuncId)) [] [],iv k,V.raw Value.nilFunc,iv (0:Int),V.raw Value.nilFunc,iv (0:Int)]]),(3,O.rows 2 false [[V.sl (Id.p 4) 0 (cll q.1).length,V.sl (Id.p 5) 0 (knl q.2.1).length]]),(4,O.rows 3 true (cll L)),(5,O.rows 5 true ((knl K).set (0+i) (iv n::iv n_7::iv n_8::V.raw (Value.int IntKind.u8 (IntKind.u8.wrap n_9))::V.raw (Value.int IntKind.u8 n_4)::(List.append []) (List.drop 5 row))))] 6 []))))))) (R (V.agg [V.lst 3 (sub (cll L) 0 (cll q.1).length),V.lst 5 (sub (knl K) 0 (knl q.2.1).length)]))) (by kernel_rfl) ?_
  refine ifB_mk (fun d=>?_) (fun d=>?_)
  ·have hlt:i<q.2.1.length:=by have:=of_decide_eq_true d; omega
   obtain ⟨x,hx⟩:=getI hlt
   obtain ⟨x1,x2,x3⟩:=hk x (mem_at hx)
   have hxb:Bd 15 x.1:=x1.mono (by omega) (by omega)
   obtain ⟨p1,p2⟩:=pt_rg n x.2.1
   refine kel hx (hcell (c:=x.1) (hxb.mono (by omega)) (onC (add97 (a:=tn n x.1) (b:=by_) ((tn_bd hxb).mono (by omega)) (hby.mono (by omega)) (onC ?_))))
   rw [wr (n:=x.2.1) (by omega) (by omega)]
   obtain ⟨m,hm⟩ : ∃ m:Nat,x.2.1=(m:Int):=⟨x.2.1.toNat,by omega⟩
   rw [hm]
   rw [hm] at p1 p2
   refine hdir (d:=m) (by omega) (onIntK_iv (need_mk ⟨by omega,?_⟩))
   have hz:(knl K)[0+i]? = some (knr ((0,0,0),0,0)):=by
    have:=fill_get (f:=fun k:Kn=>((addC (tn n k.1) by_,pt n k.2.1,k.2.2):Kn)) (z:=(((0,0,0),0,0):Kn)) hlt
    rw [hK2] at this
    rw [Nat.zero_add]; simp [knl,this]
   refine onSome_mk hz (guardB_mk rfl ?_)
   rw [wr1i hlt (by omega),u8w p1 (by omega)]
   have fs:(fill (fun k:Kn=>((addC (tn n k.1) by_,pt n k.2.1,k.2.2):Kn)) ((0,0,0),0,0) q.2.1 i).set i ((addC (tn n x.1) by_,pt n x.2.1,x.2.2):Kn)=fill (fun k:Kn=>((addC (tn n k.1) by_,pt n k.2.1,k.2.2):Kn)) ((0,0,0),0,0) q.2.1 (i+1):=fill_set hx
   rw [hK2] at fs
   have es:(knl K).set (0+i) (iv (addC (tn n x.1) by_).1::iv (addC (tn n x.1) by_).2.1::iv (addC (tn n x.1) by_).2.2::V.raw (.int .u8 (pt n (m:Int)))::V.raw (.int .u8 x.2.2)::List.append [] (List.drop 5 (knr ((0,0,0),0,0))))=knl (fill (fun k:Kn=>((addC (tn n k.1) by_,pt n k.2.1,k.2.2):Kn)) ((0,0,0),0,0) q.2.1 (i+1)):=by
    rw [← fs,← hm]
    exact knl_set K i ((addC (tn n x.1) by_,pt n x.2.1,x.2.2):Kn)
   rw [es,← hL2]
   exact hI (i+1) hlt (by omega)
  ·have hi:i=q.2.1.length:=by have:=of_decide_eq_false d; omega
   subst hi
   rw [fill_full] at hK2
   have s1:sub (cll L) 0 (cll q.1).length=cll (plc q n by_):=by
    rw [← hL2,sub,List.drop_zero,List.take_of_length_le]
    rw [cll_length,cl,plc,(sortC_perm _).length_eq]; simp
   have s2:sub (knl K) 0 (knl q.2.1).length=knl (knb q n by_):=by
    rw [sub,List.drop_zero,List.take_of_length_le (by rw [knl_length,kl,← hK2]; simp),← hK2]; rfl
   rw [s1,s2]
   exact h
set_option maxHeartbeats 2000000 in
theorem pub95B {q:Kd} {k s t:Int} {by_:Cl} {n:Nat} {R:V→Prop} (hch:K0G Tryz.prog glX 82 [iv t] fun v=>v=(chB k s)) (hcell : ∀ {c:Cl} {R:V→Prop},Bd 3000 c→R (.agg (clr (tn n c)))→K0G Tryz.prog glX 85 [(chB k s),.agg (clr c)] R) (hdir : ∀ {d:Nat} {R:V→Prop},d<6→R (iv (pt n (d:Int)))→K0G Tryz.prog glX 83 [(chB k s),iv (d:Int)] R)
  (hq:PutP q) (hby:Bd 2000 by_) (h:R (.agg [.lst 3 (cll (plc q n by_)),.lst 5 (knl (knb q n by_))])):KB Tryz.prog glX 95 [.agg (kdr q),iv t,.agg (clr by_)] ⟨[],0,[]⟩ R:=by
 refine KB_of_WYB hmX (hcP (chB k s)) 3000 Tryz.func95 rfl (see (p:=KM Tryz.prog glX 82 [iv t] (Hp.mk [] 0 []) (poP 82 [iv t]) fun v us=>v=V.agg [V.fn (Fn.func (124:FuncId)) [] [],iv k,V.fn (Fn.func (123:FuncId)) [] [],iv s,V.raw Value.nilFunc,iv (0:Int)]∧need ((knl q.2.1).length≤(knl q.2.1).length) (need (32 * (knl q.2.1).length≤140737488355328) (need ((knl q.2.1).length≤9223372036854775807) (need ((cll q.1).length≤(cll q.1).length) (need (24 * (cll q.1).length≤140737488355328) (need ((cll q.1).length≤9223372036854775807) (need ((knl q.2.1).length≤(knl q.2.1).length) (need (32 * (knl q.2.1).length≤140737488355328) (need ((knl q.2.1).length≤9223372036854775807) (La 0 [(3:Tmp),(5:Tmp),(6:Tmp),(7:Tmp),(8:Tmp),(26:Tmp),(27:Tmp),(28:Tmp)] (WY Tryz.prog (cfP (chB k s)) 2993 (Env.mk (Bs.mk 0 []) 0 none 76 95 0) (cdAt [1,1,1,0,1,0,0] (bodyOf Tryz.f95))) (Qblk 0 (Qthen (WY Tryz.prog (cfP (chB k s)) 2996 (Env.mk (Bs.mk 0 []) 0 none 76 95 0) (cdAt [1,1,1,1] (bodyOf Tryz.f95)) (QendX Tryz.prog Tryz.f95 fun v h' => dataT 0 (gcH 0 v h') v R)) (QendX Tryz.prog Tryz.f95 fun v h' => dataT 0 (gcH 0 v h') v R))) (St.mk (mkT [(3,V.ptr (Id.p 0) 0 0),(5,V.ptr (Id.p 1) 0 0),(6,V.ptr (Id.p 2) 0 0),(7,V.ptr (Id.p 3) 0 0),(8,V.ptr (Id.p 4) 0 0),(26,V.lst 3 (cll q.1)),(27,iv (↑(cll q.1).length:Int)),(28,iv (0:Int))]) (Hp.mk [(0,O.rows 3 false [[V.lst 3 (cll q.1),V.lst 5 (knl q.2.1),iv q.2.2]]),(1,O.rows 3 false [[iv by_.1,iv by_.2.1,iv by_.2.2]]),(2,O.rows 2 false [[nilS,nilS]]),(3,O.rows 6 false [[V.fn (Fn.func (124:FuncId)) [] [],iv k,V.fn (Fn.func (123:FuncId)) [] [],iv s,V.raw Value.nilFunc,iv (0:Int)]]),(4,O.rows 2 false [[V.sl (Id.p 5) 0 (cll q.1).length,V.sl (Id.p 6) 0 (knl q.2.1).length]]),(5,O.rows 3 true (List.replicate (cll q.1).length [iv (0:Int),iv (0:Int),iv (0:Int)])),(6,O.rows 5 true (List.replicate (knl q.2.1).length [iv (0:Int),iv (0:Int),iv (0:Int),V.raw (Value.int IntKind.u8 (0:Int)),V.raw (Value.int IntKind.u8 (0:Int))]))] 7 [])))))))))))) (by kernel_rfl) ?_)
 obtain ⟨hc,hcl,hk,hkl⟩:=hq
 have cl:=cll_length q.1
 have kl:=knl_length q.2.1
 refine KM_of_K0 rfl rfl (hch.mono' fun v e=>⟨e,?_⟩)
 refine need_mk ⟨Nat.le_refl _,need_mk ⟨by omega,need_mk ⟨by omega,need_mk ⟨Nat.le_refl _,need_mk ⟨by omega,need_mk ⟨by omega,need_mk ⟨Nat.le_refl _,need_mk ⟨by omega,need_mk ⟨by omega,?_⟩⟩⟩⟩⟩⟩⟩⟩⟩
 have e1:List.replicate (cll q.1).length [iv (0:Int),iv (0:Int),iv (0:Int)]=cll (fill (fun c=>addC (tn n c) by_) (0,0,0) q.1 0):=by rw [cl,fill_zero]; simp [cll,clr]
 have e2:List.replicate (knl q.2.1).length [iv (0:Int),iv (0:Int),iv (0:Int),V.raw (Value.int IntKind.u8 (0:Int)),V.raw (Value.int IntKind.u8 (0:Int))]=knl (fill (fun k:Kn=>((addC (tn n k.1) by_,pt n k.2.1,k.2.2):Kn)) ((0,0,0),0,0) q.2.1 0):=by rw [kl,fill_zero]; simp [knl,knr,u8]
 rw [e1,e2]
 generalize hK:fill (fun k:Kn=>((addC (tn n k.1) by_,pt n k.2.1,k.2.2):Kn)) ((0,0,0),0,0) q.2.1 0=K
 refine La.of (σ:=Nat) (fun i=>sh95a (chBr k s) q by_ (fill (fun c=>addC (tn n c) by_) (0,0,0) q.1 i) K i) (fun i=>i≤q.1.length) (fun i=>q.1.length - i) 0 (by kernel_rfl) (by omega) ?_
 intro i g1 J hJ
 generalize hL:fill (fun c=>addC (tn n c) by_) (0,0,0) q.1 i=L
 refine see (p:=ifB (decide ((↑i:Int)<(↑(cll q.1).length:Int))) (onSome (cll q.1)[i]? fun row=>onCons (List.drop 0 row) fun u r=>onIntK IntKind.i64 u fun n=>onCons r fun u r=>onIntK IntKind.i64 u fun n_1=>onCons r fun u r=>onIntK IntKind.i64 u fun n_2=>K0G Tryz.prog glX 85 [V.agg [V.fn (Fn.func (124:FuncId)) [] [],iv k,V.fn (Fn.func (123:FuncId)) [] [],iv s,V.raw Value.nilFunc,iv (0:Int)],V.agg [iv n,iv n_1,iv n_2]] fun v=>onAgg v fun cs=>onCons cs fun u r=>onIntK IntKind.i64 u fun n=>onCons r fun u r=>onIntK IntKind.i64 u fun n_3=>onCons r fun u r=>onIntK IntKind.i64 u fun n_4=>onNil r (K0G Tryz.prog glX 97 [V.agg [iv n,iv n_3,iv n_4],V.agg [iv by_.1,iv by_.2.1,iv by_.2.2]] fun v=>onAgg v fun cs=>onCons cs fun u r=>onIntK IntKind.i64 u fun n=>onCons r fun u r=>onIntK IntKind.i64 u fun n_5=>onCons r fun u r=>onIntK IntKind.i64 u fun n_6=>onNil r (need (i<(cll q.1).length) (onSome (cll L)[0+i]? fun row=>guardB ((0+3).ble row.length) (J (St.mk (mkT [(3,V.ptr (Id.p 0) 0 0),(5,V.ptr (Id.p 1) 0 0),(6,V.ptr (Id.p 2) 0 0),(7,V.ptr (Id.p 3) 0 0),(8,V.ptr (Id.p 4) 0 0),(26,V.lst 3 (cll q.1)),(27,iv (↑(cll q.1).length:Int)),(28,iv (IntKind.i64.wrap ((↑i:Int)+(1:Int))))]) (Hp.mk [(0,O.rows 3 false [[V.lst 3 (cll q.1),V.lst 5 (knl q.2.1),iv q.2.2]]),(1,O.rows 3 false [[iv by_.1,iv by_.2.1,iv by_.2.2]]),(2,O.rows 2 false [[nilS,nilS]]),(3,O.rows 6 false [[V.fn (Fn.func (124:FuncId)) [] [],iv k,V.fn (Fn.func (123:FuncId)) [] [],iv s,V.raw Value.nilFunc,iv (0:Int)]]),(4,O.rows 2 false [[V.sl (Id.p 5) 0 (cll q.1).length,V.sl (Id.p 6) 0 (knl q.2.1).length]]),(5,O.rows 3 true ((cll L).set (0+i) (iv n::iv n_5::iv n_6::(List.append []) (List.drop 3 row)))),(6,O.rows 5 true (knl K))] 7 []))))))) (KM Tryz.prog glX 129 [V.sl (Id.p 0) 0 (cll q.1).length,V.fn (Fn.func 89) [] []] (Hp.mk [(0,O.rows 3 true (cll L))] 1 []) (poP 129 [V.sl (Id.p 5) 0 (cll q.1).length,V.fn (Fn.func 89) [] []]) fun v us=>onTup v fun vs=>onNil vs (La 0 [(5:Tmp),(6:Tmp),(7:Tmp),(8:Tmp),(47:Tmp),(48:Tmp),(49:Tmp)] (WY Tryz.prog (cfP (chB k s)) 2991 (Env.mk (Bs.mk 0 []) 0 none 76 95 2) (cdAt [1,1,1,1,1,0,1,0,0] (bodyOf Tryz.f95))) (Qblk 2 (Qthen (WY Tryz.prog (cfP (chB k s)) 2994 (Env.mk (Bs.mk 0 []) 0 none 76 95 0) (cdAt [1,1,1,1,1,1] (bodyOf Tryz.f95)) (QendX Tryz.prog Tryz.f95 fun v h' => dataT 0 (gcH 0 v h') v R)) (QendX Tryz.prog Tryz.f95 fun v h' => dataT 0 (gcH 0 v h') v R))) (St.mk (mkT [(5,V.ptr (Id.p 0) 0 0),(6,V.ptr (Id.p 1) 0 0),(7,V.ptr (Id.p 2) 0 0),(8,V.ptr (Id.p 3) 0 0),(47,V.lst 5 (knl q.2.1)),(48,iv (↑(knl q.2.1).length:Int)),(49,iv (0:Int))]) (Hp.mk [(0,O.rows 3 false [[iv by_.1,iv by_.2.1,iv by_.2.2]]),(1,O.rows 2 false [[nilS,nilS]]),(2,O.rows 6 false [[V.fn (Fn.func (124:FuncId)) [] [],iv k,V.fn (Fn.func (123:FuncId)) [] [],iv s,V.raw Value.nilFunc,iv (0:Int)]]),(3,O.rows 2 false [[V.sl (Id.p 4) 0 (cll q.1).length,V.sl (Id.p 5) 0 (knl q.2.1).length]]),(4,O.rows 3 true (List.getD us 0 [])),(5,O.rows 5 true (knl K))] 6 []))))) (by kernel_rfl) ?_
 refine ifB_mk (fun d=>?_) (fun d=>?_)
 ·have hlt:i<q.1.length:=by have:=of_decide_eq_true d; omega
  obtain ⟨x,hx⟩:=getI hlt
  have hxb:Bd 15 x:=(hc x (mem_at hx)).mono (by omega) (by omega)
  refine cel hx (hcell (c:=x) (hxb.mono (by omega)) (onC (add97 (a:=tn n x) (b:=by_) ((tn_bd hxb).mono (by omega)) (hby.mono (by omega)) (onC (need_mk ⟨by omega,?_⟩)))))
  have hz:(cll L)[0+i]? = some (clr (0,0,0)):=by
   have:=fill_get (f:=fun c=>addC (tn n c) by_) (z:=((0,0,0):Cl)) hlt
   rw [hL] at this
   rw [Nat.zero_add]; simp [cll,this]
  refine onSome_mk hz (guardB_mk rfl ?_)
  rw [wr1i hlt (by omega),cll_set L i (addC (tn n x) by_),← hL,fill_set hx]
  exact hJ (i+1) hlt (by omega)
 ·have hi:i=q.1.length:=by have:=of_decide_eq_false d; omega
  subst hi
  rw [fill_full] at hL
  have el:(cll q.1).length=L.length:=by rw [cl,← hL]; simp
  rw [el]
  refine sort129 (l:=L) (by omega) (fun us=>rfl) (onTup_tup (onNil_nil ?_))
  have hs:sortC L=plc q n by_:=by rw [← hL]; rfl
  rw [hs]
  rw [← el]
  clear hJ
  refine La.of (σ:=Nat) (fun i=>sh95b (chBr k s) q by_ (plc q n by_) (fill (fun k:Kn=>((addC (tn n k.1) by_,pt n k.2.1,k.2.2):Kn)) ((0,0,0),0,0) q.2.1 i) i) (fun i=>i≤q.2.1.length) (fun i=>q.2.1.length - i) 0 (by rw [← hK]; kernel_rfl) (by omega) ?_
  intro i g1 I hI
  clear hL hs el
  generalize hL2:plc q n by_=L
  clear hK
  generalize hK2:fill (fun k:Kn=>((addC (tn n k.1) by_,pt n k.2.1,k.2.2):Kn)) ((0,0,0),0,0) q.2.1 i=K
  refine see (p:=ifB (decide ((↑i:Int)<(↑(knl q.2.1).length:Int))) (onSome (knl q.2.1)[i]? fun row=>onCons (List.drop 0 row) fun u r=>onIntK IntKind.i64 u fun n=>onCons r fun u r=>onIntK IntKind.i64 u fun n_1=>onCons r fun u r=>onIntK IntKind.i64 u fun n_2=>onCons r fun u r=>onIntK IntKind.u8 u fun n_3=>onCons r fun u r=>onIntK IntKind.u8 u fun n_4=>K0G Tryz.prog glX 85 [V.agg [V.fn (Fn.func (124:FuncId)) [] [],iv k,V.fn (Fn.func (123:FuncId)) [] [],iv s,V.raw Value.nilFunc,iv (0:Int)],V.agg [iv n,iv n_1,iv n_2]] fun v=>onAgg v fun cs=>onCons cs fun u r=>onIntK IntKind.i64 u fun n=>onCons r fun u r=>onIntK IntKind.i64 u fun n_5=>onCons r fun u r=>onIntK IntKind.i64 u fun n_6=>onNil r (K0G Tryz.prog glX 97 [V.agg [iv n,iv n_5,iv n_6],V.agg [iv by_.1,iv by_.2.1,iv by_.2.2]] fun v=>onAgg v fun cs=>onCons cs fun u r=>onIntK IntKind.i64 u fun n=>onCons r fun u r=>onIntK IntKind.i64 u fun n_7=>onCons r fun u r=>onIntK IntKind.i64 u fun n_8=>onNil r (K0G Tryz.prog glX 83 [V.agg [V.fn (Fn.func (124:FuncId)) [] [],iv k,V.fn (Fn.func (123:FuncId)) [] [],iv s,V.raw Value.nilFunc,iv (0:Int)],iv (IntKind.i64.wrap n_3)] fun v=>onIntK IntKind.i64 v fun n_9=>need (i<(knl q.2.1).length) (onSome (knl K)[0+i]? fun row=>guardB ((0+5).ble row.length) (I (St.mk (mkT [(5,V.ptr (Id.p 0) 0 0),(6,V.ptr (Id.p 1) 0 0),(7,V.ptr (Id.p 2) 0 0),(8,V.ptr (Id.p 3) 0 0),(47,V.lst 5 (knl q.2.1)),(48,iv (↑(knl q.2.1).length:Int)),(49,iv (IntKind.i64.wrap ((↑i:Int)+(1:Int))))]) (Hp.mk [(0,O.rows 3 false [[iv by_.1,iv by_.2.1,iv by_.2.2]]),(1,O.rows 2 false [[nilS,nilS]]),(2,O.rows 6 false [[V.fn (Fn.func (124:FuncId)) [] [],iv k,V.fn (Fn.func (123:FuncId)) [] [],iv s,V.raw Value.nilFunc,iv (0:Int)]]),(3,O.rows 2 false [[V.sl (Id.p 4) 0 (cll q.1).length,V.sl (Id.p 5) 0 (knl q.2.1).length]]),(4,O.rows 3 true (cll L)),(5,O.rows 5 true ((knl K).set (0+i) (iv n::iv n_7::iv n_8::V.raw (Value.int IntKind.u8 (IntKind.u8.wrap n_9))::V.raw (Value.int IntKind.u8 n_4)::(List.append []) (List.drop 5 row))))] 6 []))))))) (R (V.agg [V.lst 3 (sub (cll L) 0 (cll q.1).length),V.lst 5 (sub (knl K) 0 (knl q.2.1).length)]))) (by kernel_rfl) ?_
  refine ifB_mk (fun d=>?_) (fun d=>?_)
  ·have hlt:i<q.2.1.length:=by have:=of_decide_eq_true d; omega
   obtain ⟨x,hx⟩:=getI hlt
   obtain ⟨x1,x2,x3⟩:=hk x (mem_at hx)
   have hxb:Bd 15 x.1:=x1.mono (by omega) (by omega)
   obtain ⟨p1,p2⟩:=pt_rg n x.2.1
   refine kel hx (hcell (c:=x.1) (hxb.mono (by omega)) (onC (add97 (a:=tn n x.1) (b:=by_) ((tn_bd hxb).mono (by omega)) (hby.mono (by omega)) (onC ?_))))
   rw [wr (n:=x.2.1) (by omega) (by omega)]
   obtain ⟨m,hm⟩ : ∃ m:Nat,x.2.1=(m:Int):=⟨x.2.1.toNat,by omega⟩
   rw [hm]
   rw [hm] at p1 p2
   refine hdir (d:=m) (by omega) (onIntK_iv (need_mk ⟨by omega,?_⟩))
   have hz:(knl K)[0+i]? = some (knr ((0,0,0),0,0)):=by
    have:=fill_get (f:=fun k:Kn=>((addC (tn n k.1) by_,pt n k.2.1,k.2.2):Kn)) (z:=(((0,0,0),0,0):Kn)) hlt
    rw [hK2] at this
    rw [Nat.zero_add]; simp [knl,this]
   refine onSome_mk hz (guardB_mk rfl ?_)
   rw [wr1i hlt (by omega),u8w p1 (by omega)]
   have fs:(fill (fun k:Kn=>((addC (tn n k.1) by_,pt n k.2.1,k.2.2):Kn)) ((0,0,0),0,0) q.2.1 i).set i ((addC (tn n x.1) by_,pt n x.2.1,x.2.2):Kn)=fill (fun k:Kn=>((addC (tn n k.1) by_,pt n k.2.1,k.2.2):Kn)) ((0,0,0),0,0) q.2.1 (i+1):=fill_set hx
   rw [hK2] at fs
   have es:(knl K).set (0+i) (iv (addC (tn n x.1) by_).1::iv (addC (tn n x.1) by_).2.1::iv (addC (tn n x.1) by_).2.2::V.raw (.int .u8 (pt n (m:Int)))::V.raw (.int .u8 x.2.2)::List.append [] (List.drop 5 (knr ((0,0,0),0,0))))=knl (fill (fun k:Kn=>((addC (tn n k.1) by_,pt n k.2.1,k.2.2):Kn)) ((0,0,0),0,0) q.2.1 (i+1)):=by
    rw [← fs,← hm]
    exact knl_set K i ((addC (tn n x.1) by_,pt n x.2.1,x.2.2):Kn)
   rw [es,← hL2]
   exact hI (i+1) hlt (by omega)
  ·have hi:i=q.2.1.length:=by have:=of_decide_eq_false d; omega
   subst hi
   rw [fill_full] at hK2
   have s1:sub (cll L) 0 (cll q.1).length=cll (plc q n by_):=by
    rw [← hL2,sub,List.drop_zero,List.take_of_length_le]
    rw [cll_length,cl,plc,(sortC_perm _).length_eq]; simp
   have s2:sub (knl K) 0 (knl q.2.1).length=knl (knb q n by_):=by
    rw [sub,List.drop_zero,List.take_of_length_le (by rw [knl_length,kl,← hK2]; simp),← hK2]; rfl
   rw [s1,s2]
   exact h
set_option maxHeartbeats 2000000 in
theorem pub95C {q:Kd} {k j t:Int} {by_:Cl} {n:Nat} {R:V→Prop} (hch:K0G Tryz.prog glX 82 [iv t] fun v=>v=(chC k j)) (hcell : ∀ {c:Cl} {R:V→Prop},Bd 3000 c→R (.agg (clr (tn n c)))→K0G Tryz.prog glX 85 [(chC k j),.agg (clr c)] R) (hdir : ∀ {d:Nat} {R:V→Prop},d<6→R (iv (pt n (d:Int)))→K0G Tryz.prog glX 83 [(chC k j),iv (d:Int)] R)
  (hq:PutP q) (hby:Bd 2000 by_) (h:R (.agg [.lst 3 (cll (plc q n by_)),.lst 5 (knl (knb q n by_))])):KB Tryz.prog glX 95 [.agg (kdr q),iv t,.agg (clr by_)] ⟨[],0,[]⟩ R:=by
 refine KB_of_WYB hmX (hcP (chC k j)) 3000 Tryz.func95 rfl (see (p:=KM Tryz.prog glX 82 [iv t] (Hp.mk [] 0 []) (poP 82 [iv t]) fun v us=>v=V.agg [V.fn (Fn.func (124:FuncId)) [] [],iv k,V.fn (Fn.func (123:FuncId)) [] [],iv (1:Int),V.fn (Fn.func (124:FuncId)) [] [],iv j]∧need ((knl q.2.1).length≤(knl q.2.1).length) (need (32 * (knl q.2.1).length≤140737488355328) (need ((knl q.2.1).length≤9223372036854775807) (need ((cll q.1).length≤(cll q.1).length) (need (24 * (cll q.1).length≤140737488355328) (need ((cll q.1).length≤9223372036854775807) (need ((knl q.2.1).length≤(knl q.2.1).length) (need (32 * (knl q.2.1).length≤140737488355328) (need ((knl q.2.1).length≤9223372036854775807) (La 0 [(3:Tmp),(5:Tmp),(6:Tmp),(7:Tmp),(8:Tmp),(26:Tmp),(27:Tmp),(28:Tmp)] (WY Tryz.prog (cfP (chC k j)) 2993 (Env.mk (Bs.mk 0 []) 0 none 76 95 0) (cdAt [1,1,1,0,1,0,0] (bodyOf Tryz.f95))) (Qblk 0 (Qthen (WY Tryz.prog (cfP (chC k j)) 2996 (Env.mk (Bs.mk 0 []) 0 none 76 95 0) (cdAt [1,1,1,1] (bodyOf Tryz.f95)) (QendX Tryz.prog Tryz.f95 fun v h' => dataT 0 (gcH 0 v h') v R)) (QendX Tryz.prog Tryz.f95 fun v h' => dataT 0 (gcH 0 v h') v R))) (St.mk (mkT [(3,V.ptr (Id.p 0) 0 0),(5,V.ptr (Id.p 1) 0 0),(6,V.ptr (Id.p 2) 0 0),(7,V.ptr (Id.p 3) 0 0),(8,V.ptr (Id.p 4) 0 0),(26,V.lst 3 (cll q.1)),(27,iv (↑(cll q.1).length:Int)),(28,iv (0:Int))]) (Hp.mk [(0,O.rows 3 false [[V.lst 3 (cll q.1),V.lst 5 (knl q.2.1),iv q.2.2]]),(1,O.rows 3 false [[iv by_.1,iv by_.2.1,iv by_.2.2]]),(2,O.rows 2 false [[nilS,nilS]]),(3,O.rows 6 false [[V.fn (Fn.func (124:FuncId)) [] [],iv k,V.fn (Fn.func (123:FuncId)) [] [],iv (1:Int),V.fn (Fn.func (124:FuncId)) [] [],iv j]]),(4,O.rows 2 false [[V.sl (Id.p 5) 0 (cll q.1).length,V.sl (Id.p 6) 0 (knl q.2.1).length]]),(5,O.rows 3 true (List.replicate (cll q.1).length [iv (0:Int),iv (0:Int),iv (0:Int)])),(6,O.rows 5 true (List.replicate (knl q.2.1).length [iv (0:Int),iv (0:Int),iv (0:Int),V.raw (Value.int IntKind.u8 (0:Int)),V.raw (Value.int IntKind.u8 (0:Int))]))] 7 [])))))))))))) (by kernel_rfl) ?_)
 obtain ⟨hc,hcl,hk,hkl⟩:=hq
 have cl:=cll_length q.1
 have kl:=knl_length q.2.1
 refine KM_of_K0 rfl rfl (hch.mono' fun v e=>⟨e,?_⟩)
 refine need_mk ⟨Nat.le_refl _,need_mk ⟨by omega,need_mk ⟨by omega,need_mk ⟨Nat.le_refl _,need_mk ⟨by omega,need_mk ⟨by omega,need_mk ⟨Nat.le_refl _,need_mk ⟨by omega,need_mk ⟨by omega,?_⟩⟩⟩⟩⟩⟩⟩⟩⟩
 have e1:List.replicate (cll q.1).length [iv (0:Int),iv (0:Int),iv (0:Int)]=cll (fill (fun c=>addC (tn n c) by_) (0,0,0) q.1 0):=by rw [cl,fill_zero]; simp [cll,clr]
 have e2:List.replicate (knl q.2.1).length [iv (0:Int),iv (0:Int),iv (0:Int),V.raw (Value.int IntKind.u8 (0:Int)),V.raw (Value.int IntKind.u8 (0:Int))]=knl (fill (fun k:Kn=>((addC (tn n k.1) by_,pt n k.2.1,k.2.2):Kn)) ((0,0,0),0,0) q.2.1 0):=by rw [kl,fill_zero]; simp [knl,knr,u8]
 rw [e1,e2]
 generalize hK:fill (fun k:Kn=>((addC (tn n k.1) by_,pt n k.2.1,k.2.2):Kn)) ((0,0,0),0,0) q.2.1 0=K
 refine La.of (σ:=Nat) (fun i=>sh95a (chCr k j) q by_ (fill (fun c=>addC (tn n c) by_) (0,0,0) q.1 i) K i) (fun i=>i≤q.1.length) (fun i=>q.1.length - i) 0 (by kernel_rfl) (by omega) ?_
 intro i g1 J hJ
 generalize hL:fill (fun c=>addC (tn n c) by_) (0,0,0) q.1 i=L
 refine see (p:=ifB (decide ((↑i:Int)<(↑(cll q.1).length:Int))) (onSome (cll q.1)[i]? fun row=>onCons (List.drop 0 row) fun u r=>onIntK IntKind.i64 u fun n=>onCons r fun u r=>onIntK IntKind.i64 u fun n_1=>onCons r fun u r=>onIntK IntKind.i64 u fun n_2=>K0G Tryz.prog glX 85 [V.agg [V.fn (Fn.func (124:FuncId)) [] [],iv k,V.fn (Fn.func (123:FuncId)) [] [],iv (1:Int),V.fn (Fn.func (124:FuncId)) [] [],iv j],V.agg [iv n,iv n_1,iv n_2]] fun v=>onAgg v fun cs=>onCons cs fun u r=>onIntK IntKind.i64 u fun n=>onCons r fun u r=>onIntK IntKind.i64 u fun n_3=>onCons r fun u r=>onIntK IntKind.i64 u fun n_4=>onNil r (K0G Tryz.prog glX 97 [V.agg [iv n,iv n_3,iv n_4],V.agg [iv by_.1,iv by_.2.1,iv by_.2.2]] fun v=>onAgg v fun cs=>onCons cs fun u r=>onIntK IntKind.i64 u fun n=>onCons r fun u r=>onIntK IntKind.i64 u fun n_5=>onCons r fun u r=>onIntK IntKind.i64 u fun n_6=>onNil r (need (i<(cll q.1).length) (onSome (cll L)[0+i]? fun row=>guardB ((0+3).ble row.length) (J (St.mk (mkT [(3,V.ptr (Id.p 0) 0 0),(5,V.ptr (Id.p 1) 0 0),(6,V.ptr (Id.p 2) 0 0),(7,V.ptr (Id.p 3) 0 0),(8,V.ptr (Id.p 4) 0 0),(26,V.lst 3 (cll q.1)),(27,iv (↑(cll q.1).length:Int)),(28,iv (IntKind.i64.wrap ((↑i:Int)+(1:Int))))]) (Hp.mk [(0,O.rows 3 false [[V.lst 3 (cll q.1),V.lst 5 (knl q.2.1),iv q.2.2]]),(1,O.rows 3 false [[iv by_.1,iv by_.2.1,iv by_.2.2]]),(2,O.rows 2 false [[nilS,nilS]]),(3,O.rows 6 false [[V.fn (Fn.func (124:FuncId)) [] [],iv k,V.fn (Fn.func (123:FuncId)) [] [],iv (1:Int),V.fn (Fn.func (124:FuncId)) [] [],iv j]]),(4,O.rows 2 false [[V.sl (Id.p 5) 0 (cll q.1).length,V.sl (Id.p 6) 0 (knl q.2.1).length]]),(5,O.rows 3 true ((cll L).set (0+i) (iv n::iv n_5::iv n_6::(List.append []) (List.drop 3 row)))),(6,O.rows 5 true (knl K))] 7 []))))))) (KM Tryz.prog glX 129 [V.sl (Id.p 0) 0 (cll q.1).length,V.fn (Fn.func 89) [] []] (Hp.mk [(0,O.rows 3 true (cll L))] 1 []) (poP 129 [V.sl (Id.p 5) 0 (cll q.1).length,V.fn (Fn.func 89) [] []]) fun v us=>onTup v fun vs=>onNil vs (La 0 [(5:Tmp),(6:Tmp),(7:Tmp),(8:Tmp),(47:Tmp),(48:Tmp),(49:Tmp)] (WY Tryz.prog (cfP (chC k j)) 2991 (Env.mk (Bs.mk 0 []) 0 none 76 95 2) (cdAt [1,1,1,1,1,0,1,0,0] (bodyOf Tryz.f95))) (Qblk 2 (Qthen (WY Tryz.prog (cfP (chC k j)) 2994 (Env.mk (Bs.mk 0 []) 0 none 76 95 0) (cdAt [1,1,1,1,1,1] (bodyOf Tryz.f95)) (QendX Tryz.prog Tryz.f95 fun v h' => dataT 0 (gcH 0 v h') v R)) (QendX Tryz.prog Tryz.f95 fun v h' => dataT 0 (gcH 0 v h') v R))) (St.mk (mkT [(5,V.ptr (Id.p 0) 0 0),(6,V.ptr (Id.p 1) 0 0),(7,V.ptr (Id.p 2) 0 0),(8,V.ptr (Id.p 3) 0 0),(47,V.lst 5 (knl q.2.1)),(48,iv (↑(knl q.2.1).length:Int)),(49,iv (0:Int))]) (Hp.mk [(0,O.rows 3 false [[iv by_.1,iv by_.2.1,iv by_.2.2]]),(1,O.rows 2 false [[nilS,nilS]]),(2,O.rows 6 false [[V.fn (Fn.func (124:FuncId)) [] [],iv k,V.fn (Fn.func (123:FuncId)) [] [],iv (1:Int),V.fn (Fn.func (124:FuncId)) [] [],iv j]]),(3,O.rows 2 false [[V.sl (Id.p 4) 0 (cll q.1).length,V.sl (Id.p 5) 0 (knl q.2.1).length]]),(4,O.rows 3 true (List.getD us 0 [])),(5,O.rows 5 true (knl K))] 6 []))))) (by kernel_rfl) ?_
 refine ifB_mk (fun d=>?_) (fun d=>?_)
 ·have hlt:i<q.1.length:=by have:=of_decide_eq_true d; omega
  obtain ⟨x,hx⟩:=getI hlt
  have hxb:Bd 15 x:=(hc x (mem_at hx)).mono (by omega) (by omega)
  refine cel hx (hcell (c:=x) (hxb.mono (by omega)) (onC (add97 (a:=tn n x) (b:=by_) ((tn_bd hxb).mono (by omega)) (hby.mono (by omega)) (onC (need_mk ⟨by omega,?_⟩)))))
  have hz:(cll L)[0+i]? = some (clr (0,0,0)):=by
   have:=fill_get (f:=fun c=>addC (tn n c) by_) (z:=((0,0,0):Cl)) hlt
   rw [hL] at this
   rw [Nat.zero_add]; simp [cll,this]
  refine onSome_mk hz (guardB_mk rfl ?_)
  rw [wr1i hlt (by omega),cll_set L i (addC (tn n x) by_),← hL,fill_set hx]
  exact hJ (i+1) hlt (by omega)
 ·have hi:i=q.1.length:=by have:=of_decide_eq_false d; omega
  subst hi
  rw [fill_full] at hL
  have el:(cll q.1).length=L.length:=by rw [cl,← hL]; simp
  rw [el]
  refine sort129 (l:=L) (by omega) (fun us=>rfl) (onTup_tup (onNil_nil ?_))
  have hs:sortC L=plc q n by_:=by rw [← hL]; rfl
  rw [hs]
  rw [← el]
  clear hJ
  refine La.of (σ:=Nat) (fun i=>sh95b (chCr k j) q by_ (plc q n by_) (fill (fun k:Kn=>((addC (tn n k.1) by_,pt n k.2.1,k.2.2):Kn)) ((0,0,0),0,0) q.2.1 i) i) (fun i=>i≤q.2.1.length) (fun i=>q.2.1.length - i) 0 (by rw [← hK]; kernel_rfl) (by omega) ?_
  intro i g1 I hI
  clear hL hs el
  generalize hL2:plc q n by_=L
  clear hK
  generalize hK2:fill (fun k:Kn=>((addC (tn n k.1) by_,pt n k.2.1,k.2.2):Kn)) ((0,0,0),0,0) q.2.1 i=K
  refine see (p:=ifB (decide ((↑i:Int)<(↑(knl q.2.1).length:Int))) (onSome (knl q.2.1)[i]? fun row=>onCons (List.drop 0 row) fun u r=>onIntK IntKind.i64 u fun n=>onCons r fun u r=>onIntK IntKind.i64 u fun n_1=>onCons r fun u r=>onIntK IntKind.i64 u fun n_2=>onCons r fun u r=>onIntK IntKind.u8 u fun n_3=>onCons r fun u r=>onIntK IntKind.u8 u fun n_4=>K0G Tryz.prog glX 85 [V.agg [V.fn (Fn.func (124:FuncId)) [] [],iv k,V.fn (Fn.func (123:FuncId)) [] [],iv (1:Int),V.fn (Fn.func (124:FuncId)) [] [],iv j],V.agg [iv n,iv n_1,iv n_2]] fun v=>onAgg v fun cs=>onCons cs fun u r=>onIntK IntKind.i64 u fun n=>onCons r fun u r=>onIntK IntKind.i64 u fun n_5=>onCons r fun u r=>onIntK IntKind.i64 u fun n_6=>onNil r (K0G Tryz.prog glX 97 [V.agg [iv n,iv n_5,iv n_6],V.agg [iv by_.1,iv by_.2.1,iv by_.2.2]] fun v=>onAgg v fun cs=>onCons cs fun u r=>onIntK IntKind.i64 u fun n=>onCons r fun u r=>onIntK IntKind.i64 u fun n_7=>onCons r fun u r=>onIntK IntKind.i64 u fun n_8=>onNil r (K0G Tryz.prog glX 83 [V.agg [V.fn (Fn.func (124:FuncId)) [] [],iv k,V.fn (Fn.func (123:FuncId)) [] [],iv (1:Int),V.fn (Fn.func (124:FuncId)) [] [],iv j],iv (IntKind.i64.wrap n_3)] fun v=>onIntK IntKind.i64 v fun n_9=>need (i<(knl q.2.1).length) (onSome (knl K)[0+i]? fun row=>guardB ((0+5).ble row.length) (I (St.mk (mkT [(5,V.ptr (Id.p 0) 0 0),(6,V.ptr (Id.p 1) 0 0),(7,V.ptr (Id.p 2) 0 0),(8,V.ptr (Id.p 3) 0 0),(47,V.lst 5 (knl q.2.1)),(48,iv (↑(knl q.2.1).length:Int)),(49,iv (IntKind.i64.wrap ((↑i:Int)+(1:Int))))]) (Hp.mk [(0,O.rows 3 false [[iv by_.1,iv by_.2.1,iv by_.2.2]]),(1,O.rows 2 false [[nilS,nilS]]),(2,O.rows 6 false [[V.fn (Fn.func (124:FuncId)) [] [],iv k,V.fn (Fn.func (123:FuncId)) [] [],iv (1:Int),V.fn (Fn.func (124:FuncId)) [] [],iv j]]),(3,O.rows 2 false [[V.sl (Id.p 4) 0 (cll q.1).length,V.sl (Id.p 5) 0 (knl q.2.1).length]]),(4,O.rows 3 true (cll L)),(5,O.rows 5 true ((knl K).set (0+i) (iv n::iv n_7::iv n_8::V.raw (Value.int IntKind.u8 (IntKind.u8.wrap n_9))::V.raw (Value.int IntKind.u8 n_4)::(List.append []) (List.drop 5 row))))] 6 []))))))) (R (V.agg [V.lst 3 (sub (cll L) 0 (cll q.1).length),V.lst 5 (sub (knl K) 0 (knl q.2.1).length)]))) (by kernel_rfl) ?_
  refine ifB_mk (fun d=>?_) (fun d=>?_)
  ·have hlt:i<q.2.1.length:=by have:=of_decide_eq_true d; omega
   obtain ⟨x,hx⟩:=getI hlt
   obtain ⟨x1,x2,x3⟩:=hk x (mem_at hx)
   have hxb:Bd 15 x.1:=x1.mono (by omega) (by omega)
   obtain ⟨p1,p2⟩:=pt_rg n x.2.1
   refine kel hx (hcell (c:=x.1) (hxb.mono (by omega)) (onC (add97 (a:=tn n x.1) (b:=by_) ((tn_bd hxb).mono (by omega)) (hby.mono (by omega)) (onC ?_))))
   rw [wr (n:=x.2.1) (by omega) (by omega)]
   obtain ⟨m,hm⟩ : ∃ m:Nat,x.2.1=(m:Int):=⟨x.2.1.toNat,by omega⟩
   rw [hm]
   rw [hm] at p1 p2
   refine hdir (d:=m) (by omega) (onIntK_iv (need_mk ⟨by omega,?_⟩))
   have hz:(knl K)[0+i]? = some (knr ((0,0,0),0,0)):=by
    have:=fill_get (f:=fun k:Kn=>((addC (tn n k.1) by_,pt n k.2.1,k.2.2):Kn)) (z:=(((0,0,0),0,0):Kn)) hlt
    rw [hK2] at this
    rw [Nat.zero_add]; simp [knl,this]
   refine onSome_mk hz (guardB_mk rfl ?_)
   rw [wr1i hlt (by omega),u8w p1 (by omega)]
   have fs:(fill (fun k:Kn=>((addC (tn n k.1) by_,pt n k.2.1,k.2.2):Kn)) ((0,0,0),0,0) q.2.1 i).set i ((addC (tn n x.1) by_,pt n x.2.1,x.2.2):Kn)=fill (fun k:Kn=>((addC (tn n k.1) by_,pt n k.2.1,k.2.2):Kn)) ((0,0,0),0,0) q.2.1 (i+1):=fill_set hx
   rw [hK2] at fs
   have es:(knl K).set (0+i) (iv (addC (tn n x.1) by_).1::iv (addC (tn n x.1) by_).2.1::iv (addC (tn n x.1) by_).2.2::V.raw (.int .u8 (pt n (m:Int)))::V.raw (.int .u8 x.2.2)::List.append [] (List.drop 5 (knr ((0,0,0),0,0))))=knl (fill (fun k:Kn=>((addC (tn n k.1) by_,pt n k.2.1,k.2.2):Kn)) ((0,0,0),0,0) q.2.1 (i+1)):=by
    rw [← fs,← hm]
    exact knl_set K i ((addC (tn n x.1) by_,pt n x.2.1,x.2.2):Kn)
   rw [es,← hL2]
   exact hI (i+1) hlt (by omega)
  ·have hi:i=q.2.1.length:=by have:=of_decide_eq_false d; omega
   subst hi
   rw [fill_full] at hK2
   have s1:sub (cll L) 0 (cll q.1).length=cll (plc q n by_):=by
    rw [← hL2,sub,List.drop_zero,List.take_of_length_le]
    rw [cll_length,cl,plc,(sortC_perm _).length_eq]; simp
   have s2:sub (knl K) 0 (knl q.2.1).length=knl (knb q n by_):=by
    rw [sub,List.drop_zero,List.take_of_length_le (by rw [knl_length,kl,← hK2]; simp),← hK2]; rfl
   rw [s1,s2]
   exact h
theorem pub95 {q:Kd} {by_:Cl} {n:Nat} {R:V→Prop} (hn:n<24) (hq:PutP q) (hby:Bd 2000 by_) (h:R (.agg [.lst 3 (cll (plc q n by_)),.lst 5 (knl (knb q n by_))])):KB Tryz.prog glX 95 [.agg (kdr q),iv (n:Int),.agg (clr by_)] ⟨[],0,[]⟩ R:=by
 have c1:K0G Tryz.prog glX 82 [iv (n:Int)] fun v=>v=ch n:=chain82 n hn rfl
 have c2 : ∀ {c:Cl} {R:V→Prop},Bd 3000 c→R (.agg (clr (tn n c)))→K0G Tryz.prog glX 85 [ch n,.agg (clr c)] R:=fun hb h=>cell85 hb n hn h
 have c3 : ∀ {d:Nat} {R:V→Prop},d<6→R (iv (pt n (d:Int)))→K0G Tryz.prog glX 83 [ch n,iv (d:Int)] R:=fun hd h=>dir83 hd n hn h
 unfold ch at c1 c2 c3
 by_cases h1:n / 4<1
 ·rw [if_pos h1] at c1 c2 c3
  exact pub95A c1 c2 c3 hq hby h
 ·rw [if_neg h1] at c1 c2 c3
  by_cases h2:n / 4<4
  ·rw [if_pos h2] at c1 c2 c3
   exact pub95B c1 c2 c3 hq hby h
  ·rw [if_neg h2] at c1 c2 c3
   exact pub95C c1 c2 c3 hq hby h
set_option maxRecDepth 100000
def moK (f:FuncId):Nat:=bif inN [95,57] f then 1 else 0
noncomputable def cfK:Cfg:=cfgG Tryz.prog glX moK poP (rtP fN) (inN []) (fun _ _=>none)
end Go.Proofs.YtbionhgjgcpogaaGreatDoor
