/- A part of the proof. -/
import Derived.Test.YtbionhgjgcpogaaGreatDoorProg
import Derived.Test.YtbionhgjgcpogaaGreatDoorXP5G10
import Derived.Test.YtbionhgjgcpogaaGreatDoorXP5G11
import Derived.Test.YtbionhgjgcpogaaGreatDoorXP5G12
namespace Go.Proofs.YtbionhgjgcpogaaGreatDoor
open Go Go.Proofs.YtbionhgjgcpogaaGreatDoor.Clean
set_option linter.unusedVariables false
set_option linter.unusedSimpArgs false
set_option maxRecDepth 10000
theorem hcK:cfK.ok Tryz.prog:=cfgG_ok (rtP_ok fN)
theorem KindP.put {q:Kd} (h:KindP q) (hr:KdR q):KnbP q:=by
 obtain ⟨⟨⟨c1,c2⟩,c3,c4⟩,⟨k1,k2,k3⟩,w⟩:=h
 exact ⟨⟨c3,by omega,fun k hk=>⟨c3 _ (k2 k hk).2.2.1,(hr.1 k hk).1.1,(k2 k hk).1⟩,by omega⟩,k3⟩
theorem putb {l:List Kd} {b:Bk} (hK:KindsP l) (hl : ∀ q∈l,KdR q) (hB:BrickP l.length b) (hr:BkR b) : ∃ q n,PutB l b q n∧KnbP q∧Bd 1000 b.2.1∧KindP q:=by
 obtain ⟨⟨b1,b2⟩,b3,b4,b5⟩:=hB
 obtain ⟨q,hq⟩:=getI (l:=l) (k:=b.1.toNat) (by omega)
 have hm:=mem_at hq
 have hP:=(hK.2 q hm).put (hl q hm)
 exact ⟨q,b.2.2.1.toNat,⟨hq,b1,hP.put,(hK.2 q hm).1.1.1,by have:=hr.1.1; omega,by have:=hr.1.1; omega,b3.mono (by omega)⟩,hP,b3,hK.2 q hm⟩
theorem sub_cl (l:List Cl):sub (cll l) 0 (cll l).length=cll l:=by rw [sub,List.drop_zero,List.take_length]
theorem sub_kl (l:List Kn):sub (knl l) 0 (knl l).length=knl l:=by rw [sub,List.drop_zero,List.take_length]
theorem body57B {l:List Kd} {b:Bk} {R:V→Prop} (hl : ∀ q∈l,KdR q) (hll:(l.length:Int)≤1000000) (hr:BkR b) (h1 : ∀ e,askE l b e→e≠0→R (.tup [.agg [nilS,nilS],iv e])) (h2:askE l b 0 → ∀ q n,PutB l b q n→R (.tup [.agg [.lst 3 (cll (plc q n b.2.1)),.lst 5 (knl (knb q n b.2.1))],iv 0])):KB Tryz.prog glX 57 [.lst 3 (kdl l),.agg (bkr b)] ⟨[],0,[]⟩ R:=by
 refine KB_of_WYB hmX hcK 3000 Tryz.func57 rfl (see (p:=K0G Tryz.prog glX 16 [V.lst 3 (kdl l)] fun v=>onIntK IntKind.i64 v fun n=>ifB (n != (0:Int)) (R (V.tup [V.agg [nilS,nilS],iv n])) (K0G Tryz.prog glX 98 [V.lst 3 (kdl l),V.agg [iv b.1,iv b.2.1.1,iv b.2.1.2.1,iv b.2.1.2.2,V.raw (Value.int IntKind.u8 b.2.2.1),V.raw (Value.int IntKind.u8 b.2.2.2)]] fun v=>onBool v fun b_1=>ifB (!b_1) (R (V.tup [V.agg [nilS,nilS],iv (11:Int)])) (onNat b.1 fun m=>onSome (kdl l)[m]? fun row=>onCons (List.drop 0 row) fun u r=>onLst u fun s es=>onCons r fun u r=>onLst u fun s_1 es_1=>onCons r fun u r=>onIntK IntKind.i64 u fun n=>KB Tryz.prog glX 95 [V.agg [V.lst s es,V.lst s_1 es_1,iv n],iv (IntKind.i64.wrap b.2.2.1),V.agg [iv b.2.1.1,iv b.2.1.2.1,iv b.2.1.2.2]] (Hp.mk [] 0 []) fun v=>onAgg v fun cs=>onCons cs fun u r=>onLst u fun s es=>guardB (s.beq 3 || s.beq 0) (onCons r fun u r=>onLst u fun s es_2=>guardB (s.beq 5 || s.beq 0) (onNil r (R (V.tup [V.agg [V.lst 3 (sub es 0 es.length),V.lst 5 (sub es_2 0 es_2.length)],iv (0:Int)]))))))) (by kernel_rfl) ?_)
 refine kinds16 hl (fun hK=>onIntK_iv (ifB_f rfl (brick98 hr hll (onBool_bv (ifB_mk (fun c=>h1 11 (.inr (.inr (.inl ⟨hK,nbt c,rfl⟩))) (by decide)) (fun c=>?_)))))) (fun h16=>onIntK_iv (ifB_t rfl (h1 4 (.inl ⟨h16,rfl⟩) (by decide)))) (fun h16 hn=>onIntK_iv (ifB_t rfl (h1 10 (.inr (.inl ⟨h16,hn,rfl⟩)) (by decide))))
 have hB:=nb c
 obtain ⟨q,n,hP,_,_,_⟩:=putb hK hl hB hr
 refine onNat_mk (m:=b.1.toNat) (by have:=hP.k0; omega) (del hP.at_ ?_)
 rw [hP.turn,wr (by have:=hP.t24; omega) (by have:=hP.t24; omega)]
 refine pub95 (by_:=b.2.1) hP.t24 hP.put hP.bd (onAgg_agg (onCons_cons (onLst_lst (guardB_mk rfl (onCons_cons (onLst_lst (guardB_mk rfl (onNil_nil ?_))))))))
 rw [sub_cl,sub_kl]
 exact h2 (.inr (.inr (.inr ⟨hK,hB,rfl⟩))) q n hP
theorem cells21 {l:List Kd} {b:Bk} {R:V→Prop} (hl : ∀ q∈l,KdR q) (hll:(l.length:Int)≤1000000) (hr:BkR b) (h1 : ∀ e,askE l b e→e≠0→R (.tup [.lst 3 [],iv e])) (h2:askE l b 0 → ∀ q n,PutB l b q n→R (.tup [.lst 3 (cll (plc q n b.2.1)),iv 0])):KB Tryz.prog glX 21 [.lst 3 (kdl l),.agg (bkr b)] ⟨[],0,[]⟩ R:=by
 refine KB_of_WYB hmX hcK 3000 Tryz.func21 rfl (see (p:=KB Tryz.prog glX 57 [V.lst 3 (kdl l),V.agg [iv b.1,iv b.2.1.1,iv b.2.1.2.1,iv b.2.1.2.2,V.raw (Value.int IntKind.u8 b.2.2.1),V.raw (Value.int IntKind.u8 b.2.2.2)]] (Hp.mk [] 0 []) fun v=>onTup v fun vs=>onCons vs fun u r=>onAgg u fun cs=>onCons cs fun u r_1=>onLst u fun s es=>guardB (s.beq 3 || s.beq 0) (onCons r_1 fun u r_2=>onLst u fun s es_1=>guardB (s.beq 5 || s.beq 0) (onNil r_2 (onCons r fun u r=>onIntK IntKind.i64 u fun n=>onNil r (R (V.tup [V.lst 3 (sub es 0 es.length),iv n])))))) (by kernel_rfl) ?_)
 refine body57B hl hll hr (fun e he hne=>onTup_tup (onCons_cons (onAgg_agg (onCons_cons (onLst_nil (guardB_mk rfl (onCons_cons (onLst_nil (guardB_mk rfl (onNil_nil (onCons_cons (onIntK_iv (onNil_nil (h1 e he hne))))))))))))) ) (fun h0 q n hP=>onTup_tup (onCons_cons (onAgg_agg (onCons_cons (onLst_lst (guardB_mk rfl (onCons_cons (onLst_lst (guardB_mk rfl (onNil_nil (onCons_cons (onIntK_iv (onNil_nil ?_)))))))))))))
 rw [sub_cl]
 exact h2 h0 q n hP
set_option maxRecDepth 100000
def bdr (b:List Cl×List Kn):List V:=[V.lst 3 (cll b.1),V.lst 5 (knl b.2)]
def bdl (l:List (List Cl×List Kn)):List (List V):=l.map bdr
def kpO:FuncId→Nat→Option (List Tmp):=slotsOf [(107,0,[3,9,10,11,1000001,4000003]),(107,2,[3,4,9,10,11,17,18,19,1000001,4000003]),(106,0,[0,3,4,14,15,16,1000001,4000003]),(106,2,[0,3,4,5,6,14,15,16,23,24,25,1000001,4000003]),(106,4,[0,3,4,5,6,14,15,16,23,24,25,31,32,33,1000001,4000003]),(106,6,[0,3,4,5,6,11,14,15,16,1000001,4000003])]
def fzO (f:FuncId) (t:Tmp):Bool:=(f.beq 107&&t.beq 1000025) || (f.beq 106&&t.beq 1000031)
noncomputable def cfO:Cfg:={ cfgG Tryz.prog glX moD poP (rtP fN) (inN [107]) kpO with clean:=fun g => !inN [107] g,fz:=fzO }
noncomputable def sh107a (l:List (List Cl×List Kn)) (es:List (V×V)) (ms:List (Option (List (List V)))) (m i:Nat):St:=⟨mkT [(3,V.mp (Id.p 0)),(9,V.lst 2 (bdl l)),(10,iv (m:Int)),(11,iv (i:Int))],⟨[(0,O.mp es)],1,[(0,Fam.mk 1 ms)]⟩⟩
noncomputable def sh107b (l:List (List Cl×List Kn)) (x:List Cl) (es:List (V×V)) (ms:List (Option (List (List V)))) (m i n k:Nat):St:=⟨mkT [(3,V.mp (Id.p 0)),(4,iv (i:Int)),(9,V.lst 2 (bdl l)),(10,iv (m:Int)),(11,iv (i:Int)),(17,V.lst 3 (cll x)),(18,iv (n:Int)),(19,iv (k:Int))],⟨[(0,O.mp es)],1,[(0,Fam.mk 1 ms)]⟩⟩
set_option maxRecDepth 10000
abbrev Ow:=Cl×List Nat×Nat
def ent (t:Ow):V×V:=(V.agg (clr t.1),V.sl (Id.m 0 t.2.2) 0 t.2.1.length)
def rowI (b:Nat):List V:=[iv (b:Int)]
structure Rep (T:List Ow) (es:List (V×V)) (ms:List (Option (List (List V)))):Prop where
 es:es=T.map ent
 ks:(T.map (·.2.2)).Nodup
 mem : ∀ t∈T,ms[t.2.2]? = some (some (t.2.1.map rowI))
 cs:(T.map (·.1)).Nodup
theorem eqC_c (c d:Cl) : ∃ b,eqC Tryz.prog 8 28 (V.agg (clr c)) (V.agg (clr d))=some b∧(b=true↔c=d):=by
 refine ⟨c.1==d.1&&(c.2.1==d.2.1&&(c.2.2==d.2.2&&true)),by kernel_rfl,?_⟩
 obtain ⟨a,b,e⟩:=c
 obtain ⟨a', b', e'⟩:=d
 simp
theorem findC_mem {c:Cl} : ∀ {T:List Ow} (i:Nat),c∈T.map (·.1) → ∃ j t,T[j]? = some t∧t.1=c∧findK Tryz.prog 28 (V.agg (clr c)) (T.map ent) i=some (some (i+j,V.agg (clr c),V.sl (Id.m 0 t.2.2) 0 t.2.1.length))
 | t::T,i,h=>by
  obtain ⟨b,hb,hbt⟩:=eqC_c c t.1
  have hstep:findK Tryz.prog 28 (V.agg (clr c)) ((t::T).map ent) i=bif b then some (some (i,V.agg (clr t.1),V.sl (Id.m 0 t.2.2) 0 t.2.1.length)) else findK Tryz.prog 28 (V.agg (clr c)) (T.map ent) (i+1):=by
   show (eqC Tryz.prog 8 28 (V.agg (clr c)) (V.agg (clr t.1))).bind _=_
   rw [hb]
   rfl
  by_cases e:c=t.1
  ·refine ⟨0,t,rfl,e.symm,?_⟩
   rw [hstep,hbt.2 e,cond_true,← e]
   rfl
  ·obtain ⟨j,t', h1,h2,h3⟩:=findC_mem (T:=T) (i+1) (by
    rcases List.mem_cons.1 h with h | h
    ·exact (e h).elim
    ·exact h)
   refine ⟨j+1,t', h1,h2,?_⟩
   have hbf:b=false:=Bool.eq_false_iff.2 (fun g=>e (hbt.1 g))
   rw [hstep,hbf,cond_false,h3]
   rw [show i+1+j=i+(j+1) from by omega]
theorem findC_not {c:Cl} : ∀ {T:List Ow} (i:Nat), ¬ c∈T.map (·.1)→findK Tryz.prog 28 (V.agg (clr c)) (T.map ent) i=some none
 | [],i,h=>rfl
 | t::T,i,h=>by
  obtain ⟨b,hb,hbt⟩:=eqC_c c t.1
  have hstep:findK Tryz.prog 28 (V.agg (clr c)) ((t::T).map ent) i=bif b then some (some (i,V.agg (clr t.1),V.sl (Id.m 0 t.2.2) 0 t.2.1.length)) else findK Tryz.prog 28 (V.agg (clr c)) (T.map ent) (i+1):=by
   show (eqC Tryz.prog 8 28 (V.agg (clr c)) (V.agg (clr t.1))).bind _=_
   rw [hb]
   rfl
  have hbf:b=false:=Bool.eq_false_iff.2 (fun g=>h (by rw [hbt.1 g]; simp))
  rw [hstep,hbf,cond_false]
  exact findC_not (i+1) (fun g=>h (List.mem_cons_of_mem _ g))
theorem trM_ent (tk:List Nat) (n0:Nat) (T:List Ow):trM tk 0 n0 (T.map ent)=T.map ent:=by
 unfold trM
 rw [List.map_map]
 exact List.map_congr_left fun t _=>rfl
theorem good_ent (tk:List Nat) (T:List Ow):(T.map ent).all (goodE tk 0 true)=true:=by
 rw [List.all_eq_true]
 intro x hx
 obtain ⟨t,_,rfl⟩:=List.mem_map.1 hx
 rfl
def AddO (T:List Ow) (c:Cl) (i:Nat) (T' : List Ow):Prop:=(∃ j t n,T[j]? = some t∧t.1=c∧T' = T.set j (c,t.2.1++[i],n))∨(¬ c∈T.map (·.1) ∧ ∃ n,T' = T++[(c,[i],n)])
theorem rep_set {T:List Ow} {es:List (V×V)} {ms:List (Option (List (List V)))} (h:Rep T es ms) {j:Nat} {t:Ow} (hj:T[j]? = some t) (i:Nat) (x:Option (List (List V))) :
  Rep (T.set j (t.1,t.2.1++[i],ms.length)) (trM [3,2] 0 ms.length (es.set j (V.agg (clr t.1),V.sl (Id.p 3) 0 (t.2.1.length+1)))) (ms.set t.2.2 none++[some (t.2.1.map rowI++[rowI i]),x]):=by
 have hlt : ∀ t∈T,t.2.2<ms.length:=fun t ht=>(List.getElem?_eq_some_iff.1 (h.mem t ht)).1
 have htm:=List.mem_of_getElem? hj
 have hjl:=(List.getElem?_eq_some_iff.1 hj).1
 refine ⟨?_,?_,?_,?_⟩
 ·rw [h.es,List.map_set]
  unfold trM
  rw [List.map_set]
  have:=trM_ent [3,2] ms.length T
  unfold trM at this
  rw [this]
  simp [ent,trMv,posOf]
 ·rw [List.map_set]
  rw [List.nodup_iff_pairwise_ne,List.pairwise_iff_getElem]
  intro a b ha hb hab
  simp only [List.length_set,List.length_map] at ha hb
  have hn:=List.pairwise_iff_getElem.1 (List.nodup_iff_pairwise_ne.1 h.ks)
  rw [List.getElem_set,List.getElem_set]
  have la:=hlt _ (List.getElem_mem ha)
  have lb:=hlt _ (List.getElem_mem hb)
  split <;> split
  ·omega
  ·simp only [List.getElem_map]; omega
  ·simp only [List.getElem_map]; omega
  ·exact hn a b (by simpa using ha) (by simpa using hb) hab
 ·intro u hu
  obtain ⟨a,ha⟩:=List.mem_iff_getElem?.1 hu
  rw [List.getElem?_set] at ha
  by_cases e:j=a
  ·subst e
   rw [if_pos rfl,if_pos hjl] at ha
   cases ha
   rw [List.getElem?_append_right (by simp)]
   simp
  ·rw [if_neg e] at ha
   have hum:=List.mem_of_getElem? ha
   have hne:t.2.2≠u.2.2:=fun he=>by
    obtain ⟨a1,a2⟩:=List.getElem?_eq_some_iff.1 ha
    obtain ⟨b1,b2⟩:=List.getElem?_eq_some_iff.1 hj
    have:=(List.getElem_inj (xs:=T.map (·.2.2)) (i:=j) (j:=a) (h₀:=by simpa using b1) (h₁:=by simpa using a1) h.ks).1 (by simp [a2,b2,he])
    exact e this
   rw [List.getElem?_append_left (by rw [List.length_set]; exact hlt u hum),List.getElem?_set,if_neg hne]
   exact h.mem u hum
 ·rw [List.map_set]
  have:(T.map (·.1)).set j t.1=T.map (·.1):=by
   apply List.ext_getElem?
   intro a
   rw [List.getElem?_set]
   by_cases e:j=a
   ·subst e
    rw [if_pos rfl,if_pos (by simpa using hjl),List.getElem?_map,hj]
    rfl
   ·rw [if_neg e]
  rw [this]
  exact h.cs
theorem rep_new {T:List Ow} {es:List (V×V)} {ms:List (Option (List (List V)))} (h:Rep T es ms) {c:Cl} (hc : ¬ c∈T.map (·.1)) (i:Nat) (x:Option (List (List V))) :
  Rep (T++[(c,[i],ms.length)]) (trM [3,2] 0 ms.length (es++[(V.agg (clr c),V.sl (Id.p 3) 0 1)])) (ms++[some [rowI i],x]):=by
 have hlt : ∀ t∈T,t.2.2<ms.length:=fun t ht=>(List.getElem?_eq_some_iff.1 (h.mem t ht)).1
 refine ⟨?_,?_,?_,?_⟩
 ·rw [h.es,List.map_append]
  have:=trM_ent [3,2] ms.length T
  unfold trM at this ⊢
  rw [List.map_append,this]
  simp [ent,trMv,posOf]
 ·rw [List.map_append,List.nodup_append]
  refine ⟨h.ks,by simp,fun a ha b hb=>?_⟩
  obtain ⟨t,ht,rfl⟩:=List.mem_map.1 ha
  simp at hb
  subst hb
  have:=hlt t ht
  omega
 ·intro u hu
  rcases List.mem_append.1 hu with hu | hu
  ·rw [List.getElem?_append_left (hlt u hu)]
   exact h.mem u hu
  ·simp at hu
   subst hu
   rw [List.getElem?_append_right (by simp)]
   simp
 ·rw [List.map_append,List.nodup_append]
  refine ⟨h.cs,by simp,fun a ha b hb=>?_⟩
  simp at hb
  subst hb
  exact fun e=>hc (e ▸ ha)
theorem own_add {T:List Ow} {es:List (V×V)} {ms:List (Option (List (List V)))} {c:Cl} {i:Nat} {nilP:Nat→V→V→Prop} {K:List (V×V)→List (Option (List (List V)))→Prop} (h:Rep T es ms) (hlen : ∀ t∈T,t.2.1.length≤1000000) (hK : ∀ T' es' ms', Rep T' es' ms' → AddO T c i T' → K es' ms') :
  onFind (findK Tryz.prog 28 (V.agg [iv c.1,iv c.2.1,iv c.2.2]) es 0) (fun i_1 kv vv=>guardB (sameC kv (V.agg [iv c.1,iv c.2.1,iv c.2.2])) (onMem 0 vv (nilP i_1 kv vv) fun j n_4=>onSome (memb ms j) fun es_2=>need ((n_4+1) * 8≤140737488355328) (onSome (es.set i_1 (V.agg [iv c.1,iv c.2.1,iv c.2.2],vv))[i_1]? fun kv=>guardB (((es.set i_1 (V.agg [iv c.1,iv c.2.1,iv c.2.2],vv)).set i_1 (kv.1,V.sl (Id.p 3) 0 (n_4+1))).all (goodE [3,2] 0 true)) (K (trM [3,2] 0 (ms.set j none).length ((es.set i_1 (V.agg [iv c.1,iv c.2.1,iv c.2.2],vv)).set i_1 (kv.1,V.sl (Id.p 3) 0 (n_4+1)))) (ms.set j none++[some (List.take n_4 es_2++[[iv (i:Int)]]),some [[iv (i:Int)]]])))))
   (onSome (es++[(V.agg [iv c.1,iv c.2.1,iv c.2.2],nilS)])[es.length]? fun kv=>guardB (((es++[(V.agg [iv c.1,iv c.2.1,iv c.2.2],nilS)]).set es.length (kv.1,V.sl (Id.p 3) 0 1)).all (goodE [3,2] 0 true)) (K (trM [3,2] 0 ms.length ((es++[(V.agg [iv c.1,iv c.2.1,iv c.2.2],nilS)]).set es.length (kv.1,V.sl (Id.p 3) 0 1))) (ms++[some [[iv (i:Int)]],some [[iv (i:Int)]]]))):=by
 have gd : ∀ {l:List (V×V)} {k:Nat} {n:Nat},l.all (goodE [3,2] 0 true)=true→(l.set k (V.agg (clr c),V.sl (Id.p 3) 0 n)).all (goodE [3,2] 0 true)=true:=fun {l k n} hl=>by
  rw [List.all_eq_true] at hl ⊢
  intro x hx
  rcases List.mem_or_eq_of_mem_set hx with hx | hx
  ·exact hl x hx
  ·subst hx; rfl
 have hgood:es.all (goodE [3,2] 0 true)=true:=by rw [h.es]; exact good_ent _ _
 by_cases hc:c∈T.map (·.1)
 ·obtain ⟨j,t,h1,h2,h3⟩:=findC_mem 0 hc
  rw [Nat.zero_add,← h.es] at h3
  subst h2
  have hjl:j<es.length:=by rw [h.es,List.length_map]; exact (List.getElem?_eq_some_iff.1 h1).1
  have htm:=List.mem_of_getElem? h1
  have hm:=h.mem t htm
  refine onFind_iff.2 (.inl ⟨j,_,_,h3,guardB_mk (by simp [sameC,sameRs,sameR,clr,iv]) ?_⟩)
  show onSome (memb ms t.2.2) _
  have hmb:memb ms t.2.2=some (t.2.1.map rowI):=by unfold memb; rw [hm]; rfl
  refine onSome_mk hmb (need_mk ⟨by have:=hlen t htm; omega,?_⟩)
  refine onSome_mk (x:=(V.agg (clr t.1),V.sl (Id.m 0 t.2.2) 0 t.2.1.length)) (by rw [List.getElem?_set,if_pos rfl,if_pos hjl]; rfl) ?_
  refine guardB_mk (by rw [List.set_set]; exact gd hgood) ?_
  rw [List.set_set,List.length_set]
  have htk:List.take t.2.1.length (t.2.1.map rowI)=t.2.1.map rowI:=by rw [List.take_of_length_le (by simp)]
  rw [htk]
  exact hK _ _ _ (rep_set h h1 i (some [rowI i])) (.inl ⟨j,t,_,h1,rfl,rfl⟩)
 ·refine onFind_iff.2 (.inr ⟨by rw [h.es]; exact findC_not 0 hc,?_⟩)
  have e1 : ∀ x:V×V,(es++[(V.agg (clr c),nilS)]).set es.length x=es++[x]:=fun x=>by rw [List.set_append_right _ _ (Nat.le_refl _),Nat.sub_self]; rfl
  refine onSome_mk (x:=(V.agg (clr c),nilS)) (by rw [List.getElem?_append_right (Nat.le_refl _),Nat.sub_self]; rfl) ?_
  have e2:=e1 (V.agg (clr c),V.sl (Id.p 3) 0 1)
  refine guardB_mk (by
   refine (congrArg (fun l=>List.all l (goodE [3,2] 0 true)) e2).trans ?_
   rw [List.all_append,hgood]
   rfl) ?_
  have hr:=rep_new h hc i (some [rowI i])
  rw [← e2] at hr
  exact hK _ _ _ hr (.inr ⟨hc,_,rfl⟩)
theorem hcO:cfO.ok Tryz.prog:=by
 have h:(cfgG Tryz.prog glX moD poP (rtP fN) (inN [107]) kpO).ok Tryz.prog:=cfgG_ok (rtP_ok fN)
 exact ⟨h.1,h.2⟩
abbrev Bdy:=List Cl×List Kn
noncomputable def cellsAt (l:List Bdy) (b:Nat):List Cl:=((l[b]?).map (·.1)).getD []
noncomputable def brs (l:List Bdy) (i:Nat) (c:Cl):List Nat:=(List.range i).filter fun b=>dc (c∈cellsAt l b)
def OwnI (l:List Bdy) (i:Nat) (x:List Cl) (k:Nat) (T:List Ow):Prop :=
 (∀ t∈T,t.2.1=brs l i t.1++(bif dc (t.1∈x.take k) then [i] else [])) ∧ ∀ c,((∃ b,b<i∧c∈cellsAt l b)∨c∈x.take k)→c∈T.map (·.1)
theorem own_len {l:List Bdy} {i k:Nat} {x:List Cl} {T:List Ow} (h:OwnI l i x k T) : ∀ t∈T,t.2.1.length≤i+1:=fun t ht=>by
 rw [h.1 t ht,List.length_append]
 have:(brs l i t.1).length≤i:=by
  have:=List.length_filter_le (fun b=>dc (t.1∈cellsAt l b)) (List.range i)
  unfold brs
  simpa using this
 cases dc (t.1∈x.take k) <;> simp <;> omega
theorem own_step {l:List Bdy} {i k:Nat} {x:List Cl} {T T' : List Ow} {c:Cl} (h:OwnI l i x k T) (hc:x[k]? = some c) (hn:x.Nodup) (ha:AddO T c i T') (hcs:(T.map (·.1)).Nodup):OwnI l i x (k+1) T' := by
 have ht:x.take (k+1)=x.take k++[c]:=take_succ' hc
 have hnot : ¬ c∈x.take k:=fun hm=>by
  obtain ⟨j,hj⟩:=List.mem_iff_getElem?.1 hm
  have hjk:j<k:=by
   have:=(List.getElem?_eq_some_iff.1 hj).1
   simp at this
   omega
  rw [List.getElem?_take,if_pos hjk] at hj
  obtain ⟨a1,a2⟩:=List.getElem?_eq_some_iff.1 hj
  obtain ⟨b1,b2⟩:=List.getElem?_eq_some_iff.1 hc
  have:=(List.getElem_inj (h₀:=a1) (h₁:=b1) hn).1 (by rw [a2,b2])
  omega
 have other : ∀ t∈T,t.1≠c→t.2.1=brs l i t.1++(bif dc (t.1∈x.take (k+1)) then [i] else []):=fun t htm hne=>by
  rw [h.1 t htm]
  have:dc (t.1∈x.take (k+1))=dc (t.1∈x.take k):=dc_iff (by rw [ht]; simp [hne])
  rw [this]
 have new:dc (c∈x.take (k+1))=true:=dc_t (by rw [ht]; simp)
 rcases ha with ⟨j,t,n,h1,h2,rfl⟩ | ⟨h1,n,rfl⟩
 ·subst h2
  have hjl:=(List.getElem?_eq_some_iff.1 h1).1
  constructor
  ·intro u hu
   obtain ⟨a,hau⟩:=List.mem_iff_getElem?.1 hu
   rw [List.getElem?_set] at hau
   by_cases e:j=a
   ·rw [if_pos e,if_pos hjl] at hau
    cases hau
    simp only
    rw [new,cond_true,h.1 t (List.mem_of_getElem? h1),dc_f hnot,cond_false,List.append_nil]
   ·rw [if_neg e] at hau
    refine other u (List.mem_of_getElem? hau) fun he=>e ?_
    obtain ⟨a1,a2⟩:=List.getElem?_eq_some_iff.1 hau
    obtain ⟨b1,b2⟩:=List.getElem?_eq_some_iff.1 h1
    exact (List.getElem_inj (xs:=T.map (·.1)) (i:=j) (j:=a) (h₀:=by simpa using b1) (h₁:=by simpa using a1) hcs).1 (by simp [a2,b2,he])
  ·intro d hd
   have hset:(T.set j (t.1,t.2.1++[i],n)).map (·.1)=T.map (·.1):=by
    rw [List.map_set]
    apply List.ext_getElem?
    intro a
    rw [List.getElem?_set]
    by_cases e:j=a
    ·subst e
     rw [if_pos rfl,if_pos (by simpa using hjl),List.getElem?_map,h1]
     rfl
    ·rw [if_neg e]
   rw [hset]
   rcases hd with hd | hd
   ·exact h.2 d (.inl hd)
   ·rw [ht] at hd
    rcases List.mem_append.1 hd with hd | hd
    ·exact h.2 d (.inr hd)
    ·rw [List.mem_singleton.1 hd]
     exact List.mem_map.2 ⟨t,List.mem_of_getElem? h1,rfl⟩
 ·constructor
  ·intro u hu
   rcases List.mem_append.1 hu with hu | hu
   ·exact other u hu fun he=>h1 (he ▸ List.mem_map.2 ⟨u,hu,rfl⟩)
   ·rw [List.mem_singleton.1 hu]
    simp only
    rw [new,cond_true]
    have:brs l i c=[]:=by
     unfold brs
     rw [List.filter_eq_nil_iff]
     intro b hb hb2
     exact h1 (h.2 c (.inl ⟨b,List.mem_range.1 hb,dc_true hb2⟩))
    rw [this]
    rfl
  ·intro d hd
   rw [List.map_append]
   rcases hd with hd | hd
   ·exact List.mem_append.2 (.inl (h.2 d (.inl hd)))
   ·rw [ht] at hd
    rcases List.mem_append.1 hd with hd | hd
    ·exact List.mem_append.2 (.inl (h.2 d (.inr hd)))
    ·exact List.mem_append.2 (.inr (by simpa using hd))
theorem own_next {l:List Bdy} {i:Nat} {b:Bdy} {T:List Ow} (hb:l[i]? = some b) (h:OwnI l i b.1 b.1.length T):OwnI l (i+1) [] 0 T:=by
 have hx:cellsAt l i=b.1:=by unfold cellsAt; rw [hb]; rfl
 have e:b.1.take b.1.length=b.1:=List.take_length
 constructor
 ·intro t ht
  rw [h.1 t ht,e]
  unfold brs
  rw [List.range_succ,List.filter_append,List.filter_cons,hx]
  cases dc (t.1∈b.1) <;> simp [dc]
 ·intro c hc
  rcases hc with ⟨j,hj,hj2⟩ | hc
  ·rcases Nat.lt_succ_iff_lt_or_eq.1 hj with g | g
   ·exact h.2 c (.inl ⟨j,g,hj2⟩)
   ·subst g
    rw [hx] at hj2
    exact h.2 c (.inr (by rw [e]; exact hj2))
  ·simp at hc
theorem own_start {l:List Bdy} {i:Nat} {x:List Cl} {T:List Ow} (h:OwnI l i [] 0 T):OwnI l i x 0 T:=⟨fun t ht=>by rw [h.1 t ht]; simp,fun c hc=>h.2 c (by simpa using hc)⟩
set_option maxRecDepth 100000
def prl (ps:List (Nat×Nat)):List (List V):=ps.map fun p=>[iv (p.1:Int),iv (p.2:Int)]
noncomputable def oNa (l:List (List Cl×List Kn)) (es:List (V×V)) (ms:List (Option (List (List V)))) (m i:Nat):St:=⟨mkT [(0,V.lst 2 (bdl l)),(3,V.mp (Id.p 0)),(4,nilS),(14,V.lst 2 (bdl l)),(15,iv (m:Int)),(16,iv (i:Int))],⟨[(0,O.mp es)],1,[(0,Fam.mk 1 ms)]⟩⟩
noncomputable def oSa (l:List (List Cl×List Kn)) (ps:List (Nat×Nat)) (es:List (V×V)) (ms:List (Option (List (List V)))) (q m i:Nat):St:=⟨mkT [(0,V.lst 2 (bdl l)),(3,V.mp (Id.p 0)),(4,V.sl (Id.p 1) 0 q),(14,V.lst 2 (bdl l)),(15,iv (m:Int)),(16,iv (i:Int))],⟨[(0,O.mp es),(1,O.rows 2 true (prl ps))],2,[(0,Fam.mk 1 ms)]⟩⟩
noncomputable def oNb (l:List (List Cl×List Kn)) (x:List Cl) (cm:List V) (es:List (V×V)) (ms:List (Option (List (List V)))) (m i n k:Nat):St:=⟨mkT [(0,V.lst 2 (bdl l)),(3,V.mp (Id.p 0)),(4,nilS),(5,iv (i:Int)),(6,V.ptr (Id.p 1) 0 0),(14,V.lst 2 (bdl l)),(15,iv (m:Int)),(16,iv (i:Int)),(23,V.lst 3 (cll x)),(24,iv (n:Int)),(25,iv (k:Int))],⟨[(0,O.mp es),(1,O.rows 40 true [cm])],2,[(0,Fam.mk 1 ms)]⟩⟩
noncomputable def oSb (l:List (List Cl×List Kn)) (x:List Cl) (cm:List V) (ps:List (Nat×Nat)) (es:List (V×V)) (ms:List (Option (List (List V)))) (q m i n k:Nat):St:=⟨mkT [(0,V.lst 2 (bdl l)),(3,V.mp (Id.p 0)),(4,V.sl (Id.p 1) 0 q),(5,iv (i:Int)),(6,V.ptr (Id.p 2) 0 0),(14,V.lst 2 (bdl l)),(15,iv (m:Int)),(16,iv (i:Int)),(23,V.lst 3 (cll x)),(24,iv (n:Int)),(25,iv (k:Int))],⟨[(0,O.mp es),(1,O.rows 2 true (prl ps)),(2,O.rows 40 true [cm])],3,[(0,Fam.mk 1 ms)]⟩⟩
noncomputable def oNc (l:List (List Cl×List Kn)) (x:List Cl) (cm:List V) (es:List (V×V)) (ms:List (Option (List (List V)))) (m i n k j w z:Nat):St:=⟨mkT [(0,V.lst 2 (bdl l)),(3,V.mp (Id.p 0)),(4,nilS),(5,iv (i:Int)),(6,V.ptr (Id.p 1) 0 0),(14,V.lst 2 (bdl l)),(15,iv (m:Int)),(16,iv (i:Int)),(23,V.lst 3 (cll x)),(24,iv (n:Int)),(25,iv (k:Int)),(31,V.sl (Id.m 0 j) 0 w),(32,iv (w:Int)),(33,iv (z:Int))],⟨[(0,O.mp es),(1,O.rows 40 true [cm])],2,[(0,Fam.mk 1 ms)]⟩⟩
noncomputable def oSc (l:List (List Cl×List Kn)) (x:List Cl) (cm:List V) (ps:List (Nat×Nat)) (es:List (V×V)) (ms:List (Option (List (List V)))) (q m i n k j w z:Nat):St:=⟨mkT [(0,V.lst 2 (bdl l)),(3,V.mp (Id.p 0)),(4,V.sl (Id.p 1) 0 q),(5,iv (i:Int)),(6,V.ptr (Id.p 2) 0 0),(14,V.lst 2 (bdl l)),(15,iv (m:Int)),(16,iv (i:Int)),(23,V.lst 3 (cll x)),(24,iv (n:Int)),(25,iv (k:Int)),(31,V.sl (Id.m 0 j) 0 w),(32,iv (w:Int)),(33,iv (z:Int))],⟨[(0,O.mp es),(1,O.rows 2 true (prl ps)),(2,O.rows 40 true [cm])],3,[(0,Fam.mk 1 ms)]⟩⟩
noncomputable def oNd (l:List (List Cl×List Kn)) (cm:List V) (es:List (V×V)) (ms:List (Option (List (List V)))) (m i o:Nat):St:=⟨mkT [(0,V.lst 2 (bdl l)),(3,V.mp (Id.p 0)),(4,nilS),(5,iv (i:Int)),(6,V.ptr (Id.p 1) 0 0),(11,iv (o:Int)),(14,V.lst 2 (bdl l)),(15,iv (m:Int)),(16,iv (i:Int))],⟨[(0,O.mp es),(1,O.rows 40 true [cm])],2,[(0,Fam.mk 1 ms)]⟩⟩
noncomputable def oSd (l:List (List Cl×List Kn)) (cm:List V) (ps:List (Nat×Nat)) (es:List (V×V)) (ms:List (Option (List (List V)))) (q m i o:Nat):St:=⟨mkT [(0,V.lst 2 (bdl l)),(3,V.mp (Id.p 0)),(4,V.sl (Id.p 1) 0 q),(5,iv (i:Int)),(6,V.ptr (Id.p 2) 0 0),(11,iv (o:Int)),(14,V.lst 2 (bdl l)),(15,iv (m:Int)),(16,iv (i:Int))],⟨[(0,O.mp es),(1,O.rows 2 true (prl ps)),(2,O.rows 40 true [cm])],3,[(0,Fam.mk 1 ms)]⟩⟩
set_option maxRecDepth 10000
noncomputable def cmV (P:Nat→Prop):List V:=(List.range 40).map fun o=>bv (dc (P o))
theorem cmV_length (P:Nat→Prop):(cmV P).length=40:=by simp [cmV]
theorem cmV_ext {P Q:Nat→Prop} (h : ∀ o,P o↔Q o):cmV P=cmV Q:=by
 have:P=Q:=funext fun o=>propext (h o)
 rw [this]
theorem cmV_get {P:Nat→Prop} {o:Nat} (ho:o<40):(cmV P)[0+o * 1]? = some (bv (dc (P o))):=by
 rw [Nat.zero_add,Nat.mul_one]
 simp [cmV,ho]
theorem cmV_zero:cmV (fun _=>False)=List.replicate 40 (bv false):=by
 unfold cmV
 rw [List.map_congr_left (g:=fun _=>bv false) (fun o _=>by rw [dc_f (fun h=>h)])]
 simp [List.map_const']
theorem cmV_set {P:Nat→Prop} {b:Nat} (hb:b<40):List.take (0+b * 1) (cmV P)++[bv true]++List.drop (0+b * 1+1) (cmV P)=cmV fun o=>P o∨o=b:=by
 rw [Nat.zero_add,Nat.mul_one]
 have h1:List.take b (cmV P)++[bv true]++List.drop (b+1) (cmV P)=(cmV P).set b (bv true):=by
  rw [List.set_eq_take_append_cons_drop,if_pos (by rw [cmV_length]; exact hb)]
  simp
 rw [h1]
 apply List.ext_getElem?
 intro o
 rw [List.getElem?_set]
 by_cases ho:o<40
 ·by_cases e:b=o
  ·subst e
   rw [if_pos rfl,if_pos (by rw [cmV_length]; exact hb)]
   simp only [cmV,List.getElem?_map,List.getElem?_range ho,Option.map_some]
   rw [dc_t (p:=P b∨True) (.inr trivial)]
  ·rw [if_neg e]
   simp only [cmV,List.getElem?_map,List.getElem?_range ho,Option.map_some]
   rw [dc_iff (p:=P o) (q:=P o∨o=b) ⟨.inl,fun h=>h.resolve_right (fun g=>e g.symm)⟩]
 ·rw [if_neg (by omega)]
  simp [cmV,ho]
def Comm (l:List Bdy) (b o:Nat):Prop := ∃ c,c∈cellsAt l b∧c∈cellsAt l o
noncomputable def inn (l:List Bdy) (i n:Nat):List (Nat×Nat):=((List.range n).filter fun o=>decide (i<o)&&dc (Comm l i o)).map fun o=>(i,o)
noncomputable def ovl (l:List Bdy) (i:Nat):List (Nat×Nat):=(List.range i).flatMap fun b=>inn l b l.length
theorem ovl_succ (l:List Bdy) (i:Nat):ovl l (i+1)=ovl l i++inn l i l.length:=by
 unfold ovl
 rw [List.range_succ,List.flatMap_append]
 simp
theorem inn_start (l:List Bdy) (i:Nat):inn l i (i+1)=[]:=by
 unfold inn
 rw [List.map_eq_nil_iff,List.filter_eq_nil_iff]
 intro o ho
 have:=List.mem_range.1 ho
 have h:decide (i<o)=false:=by simp; omega
 rw [h]
 simp
theorem inn_succ {l:List Bdy} {i n:Nat} (h:i<n):inn l i (n+1)=if dc (Comm l i n)=true then inn l i n++[(i,n)] else inn l i n:=by
 unfold inn
 rw [List.range_succ,List.filter_append,List.filter_cons]
 have h' : decide (i<n)=true:=by simpa using h
 rw [h']
 cases dc (Comm l i n) <;> simp
theorem own_find {l:List Bdy} {T:List Ow} {m:Nat} {c:Cl} (ho:OwnI l m [] 0 T) {b:Nat} (hb:b<m) (hc:c∈cellsAt l b):c∈T.map (·.1):=ho.2 c (.inl ⟨b,hb,hc⟩)
theorem own_brs {l:List Bdy} {T:List Ow} {m:Nat} (ho:OwnI l m [] 0 T) {t:Ow} (ht:t∈T):t.2.1=brs l m t.1:=by
 rw [ho.1 t ht]
 have:dc (t.1∈([]:List Cl).take 0)=false:=dc_f (by simp)
 rw [this]
 simp
def Mk (l:List Bdy) (x:List Cl) (k:Nat) (o:Nat):Prop := ∃ c,c∈x.take k∧c∈cellsAt l o
theorem mk_succ {l:List Bdy} {x:List Cl} {k:Nat} {c:Cl} (hc:x[k]? = some c) (m:Nat) (hm : ∀ o,c∈cellsAt l o→o<m) (o:Nat):(Mk l x k o∨o∈brs l m c)↔Mk l x (k+1) o:=by
 have ht:x.take (k+1)=x.take k++[c]:=take_succ' hc
 unfold Mk brs
 rw [ht,List.mem_filter,List.mem_range]
 constructor
 ·rintro (⟨d,h1,h2⟩ | ⟨h1,h2⟩)
  ·exact ⟨d,by simp [h1],h2⟩
  ·exact ⟨c,by simp,dc_true h2⟩
 ·rintro ⟨d,h1,h2⟩
  rcases List.mem_append.1 h1 with h1 | h1
  ·exact .inl ⟨d,h1,h2⟩
  ·rw [List.mem_singleton.1 h1] at h2
   exact .inr ⟨hm o h2,dc_t h2⟩
theorem cellsAt_lt {l:List Bdy} {o:Nat} {c:Cl} (h:c∈cellsAt l o):o<l.length:=by
 unfold cellsAt at h
 rcases Nat.lt_or_ge o l.length with g | g
 ·exact g
 ·rw [List.getElem?_eq_none g] at h
  simp at h
theorem own106 {l:List Bdy} {R:V→Prop} (hl:l.length≤40) (hl30 : ∀ b∈l,b.1.length≤1000) (hn : ∀ b∈l,b.1.Nodup) (rest : ∀ (T:List Ow) (es:List (V×V)) (ms:List (Option (List (List V)))),Rep T es ms→OwnI l l.length [] 0 T→La 0 [(0:Tmp),(3:Tmp),(4:Tmp),(14:Tmp),(15:Tmp),(16:Tmp),(1000001:Tmp),(4000003:Tmp)] (WY Tryz.prog cfO 2993 (Env.mk (Bs.mk 0 []) 0 none 60 106 0) (cdAt [1,1,1,0,1,0,0] (bodyOf Tryz.f106))) (Qblk 0 (Qthen (WY Tryz.prog cfO 2996 (Env.mk (Bs.mk 0 []) 0 none 60 106 0) (cdAt [1,1,1,1] (bodyOf Tryz.f106)) (QendX Tryz.prog Tryz.f106 fun v h=>R (frzW h v))) (QendX Tryz.prog Tryz.f106 fun v h=>R (frzW h v)))) (St.mk (mkT [(0,V.lst 2 (bdl l)),(3,V.mp (Id.p 0)),(4,nilS),(14,V.lst 2 (bdl l)),(15,iv (↑(bdl l).length:Int)),(16,iv (0:Int))]) (Hp.mk [(0,O.mp (trM [] 0 ms.length es))] 1 [(0,Fam.mk 1 (ms++[]))]))):K0G Tryz.prog glX 106 [.lst 2 (bdl l)] R:=by
 refine K0_by hmX hcO 3000 Tryz.func106 (p := La 0 [(3 : Tmp), (9 : Tmp), (10 : Tmp), (11 : Tmp), (1000001 : Tmp), (4000003 : Tmp)] (WY Tryz.prog cfO 2991 (Env.mk (Bs.mk 0 (spared [] [V.lst 2 (bdl l)] ++ [])) 0 none 34 107 0) (cdAt [1, 1, 0, 1, 0, 0] (bodyOf Tryz.f107))) (Qblk 0 (Qthen (WY Tryz.prog cfO 2994 (Env.mk (cfO.baseOf (Bs.mk 0 []) 107 [V.lst 2 (bdl l)] (Hp.mk [] 0 [])) 0 none 34 107 0) (cdAt [1, 1, 1] (bodyOf Tryz.f107)) (QendX Tryz.prog Tryz.f107 fun v h' => (fun v h => fzNew (callY Tryz.prog cfO (WY Tryz.prog cfO 2997) (Env.mk (Bs.mk 0 []) 0 none Tryz.f106.ntmps (106 : FuncId) 0).base (Env.mk (Bs.mk 0 []) 0 none Tryz.f106.ntmps (106 : FuncId) 0).fid) 0 (Oper.mk (some 13) (Op.call (Call.mk (Callee.value (Operand.func 107)) #[Operand.tmp 12] #[129])) 169 "model.go:52" #[Edge.mk 0 Ground.data] none) v h fun v h => putT (Env.mk (Bs.mk 0 []) 0 none Tryz.f106.ntmps (106 : FuncId) 0).N (mkT [(0, V.lst 2 (bdl l)), (2, nilS), (12, V.lst 2 (bdl l))]) (Oper.mk (some 13) (Op.call (Call.mk (Callee.value (Operand.func 107)) #[Operand.tmp 12] #[129])) 169 "model.go:52" #[Edge.mk 0 Ground.data] none).dst v fun tm => (fun st => fzOld (callY Tryz.prog cfO (WY Tryz.prog cfO 2997) (Env.mk (Bs.mk 0 []) 0 none Tryz.f106.ntmps (106 : FuncId) 0).base (Env.mk (Bs.mk 0 []) 0 none Tryz.f106.ntmps (106 : FuncId) 0).fid) (askY cfO (Env.mk (Bs.mk 0 []) 0 none Tryz.f106.ntmps (106 : FuncId) 0).base) (Oper.mk (some 13) (Op.call (Call.mk (Callee.value (Operand.func 107)) #[Operand.tmp 12] #[129])) 169 "model.go:52" #[Edge.mk 0 Ground.data] none) st fun st => wOps Tryz.prog (callY Tryz.prog cfO (WY Tryz.prog cfO 2997) (Env.mk (Bs.mk 0 []) 0 none Tryz.f106.ntmps (106 : FuncId) 0).base (Env.mk (Bs.mk 0 []) 0 none Tryz.f106.ntmps (106 : FuncId) 0).fid) (askY cfO (Env.mk (Bs.mk 0 []) 0 none Tryz.f106.ntmps (106 : FuncId) 0).base) (Env.mk (Bs.mk 0 []) 0 none Tryz.f106.ntmps (106 : FuncId) 0).N #[Oper.mk (some 12) (Op.move (Operand.tmp 0)) 129 "model.go:52" #[] none, Oper.mk (some 13) (Op.call (Call.mk (Callee.value (Operand.func 107)) #[Operand.tmp 12] #[129])) 169 "model.go:52" #[Edge.mk 0 Ground.data] none, Oper.mk (some 3) (Op.assign (Operand.tmp 13)) 169 "model.go:52" #[Edge.mk 1 Ground.data, Edge.mk 1 Ground.chain, Edge.mk 0 Ground.phase, Edge.mk 1 Ground.phase] none].toList [Oper.mk (some 3) (Op.assign (Operand.tmp 13)) 169 "model.go:52" #[Edge.mk 1 Ground.data, Edge.mk 1 Ground.chain, Edge.mk 0 Ground.phase, Edge.mk 1 Ground.phase] none] st (Qthen (WY Tryz.prog cfO 2998 (Env.mk (Bs.mk 0 []) 0 none 60 106 0) (cdAt [1, 1] (bodyOf Tryz.f106)) (QendX Tryz.prog Tryz.f106 fun v h => R (frzW h v))) (QendX Tryz.prog Tryz.f106 fun v h => R (frzW h v)) Ex.norm)) (St.mk tm h)) v (bif cfO.clean 107 then gcH 0 v h' else h'))) (QendX Tryz.prog Tryz.f107 fun v h' => (fun v h => fzNew (callY Tryz.prog cfO (WY Tryz.prog cfO 2997) (Env.mk (Bs.mk 0 []) 0 none Tryz.f106.ntmps (106 : FuncId) 0).base (Env.mk (Bs.mk 0 []) 0 none Tryz.f106.ntmps (106 : FuncId) 0).fid) 0 (Oper.mk (some 13) (Op.call (Call.mk (Callee.value (Operand.func 107)) #[Operand.tmp 12] #[129])) 169 "model.go:52" #[Edge.mk 0 Ground.data] none) v h fun v h => putT (Env.mk (Bs.mk 0 []) 0 none Tryz.f106.ntmps (106 : FuncId) 0).N (mkT [(0, V.lst 2 (bdl l)), (2, nilS), (12, V.lst 2 (bdl l))]) (Oper.mk (some 13) (Op.call (Call.mk (Callee.value (Operand.func 107)) #[Operand.tmp 12] #[129])) 169 "model.go:52" #[Edge.mk 0 Ground.data] none).dst v fun tm => (fun st => fzOld (callY Tryz.prog cfO (WY Tryz.prog cfO 2997) (Env.mk (Bs.mk 0 []) 0 none Tryz.f106.ntmps (106 : FuncId) 0).base (Env.mk (Bs.mk 0 []) 0 none Tryz.f106.ntmps (106 : FuncId) 0).fid) (askY cfO (Env.mk (Bs.mk 0 []) 0 none Tryz.f106.ntmps (106 : FuncId) 0).base) (Oper.mk (some 13) (Op.call (Call.mk (Callee.value (Operand.func 107)) #[Operand.tmp 12] #[129])) 169 "model.go:52" #[Edge.mk 0 Ground.data] none) st fun st => wOps Tryz.prog (callY Tryz.prog cfO (WY Tryz.prog cfO 2997) (Env.mk (Bs.mk 0 []) 0 none Tryz.f106.ntmps (106 : FuncId) 0).base (Env.mk (Bs.mk 0 []) 0 none Tryz.f106.ntmps (106 : FuncId) 0).fid) (askY cfO (Env.mk (Bs.mk 0 []) 0 none Tryz.f106.ntmps (106 : FuncId) 0).base) (Env.mk (Bs.mk 0 []) 0 none Tryz.f106.ntmps (106 : FuncId) 0).N #[Oper.mk (some 12) (Op.move (Operand.tmp 0)) 129 "model.go:52" #[] none, Oper.mk (some 13) (Op.call (Call.mk (Callee.value (Operand.func 107)) #[Operand.tmp 12] #[129])) 169 "model.go:52" #[Edge.mk 0 Ground.data] none, Oper.mk (some 3) (Op.assign (Operand.tmp 13)) 169 "model.go:52" #[Edge.mk 1 Ground.data, Edge.mk 1 Ground.chain, Edge.mk 0 Ground.phase, Edge.mk 1 Ground.phase] none].toList [Oper.mk (some 3) (Op.assign (Operand.tmp 13)) 169 "model.go:52" #[Edge.mk 1 Ground.data, Edge.mk 1 Ground.chain, Edge.mk 0 Ground.phase, Edge.mk 1 Ground.phase] none] st (Qthen (WY Tryz.prog cfO 2998 (Env.mk (Bs.mk 0 []) 0 none 60 106 0) (cdAt [1, 1] (bodyOf Tryz.f106)) (QendX Tryz.prog Tryz.f106 fun v h => R (frzW h v))) (QendX Tryz.prog Tryz.f106 fun v h => R (frzW h v)) Ex.norm)) (St.mk tm h)) v (bif cfO.clean 107 then gcH 0 v h' else h')))) (St.mk (mkT [(3, V.mp (Id.p 0)), (9, V.lst 2 (bdl l)), (10, iv (↑(bdl l).length : Int)), (11, iv (0 : Int))]) (Hp.mk [(0, O.mp [])] 1 [(0, Fam.mk 1 ([] ++ []))]))) (by kernel_rfl) ?_
 obtain ⟨m,hm⟩ : ∃ m,m=(bdl l).length:=⟨_,rfl⟩
 rw [← hm]
 have hml:m=l.length:=by rw [hm]; simp [bdl]
 have r0:Rep [] [] []:=⟨rfl,List.Pairwise.nil,(fun t ht=>(by cases ht)),List.Pairwise.nil⟩
 have o0:OwnI l 0 [] 0 []:=by
  refine ⟨fun t ht=>(by cases ht),fun c hc=>?_⟩
  rcases hc with ⟨b,hb,_⟩ | hc
  ·omega
  ·simp at hc
 refine La.of (σ:=Nat×List (V×V)×List (Option (List (List V)))) (fun s=>sh107a l s.2.1 s.2.2 m s.1) (fun s=>s.1≤m ∧ ∃ T,Rep T s.2.1 s.2.2∧OwnI l s.1 [] 0 T) (fun s=>m - s.1) (0,[],[]) (by kernel_rfl) ⟨by omega,[],r0,o0⟩ ?_
 rintro ⟨i,es,ms⟩ ⟨g1,T,hr,ho⟩ J hJ
 simp only at g1 hr ho
 refine see (p := ifB (decide ((↑i : Int) < (↑m : Int))) (onSome (bdl l)[i]? fun row => onCons (List.drop 0 row) fun u r => onLst u fun s es_1 => onCons r fun u r => onLst u fun s_1 es_2 => guardB (es.all (goodE [] 0 true)) (La 0 [(3 : Tmp), (4 : Tmp), (9 : Tmp), (10 : Tmp), (11 : Tmp), (17 : Tmp), (18 : Tmp), (19 : Tmp), (1000001 : Tmp), (4000003 : Tmp)] (WY Tryz.prog cfO 2983 (Env.mk (Bs.mk 0 (spared [] [V.lst 2 (bdl l)] ++ [])) 0 none 34 107 2) (cdAt [1, 1, 0, 1, 0, 0, 1, 1, 0, 0, 1, 1, 0, 0] (bodyOf Tryz.f107))) (Qblk 2 (Qblk 1 (Qthen (WY Tryz.prog cfO 2988 (Env.mk (Bs.mk 0 (spared [] [V.lst 2 (bdl l)] ++ [])) 0 none 34 107 0) (cdAt [1, 1, 0, 1, 0, 0, 1, 1, 1] (bodyOf Tryz.f107)) (Qla 0 [(3 : Tmp), (9 : Tmp), (10 : Tmp), (11 : Tmp), (1000001 : Tmp), (4000003 : Tmp)] J (Qblk 0 (Qthen (WY Tryz.prog cfO 2994 (Env.mk (cfO.baseOf (Bs.mk 0 []) 107 [V.lst 2 (bdl l)] (Hp.mk [] 0 [])) 0 none 34 107 0) (cdAt [1, 1, 1] (bodyOf Tryz.f107)) (QendX Tryz.prog Tryz.f107 fun v h' => (fun v h => fzNew (callY Tryz.prog cfO (WY Tryz.prog cfO 2997) (Env.mk (Bs.mk 0 []) 0 none Tryz.f106.ntmps (106 : FuncId) 0).base (Env.mk (Bs.mk 0 []) 0 none Tryz.f106.ntmps (106 : FuncId) 0).fid) 0 (Oper.mk (some 13) (Op.call (Call.mk (Callee.value (Operand.func 107)) #[Operand.tmp 12] #[129])) 169 "model.go:52" #[Edge.mk 0 Ground.data] none) v h fun v h => putT (Env.mk (Bs.mk 0 []) 0 none Tryz.f106.ntmps (106 : FuncId) 0).N (mkT [(0, V.lst 2 (bdl l)), (2, nilS), (12, V.lst 2 (bdl l))]) (Oper.mk (some 13) (Op.call (Call.mk (Callee.value (Operand.func 107)) #[Operand.tmp 12] #[129])) 169 "model.go:52" #[Edge.mk 0 Ground.data] none).dst v fun tm => (fun st => fzOld (callY Tryz.prog cfO (WY Tryz.prog cfO 2997) (Env.mk (Bs.mk 0 []) 0 none Tryz.f106.ntmps (106 : FuncId) 0).base (Env.mk (Bs.mk 0 []) 0 none Tryz.f106.ntmps (106 : FuncId) 0).fid) (askY cfO (Env.mk (Bs.mk 0 []) 0 none Tryz.f106.ntmps (106 : FuncId) 0).base) (Oper.mk (some 13) (Op.call (Call.mk (Callee.value (Operand.func 107)) #[Operand.tmp 12] #[129])) 169 "model.go:52" #[Edge.mk 0 Ground.data] none) st fun st => wOps Tryz.prog (callY Tryz.prog cfO (WY Tryz.prog cfO 2997) (Env.mk (Bs.mk 0 []) 0 none Tryz.f106.ntmps (106 : FuncId) 0).base (Env.mk (Bs.mk 0 []) 0 none Tryz.f106.ntmps (106 : FuncId) 0).fid) (askY cfO (Env.mk (Bs.mk 0 []) 0 none Tryz.f106.ntmps (106 : FuncId) 0).base) (Env.mk (Bs.mk 0 []) 0 none Tryz.f106.ntmps (106 : FuncId) 0).N #[Oper.mk (some 12) (Op.move (Operand.tmp 0)) 129 "model.go:52" #[] none, Oper.mk (some 13) (Op.call (Call.mk (Callee.value (Operand.func 107)) #[Operand.tmp 12] #[129])) 169 "model.go:52" #[Edge.mk 0 Ground.data] none, Oper.mk (some 3) (Op.assign (Operand.tmp 13)) 169 "model.go:52" #[Edge.mk 1 Ground.data, Edge.mk 1 Ground.chain, Edge.mk 0 Ground.phase, Edge.mk 1 Ground.phase] none].toList [Oper.mk (some 3) (Op.assign (Operand.tmp 13)) 169 "model.go:52" #[Edge.mk 1 Ground.data, Edge.mk 1 Ground.chain, Edge.mk 0 Ground.phase, Edge.mk 1 Ground.phase] none] st (Qthen (WY Tryz.prog cfO 2998 (Env.mk (Bs.mk 0 []) 0 none 60 106 0) (cdAt [1, 1] (bodyOf Tryz.f106)) (QendX Tryz.prog Tryz.f106 fun v h => R (frzW h v))) (QendX Tryz.prog Tryz.f106 fun v h => R (frzW h v)) Ex.norm)) (St.mk tm h)) v (bif cfO.clean 107 then gcH 0 v h' else h'))) (QendX Tryz.prog Tryz.f107 fun v h' => (fun v h => fzNew (callY Tryz.prog cfO (WY Tryz.prog cfO 2997) (Env.mk (Bs.mk 0 []) 0 none Tryz.f106.ntmps (106 : FuncId) 0).base (Env.mk (Bs.mk 0 []) 0 none Tryz.f106.ntmps (106 : FuncId) 0).fid) 0 (Oper.mk (some 13) (Op.call (Call.mk (Callee.value (Operand.func 107)) #[Operand.tmp 12] #[129])) 169 "model.go:52" #[Edge.mk 0 Ground.data] none) v h fun v h => putT (Env.mk (Bs.mk 0 []) 0 none Tryz.f106.ntmps (106 : FuncId) 0).N (mkT [(0, V.lst 2 (bdl l)), (2, nilS), (12, V.lst 2 (bdl l))]) (Oper.mk (some 13) (Op.call (Call.mk (Callee.value (Operand.func 107)) #[Operand.tmp 12] #[129])) 169 "model.go:52" #[Edge.mk 0 Ground.data] none).dst v fun tm => (fun st => fzOld (callY Tryz.prog cfO (WY Tryz.prog cfO 2997) (Env.mk (Bs.mk 0 []) 0 none Tryz.f106.ntmps (106 : FuncId) 0).base (Env.mk (Bs.mk 0 []) 0 none Tryz.f106.ntmps (106 : FuncId) 0).fid) (askY cfO (Env.mk (Bs.mk 0 []) 0 none Tryz.f106.ntmps (106 : FuncId) 0).base) (Oper.mk (some 13) (Op.call (Call.mk (Callee.value (Operand.func 107)) #[Operand.tmp 12] #[129])) 169 "model.go:52" #[Edge.mk 0 Ground.data] none) st fun st => wOps Tryz.prog (callY Tryz.prog cfO (WY Tryz.prog cfO 2997) (Env.mk (Bs.mk 0 []) 0 none Tryz.f106.ntmps (106 : FuncId) 0).base (Env.mk (Bs.mk 0 []) 0 none Tryz.f106.ntmps (106 : FuncId) 0).fid) (askY cfO (Env.mk (Bs.mk 0 []) 0 none Tryz.f106.ntmps (106 : FuncId) 0).base) (Env.mk (Bs.mk 0 []) 0 none Tryz.f106.ntmps (106 : FuncId) 0).N #[Oper.mk (some 12) (Op.move (Operand.tmp 0)) 129 "model.go:52" #[] none, Oper.mk (some 13) (Op.call (Call.mk (Callee.value (Operand.func 107)) #[Operand.tmp 12] #[129])) 169 "model.go:52" #[Edge.mk 0 Ground.data] none, Oper.mk (some 3) (Op.assign (Operand.tmp 13)) 169 "model.go:52" #[Edge.mk 1 Ground.data, Edge.mk 1 Ground.chain, Edge.mk 0 Ground.phase, Edge.mk 1 Ground.phase] none].toList [Oper.mk (some 3) (Op.assign (Operand.tmp 13)) 169 "model.go:52" #[Edge.mk 1 Ground.data, Edge.mk 1 Ground.chain, Edge.mk 0 Ground.phase, Edge.mk 1 Ground.phase] none] st (Qthen (WY Tryz.prog cfO 2998 (Env.mk (Bs.mk 0 []) 0 none 60 106 0) (cdAt [1, 1] (bodyOf Tryz.f106)) (QendX Tryz.prog Tryz.f106 fun v h => R (frzW h v))) (QendX Tryz.prog Tryz.f106 fun v h => R (frzW h v)) Ex.norm)) (St.mk tm h)) v (bif cfO.clean 107 then gcH 0 v h' else h')))))) (Qla 0 [(3 : Tmp), (9 : Tmp), (10 : Tmp), (11 : Tmp), (1000001 : Tmp), (4000003 : Tmp)] J (Qblk 0 (Qthen (WY Tryz.prog cfO 2994 (Env.mk (cfO.baseOf (Bs.mk 0 []) 107 [V.lst 2 (bdl l)] (Hp.mk [] 0 [])) 0 none 34 107 0) (cdAt [1, 1, 1] (bodyOf Tryz.f107)) (QendX Tryz.prog Tryz.f107 fun v h' => (fun v h => fzNew (callY Tryz.prog cfO (WY Tryz.prog cfO 2997) (Env.mk (Bs.mk 0 []) 0 none Tryz.f106.ntmps (106 : FuncId) 0).base (Env.mk (Bs.mk 0 []) 0 none Tryz.f106.ntmps (106 : FuncId) 0).fid) 0 (Oper.mk (some 13) (Op.call (Call.mk (Callee.value (Operand.func 107)) #[Operand.tmp 12] #[129])) 169 "model.go:52" #[Edge.mk 0 Ground.data] none) v h fun v h => putT (Env.mk (Bs.mk 0 []) 0 none Tryz.f106.ntmps (106 : FuncId) 0).N (mkT [(0, V.lst 2 (bdl l)), (2, nilS), (12, V.lst 2 (bdl l))]) (Oper.mk (some 13) (Op.call (Call.mk (Callee.value (Operand.func 107)) #[Operand.tmp 12] #[129])) 169 "model.go:52" #[Edge.mk 0 Ground.data] none).dst v fun tm => (fun st => fzOld (callY Tryz.prog cfO (WY Tryz.prog cfO 2997) (Env.mk (Bs.mk 0 []) 0 none Tryz.f106.ntmps (106 : FuncId) 0).base (Env.mk (Bs.mk 0 []) 0 none Tryz.f106.ntmps (106 : FuncId) 0).fid) (askY cfO (Env.mk (Bs.mk 0 []) 0 none Tryz.f106.ntmps (106 : FuncId) 0).base) (Oper.mk (some 13) (Op.call (Call.mk (Callee.value (Operand.func 107)) #[Operand.tmp 12] #[129])) 169 "model.go:52" #[Edge.mk 0 Ground.data] none) st fun st => wOps Tryz.prog (callY Tryz.prog cfO (WY Tryz.prog cfO 2997) (Env.mk (Bs.mk 0 []) 0 none Tryz.f106.ntmps (106 : FuncId) 0).base (Env.mk (Bs.mk 0 []) 0 none Tryz.f106.ntmps (106 : FuncId) 0).fid) (askY cfO (Env.mk (Bs.mk 0 []) 0 none Tryz.f106.ntmps (106 : FuncId) 0).base) (Env.mk (Bs.mk 0 []) 0 none Tryz.f106.ntmps (106 : FuncId) 0).N #[Oper.mk (some 12) (Op.move (Operand.tmp 0)) 129 "model.go:52" #[] none, Oper.mk (some 13) (Op.call (Call.mk (Callee.value (Operand.func 107)) #[Operand.tmp 12] #[129])) 169 "model.go:52" #[Edge.mk 0 Ground.data] none, Oper.mk (some 3) (Op.assign (Operand.tmp 13)) 169 "model.go:52" #[Edge.mk 1 Ground.data, Edge.mk 1 Ground.chain, Edge.mk 0 Ground.phase, Edge.mk 1 Ground.phase] none].toList [Oper.mk (some 3) (Op.assign (Operand.tmp 13)) 169 "model.go:52" #[Edge.mk 1 Ground.data, Edge.mk 1 Ground.chain, Edge.mk 0 Ground.phase, Edge.mk 1 Ground.phase] none] st (Qthen (WY Tryz.prog cfO 2998 (Env.mk (Bs.mk 0 []) 0 none 60 106 0) (cdAt [1, 1] (bodyOf Tryz.f106)) (QendX Tryz.prog Tryz.f106 fun v h => R (frzW h v))) (QendX Tryz.prog Tryz.f106 fun v h => R (frzW h v)) Ex.norm)) (St.mk tm h)) v (bif cfO.clean 107 then gcH 0 v h' else h'))) (QendX Tryz.prog Tryz.f107 fun v h' => (fun v h => fzNew (callY Tryz.prog cfO (WY Tryz.prog cfO 2997) (Env.mk (Bs.mk 0 []) 0 none Tryz.f106.ntmps (106 : FuncId) 0).base (Env.mk (Bs.mk 0 []) 0 none Tryz.f106.ntmps (106 : FuncId) 0).fid) 0 (Oper.mk (some 13) (Op.call (Call.mk (Callee.value (Operand.func 107)) #[Operand.tmp 12] #[129])) 169 "model.go:52" #[Edge.mk 0 Ground.data] none) v h fun v h => putT (Env.mk (Bs.mk 0 []) 0 none Tryz.f106.ntmps (106 : FuncId) 0).N (mkT [(0, V.lst 2 (bdl l)), (2, nilS), (12, V.lst 2 (bdl l))]) (Oper.mk (some 13) (Op.call (Call.mk (Callee.value (Operand.func 107)) #[Operand.tmp 12] #[129])) 169 "model.go:52" #[Edge.mk 0 Ground.data] none).dst v fun tm => (fun st => fzOld (callY Tryz.prog cfO (WY Tryz.prog cfO 2997) (Env.mk (Bs.mk 0 []) 0 none Tryz.f106.ntmps (106 : FuncId) 0).base (Env.mk (Bs.mk 0 []) 0 none Tryz.f106.ntmps (106 : FuncId) 0).fid) (askY cfO (Env.mk (Bs.mk 0 []) 0 none Tryz.f106.ntmps (106 : FuncId) 0).base) (Oper.mk (some 13) (Op.call (Call.mk (Callee.value (Operand.func 107)) #[Operand.tmp 12] #[129])) 169 "model.go:52" #[Edge.mk 0 Ground.data] none) st fun st => wOps Tryz.prog (callY Tryz.prog cfO (WY Tryz.prog cfO 2997) (Env.mk (Bs.mk 0 []) 0 none Tryz.f106.ntmps (106 : FuncId) 0).base (Env.mk (Bs.mk 0 []) 0 none Tryz.f106.ntmps (106 : FuncId) 0).fid) (askY cfO (Env.mk (Bs.mk 0 []) 0 none Tryz.f106.ntmps (106 : FuncId) 0).base) (Env.mk (Bs.mk 0 []) 0 none Tryz.f106.ntmps (106 : FuncId) 0).N #[Oper.mk (some 12) (Op.move (Operand.tmp 0)) 129 "model.go:52" #[] none, Oper.mk (some 13) (Op.call (Call.mk (Callee.value (Operand.func 107)) #[Operand.tmp 12] #[129])) 169 "model.go:52" #[Edge.mk 0 Ground.data] none, Oper.mk (some 3) (Op.assign (Operand.tmp 13)) 169 "model.go:52" #[Edge.mk 1 Ground.data, Edge.mk 1 Ground.chain, Edge.mk 0 Ground.phase, Edge.mk 1 Ground.phase] none].toList [Oper.mk (some 3) (Op.assign (Operand.tmp 13)) 169 "model.go:52" #[Edge.mk 1 Ground.data, Edge.mk 1 Ground.chain, Edge.mk 0 Ground.phase, Edge.mk 1 Ground.phase] none] st (Qthen (WY Tryz.prog cfO 2998 (Env.mk (Bs.mk 0 []) 0 none 60 106 0) (cdAt [1, 1] (bodyOf Tryz.f106)) (QendX Tryz.prog Tryz.f106 fun v h => R (frzW h v))) (QendX Tryz.prog Tryz.f106 fun v h => R (frzW h v)) Ex.norm)) (St.mk tm h)) v (bif cfO.clean 107 then gcH 0 v h' else h')))))))) (St.mk (mkT [(3, V.mp (Id.p 0)), (4, iv (↑i : Int)), (9, V.lst 2 (bdl l)), (10, iv (↑m : Int)), (11, iv (↑i : Int)), (17, V.lst s es_1), (18, iv (↑es_1.length : Int)), (19, iv (0 : Int))]) (Hp.mk [(0, O.mp (trM [] 0 ms.length es))] 1 [(0, Fam.mk 1 (ms ++ []))])))) (guardB (es.all (goodE [] 0 true)) (La 0 [(0 : Tmp), (3 : Tmp), (4 : Tmp), (14 : Tmp), (15 : Tmp), (16 : Tmp), (1000001 : Tmp), (4000003 : Tmp)] (WY Tryz.prog cfO 2993 (Env.mk (Bs.mk 0 []) 0 none 60 106 0) (cdAt [1, 1, 1, 0, 1, 0, 0] (bodyOf Tryz.f106))) (Qblk 0 (Qthen (WY Tryz.prog cfO 2996 (Env.mk (Bs.mk 0 []) 0 none 60 106 0) (cdAt [1, 1, 1, 1] (bodyOf Tryz.f106)) (QendX Tryz.prog Tryz.f106 fun v h => R (frzW h v))) (QendX Tryz.prog Tryz.f106 fun v h => R (frzW h v)))) (St.mk (mkT [(0, V.lst 2 (bdl l)), (3, V.mp (Id.p 0)), (4, nilS), (14, V.lst 2 (bdl l)), (15, iv (↑(bdl l).length : Int)), (16, iv (0 : Int))]) (Hp.mk [(0, O.mp (trM [] 0 ms.length es))] 1 [(0, Fam.mk 1 (ms ++ []))]))))) (by kernel_rfl) ?_
 have hgood : ∀ {T:List Ow} {es:List (V×V)},es=T.map ent→es.all (goodE [] 0 true)=true:=fun e=>by rw [e]; exact good_ent _ _
 have hrep : ∀ {T:List Ow} {es:List (V×V)} {ms:List (Option (List (List V)))},Rep T es ms→Rep T (trM [] 0 ms.length es) (ms++[]):=fun {T es ms} h=>by
  rw [List.append_nil,h.es,trM_ent,← h.es]; exact h
 refine ifB_mk (fun d=>?_) (fun d=>?_)
 rotate_left
 ·have hi:i=m:=by have:=of_decide_eq_false d; omega
  refine guardB_mk (hgood hr.es) ?_
  exact rest T es ms hr (by rw [← hml,← hi]; exact ho)
 have hi:i<m:=by have:=of_decide_eq_true d; omega
 obtain ⟨b,hb⟩:=getI (l:=l) (k:=i) (by omega)
 have hbm:=mem_at hb
 have hrow:(bdl l)[i]? = some (bdr b):=by simp [bdl,hb]
 refine onSome_mk hrow (onCons_cons (onLst_lst (onCons_cons (onLst_lst (guardB_mk (hgood hr.es) ?_)))))
 obtain ⟨x,hx⟩ : ∃ x,x=b.1:=⟨_,rfl⟩
 rw [← hx]
 obtain ⟨n,hnn⟩ : ∃ n,n=(cll x).length:=⟨_,rfl⟩
 rw [← hnn]
 have hnx:n=x.length:=by rw [hnn,cll_length]
 have hx1000:x.length≤1000:=by rw [hx]; exact hl30 b hbm
 refine La.of (σ:=Nat×List (V×V)×List (Option (List (List V)))) (fun s=>sh107b l x s.2.1 s.2.2 m i n s.1) (fun s=>s.1≤n ∧ ∃ T,Rep T s.2.1 s.2.2∧OwnI l i x s.1 T) (fun s=>n - s.1) (0,_,_) (by kernel_rfl) ⟨by omega,T,hrep hr,own_start ho⟩ ?_
 rintro ⟨k,es_1,ms'⟩ ⟨f1,T', hr', ho'⟩ I hI
 simp only at f1 hr' ho'
 obtain ⟨ms,hms⟩ : ∃ q,q=ms' := ⟨_,rfl⟩
 subst hms
 refine see (p:=ifB (decide ((↑k:Int)<(↑n:Int))) (onSome (cll x)[k]? fun row=>onCons (List.drop 0 row) fun u r=>onIntK IntKind.i64 u fun n_1=>onCons r fun u r=>onIntK IntKind.i64 u fun n_2=>onCons r fun u r=>onIntK IntKind.i64 u fun n_3=>onFind (findK Tryz.prog 28 (V.agg [iv n_1,iv n_2,iv n_3]) es_1 0) (fun i_1 kv vv=>guardB (sameC kv (V.agg [iv n_1,iv n_2,iv n_3])) (onMem 0 vv (onSome (es_1.set i_1 (V.agg [iv n_1,iv n_2,iv n_3],vv))[i_1]? fun kv=>guardB (((es_1.set i_1 (V.agg [iv n_1,iv n_2,iv n_3],vv)).set i_1 (kv.1,V.sl (Id.p 3) 0 1)).all (goodE [3,2] 0 true)) (I (St.mk (mkT [(3,V.mp (Id.p 0)),(4,iv (↑i:Int)),(9,V.lst 2 (bdl l)),(10,iv (↑m:Int)),(11,iv (↑i:Int)),(17,V.lst 3 (cll x)),(18,iv (↑n:Int)),(19,iv (IntKind.i64.wrap ((↑k:Int)+(1:Int))))]) (Hp.mk [(0,O.mp (trM [3,2] 0 ms.length ((es_1.set i_1 (V.agg [iv n_1,iv n_2,iv n_3],vv)).set i_1 (kv.1,V.sl (Id.p 3) 0 1))))] 1 [(0,Fam.mk 1 (ms++[some [[iv (↑i:Int)]],some [[iv (↑i:Int)]]]))])))) fun j n_4=>onSome (memb ms j) fun es=>need ((n_4+1) * 8≤140737488355328) (onSome (es_1.set i_1 (V.agg [iv n_1,iv n_2,iv n_3],vv))[i_1]? fun kv=>guardB (((es_1.set i_1 (V.agg [iv n_1,iv n_2,iv n_3],vv)).set i_1 (kv.1,V.sl (Id.p 3) 0 (n_4+1))).all (goodE [3,2] 0 true)) (I (St.mk (mkT [(3,V.mp (Id.p 0)),(4,iv (↑i:Int)),(9,V.lst 2 (bdl l)),(10,iv (↑m:Int)),(11,iv (↑i:Int)),(17,V.lst 3 (cll x)),(18,iv (↑n:Int)),(19,iv (IntKind.i64.wrap ((↑k:Int)+(1:Int))))]) (Hp.mk [(0,O.mp (trM [3,2] 0 ((ms.set j none)).length ((es_1.set i_1 (V.agg [iv n_1,iv n_2,iv n_3],vv)).set i_1 (kv.1,V.sl (Id.p 3) 0 (n_4+1)))))] 1 [(0,Fam.mk 1 (ms.set j none++[some (List.take n_4 es++[[iv (↑i:Int)]]),some [[iv (↑i:Int)]]]))])))))) (onSome (es_1++[(V.agg [iv n_1,iv n_2,iv n_3],nilS)])[es_1.length]? fun kv=>guardB (((es_1++[(V.agg [iv n_1,iv n_2,iv n_3],nilS)]).set es_1.length (kv.1,V.sl (Id.p 3) 0 1)).all (goodE [3,2] 0 true)) (I (St.mk (mkT [(3,V.mp (Id.p 0)),(4,iv (↑i:Int)),(9,V.lst 2 (bdl l)),(10,iv (↑m:Int)),(11,iv (↑i:Int)),(17,V.lst 3 (cll x)),(18,iv (↑n:Int)),(19,iv (IntKind.i64.wrap ((↑k:Int)+(1:Int))))]) (Hp.mk [(0,O.mp (trM [3,2] 0 ms.length ((es_1++[(V.agg [iv n_1,iv n_2,iv n_3],nilS)]).set es_1.length (kv.1,V.sl (Id.p 3) 0 1))))] 1 [(0,Fam.mk 1 (ms++[some [[iv (↑i:Int)]],some [[iv (↑i:Int)]]]))]))))) (guardB (es_1.all (goodE [] 0 true)) (J (St.mk (mkT [(3,V.mp (Id.p 0)),(9,V.lst 2 (bdl l)),(10,iv (↑m:Int)),(11,iv (IntKind.i64.wrap ((↑i:Int)+(1:Int))))]) (Hp.mk [(0,O.mp (trM [] 0 ms.length es_1))] 1 [(0,Fam.mk 1 (ms++[]))]))))) (by kernel_rfl) ?_
 refine ifB_mk (fun e=>?_) (fun e=>?_)
 ·have hk:k<n:=by have:=of_decide_eq_true e; omega
  obtain ⟨c,hc⟩:=getI (l:=x) (k:=k) (by omega)
  have hcr:(cll x)[k]? = some (clr c):=by simp [cll,hc]
  refine onSome_mk hcr (onCons_cons (onIntK_iv (onCons_cons (onIntK_iv (onCons_cons (onIntK_iv ?_))))))
  rw [wr1i hk (by omega)]
  refine own_add (K:=fun e f=>I (sh107b l x e f m i n (k+1))) hr' (fun t ht=>by have:=own_len ho' t ht; omega) (fun T' es' ms' h1 h2=>?_)
  exact hI (k+1,es', ms') ⟨hk,T', h1,own_step ho' hc (by rw [hx]; exact hn b hbm) h2 hr'.cs⟩ (by simp only; omega)
 ·have hk:k=x.length:=by have:=of_decide_eq_false e; omega
  subst hk
  refine guardB_mk (hgood hr'.es) ?_
  rw [wr1i hi (by omega)]
  exact hJ (i+1,_,_) ⟨hi,T', hrep hr', own_next hb (hx ▸ ho')⟩ (by simp only; omega)
end Go.Proofs.YtbionhgjgcpogaaGreatDoor
