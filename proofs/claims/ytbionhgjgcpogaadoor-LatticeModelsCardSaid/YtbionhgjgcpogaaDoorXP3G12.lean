/- A part of the proof. -/
import Derived.Test.YtbionhgjgcpogaaDoorProg
import Derived.Test.YtbionhgjgcpogaaDoorXP3G10
import Derived.Test.YtbionhgjgcpogaaDoorXP3G11
namespace Go.Proofs.YtbionhgjgcpogaaDoor
open Go Go.Proofs.YtbionhgjgcpogaaDoor.Clean
set_option linter.unusedVariables false
set_option linter.unusedSimpArgs false
set_option maxRecDepth 10000
theorem rtP_ok (c:V) : ∀ (f:FuncId) (args:List V) (us:Us) (v:V) (k:V→Prop),rtP c f args us v k → ∃ v', k v' ∧ ∀ {F:Nat→Prop} {w:World} {ν:Nu} {x:Value},rep F w ν v x→rep F w ν v' x:=by
 intro f args us v k h
 unfold rtP at h
 cases hq:inN [40] f with
 | true=>rw [hq] at h; exact sameV_rep h
 | false =>
  rw [hq] at h
  simp only [cond_false] at h
  unfold onTup at h
  split at h
  ·rename_i cs
   unfold onNil at h
   split at h
   ·exact ⟨_,h,fun h=>h⟩
   ·exact h.elim
  ·exact h.elim
theorem hcP (c:V):(cfP c).ok Tryd.prog:=by
 have h:(cfgG Tryd.prog glX moP poP (rtP c) (inN []) kpP).ok Tryd.prog:=cfgG_ok (rtP_ok c)
 exact ⟨h.1,h.2⟩
theorem hcS:cfS.ok Tryd.prog:=cfgM_ok
theorem K_of_K0d {P:Program} {G:Nat→Option (List V)} {f:FuncId} {args:List V} {h:Hp} {R:V→Prop} (hc:closedL args=true) (hk:K0G P G f args R):K P G f args h (fun b => !b.low h.nxt) fun v h' => h' = h∧R v:=by
 intro ν F w xs hh hG hl
 refine (hk F w xs (fun r hr=>(hh.frz r hr).1) hG (repL_riL _ _ hc hl)).mono fun e' w' he=>?_
 obtain ⟨x,v,F'', rfl,hv,hr,hbl,q1,q2,q3⟩:=he
 obtain ⟨hh', he⟩:=heap_call0 hh hbl q1 q2 q3
 exact ⟨x,v,ν,_,_,rfl,⟨rfl,hv⟩,hh', ri_rep (ν:=ν) _ _ hr,he,fun b y hy _=>⟨hbl.block _ (by obtain ⟨r,s,n⟩:=y; exact hh.own_lt ⟨b,s,n,hy⟩),hy⟩⟩
theorem KM_of_K0 {P:Program} {G:Nat→Option (List V)} {f:FuncId} {args:List V} {h0:Hp} {post:Hp→Us→Hp} {Q:V→Us→Prop} (hc:closedL args=true) (hp:post h0 []=h0) (h:K0G P G f args fun v=>Q v []):KM P G f args h0 post Q:=by
 unfold KM
 intro ν F w xs g1 g2 g3
 refine (K_of_K0d (h:=h0) hc h ν F w xs g1 g2 g3).mono fun e w' ⟨x,v,ν', F', h', z1,⟨z2,z7⟩,z3,z4,z5,z6⟩=>?_
 exact ⟨x,v,ν', F', h', z1,⟨[],by rw [z2,hp],z7⟩,z3,z4,z5,fun b y hb ht=>by cases ht⟩
def encC (x:Cl):List Value:=[.int .i64 x.1,.int .i64 x.2.1,.int .i64 x.2.2]
theorem swoC:Go.Sort.SWO (Go.Proofs.ltOf cmpC) where
 irrefl x:=by unfold Go.Proofs.ltOf; exact decide_eq_false (fun h=>Bef.irr _ (cmpC_lt.1 h))
 trans x y z h1 h2:=by
  unfold Go.Proofs.ltOf at *
  exact decide_eq_true (cmpC_lt.2 (Bef.tr _ _ _ (cmpC_lt.1 (of_decide_eq_true h1)) (cmpC_lt.1 (of_decide_eq_true h2))))
 ntrans x y z h1 h2:=by
  unfold Go.Proofs.ltOf at *
  have h1 : ¬ Bef x y:=fun h=>(of_decide_eq_false h1) (cmpC_lt.2 h)
  have h2 : ¬ Bef y z:=fun h=>(of_decide_eq_false h2) (cmpC_lt.2 h)
  exact decide_eq_false (fun h=>by have h3:=cmpC_lt.1 h; unfold Bef at *; omega)
instance (a b:Cl):Decidable (Bef a b):=by unfold Bef; infer_instance
instance (a b:Kn):Decidable (BefK a b):=by unfold BefK; infer_instance
def sortC (l:List Cl):List Cl:=l.mergeSort fun a b => !decide (Bef b a)
theorem sortC_perm (l:List Cl):(sortC l).Perm l:=List.mergeSort_perm _ _
theorem sortC_srt (l:List Cl):(sortC l).Pairwise fun a b => ¬ Bef b a:=by
 refine (List.pairwise_mergeSort (le:=fun a b => !decide (Bef b a)) (fun a b c h1 h2=>?_) (fun a b=>?_) l).imp (fun h=>by simpa using h)
 ·simp only [Bool.not_eq_true', decide_eq_false_iff_not] at *
  unfold Bef at *; omega
 ·by_cases h:Bef b a
  ·simp [Bef.asy h]
  ·simp [h]
theorem sortC_uniq {l l' : List Cl} (hp:l'.Perm l) (hs:l'.Pairwise fun a b => ¬ Bef b a):l' = sortC l :=
 List.Perm.eq_of_pairwise (le:=fun a b => ¬ Bef b a) (fun a b _ _ h1 h2=>Bef.tot a b h2 h1) hs (sortC_srt l) (hp.trans (sortC_perm l).symm)
theorem pw_of_get {α:Type} {r:α→α→Prop} {l:List α} (h : ∀ (i j:Nat) (x y:α),i<j→l[i]? = some x→l[j]? = some y→r x y):l.Pairwise r:=by
 rw [List.pairwise_iff_getElem]
 intro i j hi hj hij
 exact h i j _ _ hij (by simp [hi]) (by simp [hj])
theorem sort129 {l:List Cl} (hl:l.length<1000000) {post:Hp→Us→Hp} (hpost : ∀ us,post ⟨[(0,O.rows 3 true (cll l))],1,[]⟩ us=⟨[(0,O.rows 3 true (us.getD 0 []))],1,[]⟩) {Q:V→Us→Prop} (h:Q (.tup []) [cll (sortC l)]):KM Tryd.prog glX 50 [.sl (.p 0) 0 l.length,.fn (.func 51) [] []] ⟨[(0,O.rows 3 true (cll l))],1,[]⟩ post Q:=by
 by_cases h0:l=[]
 ·subst h0
  refine KM_of_WYKp hmX hcS 3000 Tryd.func50 (fun R hR=>?_)
  refine see (p:=R (V.tup []) (Hp.mk [(0,O.rows 3 true [])] 1 [])) (by kernel_rfl) ?_
  have:=hR (.tup []) [cll (sortC [])] h
  rw [hpost,show cll (sortC [])=[] from by simp [sortC,cll]] at this
  exact this
 ·unfold KM
  have key:=K_sort (P:=Tryd.prog) (G:=glX) (ρ:=LSc_ren) LSc (k:=3) Tryd.isAgg27 Tryd.sizeOf27 (enc:=encC) (fun _=>rfl) (fun x v hv=>by simp [encC] at hv; rcases hv with rfl | rfl | rfl <;> rfl) (cf:=cmpC) swoC (g:=51) (caps:=[]) (h:=⟨[(0,O.rows 3 true (cll l))],1,[]⟩) (b:=0) (p:=true) (l:=l) h0 (by omega) rfl
   (enters_of Tryd.func51 (by kernel_rfl) rfl) (fun l' _ x y=>K_of_K0c rfl (cmp89 (a:=x) (b:=y) rfl)) rfl
  intro ν F w xs g1 g2 g3
  refine (key ν F w xs g1 g2 g3).mono fun e w' ⟨x,v,ν', F', h', z1,⟨z2,l', z7,z8,z9⟩,z3,z4,z5,z6⟩=>?_
  have:l' = sortC l:=sortC_uniq z7 (pw_of_get fun i j a b hij ha hb hbef=>z8 i j a b hij ha hb (cmpC_lt.2 hbef))
  subst this
  refine ⟨x,v,ν', F', h', z1,⟨[cll (sortC l)],?_,by rw [z2]; exact h⟩,z3,z4,z5,fun b y hb ht=>by cases ht⟩
  rw [z9,hpost]
  rfl
theorem Bd.qz {b:Int} {c:Cl} (h:Bd b c):Bd b (qz c):=by
 unfold Bd Nr at *
 simp only [Go.Proofs.YtbionhgjgcpogaaDoor.qz]
 omega
theorem Bd.qx {b:Int} {c:Cl} (h:Bd b c):Bd b (qx c):=by
 unfold Bd Nr at *
 simp only [Go.Proofs.YtbionhgjgcpogaaDoor.qx]
 omega
theorem itr_ind {P:Cl→Prop} {f:Cl→Cl} (hf : ∀ c,P c→P (f c)) : ∀ (n:Nat) (c:Cl),P c→P (itr f n c)
 | 0,c,h=>h
 | n+1,c,h=>itr_ind hf n (f c) (hf c h)
theorem tn_ind {P:Cl→Prop} (hz : ∀ c,P c→P (qz c)) (hx : ∀ c,P c→P (qx c)) (n:Nat) {c:Cl} (h:P c):P (tn n c):=by
 unfold tn
 split
 ·exact itr_ind hx _ _ (itr_ind hz _ _ h)
 ·exact itr_ind hz _ _ (hx _ (itr_ind hz _ _ h))
theorem tn_bd {b:Int} {n:Nat} {c:Cl} (h:Bd b c):Bd b (tn n c):=tn_ind (P:=Bd b) (fun _ h=>h.qz) (fun _ h=>h.qx) n h
theorem Bd.mono {a b:Int} {c:Cl} (h:Bd a c) (hab:a≤b):Bd b c:=Nr.mono h (by omega) hab
theorem add97 {a b:Cl} {R:V→Prop} (ha:Bd 1000000 a) (hb:Bd 1000000 b) (h:R (.agg (clr (addC a b)))):K0G Tryd.prog glX 39 [.agg (clr a),.agg (clr b)] R:=by
 refine K0_by hmX hcR 3000 Tryd.func39 (p:=R (V.agg [iv (IntKind.i64.wrap (a.1+b.1)),iv (IntKind.i64.wrap (a.2.1+b.2.1)),iv (IntKind.i64.wrap (a.2.2+b.2.2))])) (by kernel_rfl) ?_
 unfold Bd Nr at ha hb
 rw [wr (n:=a.1+_) (by omega) (by omega),wr (n:=a.2.1+_) (by omega) (by omega),wr (n:=a.2.2+_) (by omega) (by omega)]
 exact h
def fill {α β:Type} (f:α→β) (z:β) (l:List α) (i:Nat):List β:=(l.take i).map f++List.replicate (l.length - i) z
section
variable {α β:Type} {f:α→β} {z:β} {l:List α} {i:Nat}
theorem fill_zero:fill f z l 0=List.replicate l.length z:=by simp [fill]
theorem fill_full:fill f z l l.length=l.map f:=by simp [fill]
theorem fill_get (h:i<l.length):(fill f z l i)[i]? = some z:=by
 unfold fill
 rw [List.getElem?_append_right (by simp; omega)]
 have:i - ((l.take i).map f).length=0:=by simp; omega
 rw [this,List.getElem?_replicate,if_pos (by omega)]
theorem fill_set {x:α} (hx:l[i]? = some x):(fill f z l i).set i (f x)=fill f z l (i+1):=by
 have hi:=(List.getElem?_eq_some_iff.1 hx).1
 unfold fill
 rw [List.set_append_right _ _ (by simp; omega),show l.length - i=(l.length - (i+1))+1 from by omega,List.replicate_succ,take_succ' hx]
 have:i - ((l.take i).map f).length=0:=by simp; omega
 rw [this]
 simp
end
theorem cll_set (L:List Cl) (i:Nat) (c:Cl):(cll L).set (0+i) (iv c.1::iv c.2.1::iv c.2.2::List.append [] (List.drop 3 (clr (0,0,0))))=cll (L.set i c):=by rw [Nat.zero_add]; simp [cll,List.map_set,clr]
theorem knl_set (L:List Kn) (i:Nat) (c:Kn):(knl L).set (0+i) (iv c.1.1::iv c.1.2.1::iv c.1.2.2::V.raw (.int .u8 c.2.1)::V.raw (.int .u8 c.2.2)::List.append [] (List.drop 5 (knr ((0,0,0),0,0))))=knl (L.set i c):=by rw [Nat.zero_add]; simp [knl,List.map_set,knr,u8]
def plc (q:Kd) (n:Nat) (by_:Cl):List Cl:=sortC (q.1.map fun c=>addC (tn n c) by_)
def knb (q:Kd) (n:Nat) (by_:Cl):List Kn:=q.2.1.map fun k=>(addC (tn n k.1) by_,pt n k.2.1,k.2.2)
theorem pt_rg (n:Nat) (d:Int):0≤pt n d∧pt n d≤5:=by
 have h : ∀ n,n<24 → ∀ d,d<6→0≤(ptL.getD n []).getD d 0∧(ptL.getD n []).getD d 0≤5:=by decide
 unfold pt
 by_cases hn:n<24
 ·by_cases hd:d.toNat<6
  ·exact h n hn _ hd
  ·have hl : ∀ n,n<24→(ptL.getD n []).length=6:=by decide
   rw [List.getD_eq_getElem?_getD (l:=ptL.getD n []),List.getElem?_eq_none (by rw [hl n hn]; omega)]
   simp
 ·have:ptL.getD n []=[]:=by rw [List.getD_eq_getElem?_getD,List.getElem?_eq_none (by simp [ptL]; omega)]; rfl
  rw [this]; simp
theorem u8w {n:Int} (h:0≤n) (h' : n≤255):IntKind.u8.wrap n=n:=by
 have:IntKind.u8.wrap n=n % 256:=rfl
 rw [this]; omega
def PutP (q:Kd):Prop:=(∀ c∈q.1,Nr 0 15 c)∧q.1.length≤30∧(∀ k∈q.2.1,Nr 0 15 k.1∧0≤k.2.1∧k.2.1≤5)∧q.2.1.length≤60
set_option maxHeartbeats 2000000 in
theorem put95A {q:Kd} {k t:Int} {by_:Cl} {n:Nat} {R:V→Prop} (hch:K0G Tryd.prog glX 40 [iv t] fun v=>v=(chA k)) (hcell : ∀ {c:Cl} {R:V→Prop},Bd 3000 c→R (.agg (clr (tn n c)))→K0G Tryd.prog glX 41 [(chA k),.agg (clr c)] R) (hdir : ∀ {d:Nat} {R:V→Prop},d<6→R (iv (pt n (d:Int)))→K0G Tryd.prog glX 52 [(chA k),iv (d:Int)] R)
  (hq:PutP q) (hby:Bd 2000 by_) (h:R (.agg [.lst 3 (cll (plc q n by_)),.lst 5 (knl (knb q n by_))])):K0G Tryd.prog glX 32 [.agg (kdr q),iv t,.agg (clr by_)] R:=by
 refine K0_of_WY0 hmX (hcP (chA k)) 3000 Tryd.func32 (see (p:=KM Tryd.prog glX 40 [iv t] (Hp.mk [] 0 []) (poP 40 [iv t]) fun v us=>v=V.agg [V.fn (Fn.func (57:FuncId)) [] [],iv k,V.raw Value.nilFunc,iv (0:Int),V.raw Value.nilFunc,iv (0:Int)]∧need ((knl q.2.1).length≤(knl q.2.1).length) (need (32 * (knl q.2.1).length≤140737488355328) (need ((knl q.2.1).length≤9223372036854775807) (need ((cll q.1).length≤(cll q.1).length) (need (24 * (cll q.1).length≤140737488355328) (need ((cll q.1).length≤9223372036854775807) (need ((knl q.2.1).length≤(knl q.2.1).length) (need (32 * (knl q.2.1).length≤140737488355328) (need ((knl q.2.1).length≤9223372036854775807) (La 0 [(3:Tmp),(5:Tmp),(6:Tmp),(7:Tmp),(8:Tmp),(26:Tmp),(27:Tmp),(28:Tmp)] (WY Tryd.prog (cfP (chA k)) 2993 (Env.mk (Bs.mk 0 []) 0 none 76 32 0) (cdAt [1,1,1,0,1,0,0] (bodyOf Tryd.f32))) (Qblk 0 (Qthen (WY Tryd.prog (cfP (chA k)) 2996 (Env.mk (Bs.mk 0 []) 0 none 76 32 0) (cdAt [1,1,1,1] (bodyOf Tryd.f32)) (QendX Tryd.prog Tryd.f32 fun v h=>R (frzW h v))) (QendX Tryd.prog Tryd.f32 fun v h=>R (frzW h v)))) (St.mk (mkT [(3,V.ptr (Id.p 0) 0 0),(5,V.ptr (Id.p 1) 0 0),(6,V.ptr (Id.p 2) 0 0),(7,V.ptr (Id.p 3) 0 0),(8,V.ptr (Id.p 4) 0 0),(26,V.lst 3 (cll q.1)),(27,iv (↑(cll q.1).length:Int)),(28,iv (0:Int))]) (Hp.mk [(0,O.rows 3 false [[V.lst 3 (cll q.1),V.lst 5 (knl q.2.1),iv q.2.2]]),(1,O.rows 3 false [[iv by_.1,iv by_.2.1,iv by_.2.2]]),(2,O.rows 2 false [[nilS,nilS]]),(3,O.rows 6 false [[V.fn (Fn.func (57:FuncId)) [] [],iv k,V.raw Value.nilFunc,iv (0:Int),V.raw Value.nilFunc,iv (0:Int)]]),(4,O.rows 2 false [[V.sl (Id.p 5) 0 (cll q.1).length,V.sl (Id.p 6) 0 (knl q.2.1).length]]),(5,O.rows 3 true (List.replicate (cll q.1).length [iv (0:Int),iv (0:Int),iv (0:Int)])),(6,O.rows 5 true (List.replicate (knl q.2.1).length [iv (0:Int),iv (0:Int),iv (0:Int),V.raw (Value.int IntKind.u8 (0:Int)),V.raw (Value.int IntKind.u8 (0:Int))]))] 7 [])))))))))))) (by kernel_rfl) ?_)
 obtain ⟨hc,hcl,hk,hkl⟩:=hq
 have cl:=cll_length q.1
 have kl:=knl_length q.2.1
 refine KM_of_K0 rfl rfl (hch.mono' fun v e=>⟨e,?_⟩)
 refine need_mk ⟨Nat.le_refl _,need_mk ⟨by omega,need_mk ⟨by omega,need_mk ⟨Nat.le_refl _,need_mk ⟨by omega,need_mk ⟨by omega,need_mk ⟨Nat.le_refl _,need_mk ⟨by omega,need_mk ⟨by omega,?_⟩⟩⟩⟩⟩⟩⟩⟩⟩
 have e1:List.replicate (cll q.1).length [iv (0:Int),iv (0:Int),iv (0:Int)]=cll (fill (fun c=>addC (tn n c) by_) (0,0,0) q.1 0):=by rw [cl,fill_zero]; simp [cll,clr]
 have e2:List.replicate (knl q.2.1).length [iv (0:Int),iv (0:Int),iv (0:Int),V.raw (Value.int IntKind.u8 (0:Int)),V.raw (Value.int IntKind.u8 (0:Int))]=knl (fill (fun k:Kn=>((addC (tn n k.1) by_,pt n k.2.1,k.2.2):Kn)) ((0,0,0),0,0) q.2.1 0):=by rw [kl,fill_zero]; simp [knl,knr,u8]
 rw [e1,e2]
 generalize hK:fill (fun k:Kn=>((addC (tn n k.1) by_,pt n k.2.1,k.2.2):Kn)) ((0,0,0),0,0) q.2.1 0=K
 refine La.of (σ:=Nat) (fun i=>sh95a (chAr k) q by_ (fill (fun c=>addC (tn n c) by_) (0,0,0) q.1 i) K i) (fun i=>i≤q.1.length) (fun i=>q.1.length - i) 0 (by kernel_rfl) (by omega) ?_
 intro i g1 J hJ
 generalize hL:fill (fun c=>addC (tn n c) by_) (0,0,0) q.1 i=L
 refine see (p:=ifB (decide ((↑i:Int)<(↑(cll q.1).length:Int))) (onSome (cll q.1)[i]? fun row=>onCons (List.drop 0 row) fun u r=>onIntK IntKind.i64 u fun n=>onCons r fun u r=>onIntK IntKind.i64 u fun n_1=>onCons r fun u r=>onIntK IntKind.i64 u fun n_2=>K0G Tryd.prog glX 41 [V.agg [V.fn (Fn.func (57:FuncId)) [] [],iv k,V.raw Value.nilFunc,iv (0:Int),V.raw Value.nilFunc,iv (0:Int)],V.agg [iv n,iv n_1,iv n_2]] fun v=>onAgg v fun cs=>onCons cs fun u r=>onIntK IntKind.i64 u fun n=>onCons r fun u r=>onIntK IntKind.i64 u fun n_3=>onCons r fun u r=>onIntK IntKind.i64 u fun n_4=>onNil r (K0G Tryd.prog glX 39 [V.agg [iv n,iv n_3,iv n_4],V.agg [iv by_.1,iv by_.2.1,iv by_.2.2]] fun v=>onAgg v fun cs=>onCons cs fun u r=>onIntK IntKind.i64 u fun n=>onCons r fun u r=>onIntK IntKind.i64 u fun n_5=>onCons r fun u r=>onIntK IntKind.i64 u fun n_6=>onNil r (need (i<(cll q.1).length) (onSome (cll L)[0+i]? fun row=>guardB ((0+3).ble row.length) (J (St.mk (mkT [(3,V.ptr (Id.p 0) 0 0),(5,V.ptr (Id.p 1) 0 0),(6,V.ptr (Id.p 2) 0 0),(7,V.ptr (Id.p 3) 0 0),(8,V.ptr (Id.p 4) 0 0),(26,V.lst 3 (cll q.1)),(27,iv (↑(cll q.1).length:Int)),(28,iv (IntKind.i64.wrap ((↑i:Int)+(1:Int))))]) (Hp.mk [(0,O.rows 3 false [[V.lst 3 (cll q.1),V.lst 5 (knl q.2.1),iv q.2.2]]),(1,O.rows 3 false [[iv by_.1,iv by_.2.1,iv by_.2.2]]),(2,O.rows 2 false [[nilS,nilS]]),(3,O.rows 6 false [[V.fn (Fn.func (57:FuncId)) [] [],iv k,V.raw Value.nilFunc,iv (0:Int),V.raw Value.nilFunc,iv (0:Int)]]),(4,O.rows 2 false [[V.sl (Id.p 5) 0 (cll q.1).length,V.sl (Id.p 6) 0 (knl q.2.1).length]]),(5,O.rows 3 true ((cll L).set (0+i) (iv n::iv n_5::iv n_6::(List.append []) (List.drop 3 row)))),(6,O.rows 5 true (knl K))] 7 []))))))) (KM Tryd.prog glX 50 [V.sl (Id.p 0) 0 (cll q.1).length,V.fn (Fn.func 51) [] []] (Hp.mk [(0,O.rows 3 true (cll L))] 1 []) (poP 50 [V.sl (Id.p 5) 0 (cll q.1).length,V.fn (Fn.func 51) [] []]) fun v us=>onTup v fun vs=>onNil vs (La 0 [(5:Tmp),(6:Tmp),(7:Tmp),(8:Tmp),(47:Tmp),(48:Tmp),(49:Tmp)] (WY Tryd.prog (cfP (chA k)) 2991 (Env.mk (Bs.mk 0 []) 0 none 76 32 2) (cdAt [1,1,1,1,1,0,1,0,0] (bodyOf Tryd.f32))) (Qblk 2 (Qthen (WY Tryd.prog (cfP (chA k)) 2994 (Env.mk (Bs.mk 0 []) 0 none 76 32 0) (cdAt [1,1,1,1,1,1] (bodyOf Tryd.f32)) (QendX Tryd.prog Tryd.f32 fun v h=>R (frzW h v))) (QendX Tryd.prog Tryd.f32 fun v h=>R (frzW h v)))) (St.mk (mkT [(5,V.ptr (Id.p 0) 0 0),(6,V.ptr (Id.p 1) 0 0),(7,V.ptr (Id.p 2) 0 0),(8,V.ptr (Id.p 3) 0 0),(47,V.lst 5 (knl q.2.1)),(48,iv (↑(knl q.2.1).length:Int)),(49,iv (0:Int))]) (Hp.mk [(0,O.rows 3 false [[iv by_.1,iv by_.2.1,iv by_.2.2]]),(1,O.rows 2 false [[nilS,nilS]]),(2,O.rows 6 false [[V.fn (Fn.func (57:FuncId)) [] [],iv k,V.raw Value.nilFunc,iv (0:Int),V.raw Value.nilFunc,iv (0:Int)]]),(3,O.rows 2 false [[V.sl (Id.p 4) 0 (cll q.1).length,V.sl (Id.p 5) 0 (knl q.2.1).length]]),(4,O.rows 3 true (List.getD us 0 [])),(5,O.rows 5 true (knl K))] 6 []))))) (by kernel_rfl) ?_
 refine ifB_mk (fun d=>?_) (fun d=>?_)
 ·have hlt:i<q.1.length:=by have:=of_decide_eq_true d; omega
  obtain ⟨x,hx⟩:=getI hlt
  have hxb:Bd 15 x:=(hc x (mem_at hx)).mono (by omega) (by omega)
  refine cel hx (hcell (c:=x) (hxb.mono (by omega)) (onC (add97 (a:=tn n x) (b:=by_) ((tn_bd hxb).mono (by omega)) (hby.mono (by omega)) (onC (need_mk ⟨by omega,?_⟩)))))
  have hz:(cll L)[0+i]? = some (clr (0,0,0)):=by
   have:=fill_get (f:=fun c=>addC (tn n c) by_) (z:=((0,0,0):Cl)) hlt
   rw [hL] at this
   rw [Nat.zero_add]; simp [cll,this]
  refine onSome_mk hz (guardB_mk rfl ?_)
  rw [wr1i hlt (by omega),cll_set L i (addC (tn n x) by_),← hL,fill_set hx]
  exact hJ (i+1) hlt (by omega)
 ·have hi:i=q.1.length:=by have:=of_decide_eq_false d; omega
  subst hi
  rw [fill_full] at hL
  have el:(cll q.1).length=L.length:=by rw [cl,← hL]; simp
  rw [el]
  refine sort129 (l:=L) (by omega) (fun us=>rfl) (onTup_tup (onNil_nil ?_))
  have hs:sortC L=plc q n by_:=by rw [← hL]; rfl
  rw [hs]
  rw [← el]
  clear hJ
  refine La.of (σ:=Nat) (fun i=>sh95b (chAr k) q by_ (plc q n by_) (fill (fun k:Kn=>((addC (tn n k.1) by_,pt n k.2.1,k.2.2):Kn)) ((0,0,0),0,0) q.2.1 i) i) (fun i=>i≤q.2.1.length) (fun i=>q.2.1.length - i) 0 (by rw [← hK]; kernel_rfl) (by omega) ?_
  intro i g1 I hI
  clear hL hs el
  generalize hL2:plc q n by_=L
  clear hK
  generalize hK2:fill (fun k:Kn=>((addC (tn n k.1) by_,pt n k.2.1,k.2.2):Kn)) ((0,0,0),0,0) q.2.1 i=K
  refine see (p:=ifB (decide ((↑i:Int)<(↑(knl q.2.1).length:Int))) (onSome (knl q.2.1)[i]? fun row=>onCons (List.drop 0 row) fun u r=>onIntK IntKind.i64 u fun n=>onCons r fun u r=>onIntK IntKind.i64 u fun n_1=>onCons r fun u r=>onIntK IntKind.i64 u fun n_2=>onCons r fun u r=>onIntK IntKind.u8 u fun n_3=>onCons r fun u r=>onIntK IntKind.u8 u fun n_4=>K0G Tryd.prog glX 41 [V.agg [V.fn (Fn.func (57:FuncId)) [] [],iv k,V.raw Value.nilFunc,iv (0:Int),V.raw Value.nilFunc,iv (0:Int)],V.agg [iv n,iv n_1,iv n_2]] fun v=>onAgg v fun cs=>onCons cs fun u r=>onIntK IntKind.i64 u fun n=>onCons r fun u r=>onIntK IntKind.i64 u fun n_5=>onCons r fun u r=>onIntK IntKind.i64 u fun n_6=>onNil r (K0G Tryd.prog glX 39 [V.agg [iv n,iv n_5,iv n_6],V.agg [iv by_.1,iv by_.2.1,iv by_.2.2]] fun v=>onAgg v fun cs=>onCons cs fun u r=>onIntK IntKind.i64 u fun n=>onCons r fun u r=>onIntK IntKind.i64 u fun n_7=>onCons r fun u r=>onIntK IntKind.i64 u fun n_8=>onNil r (K0G Tryd.prog glX 52 [V.agg [V.fn (Fn.func (57:FuncId)) [] [],iv k,V.raw Value.nilFunc,iv (0:Int),V.raw Value.nilFunc,iv (0:Int)],iv (IntKind.i64.wrap n_3)] fun v=>onIntK IntKind.i64 v fun n_9=>need (i<(knl q.2.1).length) (onSome (knl K)[0+i]? fun row=>guardB ((0+5).ble row.length) (I (St.mk (mkT [(5,V.ptr (Id.p 0) 0 0),(6,V.ptr (Id.p 1) 0 0),(7,V.ptr (Id.p 2) 0 0),(8,V.ptr (Id.p 3) 0 0),(47,V.lst 5 (knl q.2.1)),(48,iv (↑(knl q.2.1).length:Int)),(49,iv (IntKind.i64.wrap ((↑i:Int)+(1:Int))))]) (Hp.mk [(0,O.rows 3 false [[iv by_.1,iv by_.2.1,iv by_.2.2]]),(1,O.rows 2 false [[nilS,nilS]]),(2,O.rows 6 false [[V.fn (Fn.func (57:FuncId)) [] [],iv k,V.raw Value.nilFunc,iv (0:Int),V.raw Value.nilFunc,iv (0:Int)]]),(3,O.rows 2 false [[V.sl (Id.p 4) 0 (cll q.1).length,V.sl (Id.p 5) 0 (knl q.2.1).length]]),(4,O.rows 3 true (cll L)),(5,O.rows 5 true ((knl K).set (0+i) (iv n::iv n_7::iv n_8::V.raw (Value.int IntKind.u8 (IntKind.u8.wrap n_9))::V.raw (Value.int IntKind.u8 n_4)::(List.append []) (List.drop 5 row))))] 6 []))))))) (R (V.agg [V.lst 3 (sub (cll L) 0 (cll q.1).length),V.lst 5 (sub (knl K) 0 (knl q.2.1).length)]))) (by kernel_rfl) ?_
  refine ifB_mk (fun d=>?_) (fun d=>?_)
  ·have hlt:i<q.2.1.length:=by have:=of_decide_eq_true d; omega
   obtain ⟨x,hx⟩:=getI hlt
   obtain ⟨x1,x2,x3⟩:=hk x (mem_at hx)
   have hxb:Bd 15 x.1:=x1.mono (by omega) (by omega)
   obtain ⟨p1,p2⟩:=pt_rg n x.2.1
   refine kel hx (hcell (c:=x.1) (hxb.mono (by omega)) (onC (add97 (a:=tn n x.1) (b:=by_) ((tn_bd hxb).mono (by omega)) (hby.mono (by omega)) (onC ?_))))
   rw [wr (n:=x.2.1) (by omega) (by omega)]
   obtain ⟨m,hm⟩ : ∃ m:Nat,x.2.1=(m:Int):=⟨x.2.1.toNat,by omega⟩
   rw [hm]
   rw [hm] at p1 p2
   refine hdir (d:=m) (by omega) (onIntK_iv (need_mk ⟨by omega,?_⟩))
   have hz:(knl K)[0+i]? = some (knr ((0,0,0),0,0)):=by
    have:=fill_get (f:=fun k:Kn=>((addC (tn n k.1) by_,pt n k.2.1,k.2.2):Kn)) (z:=(((0,0,0),0,0):Kn)) hlt
    rw [hK2] at this
    rw [Nat.zero_add]; simp [knl,this]
   refine onSome_mk hz (guardB_mk rfl ?_)
   rw [wr1i hlt (by omega),u8w p1 (by omega)]
   have fs:(fill (fun k:Kn=>((addC (tn n k.1) by_,pt n k.2.1,k.2.2):Kn)) ((0,0,0),0,0) q.2.1 i).set i ((addC (tn n x.1) by_,pt n x.2.1,x.2.2):Kn)=fill (fun k:Kn=>((addC (tn n k.1) by_,pt n k.2.1,k.2.2):Kn)) ((0,0,0),0,0) q.2.1 (i+1):=fill_set hx
   rw [hK2] at fs
   have es:(knl K).set (0+i) (iv (addC (tn n x.1) by_).1::iv (addC (tn n x.1) by_).2.1::iv (addC (tn n x.1) by_).2.2::V.raw (.int .u8 (pt n (m:Int)))::V.raw (.int .u8 x.2.2)::List.append [] (List.drop 5 (knr ((0,0,0),0,0))))=knl (fill (fun k:Kn=>((addC (tn n k.1) by_,pt n k.2.1,k.2.2):Kn)) ((0,0,0),0,0) q.2.1 (i+1)):=by
    rw [← fs,← hm]
    exact knl_set K i ((addC (tn n x.1) by_,pt n x.2.1,x.2.2):Kn)
   rw [es,← hL2]
   exact hI (i+1) hlt (by omega)
  ·have hi:i=q.2.1.length:=by have:=of_decide_eq_false d; omega
   subst hi
   rw [fill_full] at hK2
   have s1:sub (cll L) 0 (cll q.1).length=cll (plc q n by_):=by
    rw [← hL2,sub,List.drop_zero,List.take_of_length_le]
    rw [cll_length,cl,plc,(sortC_perm _).length_eq]; simp
   have s2:sub (knl K) 0 (knl q.2.1).length=knl (knb q n by_):=by
    rw [sub,List.drop_zero,List.take_of_length_le (by rw [knl_length,kl,← hK2]; simp),← hK2]; rfl
   rw [s1,s2]
   exact h
set_option maxHeartbeats 2000000 in
theorem put95B {q:Kd} {k s t:Int} {by_:Cl} {n:Nat} {R:V→Prop} (hch:K0G Tryd.prog glX 40 [iv t] fun v=>v=(chB k s)) (hcell : ∀ {c:Cl} {R:V→Prop},Bd 3000 c→R (.agg (clr (tn n c)))→K0G Tryd.prog glX 41 [(chB k s),.agg (clr c)] R) (hdir : ∀ {d:Nat} {R:V→Prop},d<6→R (iv (pt n (d:Int)))→K0G Tryd.prog glX 52 [(chB k s),iv (d:Int)] R)
  (hq:PutP q) (hby:Bd 2000 by_) (h:R (.agg [.lst 3 (cll (plc q n by_)),.lst 5 (knl (knb q n by_))])):K0G Tryd.prog glX 32 [.agg (kdr q),iv t,.agg (clr by_)] R:=by
 refine K0_of_WY0 hmX (hcP (chB k s)) 3000 Tryd.func32 (see (p:=KM Tryd.prog glX 40 [iv t] (Hp.mk [] 0 []) (poP 40 [iv t]) fun v us=>v=V.agg [V.fn (Fn.func (57:FuncId)) [] [],iv k,V.fn (Fn.func (56:FuncId)) [] [],iv s,V.raw Value.nilFunc,iv (0:Int)]∧need ((knl q.2.1).length≤(knl q.2.1).length) (need (32 * (knl q.2.1).length≤140737488355328) (need ((knl q.2.1).length≤9223372036854775807) (need ((cll q.1).length≤(cll q.1).length) (need (24 * (cll q.1).length≤140737488355328) (need ((cll q.1).length≤9223372036854775807) (need ((knl q.2.1).length≤(knl q.2.1).length) (need (32 * (knl q.2.1).length≤140737488355328) (need ((knl q.2.1).length≤9223372036854775807) (La 0 [(3:Tmp),(5:Tmp),(6:Tmp),(7:Tmp),(8:Tmp),(26:Tmp),(27:Tmp),(28:Tmp)] (WY Tryd.prog (cfP (chB k s)) 2993 (Env.mk (Bs.mk 0 []) 0 none 76 32 0) (cdAt [1,1,1,0,1,0,0] (bodyOf Tryd.f32))) (Qblk 0 (Qthen (WY Tryd.prog (cfP (chB k s)) 2996 (Env.mk (Bs.mk 0 []) 0 none 76 32 0) (cdAt [1,1,1,1] (bodyOf Tryd.f32)) (QendX Tryd.prog Tryd.f32 fun v h=>R (frzW h v))) (QendX Tryd.prog Tryd.f32 fun v h=>R (frzW h v)))) (St.mk (mkT [(3,V.ptr (Id.p 0) 0 0),(5,V.ptr (Id.p 1) 0 0),(6,V.ptr (Id.p 2) 0 0),(7,V.ptr (Id.p 3) 0 0),(8,V.ptr (Id.p 4) 0 0),(26,V.lst 3 (cll q.1)),(27,iv (↑(cll q.1).length:Int)),(28,iv (0:Int))]) (Hp.mk [(0,O.rows 3 false [[V.lst 3 (cll q.1),V.lst 5 (knl q.2.1),iv q.2.2]]),(1,O.rows 3 false [[iv by_.1,iv by_.2.1,iv by_.2.2]]),(2,O.rows 2 false [[nilS,nilS]]),(3,O.rows 6 false [[V.fn (Fn.func (57:FuncId)) [] [],iv k,V.fn (Fn.func (56:FuncId)) [] [],iv s,V.raw Value.nilFunc,iv (0:Int)]]),(4,O.rows 2 false [[V.sl (Id.p 5) 0 (cll q.1).length,V.sl (Id.p 6) 0 (knl q.2.1).length]]),(5,O.rows 3 true (List.replicate (cll q.1).length [iv (0:Int),iv (0:Int),iv (0:Int)])),(6,O.rows 5 true (List.replicate (knl q.2.1).length [iv (0:Int),iv (0:Int),iv (0:Int),V.raw (Value.int IntKind.u8 (0:Int)),V.raw (Value.int IntKind.u8 (0:Int))]))] 7 [])))))))))))) (by kernel_rfl) ?_)
 obtain ⟨hc,hcl,hk,hkl⟩:=hq
 have cl:=cll_length q.1
 have kl:=knl_length q.2.1
 refine KM_of_K0 rfl rfl (hch.mono' fun v e=>⟨e,?_⟩)
 refine need_mk ⟨Nat.le_refl _,need_mk ⟨by omega,need_mk ⟨by omega,need_mk ⟨Nat.le_refl _,need_mk ⟨by omega,need_mk ⟨by omega,need_mk ⟨Nat.le_refl _,need_mk ⟨by omega,need_mk ⟨by omega,?_⟩⟩⟩⟩⟩⟩⟩⟩⟩
 have e1:List.replicate (cll q.1).length [iv (0:Int),iv (0:Int),iv (0:Int)]=cll (fill (fun c=>addC (tn n c) by_) (0,0,0) q.1 0):=by rw [cl,fill_zero]; simp [cll,clr]
 have e2:List.replicate (knl q.2.1).length [iv (0:Int),iv (0:Int),iv (0:Int),V.raw (Value.int IntKind.u8 (0:Int)),V.raw (Value.int IntKind.u8 (0:Int))]=knl (fill (fun k:Kn=>((addC (tn n k.1) by_,pt n k.2.1,k.2.2):Kn)) ((0,0,0),0,0) q.2.1 0):=by rw [kl,fill_zero]; simp [knl,knr,u8]
 rw [e1,e2]
 generalize hK:fill (fun k:Kn=>((addC (tn n k.1) by_,pt n k.2.1,k.2.2):Kn)) ((0,0,0),0,0) q.2.1 0=K
 refine La.of (σ:=Nat) (fun i=>sh95a (chBr k s) q by_ (fill (fun c=>addC (tn n c) by_) (0,0,0) q.1 i) K i) (fun i=>i≤q.1.length) (fun i=>q.1.length - i) 0 (by kernel_rfl) (by omega) ?_
 intro i g1 J hJ
 generalize hL:fill (fun c=>addC (tn n c) by_) (0,0,0) q.1 i=L
 refine see (p:=ifB (decide ((↑i:Int)<(↑(cll q.1).length:Int))) (onSome (cll q.1)[i]? fun row=>onCons (List.drop 0 row) fun u r=>onIntK IntKind.i64 u fun n=>onCons r fun u r=>onIntK IntKind.i64 u fun n_1=>onCons r fun u r=>onIntK IntKind.i64 u fun n_2=>K0G Tryd.prog glX 41 [V.agg [V.fn (Fn.func (57:FuncId)) [] [],iv k,V.fn (Fn.func (56:FuncId)) [] [],iv s,V.raw Value.nilFunc,iv (0:Int)],V.agg [iv n,iv n_1,iv n_2]] fun v=>onAgg v fun cs=>onCons cs fun u r=>onIntK IntKind.i64 u fun n=>onCons r fun u r=>onIntK IntKind.i64 u fun n_3=>onCons r fun u r=>onIntK IntKind.i64 u fun n_4=>onNil r (K0G Tryd.prog glX 39 [V.agg [iv n,iv n_3,iv n_4],V.agg [iv by_.1,iv by_.2.1,iv by_.2.2]] fun v=>onAgg v fun cs=>onCons cs fun u r=>onIntK IntKind.i64 u fun n=>onCons r fun u r=>onIntK IntKind.i64 u fun n_5=>onCons r fun u r=>onIntK IntKind.i64 u fun n_6=>onNil r (need (i<(cll q.1).length) (onSome (cll L)[0+i]? fun row=>guardB ((0+3).ble row.length) (J (St.mk (mkT [(3,V.ptr (Id.p 0) 0 0),(5,V.ptr (Id.p 1) 0 0),(6,V.ptr (Id.p 2) 0 0),(7,V.ptr (Id.p 3) 0 0),(8,V.ptr (Id.p 4) 0 0),(26,V.lst 3 (cll q.1)),(27,iv (↑(cll q.1).length:Int)),(28,iv (IntKind.i64.wrap ((↑i:Int)+(1:Int))))]) (Hp.mk [(0,O.rows 3 false [[V.lst 3 (cll q.1),V.lst 5 (knl q.2.1),iv q.2.2]]),(1,O.rows 3 false [[iv by_.1,iv by_.2.1,iv by_.2.2]]),(2,O.rows 2 false [[nilS,nilS]]),(3,O.rows 6 false [[V.fn (Fn.func (57:FuncId)) [] [],iv k,V.fn (Fn.func (56:FuncId)) [] [],iv s,V.raw Value.nilFunc,iv (0:Int)]]),(4,O.rows 2 false [[V.sl (Id.p 5) 0 (cll q.1).length,V.sl (Id.p 6) 0 (knl q.2.1).length]]),(5,O.rows 3 true ((cll L).set (0+i) (iv n::iv n_5::iv n_6::(List.append []) (List.drop 3 row)))),(6,O.rows 5 true (knl K))] 7 []))))))) (KM Tryd.prog glX 50 [V.sl (Id.p 0) 0 (cll q.1).length,V.fn (Fn.func 51) [] []] (Hp.mk [(0,O.rows 3 true (cll L))] 1 []) (poP 50 [V.sl (Id.p 5) 0 (cll q.1).length,V.fn (Fn.func 51) [] []]) fun v us=>onTup v fun vs=>onNil vs (La 0 [(5:Tmp),(6:Tmp),(7:Tmp),(8:Tmp),(47:Tmp),(48:Tmp),(49:Tmp)] (WY Tryd.prog (cfP (chB k s)) 2991 (Env.mk (Bs.mk 0 []) 0 none 76 32 2) (cdAt [1,1,1,1,1,0,1,0,0] (bodyOf Tryd.f32))) (Qblk 2 (Qthen (WY Tryd.prog (cfP (chB k s)) 2994 (Env.mk (Bs.mk 0 []) 0 none 76 32 0) (cdAt [1,1,1,1,1,1] (bodyOf Tryd.f32)) (QendX Tryd.prog Tryd.f32 fun v h=>R (frzW h v))) (QendX Tryd.prog Tryd.f32 fun v h=>R (frzW h v)))) (St.mk (mkT [(5,V.ptr (Id.p 0) 0 0),(6,V.ptr (Id.p 1) 0 0),(7,V.ptr (Id.p 2) 0 0),(8,V.ptr (Id.p 3) 0 0),(47,V.lst 5 (knl q.2.1)),(48,iv (↑(knl q.2.1).length:Int)),(49,iv (0:Int))]) (Hp.mk [(0,O.rows 3 false [[iv by_.1,iv by_.2.1,iv by_.2.2]]),(1,O.rows 2 false [[nilS,nilS]]),(2,O.rows 6 false [[V.fn (Fn.func (57:FuncId)) [] [],iv k,V.fn (Fn.func (56:FuncId)) [] [],iv s,V.raw Value.nilFunc,iv (0:Int)]]),(3,O.rows 2 false [[V.sl (Id.p 4) 0 (cll q.1).length,V.sl (Id.p 5) 0 (knl q.2.1).length]]),(4,O.rows 3 true (List.getD us 0 [])),(5,O.rows 5 true (knl K))] 6 []))))) (by kernel_rfl) ?_
 refine ifB_mk (fun d=>?_) (fun d=>?_)
 ·have hlt:i<q.1.length:=by have:=of_decide_eq_true d; omega
  obtain ⟨x,hx⟩:=getI hlt
  have hxb:Bd 15 x:=(hc x (mem_at hx)).mono (by omega) (by omega)
  refine cel hx (hcell (c:=x) (hxb.mono (by omega)) (onC (add97 (a:=tn n x) (b:=by_) ((tn_bd hxb).mono (by omega)) (hby.mono (by omega)) (onC (need_mk ⟨by omega,?_⟩)))))
  have hz:(cll L)[0+i]? = some (clr (0,0,0)):=by
   have:=fill_get (f:=fun c=>addC (tn n c) by_) (z:=((0,0,0):Cl)) hlt
   rw [hL] at this
   rw [Nat.zero_add]; simp [cll,this]
  refine onSome_mk hz (guardB_mk rfl ?_)
  rw [wr1i hlt (by omega),cll_set L i (addC (tn n x) by_),← hL,fill_set hx]
  exact hJ (i+1) hlt (by omega)
 ·have hi:i=q.1.length:=by have:=of_decide_eq_false d; omega
  subst hi
  rw [fill_full] at hL
  have el:(cll q.1).length=L.length:=by rw [cl,← hL]; simp
  rw [el]
  refine sort129 (l:=L) (by omega) (fun us=>rfl) (onTup_tup (onNil_nil ?_))
  have hs:sortC L=plc q n by_:=by rw [← hL]; rfl
  rw [hs]
  rw [← el]
  clear hJ
  refine La.of (σ:=Nat) (fun i=>sh95b (chBr k s) q by_ (plc q n by_) (fill (fun k:Kn=>((addC (tn n k.1) by_,pt n k.2.1,k.2.2):Kn)) ((0,0,0),0,0) q.2.1 i) i) (fun i=>i≤q.2.1.length) (fun i=>q.2.1.length - i) 0 (by rw [← hK]; kernel_rfl) (by omega) ?_
  intro i g1 I hI
  clear hL hs el
  generalize hL2:plc q n by_=L
  clear hK
  generalize hK2:fill (fun k:Kn=>((addC (tn n k.1) by_,pt n k.2.1,k.2.2):Kn)) ((0,0,0),0,0) q.2.1 i=K
  refine see (p:=ifB (decide ((↑i:Int)<(↑(knl q.2.1).length:Int))) (onSome (knl q.2.1)[i]? fun row=>onCons (List.drop 0 row) fun u r=>onIntK IntKind.i64 u fun n=>onCons r fun u r=>onIntK IntKind.i64 u fun n_1=>onCons r fun u r=>onIntK IntKind.i64 u fun n_2=>onCons r fun u r=>onIntK IntKind.u8 u fun n_3=>onCons r fun u r=>onIntK IntKind.u8 u fun n_4=>K0G Tryd.prog glX 41 [V.agg [V.fn (Fn.func (57:FuncId)) [] [],iv k,V.fn (Fn.func (56:FuncId)) [] [],iv s,V.raw Value.nilFunc,iv (0:Int)],V.agg [iv n,iv n_1,iv n_2]] fun v=>onAgg v fun cs=>onCons cs fun u r=>onIntK IntKind.i64 u fun n=>onCons r fun u r=>onIntK IntKind.i64 u fun n_5=>onCons r fun u r=>onIntK IntKind.i64 u fun n_6=>onNil r (K0G Tryd.prog glX 39 [V.agg [iv n,iv n_5,iv n_6],V.agg [iv by_.1,iv by_.2.1,iv by_.2.2]] fun v=>onAgg v fun cs=>onCons cs fun u r=>onIntK IntKind.i64 u fun n=>onCons r fun u r=>onIntK IntKind.i64 u fun n_7=>onCons r fun u r=>onIntK IntKind.i64 u fun n_8=>onNil r (K0G Tryd.prog glX 52 [V.agg [V.fn (Fn.func (57:FuncId)) [] [],iv k,V.fn (Fn.func (56:FuncId)) [] [],iv s,V.raw Value.nilFunc,iv (0:Int)],iv (IntKind.i64.wrap n_3)] fun v=>onIntK IntKind.i64 v fun n_9=>need (i<(knl q.2.1).length) (onSome (knl K)[0+i]? fun row=>guardB ((0+5).ble row.length) (I (St.mk (mkT [(5,V.ptr (Id.p 0) 0 0),(6,V.ptr (Id.p 1) 0 0),(7,V.ptr (Id.p 2) 0 0),(8,V.ptr (Id.p 3) 0 0),(47,V.lst 5 (knl q.2.1)),(48,iv (↑(knl q.2.1).length:Int)),(49,iv (IntKind.i64.wrap ((↑i:Int)+(1:Int))))]) (Hp.mk [(0,O.rows 3 false [[iv by_.1,iv by_.2.1,iv by_.2.2]]),(1,O.rows 2 false [[nilS,nilS]]),(2,O.rows 6 false [[V.fn (Fn.func (57:FuncId)) [] [],iv k,V.fn (Fn.func (56:FuncId)) [] [],iv s,V.raw Value.nilFunc,iv (0:Int)]]),(3,O.rows 2 false [[V.sl (Id.p 4) 0 (cll q.1).length,V.sl (Id.p 5) 0 (knl q.2.1).length]]),(4,O.rows 3 true (cll L)),(5,O.rows 5 true ((knl K).set (0+i) (iv n::iv n_7::iv n_8::V.raw (Value.int IntKind.u8 (IntKind.u8.wrap n_9))::V.raw (Value.int IntKind.u8 n_4)::(List.append []) (List.drop 5 row))))] 6 []))))))) (R (V.agg [V.lst 3 (sub (cll L) 0 (cll q.1).length),V.lst 5 (sub (knl K) 0 (knl q.2.1).length)]))) (by kernel_rfl) ?_
  refine ifB_mk (fun d=>?_) (fun d=>?_)
  ·have hlt:i<q.2.1.length:=by have:=of_decide_eq_true d; omega
   obtain ⟨x,hx⟩:=getI hlt
   obtain ⟨x1,x2,x3⟩:=hk x (mem_at hx)
   have hxb:Bd 15 x.1:=x1.mono (by omega) (by omega)
   obtain ⟨p1,p2⟩:=pt_rg n x.2.1
   refine kel hx (hcell (c:=x.1) (hxb.mono (by omega)) (onC (add97 (a:=tn n x.1) (b:=by_) ((tn_bd hxb).mono (by omega)) (hby.mono (by omega)) (onC ?_))))
   rw [wr (n:=x.2.1) (by omega) (by omega)]
   obtain ⟨m,hm⟩ : ∃ m:Nat,x.2.1=(m:Int):=⟨x.2.1.toNat,by omega⟩
   rw [hm]
   rw [hm] at p1 p2
   refine hdir (d:=m) (by omega) (onIntK_iv (need_mk ⟨by omega,?_⟩))
   have hz:(knl K)[0+i]? = some (knr ((0,0,0),0,0)):=by
    have:=fill_get (f:=fun k:Kn=>((addC (tn n k.1) by_,pt n k.2.1,k.2.2):Kn)) (z:=(((0,0,0),0,0):Kn)) hlt
    rw [hK2] at this
    rw [Nat.zero_add]; simp [knl,this]
   refine onSome_mk hz (guardB_mk rfl ?_)
   rw [wr1i hlt (by omega),u8w p1 (by omega)]
   have fs:(fill (fun k:Kn=>((addC (tn n k.1) by_,pt n k.2.1,k.2.2):Kn)) ((0,0,0),0,0) q.2.1 i).set i ((addC (tn n x.1) by_,pt n x.2.1,x.2.2):Kn)=fill (fun k:Kn=>((addC (tn n k.1) by_,pt n k.2.1,k.2.2):Kn)) ((0,0,0),0,0) q.2.1 (i+1):=fill_set hx
   rw [hK2] at fs
   have es:(knl K).set (0+i) (iv (addC (tn n x.1) by_).1::iv (addC (tn n x.1) by_).2.1::iv (addC (tn n x.1) by_).2.2::V.raw (.int .u8 (pt n (m:Int)))::V.raw (.int .u8 x.2.2)::List.append [] (List.drop 5 (knr ((0,0,0),0,0))))=knl (fill (fun k:Kn=>((addC (tn n k.1) by_,pt n k.2.1,k.2.2):Kn)) ((0,0,0),0,0) q.2.1 (i+1)):=by
    rw [← fs,← hm]
    exact knl_set K i ((addC (tn n x.1) by_,pt n x.2.1,x.2.2):Kn)
   rw [es,← hL2]
   exact hI (i+1) hlt (by omega)
  ·have hi:i=q.2.1.length:=by have:=of_decide_eq_false d; omega
   subst hi
   rw [fill_full] at hK2
   have s1:sub (cll L) 0 (cll q.1).length=cll (plc q n by_):=by
    rw [← hL2,sub,List.drop_zero,List.take_of_length_le]
    rw [cll_length,cl,plc,(sortC_perm _).length_eq]; simp
   have s2:sub (knl K) 0 (knl q.2.1).length=knl (knb q n by_):=by
    rw [sub,List.drop_zero,List.take_of_length_le (by rw [knl_length,kl,← hK2]; simp),← hK2]; rfl
   rw [s1,s2]
   exact h
set_option maxHeartbeats 2000000 in
theorem put95C {q:Kd} {k j t:Int} {by_:Cl} {n:Nat} {R:V→Prop} (hch:K0G Tryd.prog glX 40 [iv t] fun v=>v=(chC k j)) (hcell : ∀ {c:Cl} {R:V→Prop},Bd 3000 c→R (.agg (clr (tn n c)))→K0G Tryd.prog glX 41 [(chC k j),.agg (clr c)] R) (hdir : ∀ {d:Nat} {R:V→Prop},d<6→R (iv (pt n (d:Int)))→K0G Tryd.prog glX 52 [(chC k j),iv (d:Int)] R)
  (hq:PutP q) (hby:Bd 2000 by_) (h:R (.agg [.lst 3 (cll (plc q n by_)),.lst 5 (knl (knb q n by_))])):K0G Tryd.prog glX 32 [.agg (kdr q),iv t,.agg (clr by_)] R:=by
 refine K0_of_WY0 hmX (hcP (chC k j)) 3000 Tryd.func32 (see (p:=KM Tryd.prog glX 40 [iv t] (Hp.mk [] 0 []) (poP 40 [iv t]) fun v us=>v=V.agg [V.fn (Fn.func (57:FuncId)) [] [],iv k,V.fn (Fn.func (56:FuncId)) [] [],iv (1:Int),V.fn (Fn.func (57:FuncId)) [] [],iv j]∧need ((knl q.2.1).length≤(knl q.2.1).length) (need (32 * (knl q.2.1).length≤140737488355328) (need ((knl q.2.1).length≤9223372036854775807) (need ((cll q.1).length≤(cll q.1).length) (need (24 * (cll q.1).length≤140737488355328) (need ((cll q.1).length≤9223372036854775807) (need ((knl q.2.1).length≤(knl q.2.1).length) (need (32 * (knl q.2.1).length≤140737488355328) (need ((knl q.2.1).length≤9223372036854775807) (La 0 [(3:Tmp),(5:Tmp),(6:Tmp),(7:Tmp),(8:Tmp),(26:Tmp),(27:Tmp),(28:Tmp)] (WY Tryd.prog (cfP (chC k j)) 2993 (Env.mk (Bs.mk 0 []) 0 none 76 32 0) (cdAt [1,1,1,0,1,0,0] (bodyOf Tryd.f32))) (Qblk 0 (Qthen (WY Tryd.prog (cfP (chC k j)) 2996 (Env.mk (Bs.mk 0 []) 0 none 76 32 0) (cdAt [1,1,1,1] (bodyOf Tryd.f32)) (QendX Tryd.prog Tryd.f32 fun v h=>R (frzW h v))) (QendX Tryd.prog Tryd.f32 fun v h=>R (frzW h v)))) (St.mk (mkT [(3,V.ptr (Id.p 0) 0 0),(5,V.ptr (Id.p 1) 0 0),(6,V.ptr (Id.p 2) 0 0),(7,V.ptr (Id.p 3) 0 0),(8,V.ptr (Id.p 4) 0 0),(26,V.lst 3 (cll q.1)),(27,iv (↑(cll q.1).length:Int)),(28,iv (0:Int))]) (Hp.mk [(0,O.rows 3 false [[V.lst 3 (cll q.1),V.lst 5 (knl q.2.1),iv q.2.2]]),(1,O.rows 3 false [[iv by_.1,iv by_.2.1,iv by_.2.2]]),(2,O.rows 2 false [[nilS,nilS]]),(3,O.rows 6 false [[V.fn (Fn.func (57:FuncId)) [] [],iv k,V.fn (Fn.func (56:FuncId)) [] [],iv (1:Int),V.fn (Fn.func (57:FuncId)) [] [],iv j]]),(4,O.rows 2 false [[V.sl (Id.p 5) 0 (cll q.1).length,V.sl (Id.p 6) 0 (knl q.2.1).length]]),(5,O.rows 3 true (List.replicate (cll q.1).length [iv (0:Int),iv (0:Int),iv (0:Int)])),(6,O.rows 5 true (List.replicate (knl q.2.1).length [iv (0:Int),iv (0:Int),iv (0:Int),V.raw (Value.int IntKind.u8 (0:Int)),V.raw (Value.int IntKind.u8 (0:Int))]))] 7 [])))))))))))) (by kernel_rfl) ?_)
 obtain ⟨hc,hcl,hk,hkl⟩:=hq
 have cl:=cll_length q.1
 have kl:=knl_length q.2.1
 refine KM_of_K0 rfl rfl (hch.mono' fun v e=>⟨e,?_⟩)
 refine need_mk ⟨Nat.le_refl _,need_mk ⟨by omega,need_mk ⟨by omega,need_mk ⟨Nat.le_refl _,need_mk ⟨by omega,need_mk ⟨by omega,need_mk ⟨Nat.le_refl _,need_mk ⟨by omega,need_mk ⟨by omega,?_⟩⟩⟩⟩⟩⟩⟩⟩⟩
 have e1:List.replicate (cll q.1).length [iv (0:Int),iv (0:Int),iv (0:Int)]=cll (fill (fun c=>addC (tn n c) by_) (0,0,0) q.1 0):=by rw [cl,fill_zero]; simp [cll,clr]
 have e2:List.replicate (knl q.2.1).length [iv (0:Int),iv (0:Int),iv (0:Int),V.raw (Value.int IntKind.u8 (0:Int)),V.raw (Value.int IntKind.u8 (0:Int))]=knl (fill (fun k:Kn=>((addC (tn n k.1) by_,pt n k.2.1,k.2.2):Kn)) ((0,0,0),0,0) q.2.1 0):=by rw [kl,fill_zero]; simp [knl,knr,u8]
 rw [e1,e2]
 generalize hK:fill (fun k:Kn=>((addC (tn n k.1) by_,pt n k.2.1,k.2.2):Kn)) ((0,0,0),0,0) q.2.1 0=K
 refine La.of (σ:=Nat) (fun i=>sh95a (chCr k j) q by_ (fill (fun c=>addC (tn n c) by_) (0,0,0) q.1 i) K i) (fun i=>i≤q.1.length) (fun i=>q.1.length - i) 0 (by kernel_rfl) (by omega) ?_
 intro i g1 J hJ
 generalize hL:fill (fun c=>addC (tn n c) by_) (0,0,0) q.1 i=L
 refine see (p:=ifB (decide ((↑i:Int)<(↑(cll q.1).length:Int))) (onSome (cll q.1)[i]? fun row=>onCons (List.drop 0 row) fun u r=>onIntK IntKind.i64 u fun n=>onCons r fun u r=>onIntK IntKind.i64 u fun n_1=>onCons r fun u r=>onIntK IntKind.i64 u fun n_2=>K0G Tryd.prog glX 41 [V.agg [V.fn (Fn.func (57:FuncId)) [] [],iv k,V.fn (Fn.func (56:FuncId)) [] [],iv (1:Int),V.fn (Fn.func (57:FuncId)) [] [],iv j],V.agg [iv n,iv n_1,iv n_2]] fun v=>onAgg v fun cs=>onCons cs fun u r=>onIntK IntKind.i64 u fun n=>onCons r fun u r=>onIntK IntKind.i64 u fun n_3=>onCons r fun u r=>onIntK IntKind.i64 u fun n_4=>onNil r (K0G Tryd.prog glX 39 [V.agg [iv n,iv n_3,iv n_4],V.agg [iv by_.1,iv by_.2.1,iv by_.2.2]] fun v=>onAgg v fun cs=>onCons cs fun u r=>onIntK IntKind.i64 u fun n=>onCons r fun u r=>onIntK IntKind.i64 u fun n_5=>onCons r fun u r=>onIntK IntKind.i64 u fun n_6=>onNil r (need (i<(cll q.1).length) (onSome (cll L)[0+i]? fun row=>guardB ((0+3).ble row.length) (J (St.mk (mkT [(3,V.ptr (Id.p 0) 0 0),(5,V.ptr (Id.p 1) 0 0),(6,V.ptr (Id.p 2) 0 0),(7,V.ptr (Id.p 3) 0 0),(8,V.ptr (Id.p 4) 0 0),(26,V.lst 3 (cll q.1)),(27,iv (↑(cll q.1).length:Int)),(28,iv (IntKind.i64.wrap ((↑i:Int)+(1:Int))))]) (Hp.mk [(0,O.rows 3 false [[V.lst 3 (cll q.1),V.lst 5 (knl q.2.1),iv q.2.2]]),(1,O.rows 3 false [[iv by_.1,iv by_.2.1,iv by_.2.2]]),(2,O.rows 2 false [[nilS,nilS]]),(3,O.rows 6 false [[V.fn (Fn.func (57:FuncId)) [] [],iv k,V.fn (Fn.func (56:FuncId)) [] [],iv (1:Int),V.fn (Fn.func (57:FuncId)) [] [],iv j]]),(4,O.rows 2 false [[V.sl (Id.p 5) 0 (cll q.1).length,V.sl (Id.p 6) 0 (knl q.2.1).length]]),(5,O.rows 3 true ((cll L).set (0+i) (iv n::iv n_5::iv n_6::(List.append []) (List.drop 3 row)))),(6,O.rows 5 true (knl K))] 7 []))))))) (KM Tryd.prog glX 50 [V.sl (Id.p 0) 0 (cll q.1).length,V.fn (Fn.func 51) [] []] (Hp.mk [(0,O.rows 3 true (cll L))] 1 []) (poP 50 [V.sl (Id.p 5) 0 (cll q.1).length,V.fn (Fn.func 51) [] []]) fun v us=>onTup v fun vs=>onNil vs (La 0 [(5:Tmp),(6:Tmp),(7:Tmp),(8:Tmp),(47:Tmp),(48:Tmp),(49:Tmp)] (WY Tryd.prog (cfP (chC k j)) 2991 (Env.mk (Bs.mk 0 []) 0 none 76 32 2) (cdAt [1,1,1,1,1,0,1,0,0] (bodyOf Tryd.f32))) (Qblk 2 (Qthen (WY Tryd.prog (cfP (chC k j)) 2994 (Env.mk (Bs.mk 0 []) 0 none 76 32 0) (cdAt [1,1,1,1,1,1] (bodyOf Tryd.f32)) (QendX Tryd.prog Tryd.f32 fun v h=>R (frzW h v))) (QendX Tryd.prog Tryd.f32 fun v h=>R (frzW h v)))) (St.mk (mkT [(5,V.ptr (Id.p 0) 0 0),(6,V.ptr (Id.p 1) 0 0),(7,V.ptr (Id.p 2) 0 0),(8,V.ptr (Id.p 3) 0 0),(47,V.lst 5 (knl q.2.1)),(48,iv (↑(knl q.2.1).length:Int)),(49,iv (0:Int))]) (Hp.mk [(0,O.rows 3 false [[iv by_.1,iv by_.2.1,iv by_.2.2]]),(1,O.rows 2 false [[nilS,nilS]]),(2,O.rows 6 false [[V.fn (Fn.func (57:FuncId)) [] [],iv k,V.fn (Fn.func (56:FuncId)) [] [],iv (1:Int),V.fn (Fn.func (57:FuncId)) [] [],iv j]]),(3,O.rows 2 false [[V.sl (Id.p 4) 0 (cll q.1).length,V.sl (Id.p 5) 0 (knl q.2.1).length]]),(4,O.rows 3 true (List.getD us 0 [])),(5,O.rows 5 true (knl K))] 6 []))))) (by kernel_rfl) ?_
 refine ifB_mk (fun d=>?_) (fun d=>?_)
 ·have hlt:i<q.1.length:=by have:=of_decide_eq_true d; omega
  obtain ⟨x,hx⟩:=getI hlt
  have hxb:Bd 15 x:=(hc x (mem_at hx)).mono (by omega) (by omega)
  refine cel hx (hcell (c:=x) (hxb.mono (by omega)) (onC (add97 (a:=tn n x) (b:=by_) ((tn_bd hxb).mono (by omega)) (hby.mono (by omega)) (onC (need_mk ⟨by omega,?_⟩)))))
  have hz:(cll L)[0+i]? = some (clr (0,0,0)):=by
   have:=fill_get (f:=fun c=>addC (tn n c) by_) (z:=((0,0,0):Cl)) hlt
   rw [hL] at this
   rw [Nat.zero_add]; simp [cll,this]
  refine onSome_mk hz (guardB_mk rfl ?_)
  rw [wr1i hlt (by omega),cll_set L i (addC (tn n x) by_),← hL,fill_set hx]
  exact hJ (i+1) hlt (by omega)
 ·have hi:i=q.1.length:=by have:=of_decide_eq_false d; omega
  subst hi
  rw [fill_full] at hL
  have el:(cll q.1).length=L.length:=by rw [cl,← hL]; simp
  rw [el]
  refine sort129 (l:=L) (by omega) (fun us=>rfl) (onTup_tup (onNil_nil ?_))
  have hs:sortC L=plc q n by_:=by rw [← hL]; rfl
  rw [hs]
  rw [← el]
  clear hJ
  refine La.of (σ:=Nat) (fun i=>sh95b (chCr k j) q by_ (plc q n by_) (fill (fun k:Kn=>((addC (tn n k.1) by_,pt n k.2.1,k.2.2):Kn)) ((0,0,0),0,0) q.2.1 i) i) (fun i=>i≤q.2.1.length) (fun i=>q.2.1.length - i) 0 (by rw [← hK]; kernel_rfl) (by omega) ?_
  intro i g1 I hI
  clear hL hs el
  generalize hL2:plc q n by_=L
  clear hK
  generalize hK2:fill (fun k:Kn=>((addC (tn n k.1) by_,pt n k.2.1,k.2.2):Kn)) ((0,0,0),0,0) q.2.1 i=K
  refine see (p:=ifB (decide ((↑i:Int)<(↑(knl q.2.1).length:Int))) (onSome (knl q.2.1)[i]? fun row=>onCons (List.drop 0 row) fun u r=>onIntK IntKind.i64 u fun n=>onCons r fun u r=>onIntK IntKind.i64 u fun n_1=>onCons r fun u r=>onIntK IntKind.i64 u fun n_2=>onCons r fun u r=>onIntK IntKind.u8 u fun n_3=>onCons r fun u r=>onIntK IntKind.u8 u fun n_4=>K0G Tryd.prog glX 41 [V.agg [V.fn (Fn.func (57:FuncId)) [] [],iv k,V.fn (Fn.func (56:FuncId)) [] [],iv (1:Int),V.fn (Fn.func (57:FuncId)) [] [],iv j],V.agg [iv n,iv n_1,iv n_2]] fun v=>onAgg v fun cs=>onCons cs fun u r=>onIntK IntKind.i64 u fun n=>onCons r fun u r=>onIntK IntKind.i64 u fun n_5=>onCons r fun u r=>onIntK IntKind.i64 u fun n_6=>onNil r (K0G Tryd.prog glX 39 [V.agg [iv n,iv n_5,iv n_6],V.agg [iv by_.1,iv by_.2.1,iv by_.2.2]] fun v=>onAgg v fun cs=>onCons cs fun u r=>onIntK IntKind.i64 u fun n=>onCons r fun u r=>onIntK IntKind.i64 u fun n_7=>onCons r fun u r=>onIntK IntKind.i64 u fun n_8=>onNil r (K0G Tryd.prog glX 52 [V.agg [V.fn (Fn.func (57:FuncId)) [] [],iv k,V.fn (Fn.func (56:FuncId)) [] [],iv (1:Int),V.fn (Fn.func (57:FuncId)) [] [],iv j],iv (IntKind.i64.wrap n_3)] fun v=>onIntK IntKind.i64 v fun n_9=>need (i<(knl q.2.1).length) (onSome (knl K)[0+i]? fun row=>guardB ((0+5).ble row.length) (I (St.mk (mkT [(5,V.ptr (Id.p 0) 0 0),(6,V.ptr (Id.p 1) 0 0),(7,V.ptr (Id.p 2) 0 0),(8,V.ptr (Id.p 3) 0 0),(47,V.lst 5 (knl q.2.1)),(48,iv (↑(knl q.2.1).length:Int)),(49,iv (IntKind.i64.wrap ((↑i:Int)+(1:Int))))]) (Hp.mk [(0,O.rows 3 false [[iv by_.1,iv by_.2.1,iv by_.2.2]]),(1,O.rows 2 false [[nilS,nilS]]),(2,O.rows 6 false [[V.fn (Fn.func (57:FuncId)) [] [],iv k,V.fn (Fn.func (56:FuncId)) [] [],iv (1:Int),V.fn (Fn.func (57:FuncId)) [] [],iv j]]),(3,O.rows 2 false [[V.sl (Id.p 4) 0 (cll q.1).length,V.sl (Id.p 5) 0 (knl q.2.1).length]]),(4,O.rows 3 true (cll L)),(5,O.rows 5 true ((knl K).set (0+i) (iv n::iv n_7::iv n_8::V.raw (Value.int IntKind.u8 (IntKind.u8.wrap n_9))::V.raw (Value.int IntKind.u8 n_4)::(List.append []) (List.drop 5 row))))] 6 []))))))) (R (V.agg [V.lst 3 (sub (cll L) 0 (cll q.1).length),V.lst 5 (sub (knl K) 0 (knl q.2.1).length)]))) (by kernel_rfl) ?_
  refine ifB_mk (fun d=>?_) (fun d=>?_)
  ·have hlt:i<q.2.1.length:=by have:=of_decide_eq_true d; omega
   obtain ⟨x,hx⟩:=getI hlt
   obtain ⟨x1,x2,x3⟩:=hk x (mem_at hx)
   have hxb:Bd 15 x.1:=x1.mono (by omega) (by omega)
   obtain ⟨p1,p2⟩:=pt_rg n x.2.1
   refine kel hx (hcell (c:=x.1) (hxb.mono (by omega)) (onC (add97 (a:=tn n x.1) (b:=by_) ((tn_bd hxb).mono (by omega)) (hby.mono (by omega)) (onC ?_))))
   rw [wr (n:=x.2.1) (by omega) (by omega)]
   obtain ⟨m,hm⟩ : ∃ m:Nat,x.2.1=(m:Int):=⟨x.2.1.toNat,by omega⟩
   rw [hm]
   rw [hm] at p1 p2
   refine hdir (d:=m) (by omega) (onIntK_iv (need_mk ⟨by omega,?_⟩))
   have hz:(knl K)[0+i]? = some (knr ((0,0,0),0,0)):=by
    have:=fill_get (f:=fun k:Kn=>((addC (tn n k.1) by_,pt n k.2.1,k.2.2):Kn)) (z:=(((0,0,0),0,0):Kn)) hlt
    rw [hK2] at this
    rw [Nat.zero_add]; simp [knl,this]
   refine onSome_mk hz (guardB_mk rfl ?_)
   rw [wr1i hlt (by omega),u8w p1 (by omega)]
   have fs:(fill (fun k:Kn=>((addC (tn n k.1) by_,pt n k.2.1,k.2.2):Kn)) ((0,0,0),0,0) q.2.1 i).set i ((addC (tn n x.1) by_,pt n x.2.1,x.2.2):Kn)=fill (fun k:Kn=>((addC (tn n k.1) by_,pt n k.2.1,k.2.2):Kn)) ((0,0,0),0,0) q.2.1 (i+1):=fill_set hx
   rw [hK2] at fs
   have es:(knl K).set (0+i) (iv (addC (tn n x.1) by_).1::iv (addC (tn n x.1) by_).2.1::iv (addC (tn n x.1) by_).2.2::V.raw (.int .u8 (pt n (m:Int)))::V.raw (.int .u8 x.2.2)::List.append [] (List.drop 5 (knr ((0,0,0),0,0))))=knl (fill (fun k:Kn=>((addC (tn n k.1) by_,pt n k.2.1,k.2.2):Kn)) ((0,0,0),0,0) q.2.1 (i+1)):=by
    rw [← fs,← hm]
    exact knl_set K i ((addC (tn n x.1) by_,pt n x.2.1,x.2.2):Kn)
   rw [es,← hL2]
   exact hI (i+1) hlt (by omega)
  ·have hi:i=q.2.1.length:=by have:=of_decide_eq_false d; omega
   subst hi
   rw [fill_full] at hK2
   have s1:sub (cll L) 0 (cll q.1).length=cll (plc q n by_):=by
    rw [← hL2,sub,List.drop_zero,List.take_of_length_le]
    rw [cll_length,cl,plc,(sortC_perm _).length_eq]; simp
   have s2:sub (knl K) 0 (knl q.2.1).length=knl (knb q n by_):=by
    rw [sub,List.drop_zero,List.take_of_length_le (by rw [knl_length,kl,← hK2]; simp),← hK2]; rfl
   rw [s1,s2]
   exact h
theorem put95 {q:Kd} {by_:Cl} {n:Nat} {R:V→Prop} (hn:n<24) (hq:PutP q) (hby:Bd 2000 by_) (h:R (.agg [.lst 3 (cll (plc q n by_)),.lst 5 (knl (knb q n by_))])):K0G Tryd.prog glX 32 [.agg (kdr q),iv (n:Int),.agg (clr by_)] R:=by
 have c1:K0G Tryd.prog glX 40 [iv (n:Int)] fun v=>v=ch n:=chain82 n hn rfl
 have c2 : ∀ {c:Cl} {R:V→Prop},Bd 3000 c→R (.agg (clr (tn n c)))→K0G Tryd.prog glX 41 [ch n,.agg (clr c)] R:=fun hb h=>cell85 hb n hn h
 have c3 : ∀ {d:Nat} {R:V→Prop},d<6→R (iv (pt n (d:Int)))→K0G Tryd.prog glX 52 [ch n,iv (d:Int)] R:=fun hd h=>dir83 hd n hn h
 unfold ch at c1 c2 c3
 by_cases h1:n / 4<1
 ·rw [if_pos h1] at c1 c2 c3
  exact put95A c1 c2 c3 hq hby h
 ·rw [if_neg h1] at c1 c2 c3
  by_cases h2:n / 4<4
  ·rw [if_pos h2] at c1 c2 c3
   exact put95B c1 c2 c3 hq hby h
  ·rw [if_neg h2] at c1 c2 c3
   exact put95C c1 c2 c3 hq hby h
end Go.Proofs.YtbionhgjgcpogaaDoor
namespace Go.Proofs.YtbionhgjgcpogaaDoor
open Go Go.Proofs.YtbionhgjgcpogaaDoor.Clean
set_option linter.unusedVariables false
set_option maxRecDepth 100000
def kpQ:FuncId→Nat→Option (List Tmp):=slotsOf [(36,0,[3,4]),(36,2,[3,4,5]),(20,0,[3,5,6,7])]
noncomputable def cfQ:Cfg:=cfgM Tryd.prog glX moZ tyZ (inN [22,21]) kpQ
noncomputable def sh101a (L:List Cl) (n i:Nat):St:=⟨mkT [(3,V.sl (Id.p 0) 0 n),(4,iv (i:Int))],⟨[(0,O.rows 3 true (cll L))],1,[]⟩⟩
noncomputable def sh101b (L:List Cl) (n i k:Nat):St:=⟨mkT [(3,V.sl (Id.p 0) 0 n),(4,iv (i:Int)),(5,iv (k:Int))],⟨[(0,O.rows 3 true (cll L))],1,[]⟩⟩
noncomputable def sh59n (q:Kd) (b:Bk):St:=⟨mkT [(3,V.ptr (Id.p 0) 0 0),(5,V.ptr (Id.p 1) 0 0),(6,nilS),(7,iv 0)],⟨[(0,O.rows 6 false [bkr b]),(1,O.rows 3 false [kdr q])],2,[]⟩⟩
noncomputable def sh59 (q:Kd) (b:Bk) (L:List Cl) (n i:Nat):St:=⟨mkT [(3,V.ptr (Id.p 0) 0 0),(5,V.ptr (Id.p 1) 0 0),(6,V.sl (Id.p 2) 0 n),(7,iv (i:Int))],⟨[(0,O.rows 6 false [bkr b]),(1,O.rows 3 false [kdr q]),(2,O.rows 3 true (cll L))],3,[]⟩⟩
set_option linter.unusedSimpArgs false
set_option maxRecDepth 10000
theorem hcQ:cfQ.ok Tryd.prog:=cfgM_ok
def Pin (L:List Cl) (k i:Nat):Prop := ∀ (a b:Nat) (x y:Cl),a<b→b≤i→b≠k→L[a]? = some x→L[b]? = some y → ¬ Bef y x
def Sin (L:List Cl) (i:Nat):Prop := ∀ (a b:Nat) (x y:Cl),a<b→b<i→L[a]? = some x→L[b]? = some y → ¬ Bef y x
theorem Bef.ntr {x y z:Cl} (h1 : ¬ Bef x y) (h2 : ¬ Bef y z) : ¬ Bef x z:=by unfold Bef at *; omega
theorem Sin.start {L:List Cl} {i:Nat} (h:Sin L i):Pin L i i:=fun a b x y h1 h2 h3 h4 h5=>h a b x y h1 (by omega) h4 h5
theorem Pin.fin {L:List Cl} {k i:Nat} (h:Pin L k i) (hk:k=0 ∨ ∃ x y,L[k]? = some x∧L[k - 1]? = some y ∧ ¬ Bef x y):Sin L (i+1):=fun a b u v h1 h2 h3 h4=>by
 by_cases hb:b=k
 ·subst hb
  rcases hk with hk | ⟨x,y,hx,hy,hxy⟩
  ·omega
  ·rw [hx] at h4
   cases h4
   by_cases ha:a=b - 1
   ·subst ha
    rw [hy] at h3; cases h3
    exact hxy
   ·exact Bef.ntr hxy (h a (b - 1) u y (by omega) (by omega) (by omega) h3 hy)
 ·exact h a b u v h1 (by omega) hb h3 h4
theorem get_swap {L:List Cl} {k:Nat} {x y:Cl} (hx:L[k]? = some x) (hy:L[k - 1]? = some y) (hk:0<k) (j:Nat):((L.set k y).set (k - 1) x)[j]? = if j=k - 1 then some x else if j=k then some y else L[j]? := by
 have h1:=(List.getElem?_eq_some_iff.1 hx).1
 rw [List.getElem?_set,List.getElem?_set,List.length_set]
 by_cases e1:j=k - 1
 ·rw [if_pos e1,if_pos e1.symm,if_pos (by omega)]
 ·rw [if_neg e1,if_neg (fun h=>e1 h.symm)]
  by_cases e2:j=k
  ·rw [if_pos e2,if_pos e2.symm,if_pos (by omega)]
  ·rw [if_neg e2,if_neg (fun h=>e2 h.symm)]
theorem Pin.swap {L:List Cl} {k i:Nat} {x y:Cl} (h:Pin L k i) (hk:0<k) (hki:k≤i) (hx:L[k]? = some x) (hy:L[k - 1]? = some y) (hxy:Bef x y):Pin ((L.set k y).set (k - 1) x) (k - 1) i:=fun a b u v h1 h2 h3 h4 h5=>by
 rw [get_swap hx hy hk] at h4 h5
 rw [if_neg h3] at h5
 by_cases hb:b=k
 ·rw [if_pos hb] at h5
  cases h5
  by_cases ha:a=k - 1
  ·rw [if_pos ha] at h4; cases h4
   exact Bef.asy hxy
  ·rw [if_neg ha,if_neg (by omega)] at h4
   exact h a (k - 1) u _ (by omega) (by omega) (by omega) h4 hy
 ·rw [if_neg hb] at h5
  by_cases ha:a=k - 1
  ·rw [if_pos ha] at h4; cases h4
   exact h k b _ v (by omega) h2 hb hx h5
  ·rw [if_neg ha] at h4
   by_cases ha2:a=k
   ·rw [if_pos ha2] at h4; cases h4
    exact h (k - 1) b _ v (by omega) h2 hb hy h5
   ·rw [if_neg ha2] at h4
    exact h a b u v h1 h2 hb h4 h5
theorem swap_perm {L:List Cl} {k:Nat} {x y:Cl} (hx:L[k]? = some x) (hy:L[k - 1]? = some y):((L.set k y).set (k - 1) x).Perm L:=by
 obtain ⟨h1,e1⟩:=List.getElem?_eq_some_iff.1 hx
 obtain ⟨h2,e2⟩:=List.getElem?_eq_some_iff.1 hy
 rw [← e1,← e2]
 exact List.set_set_perm h1 h2
theorem cel0 {l:List Cl} {i:Nat} {c:Cl} {k:Int→Int→Int→Prop} (h:l[i]? = some c) (hk:k c.1 c.2.1 c.2.2):onSome (cll l)[0+i]? fun row=>onCons (List.drop 0 row) fun u r=>onIntK IntKind.i64 u fun n=>onCons r fun u r=>onIntK IntKind.i64 u fun n_1=>onCons r fun u r=>onIntK IntKind.i64 u fun n_2=>k n n_1 n_2:=by
 rw [Nat.zero_add]; exact cel h hk
theorem cll_set' (L:List Cl) (i:Nat) (c d:Cl):(cll L).set (0+i) (iv c.1::iv c.2.1::iv c.2.2::List.append [] (List.drop 3 (clr d)))=cll (L.set i c):=by rw [Nat.zero_add]; simp [cll,List.map_set,clr]
theorem cll_get {L:List Cl} {i:Nat} {c:Cl} (h:L[i]? = some c):(cll L)[0+i]? = some (clr c):=by rw [Nat.zero_add]; simp [cll,h]
set_option maxHeartbeats 1000000 in
theorem sorted101 {l:List Cl} {R:V→Prop} (hl:l.length≤1000) (h:R (.lst 3 (cll (sortC l)))):K0G Tryd.prog glX 36 [.lst 3 (cll l)] R:=by
 refine K0_of_WY0 hmX hcQ 3000 Tryd.func36 (see (p:=need ((0+(cll l).length) * 24≤140737488355328) (La 0 [(3:Tmp),(4:Tmp)] (WY Tryd.prog cfQ 2994 (Env.mk (Bs.mk 0 []) 0 none 49 36 0) (cdAt [1,1,0,1,0,0] (bodyOf Tryd.f36))) (Qblk 0 (Qthen (WY Tryd.prog cfQ 2997 (Env.mk (Bs.mk 0 []) 0 none 49 36 0) (cdAt [1,1,1] (bodyOf Tryd.f36)) (QendX Tryd.prog Tryd.f36 fun v h=>R (frzW h v))) (QendX Tryd.prog Tryd.f36 fun v h=>R (frzW h v)))) (St.mk (mkT [(3,V.sl (Id.p 0) 0 (0+(cll l).length)),(4,iv (0:Int))]) (Hp.mk [(0,O.rows 3 true ([]++cll l))] 1 [])))) (by kernel_rfl) ?_)
 obtain ⟨n,hn⟩ : ∃ n,n=0+(cll l).length:=⟨_,rfl⟩
 have hnl:n=l.length:=by rw [hn,cll_length]; omega
 rw [← hn]
 refine need_mk ⟨by omega,?_⟩
 refine La.of (σ:=List Cl×Nat) (fun s=>sh101a s.1 n s.2) (fun s=>s.2≤n∧s.1.Perm l∧Sin s.1 s.2) (fun s=>n - s.2) (l,0) (by kernel_rfl) ⟨by simp,List.Perm.refl _,fun a b x y _ h=>by omega⟩ ?_
 rintro ⟨L,i⟩ ⟨g1,g2,g3⟩ J hJ
 simp only at g1 g2 g3
 refine see (p:=ifB (decide ((↑i:Int)<(↑n:Int))) (La 0 [(3:Tmp),(4:Tmp),(5:Tmp)] (WY Tryd.prog cfQ 2988 (Env.mk (Bs.mk 0 []) 0 none 49 36 2) (cdAt [1,1,0,1,0,0,1,0,0,1,0,0] (bodyOf Tryd.f36))) (Qblk 2 (Qblk 1 (Qthen (WY Tryd.prog cfQ 2992 (Env.mk (Bs.mk 0 []) 0 none 49 36 0) (cdAt [1,1,0,1,0,0,1,1] (bodyOf Tryd.f36)) (Qla 0 [(3:Tmp),(4:Tmp)] J (Qblk 0 (Qthen (WY Tryd.prog cfQ 2997 (Env.mk (Bs.mk 0 []) 0 none 49 36 0) (cdAt [1,1,1] (bodyOf Tryd.f36)) (QendX Tryd.prog Tryd.f36 fun v h=>R (frzW h v))) (QendX Tryd.prog Tryd.f36 fun v h=>R (frzW h v)))))) (Qla 0 [(3:Tmp),(4:Tmp)] J (Qblk 0 (Qthen (WY Tryd.prog cfQ 2997 (Env.mk (Bs.mk 0 []) 0 none 49 36 0) (cdAt [1,1,1] (bodyOf Tryd.f36)) (QendX Tryd.prog Tryd.f36 fun v h=>R (frzW h v))) (QendX Tryd.prog Tryd.f36 fun v h=>R (frzW h v)))))))) (St.mk (mkT [(3,V.sl (Id.p 0) 0 n),(4,iv (↑i:Int)),(5,iv (↑i:Int))]) (Hp.mk [(0,O.rows 3 true (cll L))] 1 []))) (R (V.lst 3 (sub (cll L) 0 n)))) (by kernel_rfl) ?_
 refine ifB_mk (fun d=>?_) (fun d=>?_)
 ·have hi:i<n:=by have:=of_decide_eq_true d; omega
  refine La.of (σ:=List Cl×Nat) (fun s=>sh101b s.1 n i s.2) (fun s=>s.2≤i∧s.1.Perm l∧Pin s.1 s.2 i) (fun s=>s.2) (L,i) (by kernel_rfl) ⟨by simp,g2,g3.start⟩ ?_
  clear g2 g3
  rintro ⟨L,k⟩ ⟨f1,f2,f3⟩ I hI
  simp only at f1 f2 f3
  have hL:=f2.length_eq
  refine see (p:=ifB (decide ((↑k:Int) > (0:Int))) (need (k<n) (onSome (cll L)[0+k]? fun row=>onCons (List.drop 0 row) fun u r=>onIntK IntKind.i64 u fun n_1=>onCons r fun u r=>onIntK IntKind.i64 u fun n_2=>onCons r fun u r=>onIntK IntKind.i64 u fun n_3=>onNat (IntKind.i64.wrap ((↑k:Int) - (1:Int))) fun m=>need (m<n) (onSome (cll L)[0+m]? fun row=>onCons (List.drop 0 row) fun u r=>onIntK IntKind.i64 u fun n_4=>onCons r fun u r=>onIntK IntKind.i64 u fun n_5=>onCons r fun u r=>onIntK IntKind.i64 u fun n_6=>K0G Tryd.prog glX 55 [V.agg [iv n_1,iv n_2,iv n_3],V.agg [iv n_4,iv n_5,iv n_6]] fun v=>onBool v fun b=>ifB b (onNat (IntKind.i64.wrap ((↑k:Int) - (1:Int))) fun m=>need (m<n) (onSome (cll L)[0+m]? fun row=>onCons (List.drop 0 row) fun u r=>onIntK IntKind.i64 u fun n_7=>onCons r fun u r=>onIntK IntKind.i64 u fun n_8=>onCons r fun u r=>onIntK IntKind.i64 u fun n_9=>need (k<n) (onSome (cll L)[0+k]? fun row=>onCons (List.drop 0 row) fun u r=>onIntK IntKind.i64 u fun n_10=>onCons r fun u r=>onIntK IntKind.i64 u fun n_11=>onCons r fun u r=>onIntK IntKind.i64 u fun n_12=>need (k<n) (onSome (cll L)[0+k]? fun row=>guardB ((0+3).ble row.length) (onNat (IntKind.i64.wrap ((↑k:Int) - (1:Int))) fun m=>need (m<n) (onSome ((cll L).set (0+k) (iv n_7::iv n_8::iv n_9::(List.append []) (List.drop 3 row)))[0+m]? fun row_1=>guardB ((0+3).ble row_1.length) (I (St.mk (mkT [(3,V.sl (Id.p 0) 0 n),(4,iv (↑i:Int)),(5,iv (IntKind.i64.wrap ((↑k:Int) - (1:Int))))]) (Hp.mk [(0,O.rows 3 true (((cll L).set (0+k) (iv n_7::iv n_8::iv n_9::(List.append []) (List.drop 3 row))).set (0+m) (iv n_10::iv n_11::iv n_12::(List.append []) (List.drop 3 row_1))))] 1 []))))))))) (J (St.mk (mkT [(3,V.sl (Id.p 0) 0 n),(4,iv (IntKind.i64.wrap ((↑i:Int)+(1:Int))))]) (Hp.mk [(0,O.rows 3 true (cll L))] 1 [])))))) (J (St.mk (mkT [(3,V.sl (Id.p 0) 0 n),(4,iv (IntKind.i64.wrap ((↑i:Int)+(1:Int))))]) (Hp.mk [(0,O.rows 3 true (cll L))] 1 [])))) (by kernel_rfl) ?_
  have nxt:Sin L (i+1)→J (St.mk (mkT [(3,V.sl (Id.p 0) 0 n),(4,iv (IntKind.i64.wrap ((i:Int)+1)))]) (Hp.mk [(0,O.rows 3 true (cll L))] 1 [])):=fun hs=>by
   rw [wr1i hi (by omega)]
   exact hJ (L,i+1) ⟨hi,f2,hs⟩ (by simp only; omega)
  refine ifB_mk (fun e=>?_) (fun e=>nxt (f3.fin (.inl (by have:=of_decide_eq_false e; omega))))
  have hk:0<k:=by have:=of_decide_eq_true e; omega
  obtain ⟨x,hx⟩:=getI (l:=L) (k:=k) (by omega)
  obtain ⟨y,hy⟩:=getI (l:=L) (k:=k - 1) (by omega)
  have wk:IntKind.i64.wrap ((k:Int) - 1)=((k - 1:Nat):Int):=by rw [wr (by omega) (by omega)]; omega
  refine need_mk ⟨by omega,cel0 hx (onNat_mk (m:=k - 1) wk (need_mk ⟨by omega,cel0 hy (before92 (a:=x) (b:=y) (onBool_bv (ifB_mk (fun b=>?_) (fun b=>nxt (f3.fin (.inr ⟨x,y,hx,hy,dc_false b⟩))))))⟩))⟩
  refine onNat_mk (m:=k - 1) wk (need_mk ⟨by omega,cel0 hy (need_mk ⟨by omega,cel0 hx (need_mk ⟨by omega,onSome_mk (cll_get hx) (guardB_mk rfl (onNat_mk (m:=k - 1) wk (need_mk ⟨by omega,?_⟩)))⟩)⟩)⟩)
  rw [cll_set' L k y x]
  have hy' : (L.set k y)[k - 1]? = some y:=by rw [List.getElem?_set,if_neg (by omega)]; exact hy
  refine onSome_mk (cll_get hy') (guardB_mk rfl ?_)
  rw [cll_set' (L.set k y) (k - 1) x y,wk]
  exact hI ((L.set k y).set (k - 1) x,k - 1) ⟨by simp only; omega,(swap_perm hx hy).trans f2,f3.swap hk f1 hx hy (dc_true b)⟩ (by simp only; omega)
 ·have hi:i=n:=by have:=of_decide_eq_false d; omega
  subst hi
  have hL:=g2.length_eq
  have:sub (cll L) 0 i=cll (sortC l):=by
   rw [sub,List.drop_zero,List.take_of_length_le (by rw [cll_length]; omega)]
   rw [sortC_uniq g2 (pw_of_get fun a b x y hab hx hy=>g3 a b x y hab (by have:=(List.getElem?_eq_some_iff.1 hy).1; omega) hx hy)]
  rw [this]
  exact h
theorem cll_app (L:List Cl) (n:Nat) (c:Cl) (h:n=L.length):List.take n (cll L)++[[iv c.1,iv c.2.1,iv c.2.2]]=cll (L++[c]):=by rw [h,← cll_length,List.take_length]; simp [cll,clr]
noncomputable def fam59 (q:Kd) (b:Bk) (s:Bool×List Cl×Nat):St:=match s.1 with | false=>sh59n q b | true=>sh59 q b s.2.1 s.2.2 s.2.2
structure PutB (l:List Kd) (b:Bk) (q:Kd) (n:Nat):Prop where
 at_:l[b.1.toNat]? = some q
 k0:0≤b.1
 put:PutP q
 pos:1≤q.1.length
 turn:b.2.2.1=(n:Int)
 t24:n<24
 bd:Bd 2000 b.2.1
set_option maxHeartbeats 1000000 in
theorem placed59 {l:List Kd} {b:Bk} {q:Kd} {t:Nat} {R:V→Prop} (hb:PutB l b q t) (h:R (.lst 3 (cll (plc q t b.2.1)))):K0G Tryd.prog glX 20 [.lst 3 (kdl l),.agg (bkr b)] R:=by
 refine K0_of_WY0 hmX hcQ 3000 Tryd.func20 (see (p:=onNat b.1 fun m=>onSome (kdl l)[m]? fun row=>onCons (List.drop 0 row) fun u r=>onLst u fun s es=>onCons r fun u r=>onLst u fun s_1 es_1=>onCons r fun u r=>onIntK IntKind.i64 u fun n=>La 0 [(3:Tmp),(5:Tmp),(6:Tmp),(7:Tmp)] (WY Tryd.prog cfQ 2993 (Env.mk (Bs.mk 0 []) 0 none 37 20 0) (cdAt [1,1,1,0,1,0,0] (bodyOf Tryd.f20))) (Qblk 0 (Qthen (WY Tryd.prog cfQ 2996 (Env.mk (Bs.mk 0 []) 0 none 37 20 0) (cdAt [1,1,1,1] (bodyOf Tryd.f20)) (QendX Tryd.prog Tryd.f20 fun v h=>R (frzW h v))) (QendX Tryd.prog Tryd.f20 fun v h=>R (frzW h v)))) (St.mk (mkT [(3,V.ptr (Id.p 0) 0 0),(5,V.ptr (Id.p 1) 0 0),(6,nilS),(7,iv (0:Int))]) (Hp.mk [(0,O.rows 6 false [[iv b.1,iv b.2.1.1,iv b.2.1.2.1,iv b.2.1.2.2,V.raw (Value.int IntKind.u8 b.2.2.1),V.raw (Value.int IntKind.u8 b.2.2.2)]]),(1,O.rows 3 false [[V.lst s es,V.lst s_1 es_1,iv n]])] 2 []))) (by kernel_rfl) ?_)
 obtain ⟨h1,h2,⟨hc,hcl,hk,hkl⟩,h4,h5,h6,h7⟩:=hb
 have cl:=cll_length q.1
 have hw:IntKind.i64.wrap b.2.2.1=(t:Int):=by rw [h5,wr (by omega) (by omega)]
 refine onNat_mk (m:=b.1.toNat) (by omega) ?_
 have hrow:(kdl l)[b.1.toNat]? = some (kdr q):=by simp [kdl,h1]
 obtain ⟨row,hre⟩ : ∃ row,row=kdr q:=⟨_,rfl⟩
 rw [← hre] at hrow
 refine onSome_mk hrow ?_
 subst hre
 refine onCons_cons (onLst_lst (onCons_cons (onLst_lst (onCons_cons (onIntK_iv ?_)))))
 refine La.of (σ:=Bool×List Cl×Nat) (fam59 q b) (fun s=>s.2.2≤q.1.length∧s.2.1=(q.1.take s.2.2).map (fun c=>addC (tn t c) b.2.1)∧(s.1=false→s.2.2=0)∧(s.1=true→0<s.2.2)) (fun s=>q.1.length - s.2.2) (false,[],0) (by kernel_rfl) ⟨by simp,by simp,fun _=>rfl,fun h=>by cases h⟩ ?_
 rintro ⟨bb,L,i⟩ ⟨g1,g2,g3,g4⟩ J hJ
 simp only at g1 g2 g3 g4
 have stp : ∀ x,q.1[i]? = some x→i<q.1.length→Bd 15 x∧J (sh59 q b (L++[addC (tn t x) b.2.1]) (i+1) (i+1)):=fun x hx hi=>⟨(hc x (mem_at hx)).mono (by omega) (by omega),hJ (true,L++[addC (tn t x) b.2.1],i+1) ⟨hi,by simp only; rw [take_succ' hx,g2]; simp,fun h=>(by cases h),fun _=>Nat.succ_pos i⟩ (by simp only; omega)⟩
 cases bb with
 | false =>
  have hi:=g3 rfl
  subst hi
  have hL:L=[]:=by simpa using g2
  subst hL
  refine see (p:=ifB (decide ((0:Int)<(↑(cll q.1).length:Int))) (onSome (cll q.1)[0]? fun row=>onCons (List.drop 0 row) fun u r=>onIntK IntKind.i64 u fun n=>onCons r fun u r=>onIntK IntKind.i64 u fun n_1=>onCons r fun u r=>onIntK IntKind.i64 u fun n_2=>K0G Tryd.prog glX 28 [V.agg [iv n,iv n_1,iv n_2],iv (IntKind.i64.wrap b.2.2.1)] fun v=>onAgg v fun cs=>onCons cs fun u r=>onIntK IntKind.i64 u fun n=>onCons r fun u r=>onIntK IntKind.i64 u fun n_3=>onCons r fun u r=>onIntK IntKind.i64 u fun n_4=>onNil r (K0G Tryd.prog glX 27 [V.agg [iv n,iv n_3,iv n_4],V.agg [iv b.2.1.1,iv b.2.1.2.1,iv b.2.1.2.2]] fun v=>onAgg v fun cs=>onCons cs fun u r=>onIntK IntKind.i64 u fun n=>onCons r fun u r=>onIntK IntKind.i64 u fun n_5=>onCons r fun u r=>onIntK IntKind.i64 u fun n_6=>onNil r (J (St.mk (mkT [(3,V.ptr (Id.p 0) 0 0),(5,V.ptr (Id.p 1) 0 0),(6,V.sl (Id.p 2) 0 1),(7,iv (1:Int))]) (Hp.mk [(0,O.rows 6 false [[iv b.1,iv b.2.1.1,iv b.2.1.2.1,iv b.2.1.2.2,V.raw (Value.int IntKind.u8 b.2.2.1),V.raw (Value.int IntKind.u8 b.2.2.2)]]),(1,O.rows 3 false [[V.lst 3 (cll q.1),V.lst 5 (knl q.2.1),iv q.2.2]]),(2,O.rows 3 true [[iv n,iv n_5,iv n_6]])] 3 []))))) (K0G Tryd.prog glX 36 [nilS] fun v=>onLst v fun s es=>R (V.lst s es))) (by kernel_rfl) ?_
  refine ifB_mk (fun d=>?_) (fun d=>by have:=of_decide_eq_false d; omega)
  obtain ⟨x,hx⟩:=getI (l:=q.1) (k:=0) (by omega)
  obtain ⟨hxb,hj⟩:=stp x hx (by omega)
  refine cel hx ?_
  rw [hw]
  exact turned100 (c:=x) (hxb.mono (by omega)) t h6 (onC (plus99 (a:=tn t x) (b:=b.2.1) ((tn_bd hxb).mono (by omega)) (h7.mono (by omega)) (onC hj)))
 | true =>
  have hip:=g4 rfl
  have hLl:i=L.length:=by rw [g2]; simp; omega
  obtain ⟨n,hn⟩ : ∃ m,m=i:=⟨_,rfl⟩
  have hst:fam59 q b (true,L,i)=sh59 q b L n i:=by rw [hn]; rfl
  rw [hst]
  refine see (p:=ifB (decide ((↑i:Int)<(↑(cll q.1).length:Int))) (onSome (cll q.1)[i]? fun row=>onCons (List.drop 0 row) fun u r=>onIntK IntKind.i64 u fun n_1=>onCons r fun u r=>onIntK IntKind.i64 u fun n_2=>onCons r fun u r=>onIntK IntKind.i64 u fun n_3=>K0G Tryd.prog glX 28 [V.agg [iv n_1,iv n_2,iv n_3],iv (IntKind.i64.wrap b.2.2.1)] fun v=>onAgg v fun cs=>onCons cs fun u r=>onIntK IntKind.i64 u fun n_4=>onCons r fun u r=>onIntK IntKind.i64 u fun n_5=>onCons r fun u r=>onIntK IntKind.i64 u fun n_6=>onNil r (K0G Tryd.prog glX 27 [V.agg [iv n_4,iv n_5,iv n_6],V.agg [iv b.2.1.1,iv b.2.1.2.1,iv b.2.1.2.2]] fun v=>onAgg v fun cs=>onCons cs fun u r=>onIntK IntKind.i64 u fun n_7=>onCons r fun u r=>onIntK IntKind.i64 u fun n_8=>onCons r fun u r=>onIntK IntKind.i64 u fun n_9=>onNil r (need ((n+1) * 24≤140737488355328) (J (St.mk (mkT [(3,V.ptr (Id.p 0) 0 0),(5,V.ptr (Id.p 1) 0 0),(6,V.sl (Id.p 2) 0 (n+1)),(7,iv (IntKind.i64.wrap ((↑i:Int)+(1:Int))))]) (Hp.mk [(0,O.rows 6 false [[iv b.1,iv b.2.1.1,iv b.2.1.2.1,iv b.2.1.2.2,V.raw (Value.int IntKind.u8 b.2.2.1),V.raw (Value.int IntKind.u8 b.2.2.2)]]),(1,O.rows 3 false [[V.lst 3 (cll q.1),V.lst 5 (knl q.2.1),iv q.2.2]]),(2,O.rows 3 true (List.take n (cll L)++[[iv n_7,iv n_8,iv n_9]]))] 3 [])))))) (K0G Tryd.prog glX 36 [V.lst 3 (sub (cll L) 0 n)] fun v=>onLst v fun s es=>R (V.lst s es))) (by kernel_rfl) ?_
  subst hn
  refine ifB_mk (fun d=>?_) (fun d=>?_)
  ·have hi:n<q.1.length:=by have:=of_decide_eq_true d; omega
   obtain ⟨x,hx⟩:=getI (l:=q.1) (k:=n) hi
   obtain ⟨hxb,hj⟩:=stp x hx hi
   refine cel hx ?_
   rw [hw]
   refine turned100 (c:=x) (hxb.mono (by omega)) t h6 (onC (plus99 (a:=tn t x) (b:=b.2.1) ((tn_bd hxb).mono (by omega)) (h7.mono (by omega)) (onC (need_mk ⟨by omega,?_⟩))))
   rw [cll_app L n (addC (tn t x) b.2.1) hLl,wr1i hi (by omega)]
   exact hj
  ·have hi:n=q.1.length:=by have:=of_decide_eq_false d; omega
   have hs:sub (cll L) 0 n=cll L:=by rw [sub,List.drop_zero,List.take_of_length_le (by rw [cll_length]; omega)]
   rw [hs]
   rw [List.take_of_length_le (by omega)] at g2
   refine sorted101 (l:=L) (by omega) (onLst_lst ?_)
   rw [g2]
   exact h
set_option maxRecDepth 100000
def moD (f:FuncId):Nat:=bif inN [] f then 3 else bif inN [] f then 1 else 0
set_option maxRecDepth 10000
theorem take_eq {α:Type} {a b:List α} {i:Nat} {x:α} (h:a.take i=b.take i) (hx:a[i]? = some x) (hy:b[i]? = some x):a.take (i+1)=b.take (i+1):=by rw [take_succ' hx,take_succ' hy,h]
theorem K0_args {P:Program} {G:Nat→Option (List V)} {f:FuncId} {args args' : List V} {R:V→Prop} (h:K0G P G f args R) (hr : ∀ F w xs,riL F w args' xs→riL F w args xs):K0G P G f args' R:=fun F w xs g1 g2 g3=>h F w xs g1 g2 (hr F w xs g3)
theorem plc_length (q:Kd) (n:Nat) (d:Cl):(plc q n d).length=q.1.length:=by rw [plc,(sortC_perm _).length_eq]; simp
theorem addC_inj {a b d:Cl} (h:addC a d=addC b d):a=b:=by
 have h1:(addC a d).1=(addC b d).1:=by rw [h]
 have h2:(addC a d).2.1=(addC b d).2.1:=by rw [h]
 have h3:(addC a d).2.2=(addC b d).2.2:=by rw [h]
 simp only [addC] at h1 h2 h3
 exact cl_ext (by omega) (by omega) (by omega)
theorem qz_inj {a b:Cl} (h:qz a=qz b):a=b:=by
 simp only [qz,Prod.mk.injEq] at h
 exact cl_ext h.2.1 (by omega) h.2.2
theorem qx_inj {a b:Cl} (h:qx a=qx b):a=b:=by
 simp only [qx,Prod.mk.injEq] at h
 exact cl_ext h.1 h.2.2 (by omega)
theorem itr_inj {f:Cl→Cl} (hf : ∀ a b,f a=f b→a=b) : ∀ (n:Nat) (a b:Cl),itr f n a=itr f n b→a=b
 | 0,a,b,h=>h
 | n+1,a,b,h=>hf _ _ (itr_inj hf n _ _ h)
theorem tn_inj {n:Nat} {a b:Cl} (h:tn n a=tn n b):a=b:=by
 unfold tn at h
 split at h
 ·exact itr_inj (fun _ _=>qz_inj) _ _ _ (itr_inj (fun _ _=>qx_inj) _ _ _ h)
 ·exact itr_inj (fun _ _=>qz_inj) _ _ _ (qx_inj (itr_inj (fun _ _=>qz_inj) _ _ _ h))
structure KnbP (q:Kd):Prop where
 put:PutP q
 pw:q.2.1.Pairwise BefK
set_option maxRecDepth 100000
set_option maxRecDepth 10000
theorem KindP.put {q:Kd} (h:KindP q) (hr:KdR q):KnbP q:=by
 obtain ⟨⟨⟨c1,c2⟩,c3,c4⟩,⟨k1,k2,k3⟩,w⟩:=h
 exact ⟨⟨c3,by omega,fun k hk=>⟨c3 _ (k2 k hk).2.2.1,(hr.1 k hk).1.1,(k2 k hk).1⟩,by omega⟩,k3⟩
set_option maxRecDepth 100000
def bdr (b:List Cl×List Kn):List V:=[V.lst 3 (cll b.1),V.lst 5 (knl b.2)]
def bdl (l:List (List Cl×List Kn)):List (List V):=l.map bdr
def kpO:FuncId→Nat→Option (List Tmp):=slotsOf [(33,0,[3,9,10,11,1000001,4000003]),(33,2,[3,4,9,10,11,17,18,19,1000001,4000003]),(16,0,[0,3,4,14,15,16,1000001,4000003]),(16,2,[0,3,4,5,6,14,15,16,23,24,25,1000001,4000003]),(16,4,[0,3,4,5,6,14,15,16,23,24,25,31,32,33,1000001,4000003]),(16,6,[0,3,4,5,6,11,14,15,16,1000001,4000003])]
def fzO (f:FuncId) (t:Tmp):Bool:=(f.beq 33&&t.beq 1000025) || (f.beq 16&&t.beq 1000031)
noncomputable def cfO:Cfg:={ cfgG Tryd.prog glX moD poP (rtP fN) (inN [33]) kpO with clean:=fun g => !inN [33] g,fz:=fzO }
noncomputable def sh107a (l:List (List Cl×List Kn)) (es:List (V×V)) (ms:List (Option (List (List V)))) (m i:Nat):St:=⟨mkT [(3,V.mp (Id.p 0)),(9,V.lst 2 (bdl l)),(10,iv (m:Int)),(11,iv (i:Int))],⟨[(0,O.mp es)],1,[(0,Fam.mk 1 ms)]⟩⟩
noncomputable def sh107b (l:List (List Cl×List Kn)) (x:List Cl) (es:List (V×V)) (ms:List (Option (List (List V)))) (m i n k:Nat):St:=⟨mkT [(3,V.mp (Id.p 0)),(4,iv (i:Int)),(9,V.lst 2 (bdl l)),(10,iv (m:Int)),(11,iv (i:Int)),(17,V.lst 3 (cll x)),(18,iv (n:Int)),(19,iv (k:Int))],⟨[(0,O.mp es)],1,[(0,Fam.mk 1 ms)]⟩⟩
set_option maxRecDepth 10000
abbrev Ow:=Cl×List Nat×Nat
def ent (t:Ow):V×V:=(V.agg (clr t.1),V.sl (Id.m 0 t.2.2) 0 t.2.1.length)
def rowI (b:Nat):List V:=[iv (b:Int)]
structure Rep (T:List Ow) (es:List (V×V)) (ms:List (Option (List (List V)))):Prop where
 es:es=T.map ent
 ks:(T.map (·.2.2)).Nodup
 mem : ∀ t∈T,ms[t.2.2]? = some (some (t.2.1.map rowI))
 cs:(T.map (·.1)).Nodup
theorem eqC_c (c d:Cl) : ∃ b,eqC Tryd.prog 8 27 (V.agg (clr c)) (V.agg (clr d))=some b∧(b=true↔c=d):=by
 refine ⟨c.1==d.1&&(c.2.1==d.2.1&&(c.2.2==d.2.2&&true)),by kernel_rfl,?_⟩
 obtain ⟨a,b,e⟩:=c
 obtain ⟨a', b', e'⟩:=d
 simp
theorem findC_mem {c:Cl} : ∀ {T:List Ow} (i:Nat),c∈T.map (·.1) → ∃ j t,T[j]? = some t∧t.1=c∧findK Tryd.prog 27 (V.agg (clr c)) (T.map ent) i=some (some (i+j,V.agg (clr c),V.sl (Id.m 0 t.2.2) 0 t.2.1.length))
 | t::T,i,h=>by
  obtain ⟨b,hb,hbt⟩:=eqC_c c t.1
  have hstep:findK Tryd.prog 27 (V.agg (clr c)) ((t::T).map ent) i=bif b then some (some (i,V.agg (clr t.1),V.sl (Id.m 0 t.2.2) 0 t.2.1.length)) else findK Tryd.prog 27 (V.agg (clr c)) (T.map ent) (i+1):=by
   show (eqC Tryd.prog 8 27 (V.agg (clr c)) (V.agg (clr t.1))).bind _=_
   rw [hb]
   rfl
  by_cases e:c=t.1
  ·refine ⟨0,t,rfl,e.symm,?_⟩
   rw [hstep,hbt.2 e,cond_true,← e]
   rfl
  ·obtain ⟨j,t', h1,h2,h3⟩:=findC_mem (T:=T) (i+1) (by
    rcases List.mem_cons.1 h with h | h
    ·exact (e h).elim
    ·exact h)
   refine ⟨j+1,t', h1,h2,?_⟩
   have hbf:b=false:=Bool.eq_false_iff.2 (fun g=>e (hbt.1 g))
   rw [hstep,hbf,cond_false,h3]
   rw [show i+1+j=i+(j+1) from by omega]
theorem findC_not {c:Cl} : ∀ {T:List Ow} (i:Nat), ¬ c∈T.map (·.1)→findK Tryd.prog 27 (V.agg (clr c)) (T.map ent) i=some none
 | [],i,h=>rfl
 | t::T,i,h=>by
  obtain ⟨b,hb,hbt⟩:=eqC_c c t.1
  have hstep:findK Tryd.prog 27 (V.agg (clr c)) ((t::T).map ent) i=bif b then some (some (i,V.agg (clr t.1),V.sl (Id.m 0 t.2.2) 0 t.2.1.length)) else findK Tryd.prog 27 (V.agg (clr c)) (T.map ent) (i+1):=by
   show (eqC Tryd.prog 8 27 (V.agg (clr c)) (V.agg (clr t.1))).bind _=_
   rw [hb]
   rfl
  have hbf:b=false:=Bool.eq_false_iff.2 (fun g=>h (by rw [hbt.1 g]; simp))
  rw [hstep,hbf,cond_false]
  exact findC_not (i+1) (fun g=>h (List.mem_cons_of_mem _ g))
theorem trM_ent (tk:List Nat) (n0:Nat) (T:List Ow):trM tk 0 n0 (T.map ent)=T.map ent:=by
 unfold trM
 rw [List.map_map]
 exact List.map_congr_left fun t _=>rfl
theorem good_ent (tk:List Nat) (T:List Ow):(T.map ent).all (goodE tk 0 true)=true:=by
 rw [List.all_eq_true]
 intro x hx
 obtain ⟨t,_,rfl⟩:=List.mem_map.1 hx
 rfl
def AddO (T:List Ow) (c:Cl) (i:Nat) (T' : List Ow):Prop:=(∃ j t n,T[j]? = some t∧t.1=c∧T' = T.set j (c,t.2.1++[i],n))∨(¬ c∈T.map (·.1) ∧ ∃ n,T' = T++[(c,[i],n)])
theorem rep_set {T:List Ow} {es:List (V×V)} {ms:List (Option (List (List V)))} (h:Rep T es ms) {j:Nat} {t:Ow} (hj:T[j]? = some t) (i:Nat) (x:Option (List (List V))) :
  Rep (T.set j (t.1,t.2.1++[i],ms.length)) (trM [3,2] 0 ms.length (es.set j (V.agg (clr t.1),V.sl (Id.p 3) 0 (t.2.1.length+1)))) (ms.set t.2.2 none++[some (t.2.1.map rowI++[rowI i]),x]):=by
 have hlt : ∀ t∈T,t.2.2<ms.length:=fun t ht=>(List.getElem?_eq_some_iff.1 (h.mem t ht)).1
 have htm:=List.mem_of_getElem? hj
 have hjl:=(List.getElem?_eq_some_iff.1 hj).1
 refine ⟨?_,?_,?_,?_⟩
 ·rw [h.es,List.map_set]
  unfold trM
  rw [List.map_set]
  have:=trM_ent [3,2] ms.length T
  unfold trM at this
  rw [this]
  simp [ent,trMv,posOf]
 ·rw [List.map_set]
  rw [List.nodup_iff_pairwise_ne,List.pairwise_iff_getElem]
  intro a b ha hb hab
  simp only [List.length_set,List.length_map] at ha hb
  have hn:=List.pairwise_iff_getElem.1 (List.nodup_iff_pairwise_ne.1 h.ks)
  rw [List.getElem_set,List.getElem_set]
  have la:=hlt _ (List.getElem_mem ha)
  have lb:=hlt _ (List.getElem_mem hb)
  split <;> split
  ·omega
  ·simp only [List.getElem_map]; omega
  ·simp only [List.getElem_map]; omega
  ·exact hn a b (by simpa using ha) (by simpa using hb) hab
 ·intro u hu
  obtain ⟨a,ha⟩:=List.mem_iff_getElem?.1 hu
  rw [List.getElem?_set] at ha
  by_cases e:j=a
  ·subst e
   rw [if_pos rfl,if_pos hjl] at ha
   cases ha
   rw [List.getElem?_append_right (by simp)]
   simp
  ·rw [if_neg e] at ha
   have hum:=List.mem_of_getElem? ha
   have hne:t.2.2≠u.2.2:=fun he=>by
    obtain ⟨a1,a2⟩:=List.getElem?_eq_some_iff.1 ha
    obtain ⟨b1,b2⟩:=List.getElem?_eq_some_iff.1 hj
    have:=(List.getElem_inj (xs:=T.map (·.2.2)) (i:=j) (j:=a) (h₀:=by simpa using b1) (h₁:=by simpa using a1) h.ks).1 (by simp [a2,b2,he])
    exact e this
   rw [List.getElem?_append_left (by rw [List.length_set]; exact hlt u hum),List.getElem?_set,if_neg hne]
   exact h.mem u hum
 ·rw [List.map_set]
  have:(T.map (·.1)).set j t.1=T.map (·.1):=by
   apply List.ext_getElem?
   intro a
   rw [List.getElem?_set]
   by_cases e:j=a
   ·subst e
    rw [if_pos rfl,if_pos (by simpa using hjl),List.getElem?_map,hj]
    rfl
   ·rw [if_neg e]
  rw [this]
  exact h.cs
theorem rep_new {T:List Ow} {es:List (V×V)} {ms:List (Option (List (List V)))} (h:Rep T es ms) {c:Cl} (hc : ¬ c∈T.map (·.1)) (i:Nat) (x:Option (List (List V))) :
  Rep (T++[(c,[i],ms.length)]) (trM [3,2] 0 ms.length (es++[(V.agg (clr c),V.sl (Id.p 3) 0 1)])) (ms++[some [rowI i],x]):=by
 have hlt : ∀ t∈T,t.2.2<ms.length:=fun t ht=>(List.getElem?_eq_some_iff.1 (h.mem t ht)).1
 refine ⟨?_,?_,?_,?_⟩
 ·rw [h.es,List.map_append]
  have:=trM_ent [3,2] ms.length T
  unfold trM at this ⊢
  rw [List.map_append,this]
  simp [ent,trMv,posOf]
 ·rw [List.map_append,List.nodup_append]
  refine ⟨h.ks,by simp,fun a ha b hb=>?_⟩
  obtain ⟨t,ht,rfl⟩:=List.mem_map.1 ha
  simp at hb
  subst hb
  have:=hlt t ht
  omega
 ·intro u hu
  rcases List.mem_append.1 hu with hu | hu
  ·rw [List.getElem?_append_left (hlt u hu)]
   exact h.mem u hu
  ·simp at hu
   subst hu
   rw [List.getElem?_append_right (by simp)]
   simp
 ·rw [List.map_append,List.nodup_append]
  refine ⟨h.cs,by simp,fun a ha b hb=>?_⟩
  simp at hb
  subst hb
  exact fun e=>hc (e ▸ ha)
theorem own_add {T:List Ow} {es:List (V×V)} {ms:List (Option (List (List V)))} {c:Cl} {i:Nat} {nilP:Nat→V→V→Prop} {K:List (V×V)→List (Option (List (List V)))→Prop} (h:Rep T es ms) (hlen : ∀ t∈T,t.2.1.length≤1000000) (hK : ∀ T' es' ms', Rep T' es' ms' → AddO T c i T' → K es' ms') :
  onFind (findK Tryd.prog 27 (V.agg [iv c.1,iv c.2.1,iv c.2.2]) es 0) (fun i_1 kv vv=>guardB (sameC kv (V.agg [iv c.1,iv c.2.1,iv c.2.2])) (onMem 0 vv (nilP i_1 kv vv) fun j n_4=>onSome (memb ms j) fun es_2=>need ((n_4+1) * 8≤140737488355328) (onSome (es.set i_1 (V.agg [iv c.1,iv c.2.1,iv c.2.2],vv))[i_1]? fun kv=>guardB (((es.set i_1 (V.agg [iv c.1,iv c.2.1,iv c.2.2],vv)).set i_1 (kv.1,V.sl (Id.p 3) 0 (n_4+1))).all (goodE [3,2] 0 true)) (K (trM [3,2] 0 (ms.set j none).length ((es.set i_1 (V.agg [iv c.1,iv c.2.1,iv c.2.2],vv)).set i_1 (kv.1,V.sl (Id.p 3) 0 (n_4+1)))) (ms.set j none++[some (List.take n_4 es_2++[[iv (i:Int)]]),some [[iv (i:Int)]]])))))
   (onSome (es++[(V.agg [iv c.1,iv c.2.1,iv c.2.2],nilS)])[es.length]? fun kv=>guardB (((es++[(V.agg [iv c.1,iv c.2.1,iv c.2.2],nilS)]).set es.length (kv.1,V.sl (Id.p 3) 0 1)).all (goodE [3,2] 0 true)) (K (trM [3,2] 0 ms.length ((es++[(V.agg [iv c.1,iv c.2.1,iv c.2.2],nilS)]).set es.length (kv.1,V.sl (Id.p 3) 0 1))) (ms++[some [[iv (i:Int)]],some [[iv (i:Int)]]]))):=by
 have gd : ∀ {l:List (V×V)} {k:Nat} {n:Nat},l.all (goodE [3,2] 0 true)=true→(l.set k (V.agg (clr c),V.sl (Id.p 3) 0 n)).all (goodE [3,2] 0 true)=true:=fun {l k n} hl=>by
  rw [List.all_eq_true] at hl ⊢
  intro x hx
  rcases List.mem_or_eq_of_mem_set hx with hx | hx
  ·exact hl x hx
  ·subst hx; rfl
 have hgood:es.all (goodE [3,2] 0 true)=true:=by rw [h.es]; exact good_ent _ _
 by_cases hc:c∈T.map (·.1)
 ·obtain ⟨j,t,h1,h2,h3⟩:=findC_mem 0 hc
  rw [Nat.zero_add,← h.es] at h3
  subst h2
  have hjl:j<es.length:=by rw [h.es,List.length_map]; exact (List.getElem?_eq_some_iff.1 h1).1
  have htm:=List.mem_of_getElem? h1
  have hm:=h.mem t htm
  refine onFind_iff.2 (.inl ⟨j,_,_,h3,guardB_mk (by simp [sameC,sameRs,sameR,clr,iv]) ?_⟩)
  show onSome (memb ms t.2.2) _
  have hmb:memb ms t.2.2=some (t.2.1.map rowI):=by unfold memb; rw [hm]; rfl
  refine onSome_mk hmb (need_mk ⟨by have:=hlen t htm; omega,?_⟩)
  refine onSome_mk (x:=(V.agg (clr t.1),V.sl (Id.m 0 t.2.2) 0 t.2.1.length)) (by rw [List.getElem?_set,if_pos rfl,if_pos hjl]; rfl) ?_
  refine guardB_mk (by rw [List.set_set]; exact gd hgood) ?_
  rw [List.set_set,List.length_set]
  have htk:List.take t.2.1.length (t.2.1.map rowI)=t.2.1.map rowI:=by rw [List.take_of_length_le (by simp)]
  rw [htk]
  exact hK _ _ _ (rep_set h h1 i (some [rowI i])) (.inl ⟨j,t,_,h1,rfl,rfl⟩)
 ·refine onFind_iff.2 (.inr ⟨by rw [h.es]; exact findC_not 0 hc,?_⟩)
  have e1 : ∀ x:V×V,(es++[(V.agg (clr c),nilS)]).set es.length x=es++[x]:=fun x=>by rw [List.set_append_right _ _ (Nat.le_refl _),Nat.sub_self]; rfl
  refine onSome_mk (x:=(V.agg (clr c),nilS)) (by rw [List.getElem?_append_right (Nat.le_refl _),Nat.sub_self]; rfl) ?_
  have e2:=e1 (V.agg (clr c),V.sl (Id.p 3) 0 1)
  refine guardB_mk (by
   refine (congrArg (fun l=>List.all l (goodE [3,2] 0 true)) e2).trans ?_
   rw [List.all_append,hgood]
   rfl) ?_
  have hr:=rep_new h hc i (some [rowI i])
  rw [← e2] at hr
  exact hK _ _ _ hr (.inr ⟨hc,_,rfl⟩)
theorem hcO:cfO.ok Tryd.prog:=by
 have h:(cfgG Tryd.prog glX moD poP (rtP fN) (inN [33]) kpO).ok Tryd.prog:=cfgG_ok (rtP_ok fN)
 exact ⟨h.1,h.2⟩
abbrev Bdy:=List Cl×List Kn
noncomputable def cellsAt (l:List Bdy) (b:Nat):List Cl:=((l[b]?).map (·.1)).getD []
noncomputable def brs (l:List Bdy) (i:Nat) (c:Cl):List Nat:=(List.range i).filter fun b=>dc (c∈cellsAt l b)
def OwnI (l:List Bdy) (i:Nat) (x:List Cl) (k:Nat) (T:List Ow):Prop :=
 (∀ t∈T,t.2.1=brs l i t.1++(bif dc (t.1∈x.take k) then [i] else [])) ∧ ∀ c,((∃ b,b<i∧c∈cellsAt l b)∨c∈x.take k)→c∈T.map (·.1)
theorem own_len {l:List Bdy} {i k:Nat} {x:List Cl} {T:List Ow} (h:OwnI l i x k T) : ∀ t∈T,t.2.1.length≤i+1:=fun t ht=>by
 rw [h.1 t ht,List.length_append]
 have:(brs l i t.1).length≤i:=by
  have:=List.length_filter_le (fun b=>dc (t.1∈cellsAt l b)) (List.range i)
  unfold brs
  simpa using this
 cases dc (t.1∈x.take k) <;> simp <;> omega
theorem own_step {l:List Bdy} {i k:Nat} {x:List Cl} {T T' : List Ow} {c:Cl} (h:OwnI l i x k T) (hc:x[k]? = some c) (hn:x.Nodup) (ha:AddO T c i T') (hcs:(T.map (·.1)).Nodup):OwnI l i x (k+1) T' := by
 have ht:x.take (k+1)=x.take k++[c]:=take_succ' hc
 have hnot : ¬ c∈x.take k:=fun hm=>by
  obtain ⟨j,hj⟩:=List.mem_iff_getElem?.1 hm
  have hjk:j<k:=by
   have:=(List.getElem?_eq_some_iff.1 hj).1
   simp at this
   omega
  rw [List.getElem?_take,if_pos hjk] at hj
  obtain ⟨a1,a2⟩:=List.getElem?_eq_some_iff.1 hj
  obtain ⟨b1,b2⟩:=List.getElem?_eq_some_iff.1 hc
  have:=(List.getElem_inj (h₀:=a1) (h₁:=b1) hn).1 (by rw [a2,b2])
  omega
 have other : ∀ t∈T,t.1≠c→t.2.1=brs l i t.1++(bif dc (t.1∈x.take (k+1)) then [i] else []):=fun t htm hne=>by
  rw [h.1 t htm]
  have:dc (t.1∈x.take (k+1))=dc (t.1∈x.take k):=dc_iff (by rw [ht]; simp [hne])
  rw [this]
 have new:dc (c∈x.take (k+1))=true:=dc_t (by rw [ht]; simp)
 rcases ha with ⟨j,t,n,h1,h2,rfl⟩ | ⟨h1,n,rfl⟩
 ·subst h2
  have hjl:=(List.getElem?_eq_some_iff.1 h1).1
  constructor
  ·intro u hu
   obtain ⟨a,hau⟩:=List.mem_iff_getElem?.1 hu
   rw [List.getElem?_set] at hau
   by_cases e:j=a
   ·rw [if_pos e,if_pos hjl] at hau
    cases hau
    simp only
    rw [new,cond_true,h.1 t (List.mem_of_getElem? h1),dc_f hnot,cond_false,List.append_nil]
   ·rw [if_neg e] at hau
    refine other u (List.mem_of_getElem? hau) fun he=>e ?_
    obtain ⟨a1,a2⟩:=List.getElem?_eq_some_iff.1 hau
    obtain ⟨b1,b2⟩:=List.getElem?_eq_some_iff.1 h1
    exact (List.getElem_inj (xs:=T.map (·.1)) (i:=j) (j:=a) (h₀:=by simpa using b1) (h₁:=by simpa using a1) hcs).1 (by simp [a2,b2,he])
  ·intro d hd
   have hset:(T.set j (t.1,t.2.1++[i],n)).map (·.1)=T.map (·.1):=by
    rw [List.map_set]
    apply List.ext_getElem?
    intro a
    rw [List.getElem?_set]
    by_cases e:j=a
    ·subst e
     rw [if_pos rfl,if_pos (by simpa using hjl),List.getElem?_map,h1]
     rfl
    ·rw [if_neg e]
   rw [hset]
   rcases hd with hd | hd
   ·exact h.2 d (.inl hd)
   ·rw [ht] at hd
    rcases List.mem_append.1 hd with hd | hd
    ·exact h.2 d (.inr hd)
    ·rw [List.mem_singleton.1 hd]
     exact List.mem_map.2 ⟨t,List.mem_of_getElem? h1,rfl⟩
 ·constructor
  ·intro u hu
   rcases List.mem_append.1 hu with hu | hu
   ·exact other u hu fun he=>h1 (he ▸ List.mem_map.2 ⟨u,hu,rfl⟩)
   ·rw [List.mem_singleton.1 hu]
    simp only
    rw [new,cond_true]
    have:brs l i c=[]:=by
     unfold brs
     rw [List.filter_eq_nil_iff]
     intro b hb hb2
     exact h1 (h.2 c (.inl ⟨b,List.mem_range.1 hb,dc_true hb2⟩))
    rw [this]
    rfl
  ·intro d hd
   rw [List.map_append]
   rcases hd with hd | hd
   ·exact List.mem_append.2 (.inl (h.2 d (.inl hd)))
   ·rw [ht] at hd
    rcases List.mem_append.1 hd with hd | hd
    ·exact List.mem_append.2 (.inl (h.2 d (.inr hd)))
    ·exact List.mem_append.2 (.inr (by simpa using hd))
theorem own_next {l:List Bdy} {i:Nat} {b:Bdy} {T:List Ow} (hb:l[i]? = some b) (h:OwnI l i b.1 b.1.length T):OwnI l (i+1) [] 0 T:=by
 have hx:cellsAt l i=b.1:=by unfold cellsAt; rw [hb]; rfl
 have e:b.1.take b.1.length=b.1:=List.take_length
 constructor
 ·intro t ht
  rw [h.1 t ht,e]
  unfold brs
  rw [List.range_succ,List.filter_append,List.filter_cons,hx]
  cases dc (t.1∈b.1) <;> simp [dc]
 ·intro c hc
  rcases hc with ⟨j,hj,hj2⟩ | hc
  ·rcases Nat.lt_succ_iff_lt_or_eq.1 hj with g | g
   ·exact h.2 c (.inl ⟨j,g,hj2⟩)
   ·subst g
    rw [hx] at hj2
    exact h.2 c (.inr (by rw [e]; exact hj2))
  ·simp at hc
theorem own_start {l:List Bdy} {i:Nat} {x:List Cl} {T:List Ow} (h:OwnI l i [] 0 T):OwnI l i x 0 T:=⟨fun t ht=>by rw [h.1 t ht]; simp,fun c hc=>h.2 c (by simpa using hc)⟩
set_option maxRecDepth 100000
def prl (ps:List (Nat×Nat)):List (List V):=ps.map fun p=>[iv (p.1:Int),iv (p.2:Int)]
noncomputable def oNa (l:List (List Cl×List Kn)) (es:List (V×V)) (ms:List (Option (List (List V)))) (m i:Nat):St:=⟨mkT [(0,V.lst 2 (bdl l)),(3,V.mp (Id.p 0)),(4,nilS),(14,V.lst 2 (bdl l)),(15,iv (m:Int)),(16,iv (i:Int))],⟨[(0,O.mp es)],1,[(0,Fam.mk 1 ms)]⟩⟩
noncomputable def oSa (l:List (List Cl×List Kn)) (ps:List (Nat×Nat)) (es:List (V×V)) (ms:List (Option (List (List V)))) (q m i:Nat):St:=⟨mkT [(0,V.lst 2 (bdl l)),(3,V.mp (Id.p 0)),(4,V.sl (Id.p 1) 0 q),(14,V.lst 2 (bdl l)),(15,iv (m:Int)),(16,iv (i:Int))],⟨[(0,O.mp es),(1,O.rows 2 true (prl ps))],2,[(0,Fam.mk 1 ms)]⟩⟩
noncomputable def oNb (l:List (List Cl×List Kn)) (x:List Cl) (cm:List V) (es:List (V×V)) (ms:List (Option (List (List V)))) (m i n k:Nat):St:=⟨mkT [(0,V.lst 2 (bdl l)),(3,V.mp (Id.p 0)),(4,nilS),(5,iv (i:Int)),(6,V.ptr (Id.p 1) 0 0),(14,V.lst 2 (bdl l)),(15,iv (m:Int)),(16,iv (i:Int)),(23,V.lst 3 (cll x)),(24,iv (n:Int)),(25,iv (k:Int))],⟨[(0,O.mp es),(1,O.rows 40 true [cm])],2,[(0,Fam.mk 1 ms)]⟩⟩
noncomputable def oSb (l:List (List Cl×List Kn)) (x:List Cl) (cm:List V) (ps:List (Nat×Nat)) (es:List (V×V)) (ms:List (Option (List (List V)))) (q m i n k:Nat):St:=⟨mkT [(0,V.lst 2 (bdl l)),(3,V.mp (Id.p 0)),(4,V.sl (Id.p 1) 0 q),(5,iv (i:Int)),(6,V.ptr (Id.p 2) 0 0),(14,V.lst 2 (bdl l)),(15,iv (m:Int)),(16,iv (i:Int)),(23,V.lst 3 (cll x)),(24,iv (n:Int)),(25,iv (k:Int))],⟨[(0,O.mp es),(1,O.rows 2 true (prl ps)),(2,O.rows 40 true [cm])],3,[(0,Fam.mk 1 ms)]⟩⟩
noncomputable def oNc (l:List (List Cl×List Kn)) (x:List Cl) (cm:List V) (es:List (V×V)) (ms:List (Option (List (List V)))) (m i n k j w z:Nat):St:=⟨mkT [(0,V.lst 2 (bdl l)),(3,V.mp (Id.p 0)),(4,nilS),(5,iv (i:Int)),(6,V.ptr (Id.p 1) 0 0),(14,V.lst 2 (bdl l)),(15,iv (m:Int)),(16,iv (i:Int)),(23,V.lst 3 (cll x)),(24,iv (n:Int)),(25,iv (k:Int)),(31,V.sl (Id.m 0 j) 0 w),(32,iv (w:Int)),(33,iv (z:Int))],⟨[(0,O.mp es),(1,O.rows 40 true [cm])],2,[(0,Fam.mk 1 ms)]⟩⟩
noncomputable def oSc (l:List (List Cl×List Kn)) (x:List Cl) (cm:List V) (ps:List (Nat×Nat)) (es:List (V×V)) (ms:List (Option (List (List V)))) (q m i n k j w z:Nat):St:=⟨mkT [(0,V.lst 2 (bdl l)),(3,V.mp (Id.p 0)),(4,V.sl (Id.p 1) 0 q),(5,iv (i:Int)),(6,V.ptr (Id.p 2) 0 0),(14,V.lst 2 (bdl l)),(15,iv (m:Int)),(16,iv (i:Int)),(23,V.lst 3 (cll x)),(24,iv (n:Int)),(25,iv (k:Int)),(31,V.sl (Id.m 0 j) 0 w),(32,iv (w:Int)),(33,iv (z:Int))],⟨[(0,O.mp es),(1,O.rows 2 true (prl ps)),(2,O.rows 40 true [cm])],3,[(0,Fam.mk 1 ms)]⟩⟩
noncomputable def oNd (l:List (List Cl×List Kn)) (cm:List V) (es:List (V×V)) (ms:List (Option (List (List V)))) (m i o:Nat):St:=⟨mkT [(0,V.lst 2 (bdl l)),(3,V.mp (Id.p 0)),(4,nilS),(5,iv (i:Int)),(6,V.ptr (Id.p 1) 0 0),(11,iv (o:Int)),(14,V.lst 2 (bdl l)),(15,iv (m:Int)),(16,iv (i:Int))],⟨[(0,O.mp es),(1,O.rows 40 true [cm])],2,[(0,Fam.mk 1 ms)]⟩⟩
noncomputable def oSd (l:List (List Cl×List Kn)) (cm:List V) (ps:List (Nat×Nat)) (es:List (V×V)) (ms:List (Option (List (List V)))) (q m i o:Nat):St:=⟨mkT [(0,V.lst 2 (bdl l)),(3,V.mp (Id.p 0)),(4,V.sl (Id.p 1) 0 q),(5,iv (i:Int)),(6,V.ptr (Id.p 2) 0 0),(11,iv (o:Int)),(14,V.lst 2 (bdl l)),(15,iv (m:Int)),(16,iv (i:Int))],⟨[(0,O.mp es),(1,O.rows 2 true (prl ps)),(2,O.rows 40 true [cm])],3,[(0,Fam.mk 1 ms)]⟩⟩
end Go.Proofs.YtbionhgjgcpogaaDoor
