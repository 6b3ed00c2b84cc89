/- A part of the proof. -/
import Derived.Test.YtbionhgjgcpogaaGreatDoorProg
import Derived.Test.YtbionhgjgcpogaaGreatDoorXT7G10
import Derived.Test.YtbionhgjgcpogaaGreatDoorXT7G15
namespace Go.Proofs.YtbionhgjgcpogaaGreatDoor
open Go Go.Proofs.YtbionhgjgcpogaaGreatDoor.Clean
set_option linter.unusedVariables false
set_option linter.unusedSimpArgs false
set_option maxRecDepth 10000
theorem rtJ9_ok : ∀ (f:FuncId) (args:List V) (us:Us) (v:V) (k:V→Prop),rtJ9 f args us v k → ∃ v', k v' ∧ ∀ {F:Nat→Prop} {w:World} {ν:Nu} {x:Value},rep F w ν v x→rep F w ν v' x:=by
 intro f args us v k h
 unfold rtJ9 onTup at h
 split at h
 ·rename_i cs
  unfold onNil at h
  split at h
  ·exact ⟨_,h,fun h=>h⟩
  ·exact h.elim
 ·exact h.elim
theorem hcJ9:cfJ9.ok Tryz.prog:=by
 have h:(cfgG Tryz.prog glX moJ9 poJ9 rtJ9 (inN []) kpJ9).ok Tryz.prog:=cfgG_ok rtJ9_ok
 exact ⟨h.1,h.2⟩
theorem jtl_length (l:List Jt):(jtl l).length=l.length:=by simp [jtl]
theorem half8 {d:Int} (h0:0≤d) (h5:d≤5):IntKind.u8.wrap (d.tdiv (2:Int))=d / 2:=by
 have:d=0∨d=1∨d=2∨d=3∨d=4∨d=5:=by omega
 rcases this with rfl | rfl | rfl | rfl | rfl | rfl <;> decide
theorem plus8 {d:Int} (h0:0≤d) (h5:d≤5):IntKind.u8.wrap (d / 2+(1:Int))=d / 2+1:=by
 have:d=0∨d=1∨d=2∨d=3∨d=4∨d=5:=by omega
 rcases this with rfl | rfl | rfl | rfl | rfl | rfl <;> decide
def acr (k:Kn):Cl:=if k.2.1 / 2=0 then (0,k.1.2.1,k.1.2.2) else if k.2.1 / 2=1 then (k.1.1,0,k.1.2.2) else if k.2.1 / 2=2 then (k.1.1,k.1.2.1,0) else k.1
theorem across165 {k:Kn} {R:V→Prop} (h0:0≤k.2.1) (h5:k.2.1≤5) (h:R (.agg (clr (acr k)))):K0G Tryz.prog glX 165 [.agg (knr k)] R:=by
 refine K0_of_WY0 hmX hcJ9 3000 Tryz.func165 (see (p:=ifB (IntKind.u8.wrap (k.2.1.tdiv (2:Int))==(0:Int)) (R (V.agg [iv (0:Int),iv k.1.2.1,iv k.1.2.2])) (ifB (IntKind.u8.wrap (k.2.1.tdiv (2:Int))==(1:Int)) (R (V.agg [iv k.1.1,iv (0:Int),iv k.1.2.2])) (ifB (IntKind.u8.wrap (k.2.1.tdiv (2:Int))==(2:Int)) (R (V.agg [iv k.1.1,iv k.1.2.1,iv (0:Int)])) (R (V.agg [iv k.1.1,iv k.1.2.1,iv k.1.2.2]))))) (by kernel_rfl) ?_)
 rw [half8 h0 h5]
 unfold acr at h
 refine ifB_mk (fun c=>?_) (fun c=>ifB_mk (fun d=>?_) (fun d=>ifB_mk (fun e=>?_) (fun e=>?_)))
 ·rw [if_pos (by simpa using c)] at h; exact h
 ·rw [if_neg (by simpa using c),if_pos (by simpa using d)] at h; exact h
 ·rw [if_neg (by simpa using c),if_neg (by simpa using d),if_pos (by simpa using e)] at h; exact h
 ·rw [if_neg (by simpa using c),if_neg (by simpa using d),if_neg (by simpa using e)] at h; exact h
def strS (s:Int):Int:=if s=1 then 2 else if s=3 then 3 else if s=5 then 5 else 0
theorem strS_bd (s:Int):0≤strS s∧strS s≤5:=by unfold strS; split <;> (try split) <;> (try split) <;> omega
theorem strength139 {s:Int} {R:V→Prop} (h:R (iv (strS s))):K0G Tryz.prog glX 139 [u8 s] R:=by
 refine K0_of_WY0 hmX hcJ9 3000 Tryz.func139 (see (p:=ifB (s==(1:Int)) (R (iv (2:Int))) (ifB (s==(3:Int)) (R (iv (3:Int))) (ifB (s==(5:Int)) (R (iv (5:Int))) (R (iv (0:Int)))))) (by kernel_rfl) ?_)
 unfold strS at h
 refine ifB_mk (fun c=>?_) (fun c=>ifB_mk (fun d=>?_) (fun d=>ifB_mk (fun e=>?_) (fun e=>?_)))
 ·rw [if_pos (by simpa using c)] at h; exact h
 ·rw [if_neg (by simpa using c),if_pos (by simpa using d)] at h; exact h
 ·rw [if_neg (by simpa using c),if_neg (by simpa using d),if_pos (by simpa using e)] at h; exact h
 ·rw [if_neg (by simpa using c),if_neg (by simpa using d),if_neg (by simpa using e)] at h; exact h
def kn0:Kn:=((0,0,0),0,0)
def kAt (y:List Kn) (x:Lk):Kn:=(y[x.2.2.1.toNat]?).getD kn0
def OnLine (a f:Kn):Prop:=a.2.1 / 2=f.2.1 / 2∧acr a=acr f
noncomputable def axO (y:List Kn) (L:List Lk):Int:=match L with
 | []=>0
 | x::_=>if dc (∀ z∈L,OnLine (kAt y z) (kAt y x))=true then (kAt y x).2.1 / 2+1 else 0
theorem lel {L:List Lk} {i:Nat} {x:Lk} {k:Int→Int→Int→Int→Int→Prop} (h:L[i]? = some x) (hk:k x.1 x.2.1 x.2.2.1 x.2.2.2.1 x.2.2.2.2):onSome (lkl L)[i]? fun row=>onCons (List.drop 0 row) fun u r=>onIntK IntKind.i64 u fun n=>onCons r fun u r=>onIntK IntKind.i64 u fun n_1=>onCons r fun u r=>onIntK IntKind.i64 u fun n_2=>onCons r fun u r=>onIntK IntKind.i64 u fun n_3=>onCons r fun u r=>onIntK IntKind.u8 u fun n_4=>k n n_1 n_2 n_3 n_4:=onSome_mk (x:=lkr x) (by simp [lkl,h]) hk
theorem lrow {L:List Lk} {i:Nat} {x:Lk} (h:L[i]? = some x):(lkl L)[i]? = some (lkr x):=by simp [lkl,h]
theorem axis138 {y:List Kn} {L:List Lk} {x:Lk} {R:V→Prop} (hx:L[0]? = some x) (hy : ∀ k∈y,KnO k) (hL : ∀ z∈L,0≤z.2.2.1∧z.2.2.1.toNat<y.length) (hlen:L.length≤1000000000) (h:R (u8 (axO y L))):K0G Tryz.prog glX 138 [.lst 5 (knl y),.lst 5 (lkl L)] R:=by
 have hax:axO y L=if dc (∀ z∈L,OnLine (kAt y z) (kAt y x))=true then (kAt y x).2.1 / 2+1 else 0:=by
  cases L with
  | nil=>simp at hx
  | cons a L=>simp at hx; subst hx; rfl
 rw [hax] at h
 have kat : ∀ z∈L,y[z.2.2.1.toNat]? = some (kAt y z):=fun z hz=>by
  obtain ⟨k,hk⟩:=getI (hL z hz).2
  unfold kAt
  rw [hk]
  rfl
 have xm:=mem_at hx
 have hk0:=kat x xm
 obtain ⟨k,hk⟩ : ∃ k,k=kAt y x:=⟨_,rfl⟩
 rw [← hk] at h hk0
 refine K0_by hmX hcJ9 3000 Tryz.func138 (p:=onSome (lkl L)[0]? fun row=>onSome row[2]? fun v=>onIntK IntKind.i64 v fun n=>onNat n fun m=>onSome (knl y)[m]? fun row=>onCons (List.drop 0 row) fun u r=>onIntK IntKind.i64 u fun n=>onCons r fun u r=>onIntK IntKind.i64 u fun n_1=>onCons r fun u r=>onIntK IntKind.i64 u fun n_2=>onCons r fun u r=>onIntK IntKind.u8 u fun n_3=>onCons r fun u r=>onIntK IntKind.u8 u fun n_4=>La 0 [(0:Tmp),(5:Tmp),(16:Tmp),(17:Tmp),(18:Tmp)] (WY Tryz.prog cfJ9 2994 (Env.mk (Bs.mk 0 []) 0 none 46 138 0) (cdAt [1,1,0,1,0,0] (bodyOf Tryz.f138))) (Qblk 0 (Qthen (WY Tryz.prog cfJ9 2997 (Env.mk (Bs.mk 0 []) 0 none 46 138 0) (cdAt [1,1,1] (bodyOf Tryz.f138)) (QendX Tryz.prog Tryz.f138 fun v h=>R (frzW h v))) (QendX Tryz.prog Tryz.f138 fun v h=>R (frzW h v)))) (St.mk (mkT [(0,V.lst 5 (knl y)),(5,V.ptr (Id.p 0) 0 0),(16,V.lst 5 (lkl L)),(17,iv (↑(lkl L).length:Int)),(18,iv (0:Int))]) (Hp.mk [(0,O.rows 5 false [[iv n,iv n_1,iv n_2,V.raw (Value.int IntKind.u8 n_3),V.raw (Value.int IntKind.u8 n_4)]])] 1 []))) (by kernel_rfl) ?_
 refine onSome_mk (lrow hx) (onSome_mk (x:=iv x.2.2.1) rfl (onIntK_iv (onNat_mk (m:=x.2.2.1.toNat) (by have:=hL x xm; omega) (kel hk0 ?_))))
 obtain ⟨s,hs⟩ : ∃ s,s=(lkl L).length:=⟨_,rfl⟩
 rw [← hs]
 rw [lkl_length] at hs
 have hkO:=hy k (mem_at hk0)
 refine La.of (σ:=Nat) (fun i=>sh138 y k L s i) (fun i=>i≤s ∧ ∀ z∈L.take i,OnLine (kAt y z) k) (fun i=>s - i) 0 (by kernel_rfl) ⟨by omega,by simp⟩ ?_
 rintro i ⟨g1,g2⟩ J hJ
 refine see (p:=ifB (decide ((↑i:Int)<(↑s:Int))) (onSome (lkl L)[i]? fun row=>onCons (List.drop 0 row) fun u r=>onIntK IntKind.i64 u fun n=>onCons r fun u r=>onIntK IntKind.i64 u fun n=>onCons r fun u r=>onIntK IntKind.i64 u fun n=>onCons r fun u r=>onIntK IntKind.i64 u fun n_1=>onCons r fun u r=>onIntK IntKind.u8 u fun n_2=>onNat n fun m=>onSome (knl y)[m]? fun row=>onCons (List.drop 0 row) fun u r=>onIntK IntKind.i64 u fun n=>onCons r fun u r=>onIntK IntKind.i64 u fun n_3=>onCons r fun u r=>onIntK IntKind.i64 u fun n_4=>onCons r fun u r=>onIntK IntKind.u8 u fun n_5=>onCons r fun u r=>onIntK IntKind.u8 u fun n_6=>ifB (IntKind.u8.wrap (n_5.tdiv (2:Int)) != IntKind.u8.wrap (k.2.1.tdiv (2:Int))) (R (V.raw (Value.int IntKind.u8 (0:Int)))) (K0G Tryz.prog glX 165 [V.agg [iv n,iv n_3,iv n_4,V.raw (Value.int IntKind.u8 n_5),V.raw (Value.int IntKind.u8 n_6)]] fun v=>onAgg v fun cs=>onCons cs fun u r=>onIntK IntKind.i64 u fun n=>onCons r fun u r=>onIntK IntKind.i64 u fun n_7=>onCons r fun u r=>onIntK IntKind.i64 u fun n_8=>onNil r (K0G Tryz.prog glX 165 [V.agg [iv k.1.1,iv k.1.2.1,iv k.1.2.2,V.raw (Value.int IntKind.u8 k.2.1),V.raw (Value.int IntKind.u8 k.2.2)]] fun v=>onAgg v fun cs=>onCons cs fun u r=>onIntK IntKind.i64 u fun n_9=>onCons r fun u r=>onIntK IntKind.i64 u fun n_10=>onCons r fun u r=>onIntK IntKind.i64 u fun n_11=>onNil r (ifB (!(fun b=>n==n_9&&b) ((fun b=>n_7==n_10&&b) ((fun b=>n_8==n_11&&b) true))) (R (V.raw (Value.int IntKind.u8 (0:Int)))) (J (St.mk (mkT [(0,V.lst 5 (knl y)),(5,V.ptr (Id.p 0) 0 0),(16,V.lst 5 (lkl L)),(17,iv (↑s:Int)),(18,iv (IntKind.i64.wrap ((↑i:Int)+(1:Int))))]) (Hp.mk [(0,O.rows 5 false [[iv k.1.1,iv k.1.2.1,iv k.1.2.2,V.raw (Value.int IntKind.u8 k.2.1),V.raw (Value.int IntKind.u8 k.2.2)]])] 1 []))))))) (R (V.raw (Value.int IntKind.u8 (IntKind.u8.wrap (IntKind.u8.wrap (k.2.1.tdiv (2:Int))+(1:Int))))))) (by kernel_rfl) ?_
 refine ifB_mk (fun d=>?_) (fun d=>?_)
 ·have hi:i<s:=by have:=of_decide_eq_true d; omega
  obtain ⟨z,hz⟩:=getI (l:=L) (k:=i) (by omega)
  have zm:=mem_at hz
  have hzO:=hy _ (mem_at (kat z zm))
  have bad : ¬ OnLine (kAt y z) k→R (u8 0):=fun hn=>by
   rw [dc_f (fun q=>hn (q z zm)),if_neg (by simp)] at h
   exact h
  refine lel hz (onNat_mk (m:=z.2.2.1.toNat) (by have:=hL z zm; omega) (kel (kat z zm) ?_))
  rw [half8 hzO.1.1 hzO.1.2,half8 hkO.1.1 hkO.1.2]
  refine ifB_mk (fun c=>bad (fun q=>by rw [q.1] at c; simp at c)) (fun c=>?_)
  have e1:(kAt y z).2.1 / 2=k.2.1 / 2:=by simpa using c
  refine across165 (k:=kAt y z) hzO.1.1 hzO.1.2 (onAgg_agg (onCons_cons (onIntK_iv (onCons_cons (onIntK_iv (onCons_cons (onIntK_iv (onNil_nil ?_))))))))
  refine across165 (k:=k) hkO.1.1 hkO.1.2 (onAgg_agg (onCons_cons (onIntK_iv (onCons_cons (onIntK_iv (onCons_cons (onIntK_iv (onNil_nil ?_))))))))
  refine ifB_mk (fun c=>bad (fun q=>by rw [q.2] at c; simp at c)) (fun c=>?_)
  have e2:acr (kAt y z)=acr k:=by
   simp only [Bool.not_eq_false', Bool.and_eq_true,beq_iff_eq,Bool.and_true] at c
   exact cl_ext c.1 c.2.1 c.2.2
  rw [wr1i hi (by omega)]
  exact hJ (i+1) ⟨hi,all_take hz g2 ⟨e1,e2⟩⟩ (by omega)
 ·have hi:s≤i:=by have:=of_decide_eq_false d; omega
  rw [half8 hkO.1.1 hkO.1.2,plus8 hkO.1.1 hkO.1.2]
  rw [dc_t (fun z hz=>g2 z (by rw [List.take_of_length_le (by omega)]; exact hz)),if_pos rfl] at h
  exact h
theorem onIntK_u8 {n:Int} {k:Int→Prop} (h:k n):onIntK .u8 (u8 n) k:=h
def lk0:Lk:=(0,0,0,0,0)
noncomputable def joF (l:List Bdy) (L:List Lk):Jt:=((L.headD lk0).1,(L.headD lk0).2.1,(L.map fun x=>strS x.2.2.2.2).sum,axO (knobsAt l (L.headD lk0).1.toNat) L,dc (axO (knobsAt l (L.headD lk0).1.toNat) L≠0 ∧ ∀ x∈L,x.2.2.2.2=3))
theorem sum_bd : ∀ (L:List Lk),0≤(L.map fun x=>strS x.2.2.2.2).sum∧(L.map fun x=>strS x.2.2.2.2).sum≤5 * (L.length:Int)
 | []=>by simp
 | x::L=>by
  have h1:=sum_bd L
  have h2:=strS_bd x.2.2.2.2
  simp only [List.map_cons,List.sum_cons,List.length_cons]
  omega
theorem joint118 {l:List Bdy} {L:List Lk} {x:Lk} {R:V→Prop} (hx:L[0]? = some x) (hx0:0≤x.1) (hxl:x.1.toNat<l.length) (hy : ∀ k∈knobsAt l x.1.toNat,KnO k) (hL : ∀ z∈L,0≤z.2.2.1∧z.2.2.1.toNat<(knobsAt l x.1.toNat).length) (hlen:L.length≤1000000000) (h:R (.agg (jtr (joF l L)))):K0G Tryz.prog glX 118 [.lst 2 (bdl l),.lst 5 (lkl L)] R:=by
 have hhd:L.headD lk0=x:=by
  cases L with
  | nil=>simp at hx
  | cons a L=>simp at hx; subst hx; rfl
 refine K0_by hmX hcJ9 3000 Tryz.func118 (p:=onSome (lkl L)[0]? fun row=>onSome row[0]? fun v=>onIntK IntKind.i64 v fun n=>onSome (lkl L)[0]? fun row=>onSome row[1]? fun v=>onIntK IntKind.i64 v fun n_1=>onSome (lkl L)[0]? fun row=>onSome row[0]? fun v=>onIntK IntKind.i64 v fun n_2=>onNat n_2 fun m=>onSome (bdl l)[m]? fun row=>onSome row[1]? fun v=>onLst v fun s es=>K0G Tryz.prog glX 138 [V.lst s es,V.lst 5 (lkl L)] fun v=>onIntK IntKind.u8 v fun n_3=>La 0 [(4:Tmp),(5:Tmp),(31:Tmp),(32:Tmp),(33:Tmp)] (WY Tryz.prog cfJ9 2993 (Env.mk (Bs.mk 0 []) 0 none 54 118 0) (cdAt [1,1,1,0,1,0,0] (bodyOf Tryz.f118))) (Qblk 0 (Qthen (WY Tryz.prog cfJ9 2996 (Env.mk (Bs.mk 0 []) 0 none 54 118 0) (cdAt [1,1,1,1] (bodyOf Tryz.f118)) (QendX Tryz.prog Tryz.f118 fun v h=>R (frzW h v))) (QendX Tryz.prog Tryz.f118 fun v h=>R (frzW h v)))) (St.mk (mkT [(4,V.ptr (Id.p 0) 0 0),(5,V.ptr (Id.p 1) 0 0),(31,V.lst 5 (lkl L)),(32,iv (↑(lkl L).length:Int)),(33,iv (0:Int))]) (Hp.mk [(0,O.rows 5 false [[iv (0:Int),iv (0:Int),iv (0:Int),V.raw (Value.int IntKind.u8 (0:Int)),bv false]]),(1,O.rows 5 false [[iv n,iv n_1,iv (0:Int),V.raw (Value.int IntKind.u8 n_3),bv (n_3 != (0:Int))]])] 2 []))) (by kernel_rfl) ?_
 obtain ⟨b,hb⟩:=getI hxl
 have hkn:knobsAt l x.1.toNat=b.2:=by unfold knobsAt; rw [hb]; rfl
 have hrow:(bdl l)[x.1.toNat]? = some (bdr b):=by simp [bdl,hb]
 refine onSome_mk (lrow hx) (onSome_mk (x:=iv x.1) rfl (onIntK_iv (onSome_mk (lrow hx) (onSome_mk (x:=iv x.2.1) rfl (onIntK_iv (onSome_mk (lrow hx) (onSome_mk (x:=iv x.1) rfl (onIntK_iv (onNat_mk (m:=x.1.toNat) (by omega) (onSome_mk hrow (onSome_mk (x:=V.lst 5 (knl b.2)) rfl (onLst_lst ?_))))))))))))
 rw [hkn] at hy hL
 refine axis138 hx hy hL hlen (onIntK_u8 ?_)
 obtain ⟨ax,hax⟩ : ∃ ax,ax=axO b.2 L:=⟨_,rfl⟩
 rw [← hax]
 obtain ⟨s,hs⟩ : ∃ s,s=(lkl L).length:=⟨_,rfl⟩
 rw [← hs]
 rw [lkl_length] at hs
 refine La.of (σ:=Nat×Jt) (fun t=>sh118 L t.2 s t.1) (fun t=>t.1≤s∧t.2=(x.1,x.2.1,((L.take t.1).map fun x=>strS x.2.2.2.2).sum,ax,dc (ax≠0 ∧ ∀ z∈L.take t.1,z.2.2.2.2=3))) (fun t=>s - t.1) (0,(x.1,x.2.1,0,ax,(ax != (0:Int)))) (by kernel_rfl) ⟨by simp only; omega,?_⟩ ?_
 ·simp only [List.take_zero,List.map_nil,List.sum_nil]
  have:(ax != (0:Int))=dc (ax≠0 ∧ ∀ z∈([]:List Lk),z.2.2.2.2=3):=by
   by_cases h:ax=0
   ·rw [dc_f (fun q=>q.1 h),h]; rfl
   ·rw [dc_t ⟨h,by simp⟩]; simpa using h
  rw [this]
 rintro ⟨i,j⟩ ⟨g1,g2⟩ J hJ
 simp only at g1 g2
 refine see (p:=ifB (decide ((↑i:Int)<(↑s:Int))) (onSome (lkl L)[i]? fun row=>onCons (List.drop 0 row) fun u r=>onIntK IntKind.i64 u fun n=>onCons r fun u r=>onIntK IntKind.i64 u fun n=>onCons r fun u r=>onIntK IntKind.i64 u fun n=>onCons r fun u r=>onIntK IntKind.i64 u fun n=>onCons r fun u r=>onIntK IntKind.u8 u fun n=>K0G Tryz.prog glX 139 [V.raw (Value.int IntKind.u8 n)] fun v=>onIntK IntKind.i64 v fun n_1=>ifB j.2.2.2.2 (J (St.mk (mkT [(4,V.ptr (Id.p 0) 0 0),(5,V.ptr (Id.p 1) 0 0),(31,V.lst 5 (lkl L)),(32,iv (↑s:Int)),(33,iv (IntKind.i64.wrap ((↑i:Int)+(1:Int))))]) (Hp.mk [(0,O.rows 5 false [[iv (0:Int),iv (0:Int),iv (0:Int),V.raw (Value.int IntKind.u8 (0:Int)),bv false]]),(1,O.rows 5 false [[iv j.1,iv j.2.1,iv (IntKind.i64.wrap (j.2.2.1+n_1)),V.raw (Value.int IntKind.u8 j.2.2.2.1),bv (n==(3:Int))]])] 2 []))) (J (St.mk (mkT [(4,V.ptr (Id.p 0) 0 0),(5,V.ptr (Id.p 1) 0 0),(31,V.lst 5 (lkl L)),(32,iv (↑s:Int)),(33,iv (IntKind.i64.wrap ((↑i:Int)+(1:Int))))]) (Hp.mk [(0,O.rows 5 false [[iv (0:Int),iv (0:Int),iv (0:Int),V.raw (Value.int IntKind.u8 (0:Int)),bv false]]),(1,O.rows 5 false [[iv j.1,iv j.2.1,iv (IntKind.i64.wrap (j.2.2.1+n_1)),V.raw (Value.int IntKind.u8 j.2.2.2.1),bv false]])] 2 [])))) (R (V.agg [iv j.1,iv j.2.1,iv j.2.2.1,V.raw (Value.int IntKind.u8 j.2.2.2.1),bv j.2.2.2.2]))) (by kernel_rfl) ?_
 refine ifB_mk (fun d=>?_) (fun d=>?_)
 ·have hi:i<s:=by have:=of_decide_eq_true d; omega
  obtain ⟨z,hz⟩:=getI (l:=L) (k:=i) (by omega)
  have b1:=sum_bd (L.take i)
  have b2:=strS_bd z.2.2.2.2
  rw [List.length_take] at b1
  have e3:((L.take (i+1)).map fun x=>strS x.2.2.2.2).sum=((L.take i).map fun x=>strS x.2.2.2.2).sum+strS z.2.2.2.2:=by
   rw [take_succ' hz,List.map_append,List.sum_append]; simp
  refine lel hz (strength139 (onIntK_iv ?_))
  rw [g2]
  simp only
  rw [wr (n:=((L.take i).map fun x=>strS x.2.2.2.2).sum+_) (by omega) (by omega),wr1i hi (by omega),← e3]
  refine ifB_mk (fun c=>?_) (fun c=>?_)
  ·have c:=dc_true c
   refine hJ (i+1,(x.1,x.2.1,_,ax,(z.2.2.2.2==(3:Int)))) ⟨hi,?_⟩ (by simp only; omega)
   simp only
   have:(z.2.2.2.2==(3:Int))=dc (ax≠0 ∧ ∀ z∈L.take (i+1),z.2.2.2.2=3):=by
    rw [take_succ' hz]
    by_cases h3:z.2.2.2.2=3
    ·rw [dc_t ⟨c.1,fun w hw=>by rcases List.mem_append.1 hw with hw | hw; exact c.2 w hw; rw [List.mem_singleton.1 hw]; exact h3⟩]
     simpa using h3
    ·rw [dc_f (fun q=>h3 (q.2 z (by simp)))]
     simpa using h3
   rw [this]
   rfl
  ·have c:=dc_false c
   refine hJ (i+1,(x.1,x.2.1,_,ax,false)) ⟨hi,?_⟩ (by simp only; omega)
   simp only
   rw [dc_f (fun q=>c ⟨q.1,fun w hw=>q.2 w (by rw [take_succ' hz]; exact List.mem_append.2 (.inl hw))⟩)]
   rfl
 ·have hi:s≤i:=by have:=of_decide_eq_false d; omega
  rw [List.take_of_length_le (by omega)] at g2
  have:j=joF l L:=by
   rw [g2]
   unfold joF
   rw [hhd,hkn,← hax]
  rw [this]
  exact h
def key (x:Lk):Int×Int:=(x.1,x.2.1)
def at_ (L:List Lk) (i:Nat):Lk:=L.getD i lk0
def Hd (L:List Lk) (i:Nat):Prop:=i=0∨key (at_ L (i - 1))≠key (at_ L i)
def owL (L:List Lk) (i:Nat):List Lk:=L.filter fun x=>decide (key x=key (at_ L i))
noncomputable def jnS (g:List Lk→Jt) (L:List Lk) (n:Nat):List Jt:=(List.range n).flatMap fun i=>if dc (Hd L i)=true then [g (owL L i)] else []
theorem jnS_succ (g:List Lk→Jt) (L:List Lk) (n:Nat):jnS g L (n+1)=jnS g L n++if dc (Hd L n)=true then [g (owL L n)] else []:=by
 unfold jnS
 rw [List.range_succ,List.flatMap_append]
 simp
theorem at_get {L:List Lk} {i:Nat} (h:i<L.length):L[i]? = some (at_ L i):=by
 unfold at_
 rw [List.getD_eq_getElem?_getD]
 simp [h]
theorem jnS_len (g:List Lk→Jt) (L:List Lk) (n:Nat):(jnS g L n).length≤n:=by
 have:=fm_len (f:=fun i=>if dc (Hd L i)=true then [g (owL L i)] else []) (c:=1) (l:=List.range n) (fun i _=>by split <;> simp)
 rw [List.length_range,Nat.mul_one] at this
 exact this
theorem jnS_run {g:List Lk→Jt} {L:List Lk} {f:Nat} (hd:Hd L f) : ∀ {t:Nat},f<t→(∀ i,f≤i→i<t→key (at_ L i)=key (at_ L f))→jnS g L t=jnS g L f++[g (owL L f)]
 | 0,h,_=>by omega
 | t+1,h,hk=>by
  rw [jnS_succ]
  rcases Nat.lt_succ_iff_lt_or_eq.1 h with h1 | h1
  ·rw [jnS_run hd h1 (fun i a b=>hk i a (by omega)),dc_f (fun q=>?_),if_neg (by simp),List.append_nil]
   rcases q with q | q
   ·omega
   ·exact q ((hk (t - 1) (by omega) (by omega)).trans (hk t (by omega) (by omega)).symm)
  ·rw [← h1,dc_t hd,if_pos rfl]
theorem Of2.le {L:List Lk} (hs:L.Pairwise Of2) {i j:Nat} (h:i<j) (hj:j<L.length):(at_ L i).1<(at_ L j).1∨(at_ L i).1=(at_ L j).1∧(at_ L i).2.1≤(at_ L j).2.1:=by
 have h1:=at_get (L:=L) (i:=i) (by omega)
 have h2:=at_get (L:=L) (i:=j) hj
 have:=List.pairwise_iff_getElem.1 hs i j (by omega) hj h
 rw [(List.getElem?_eq_some_iff.1 h1).2,(List.getElem?_eq_some_iff.1 h2).2] at this
 unfold Of2 at this
 omega
theorem key_eq {x y:Lk}:key x=key y↔x.1=y.1∧x.2.1=y.2.1:=by unfold key; exact Prod.mk.injEq .. ▸ Iff.rfl
theorem run_own {L:List Lk} (hs:L.Pairwise Of2) {f t:Nat} (hf:f<L.length) (h:f<t) (ht:t≤L.length) (hd:Hd L f) (hk : ∀ i,f≤i→i<t→key (at_ L i)=key (at_ L f)) (he:t=L.length∨key (at_ L t)≠key (at_ L f)):(L.drop f).take (t - f)=owL L f:=by
 have e1:L=L.take f++((L.drop f).take (t - f)++L.drop t):=by
  have h1:=(List.take_append_drop f L).symm
  have h2:=(List.take_append_drop (t - f) (L.drop f)).symm
  rw [List.drop_drop,show f+(t - f)=t from by omega] at h2
  rw [← h2]
  exact h1
 have hin : ∀ x∈L.take f, ¬ key x=key (at_ L f):=by
  intro x hx e
  obtain ⟨i,hi⟩:=List.mem_iff_getElem?.1 hx
  rw [List.getElem?_take] at hi
  split at hi
  ·rename_i hif
   have hx' : x=at_ L i:=by rw [at_get (by omega)] at hi; exact (Option.some.inj hi).symm
   rw [hx', key_eq] at e
   rcases hd with hd | hd
   ·omega
   ·rw [Ne,key_eq] at hd
    have a:=Of2.le hs (i:=f - 1) (j:=f) (by omega) hf
    rcases Nat.lt_or_ge i (f - 1) with h1 | h1
    ·have b:=Of2.le hs (i:=i) (j:=f - 1) h1 (by omega)
     omega
    ·have:i=f - 1:=by omega
     rw [this] at e
     exact hd e
  ·cases hi
 have hout : ∀ x∈L.drop t, ¬ key x=key (at_ L f):=by
  intro x hx e
  obtain ⟨i,hi⟩:=List.mem_iff_getElem?.1 hx
  rw [List.getElem?_drop] at hi
  have hlt:=(List.getElem?_eq_some_iff.1 hi).1
  have hx' : x=at_ L (t+i):=by rw [at_get hlt] at hi; exact (Option.some.inj hi).symm
  rw [hx', key_eq] at e
  rcases he with he | he
  ·omega
  ·rw [Ne,key_eq] at he
   have a:=Of2.le hs (i:=f) (j:=t) h (by omega)
   rcases Nat.eq_zero_or_pos i with h0 | h0
   ·rw [h0] at e
    exact he e
   ·have b:=Of2.le hs (i:=t) (j:=t+i) (by omega) hlt
    omega
 have hmid : ∀ x∈(L.drop f).take (t - f),key x=key (at_ L f):=by
  intro x hx
  obtain ⟨i,hi⟩:=List.mem_iff_getElem?.1 hx
  rw [List.getElem?_take] at hi
  split at hi
  ·rename_i hif
   rw [List.getElem?_drop] at hi
   have hlt:=(List.getElem?_eq_some_iff.1 hi).1
   have hx' : x=at_ L (f+i):=by rw [at_get hlt] at hi; exact (Option.some.inj hi).symm
   rw [hx']
   exact hk _ (by omega) (by omega)
  ·cases hi
 unfold owL
 have : ∀ p:Lk→Bool,L.filter p=(L.take f).filter p++(((L.drop f).take (t - f)).filter p++(L.drop t).filter p):=fun p=>by
  rw [← List.filter_append,← List.filter_append,← e1]
 rw [this,List.filter_eq_nil_iff.2 (fun x hx=>by simpa using hin x hx),List.filter_eq_self.2 (fun x hx=>by simpa using hmid x hx),List.filter_eq_nil_iff.2 (fun x hx=>by simpa using hout x hx)]
 simp
theorem sub_lkl (L:List Lk) (a n:Nat):sub (lkl L) a n=lkl ((L.drop a).take n):=by simp [sub,lkl,List.map_take,List.map_drop]
noncomputable def jnt (l:List Bdy):List Jt:=jnS (joF l) (lnk l) (lnk l).length
noncomputable def fam68a (l:List Bdy) (L:List Lk) (s:Bool×Nat×Nat×List Jt):St:=match s.1 with | false=>sh68a l L s.2.1 | true=>sh68aS l L s.2.2.2 s.2.2.1 s.2.1
noncomputable def fam68b (l:List Bdy) (L:List Lk) (f:Nat) (s:Bool×Nat×Nat×List Jt):St:=match s.1 with | false=>sh68b l L f s.2.1 | true=>sh68bS l L s.2.2.2 s.2.2.1 f s.2.1
def OwnOK (l:List Bdy) (L:List Lk) (x:Lk):Prop:=0≤x.1∧x.1.toNat<l.length∧(∀ k∈knobsAt l x.1.toNat,KnO k) ∧ ∀ z∈L,0≤z.2.2.1∧z.2.2.1.toNat<(knobsAt l x.1.toNat).length
set_option maxHeartbeats 1000000 in
theorem joints68L {l:List Bdy} {L:List Lk} {R:V→Prop} (hs:L.Pairwise Of2) (hlen:L.length≤1000000000) (hown : ∀ i,i<L.length → ∃ x,(owL L i)[0]? = some x∧OwnOK l (owL L i) x) (h0:jnS (joF l) L L.length=[]→R nilS) (h:R (.lst 5 (jtl (jnS (joF l) L L.length)))):La 0 [(0:Tmp),(3:Tmp),(4:Tmp),(5:Tmp)] (WY Tryz.prog cfJ9 2993 (Env.mk (Bs.mk 0 []) 0 none 58 68 0) (cdAt [1,1,1,0,1,0,0] (bodyOf Tryz.f68))) (Qblk 0 (Qthen (WY Tryz.prog cfJ9 2996 (Env.mk (Bs.mk 0 []) 0 none 58 68 0) (cdAt [1,1,1,1] (bodyOf Tryz.f68)) (QendX Tryz.prog Tryz.f68 fun v h=>R (frzW h v))) (QendX Tryz.prog Tryz.f68 fun v h=>R (frzW h v)))) (sh68a l L 0):=by
 obtain ⟨n,hn⟩ : ∃ n,n=L.length:=⟨_,rfl⟩
 rw [← hn] at h h0 hlen hown
 refine La.of (σ:=Bool×Nat×Nat×List Jt) (fam68a l L) (fun s=>s.2.1≤n∧(s.2.1<n→Hd L s.2.1)∧s.2.2.1=s.2.2.2.length∧s.2.2.2=jnS (joF l) L s.2.1∧(s.1=false→s.2.2.2=[])∧(s.1=true→s.2.2.2≠[])) (fun s=>n - s.2.1) (false,0,0,[]) rfl ⟨by simp only; omega,fun _ => .inl rfl,rfl,rfl,fun _=>rfl,fun h=>by cases h⟩ ?_
 rintro ⟨bb,f,q,js⟩ ⟨g1,hd,gq,gj,gb,gb2⟩ J hJ
 simp only at g1 hd gq gj gb gb2
 have hq:q≤n:=by rw [gq,gj]; exact Nat.le_trans (jnS_len ..) g1
 have loop:f<n→La 0 [(0:Tmp),(3:Tmp),(4:Tmp),(5:Tmp),(6:Tmp)] (WY Tryz.prog cfJ9 2987 (Env.mk (Bs.mk 0 []) 0 none 58 68 2) (cdAt [1,1,1,0,1,0,0,1,0,1,0,0,0] (bodyOf Tryz.f68))) (Qblk 2 (Qthen (WY Tryz.prog cfJ9 2989 (Env.mk (Bs.mk 0 []) 0 none 58 68 1) (cdAt [1,1,1,0,1,0,0,1,0,1,1] (bodyOf Tryz.f68)) (Qblk 1 (Qla 0 [(0:Tmp),(3:Tmp),(4:Tmp),(5:Tmp)] J (Qblk 0 (Qthen (WY Tryz.prog cfJ9 2996 (Env.mk (Bs.mk 0 []) 0 none 58 68 0) (cdAt [1,1,1,1] (bodyOf Tryz.f68)) (QendX Tryz.prog Tryz.f68 fun v h=>R (frzW h v))) (QendX Tryz.prog Tryz.f68 fun v h=>R (frzW h v))))))) (Qblk 1 (Qla 0 [(0:Tmp),(3:Tmp),(4:Tmp),(5:Tmp)] J (Qblk 0 (Qthen (WY Tryz.prog cfJ9 2996 (Env.mk (Bs.mk 0 []) 0 none 58 68 0) (cdAt [1,1,1,1] (bodyOf Tryz.f68)) (QendX Tryz.prog Tryz.f68 fun v h=>R (frzW h v))) (QendX Tryz.prog Tryz.f68 fun v h=>R (frzW h v)))))))) (fam68b l L f (bb,f+1,q,js)):=by
  intro hf
  have hd:=hd hf
  refine La.of (σ:=Bool×Nat×Nat×List Jt) (fam68b l L f) (fun s=>(f<s.2.1∧s.2.1≤n)∧(∀ i,f≤i→i<s.2.1→key (at_ L i)=key (at_ L f))∧s.2.2.1=s.2.2.2.length∧s.2.2.2=jnS (joF l) L f∧(s.1=false→s.2.2.2=[])∧(s.1=true→s.2.2.2≠[])) (fun s=>n - s.2.1) (bb,f+1,q,js) rfl ⟨⟨by simp only; omega,by simp only; omega⟩,(fun i h1 h2=>by have h2:i<f+1:=h2; rw [show i=f from by omega]),gq,gj,gb,gb2⟩ ?_
  rintro ⟨bb,t,q,js⟩ ⟨⟨t0,t1⟩,tk,gq,gj,gb,gb2⟩ I hI
  simp only at t0 t1 tk gq gj gb gb2
  have hq:q≤n:=by rw [gq,gj]; exact Nat.le_trans (jnS_len ..) g1
  have hstep:(t=n∨key (at_ L t)≠key (at_ L f))→jnS (joF l) L t=jnS (joF l) L f++[joF l (owL L f)]:=fun _=>jnS_run hd t0 tk
  have hbd:(t=n∨key (at_ L t)≠key (at_ L f))→t<n→Hd L t:=fun he ht=>by
   rcases he with he | he
   ·omega
   ·exact .inr (fun e=>he (e.symm.trans (tk (t - 1) (by omega) (by omega))))
  rcases bb with _ | _
  ·refine see (p:=ifB (decide ((↑t:Int)<(↑(lkl L).length:Int))) (onSome (lkl L)[t]? fun row=>onSome row[0]? fun v=>onIntK IntKind.i64 v fun n=>onSome (lkl L)[f]? fun row=>onSome row[0]? fun v=>onIntK IntKind.i64 v fun n_1=>ifB (n==n_1) (onSome (lkl L)[t]? fun row=>onSome row[1]? fun v=>onIntK IntKind.i64 v fun n=>onSome (lkl L)[f]? fun row=>onSome row[1]? fun v=>onIntK IntKind.i64 v fun n_2=>ifB (n==n_2) (I (St.mk (mkT [(0,V.lst 2 (bdl l)),(3,V.lst 5 (lkl L)),(4,nilS),(5,iv (↑f:Int)),(6,iv (IntKind.i64.wrap ((↑t:Int)+(1:Int))))]) (Hp.mk [] 0 []))) (need (t≤(lkl L).length) (need (f≤t) (K0G Tryz.prog glX 118 [V.lst 2 (bdl l),V.lst 5 (sub (lkl L) f (t - f))] fun v=>onAgg v fun cs=>onCons cs fun u r=>onIntK IntKind.i64 u fun n=>onCons r fun u r=>onIntK IntKind.i64 u fun n_3=>onCons r fun u r=>onIntK IntKind.i64 u fun n_4=>onCons r fun u r=>onIntK IntKind.u8 u fun n_5=>onCons r fun u r=>onBool u fun b=>onNil r (J (St.mk (mkT [(0,V.lst 2 (bdl l)),(3,V.lst 5 (lkl L)),(4,V.sl (Id.p 0) 0 1),(5,iv (↑t:Int))]) (Hp.mk [(0,O.rows 5 true [[iv n,iv n_3,iv n_4,V.raw (Value.int IntKind.u8 n_5),bv b]])] 1 []))))))) (need (t≤(lkl L).length) (need (f≤t) (K0G Tryz.prog glX 118 [V.lst 2 (bdl l),V.lst 5 (sub (lkl L) f (t - f))] fun v=>onAgg v fun cs=>onCons cs fun u r=>onIntK IntKind.i64 u fun n=>onCons r fun u r=>onIntK IntKind.i64 u fun n_2=>onCons r fun u r=>onIntK IntKind.i64 u fun n_3=>onCons r fun u r=>onIntK IntKind.u8 u fun n_4=>onCons r fun u r=>onBool u fun b=>onNil r (J (St.mk (mkT [(0,V.lst 2 (bdl l)),(3,V.lst 5 (lkl L)),(4,V.sl (Id.p 0) 0 1),(5,iv (↑t:Int))]) (Hp.mk [(0,O.rows 5 true [[iv n,iv n_2,iv n_3,V.raw (Value.int IntKind.u8 n_4),bv b]])] 1 []))))))) (need (t≤(lkl L).length) (need (f≤t) (K0G Tryz.prog glX 118 [V.lst 2 (bdl l),V.lst 5 (sub (lkl L) f (t - f))] fun v=>onAgg v fun cs=>onCons cs fun u r=>onIntK IntKind.i64 u fun n=>onCons r fun u r=>onIntK IntKind.i64 u fun n_1=>onCons r fun u r=>onIntK IntKind.i64 u fun n_2=>onCons r fun u r=>onIntK IntKind.u8 u fun n_3=>onCons r fun u r=>onBool u fun b=>onNil r (J (St.mk (mkT [(0,V.lst 2 (bdl l)),(3,V.lst 5 (lkl L)),(4,V.sl (Id.p 0) 0 1),(5,iv (↑t:Int))]) (Hp.mk [(0,O.rows 5 true [[iv n,iv n_1,iv n_2,V.raw (Value.int IntKind.u8 n_3),bv b]])] 1 []))))))) (by kernel_rfl) ?_
   have hleaf:(t=n∨key (at_ L t)≠key (at_ L f))→need (t≤(lkl L).length) (need (f≤t) (K0G Tryz.prog glX 118 [V.lst 2 (bdl l),V.lst 5 (sub (lkl L) f (t - f))] fun v=>onAgg v fun cs=>onCons cs fun u r=>onIntK IntKind.i64 u fun n=>onCons r fun u r=>onIntK IntKind.i64 u fun n_3=>onCons r fun u r=>onIntK IntKind.i64 u fun n_4=>onCons r fun u r=>onIntK IntKind.u8 u fun n_5=>onCons r fun u r=>onBool u fun b=>onNil r (J (St.mk (mkT [(0,V.lst 2 (bdl l)),(3,V.lst 5 (lkl L)),(4,V.sl (Id.p 0) 0 1),(5,iv (↑t:Int))]) (Hp.mk [(0,O.rows 5 true ([[iv n,iv n_3,iv n_4,V.raw (Value.int IntKind.u8 n_5),bv b]]))] 1 []))))):=by
    intro hend
    refine need_mk ⟨by rw [lkl_length]; omega,need_mk ⟨by omega,?_⟩⟩
    rw [sub_lkl,run_own hs (by omega) t0 (by omega) hd tk (hn ▸ hend)]
    obtain ⟨x,hx0,hxg⟩:=hown f (by omega)
    refine joint118 (x:=x) hx0 hxg.1 hxg.2.1 hxg.2.2.1 hxg.2.2.2 (by have:=List.length_filter_le (fun x=>decide (key x=key (at_ L f))) L; unfold owL; omega) (onAgg_agg (onCons_cons (onIntK_iv (onCons_cons (onIntK_iv (onCons_cons (onIntK_iv (onCons_cons (onIntK_u8 (onCons_cons (onBool_bv (onNil_nil ?_))))))))))))
    exact hJ (true,t,1,[joF l (owL L f)]) ⟨t1,hbd hend,rfl,by simp only; rw [hstep hend,← gj,gb rfl]; rfl,(fun h=>by cases h),(fun _=>by simp)⟩ (by simp only; omega)
   refine ifB_mk (fun e=>?_) (fun e=>hleaf (.inl (by rw [lkl_length] at e; have:=of_decide_eq_false e; omega)))
   have ht:t<n:=by rw [lkl_length] at e; have:=of_decide_eq_true e; omega
   have ht' : L[t]? = some (at_ L t):=at_get (by omega)
   have hf' : L[f]? = some (at_ L f):=at_get (by omega)
   refine onSome_mk (lrow ht') (onSome_mk (x:=iv (at_ L t).1) rfl (onIntK_iv (onSome_mk (lrow hf') (onSome_mk (x:=iv (at_ L f).1) rfl (onIntK_iv (ifB_mk (fun c=>?_) (fun c=>hleaf (.inr (fun q=>by unfold key at q; rw [(Prod.mk.inj q).1] at c; simp at c)))))))))
   refine onSome_mk (lrow ht') (onSome_mk (x:=iv (at_ L t).2.1) rfl (onIntK_iv (onSome_mk (lrow hf') (onSome_mk (x:=iv (at_ L f).2.1) rfl (onIntK_iv (ifB_mk (fun c2=>?_) (fun c2=>hleaf (.inr (fun q=>by unfold key at q; rw [(Prod.mk.inj q).2] at c2; simp at c2)))))))))
   rw [wr1i ht (by omega)]
   refine hI (false,t+1,q,js) ⟨⟨by simp only; omega,ht⟩,?_,gq,gj,gb,gb2⟩ (by simp only; omega)
   intro i h1 h2
   simp only at h2
   rcases Nat.lt_succ_iff_lt_or_eq.1 h2 with h3 | h3
   ·exact tk i h1 h3
   ·rw [h3]
    unfold key
    rw [show (at_ L t).1=(at_ L f).1 from by simpa using c,show (at_ L t).2.1=(at_ L f).2.1 from by simpa using c2]
  ·refine see (p:=ifB (decide ((↑t:Int)<(↑(lkl L).length:Int))) (onSome (lkl L)[t]? fun row=>onSome row[0]? fun v=>onIntK IntKind.i64 v fun n=>onSome (lkl L)[f]? fun row=>onSome row[0]? fun v=>onIntK IntKind.i64 v fun n_1=>ifB (n==n_1) (onSome (lkl L)[t]? fun row=>onSome row[1]? fun v=>onIntK IntKind.i64 v fun n=>onSome (lkl L)[f]? fun row=>onSome row[1]? fun v=>onIntK IntKind.i64 v fun n_2=>ifB (n==n_2) (I (St.mk (mkT [(0,V.lst 2 (bdl l)),(3,V.lst 5 (lkl L)),(4,V.sl (Id.p 0) 0 q),(5,iv (↑f:Int)),(6,iv (IntKind.i64.wrap ((↑t:Int)+(1:Int))))]) (Hp.mk [(0,O.rows 5 true (jtl js))] 1 []))) (need (t≤(lkl L).length) (need (f≤t) (K0G Tryz.prog glX 118 [V.lst 2 (bdl l),V.lst 5 (sub (lkl L) f (t - f))] fun v=>onAgg v fun cs=>onCons cs fun u r=>onIntK IntKind.i64 u fun n=>onCons r fun u r=>onIntK IntKind.i64 u fun n_3=>onCons r fun u r=>onIntK IntKind.i64 u fun n_4=>onCons r fun u r=>onIntK IntKind.u8 u fun n_5=>onCons r fun u r=>onBool u fun b=>onNil r (need ((q+1) * 32≤140737488355328) (J (St.mk (mkT [(0,V.lst 2 (bdl l)),(3,V.lst 5 (lkl L)),(4,V.sl (Id.p 0) 0 (q+1)),(5,iv (↑t:Int))]) (Hp.mk [(0,O.rows 5 true (List.take q (jtl js)++[[iv n,iv n_3,iv n_4,V.raw (Value.int IntKind.u8 n_5),bv b]]))] 1 [])))))))) (need (t≤(lkl L).length) (need (f≤t) (K0G Tryz.prog glX 118 [V.lst 2 (bdl l),V.lst 5 (sub (lkl L) f (t - f))] fun v=>onAgg v fun cs=>onCons cs fun u r=>onIntK IntKind.i64 u fun n=>onCons r fun u r=>onIntK IntKind.i64 u fun n_2=>onCons r fun u r=>onIntK IntKind.i64 u fun n_3=>onCons r fun u r=>onIntK IntKind.u8 u fun n_4=>onCons r fun u r=>onBool u fun b=>onNil r (need ((q+1) * 32≤140737488355328) (J (St.mk (mkT [(0,V.lst 2 (bdl l)),(3,V.lst 5 (lkl L)),(4,V.sl (Id.p 0) 0 (q+1)),(5,iv (↑t:Int))]) (Hp.mk [(0,O.rows 5 true (List.take q (jtl js)++[[iv n,iv n_2,iv n_3,V.raw (Value.int IntKind.u8 n_4),bv b]]))] 1 [])))))))) (need (t≤(lkl L).length) (need (f≤t) (K0G Tryz.prog glX 118 [V.lst 2 (bdl l),V.lst 5 (sub (lkl L) f (t - f))] fun v=>onAgg v fun cs=>onCons cs fun u r=>onIntK IntKind.i64 u fun n=>onCons r fun u r=>onIntK IntKind.i64 u fun n_1=>onCons r fun u r=>onIntK IntKind.i64 u fun n_2=>onCons r fun u r=>onIntK IntKind.u8 u fun n_3=>onCons r fun u r=>onBool u fun b=>onNil r (need ((q+1) * 32≤140737488355328) (J (St.mk (mkT [(0,V.lst 2 (bdl l)),(3,V.lst 5 (lkl L)),(4,V.sl (Id.p 0) 0 (q+1)),(5,iv (↑t:Int))]) (Hp.mk [(0,O.rows 5 true (List.take q (jtl js)++[[iv n,iv n_1,iv n_2,V.raw (Value.int IntKind.u8 n_3),bv b]]))] 1 [])))))))) (by kernel_rfl) ?_
   have hleaf:(t=n∨key (at_ L t)≠key (at_ L f))→need (t≤(lkl L).length) (need (f≤t) (K0G Tryz.prog glX 118 [V.lst 2 (bdl l),V.lst 5 (sub (lkl L) f (t - f))] fun v=>onAgg v fun cs=>onCons cs fun u r=>onIntK IntKind.i64 u fun n=>onCons r fun u r=>onIntK IntKind.i64 u fun n_3=>onCons r fun u r=>onIntK IntKind.i64 u fun n_4=>onCons r fun u r=>onIntK IntKind.u8 u fun n_5=>onCons r fun u r=>onBool u fun b=>onNil r (need ((q+1) * 32≤140737488355328) (J (St.mk (mkT [(0,V.lst 2 (bdl l)),(3,V.lst 5 (lkl L)),(4,V.sl (Id.p 0) 0 (q+1)),(5,iv (↑t:Int))]) (Hp.mk [(0,O.rows 5 true (List.take q (jtl js)++[[iv n,iv n_3,iv n_4,V.raw (Value.int IntKind.u8 n_5),bv b]]))] 1 [])))))):=by
    intro hend
    refine need_mk ⟨by rw [lkl_length]; omega,need_mk ⟨by omega,?_⟩⟩
    rw [sub_lkl,run_own hs (by omega) t0 (by omega) hd tk (hn ▸ hend)]
    obtain ⟨x,hx0,hxg⟩:=hown f (by omega)
    refine joint118 (x:=x) hx0 hxg.1 hxg.2.1 hxg.2.2.1 hxg.2.2.2 (by have:=List.length_filter_le (fun x=>decide (key x=key (at_ L f))) L; unfold owL; omega) (onAgg_agg (onCons_cons (onIntK_iv (onCons_cons (onIntK_iv (onCons_cons (onIntK_iv (onCons_cons (onIntK_u8 (onCons_cons (onBool_bv (onNil_nil ?_))))))))))))
    refine need_mk ⟨by omega,?_⟩
    have e:List.take q (jtl js)++[jtr (joF l (owL L f))]=jtl (js++[joF l (owL L f)]):=by
     rw [gq,← jtl_length,List.take_length]; simp [jtl]
    refine (congrArg J ?_).mp (hJ (true,t,q+1,js++[joF l (owL L f)]) ⟨t1,hbd hend,by simp [gq],by simp only; rw [hstep hend,gj],(fun h=>by cases h),(fun _=>by simp)⟩ (by simp only; omega))
    show sh68aS l L (js++[joF l (owL L f)]) (q+1) t=_
    unfold sh68aS
    rw [← e]
    rfl
   refine ifB_mk (fun e=>?_) (fun e=>hleaf (.inl (by rw [lkl_length] at e; have:=of_decide_eq_false e; omega)))
   have ht:t<n:=by rw [lkl_length] at e; have:=of_decide_eq_true e; omega
   have ht' : L[t]? = some (at_ L t):=at_get (by omega)
   have hf' : L[f]? = some (at_ L f):=at_get (by omega)
   refine onSome_mk (lrow ht') (onSome_mk (x:=iv (at_ L t).1) rfl (onIntK_iv (onSome_mk (lrow hf') (onSome_mk (x:=iv (at_ L f).1) rfl (onIntK_iv (ifB_mk (fun c=>?_) (fun c=>hleaf (.inr (fun q=>by unfold key at q; rw [(Prod.mk.inj q).1] at c; simp at c)))))))))
   refine onSome_mk (lrow ht') (onSome_mk (x:=iv (at_ L t).2.1) rfl (onIntK_iv (onSome_mk (lrow hf') (onSome_mk (x:=iv (at_ L f).2.1) rfl (onIntK_iv (ifB_mk (fun c2=>?_) (fun c2=>hleaf (.inr (fun q=>by unfold key at q; rw [(Prod.mk.inj q).2] at c2; simp at c2)))))))))
   rw [wr1i ht (by omega)]
   refine hI (true,t+1,q,js) ⟨⟨by simp only; omega,ht⟩,?_,gq,gj,gb,gb2⟩ (by simp only; omega)
   intro i h1 h2
   simp only at h2
   rcases Nat.lt_succ_iff_lt_or_eq.1 h2 with h3 | h3
   ·exact tk i h1 h3
   ·rw [h3]
    unfold key
    rw [show (at_ L t).1=(at_ L f).1 from by simpa using c,show (at_ L t).2.1=(at_ L f).2.1 from by simpa using c2]
 rcases bb with _ | _
 ·refine see (p:=ifB (decide ((↑f:Int)<(↑(lkl L).length:Int))) (La 0 [(0:Tmp),(3:Tmp),(4:Tmp),(5:Tmp),(6:Tmp)] (WY Tryz.prog cfJ9 2987 (Env.mk (Bs.mk 0 []) 0 none 58 68 2) (cdAt [1,1,1,0,1,0,0,1,0,1,0,0,0] (bodyOf Tryz.f68))) (Qblk 2 (Qthen (WY Tryz.prog cfJ9 2989 (Env.mk (Bs.mk 0 []) 0 none 58 68 1) (cdAt [1,1,1,0,1,0,0,1,0,1,1] (bodyOf Tryz.f68)) (Qblk 1 (Qla 0 [(0:Tmp),(3:Tmp),(4:Tmp),(5:Tmp)] J (Qblk 0 (Qthen (WY Tryz.prog cfJ9 2996 (Env.mk (Bs.mk 0 []) 0 none 58 68 0) (cdAt [1,1,1,1] (bodyOf Tryz.f68)) (QendX Tryz.prog Tryz.f68 fun v h=>R (frzW h v))) (QendX Tryz.prog Tryz.f68 fun v h=>R (frzW h v))))))) (Qblk 1 (Qla 0 [(0:Tmp),(3:Tmp),(4:Tmp),(5:Tmp)] J (Qblk 0 (Qthen (WY Tryz.prog cfJ9 2996 (Env.mk (Bs.mk 0 []) 0 none 58 68 0) (cdAt [1,1,1,1] (bodyOf Tryz.f68)) (QendX Tryz.prog Tryz.f68 fun v h=>R (frzW h v))) (QendX Tryz.prog Tryz.f68 fun v h=>R (frzW h v)))))))) (St.mk (mkT [(0,V.lst 2 (bdl l)),(3,V.lst 5 (lkl L)),(4,nilS),(5,iv (↑f:Int)),(6,iv (IntKind.i64.wrap ((↑f:Int)+(1:Int))))]) (Hp.mk [] 0 []))) (R nilS)) (by kernel_rfl) ?_
  refine ifB_mk (fun d=>?_) (fun d=>?_)
  ·have hf:f<n:=by rw [lkl_length] at d; have:=of_decide_eq_true d; omega
   rw [wr1i hf (by omega)]
   exact see (by kernel_rfl) (loop hf)
  ·have hf:f=n:=by rw [lkl_length] at d; have:=of_decide_eq_false d; omega
   exact h0 (by rw [← hf,← gj]; exact gb rfl)
 ·refine see (p:=ifB (decide ((↑f:Int)<(↑(lkl L).length:Int))) (La 0 [(0:Tmp),(3:Tmp),(4:Tmp),(5:Tmp),(6:Tmp)] (WY Tryz.prog cfJ9 2987 (Env.mk (Bs.mk 0 []) 0 none 58 68 2) (cdAt [1,1,1,0,1,0,0,1,0,1,0,0,0] (bodyOf Tryz.f68))) (Qblk 2 (Qthen (WY Tryz.prog cfJ9 2989 (Env.mk (Bs.mk 0 []) 0 none 58 68 1) (cdAt [1,1,1,0,1,0,0,1,0,1,1] (bodyOf Tryz.f68)) (Qblk 1 (Qla 0 [(0:Tmp),(3:Tmp),(4:Tmp),(5:Tmp)] J (Qblk 0 (Qthen (WY Tryz.prog cfJ9 2996 (Env.mk (Bs.mk 0 []) 0 none 58 68 0) (cdAt [1,1,1,1] (bodyOf Tryz.f68)) (QendX Tryz.prog Tryz.f68 fun v h=>R (frzW h v))) (QendX Tryz.prog Tryz.f68 fun v h=>R (frzW h v))))))) (Qblk 1 (Qla 0 [(0:Tmp),(3:Tmp),(4:Tmp),(5:Tmp)] J (Qblk 0 (Qthen (WY Tryz.prog cfJ9 2996 (Env.mk (Bs.mk 0 []) 0 none 58 68 0) (cdAt [1,1,1,1] (bodyOf Tryz.f68)) (QendX Tryz.prog Tryz.f68 fun v h=>R (frzW h v))) (QendX Tryz.prog Tryz.f68 fun v h=>R (frzW h v)))))))) (St.mk (mkT [(0,V.lst 2 (bdl l)),(3,V.lst 5 (lkl L)),(4,V.sl (Id.p 0) 0 q),(5,iv (↑f:Int)),(6,iv (IntKind.i64.wrap ((↑f:Int)+(1:Int))))]) (Hp.mk [(0,O.rows 5 true (jtl js))] 1 []))) (R (V.lst 5 (sub (jtl js) 0 q)))) (by kernel_rfl) ?_
  refine ifB_mk (fun d=>?_) (fun d=>?_)
  ·have hf:f<n:=by rw [lkl_length] at d; have:=of_decide_eq_true d; omega
   rw [wr1i hf (by omega)]
   exact see (by kernel_rfl) (loop hf)
  ·have hf:f=n:=by rw [lkl_length] at d; have:=of_decide_eq_false d; omega
   have e:sub (jtl js) 0 q=jtl js:=by rw [gq,← jtl_length,sub,List.drop_zero,List.take_length]
   rw [e,gj,hf]
   exact h
theorem own_ok {l:List Bdy} (hB:BodOK l) (i:Nat) (hi:i<(lnk l).length) : ∃ x,(owL (lnk l) i)[0]? = some x∧OwnOK l (owL (lnk l) i) x:=by
 have hm:at_ (lnk l) i∈owL (lnk l) i:=List.mem_filter.2 ⟨mem_at (at_get hi),by simp⟩
 obtain ⟨x,hx⟩:=getI (l:=owL (lnk l) i) (k:=0) (List.length_pos_of_mem hm)
 have lk : ∀ z∈owL (lnk l) i,key z=key (at_ (lnk l) i) ∧ ∃ a b i j k o,LkP l z a b i j k o:=fun z hz=>by
  obtain ⟨h1,h2⟩:=List.mem_filter.1 hz
  exact ⟨by simpa using h2,mem_lnk.1 h1⟩
 obtain ⟨e,a,b,i', j,k,o,h1,h2,h3,h4,h5,rfl⟩:=lk x (mem_at hx)
 refine ⟨_,hx,by simp only; omega,by simp only; omega,?_,?_⟩
 ·intro k hk
  simp only [Int.toNat_natCast] at hk
  obtain ⟨j,hj⟩:=List.mem_iff_getElem?.1 hk
  obtain ⟨y,hy,hyk⟩:=knobsAt_mem hj
  exact hB.ko y (mem_at hy) k (mem_at hyk)
 ·intro z hz
  obtain ⟨e', a', b', i2,j', k', o', g1,g2,g3,g4,g5,rfl⟩:=lk z hz
  have:=key_eq.1 (e'.trans e.symm)
  simp only at this
  have ea:a' = a:=by omega
  subst ea
  simp only [Int.toNat_natCast]
  exact ⟨by omega,(List.getElem?_eq_some_iff.1 g3).1⟩
theorem joints_nil {l:List Bdy} {R:V→Prop} (h:R nilS):La 0 [(0:Tmp),(3:Tmp),(4:Tmp),(5:Tmp)] (WY Tryz.prog cfJ9 2993 (Env.mk (Bs.mk 0 []) 0 none 58 68 0) (cdAt [1,1,1,0,1,0,0] (bodyOf Tryz.f68))) (Qblk 0 (Qthen (WY Tryz.prog cfJ9 2996 (Env.mk (Bs.mk 0 []) 0 none 58 68 0) (cdAt [1,1,1,1] (bodyOf Tryz.f68)) (QendX Tryz.prog Tryz.f68 fun v h=>R (frzW h v))) (QendX Tryz.prog Tryz.f68 fun v h=>R (frzW h v)))) (sh68n l):=by
 refine La.of (σ:=Unit) (fun _=>sh68n l) (fun _=>True) (fun _=>0) () rfl trivial ?_
 rintro _ _ J hJ
 exact see (p:=R nilS) (by kernel_rfl) h
theorem joints68 {l:List Bdy} {R:V→Prop} (hB:BodOK l) (hlen:(lnk l).length≤1000000000) (h0:jnt l=[]→R nilS) (h:R (.lst 5 (jtl (jnt l)))):K0G Tryz.prog glX 68 [.lst 2 (bdl l)] R:=by
 refine K0_by hmX hcJ9 3000 Tryz.func68 (p:=K0G Tryz.prog glX 65 [V.lst 2 (bdl l)] fun v=>onLst v fun s es=>La 0 [(0:Tmp),(3:Tmp),(4:Tmp),(5:Tmp)] (WY Tryz.prog cfJ9 2993 (Env.mk (Bs.mk 0 []) 0 none 58 68 0) (cdAt [1,1,1,0,1,0,0] (bodyOf Tryz.f68))) (Qblk 0 (Qthen (WY Tryz.prog cfJ9 2996 (Env.mk (Bs.mk 0 []) 0 none 58 68 0) (cdAt [1,1,1,1] (bodyOf Tryz.f68)) (QendX Tryz.prog Tryz.f68 fun v h=>R (frzW h v))) (QendX Tryz.prog Tryz.f68 fun v h=>R (frzW h v)))) (St.mk (mkT [(0,V.lst 2 (bdl l)),(3,V.lst s es),(4,nilS),(5,iv (0:Int))]) (Hp.mk [] 0 []))) (by kernel_rfl) ?_
 refine links65 hB (fun e=>onLst_nil ?_) (onLst_lst ?_)
 ·exact see (by kernel_rfl) (joints_nil (l:=l) (R:=R) (h0 (by unfold jnt; rw [e]; rfl)))
 ·exact see (by kernel_rfl) (joints68L (L:=lnk l) (R:=R) (lnk_pw l) hlen (own_ok hB) h0 h)
def gat (ls:List Int) (v:Nat):Int:=ls.getD v (-1)
def Asg (ls:List Int) (v:Nat):Prop:=gat ls v ≠ -1
def Adj (js:List Jt) (a b:Nat):Prop := ∃ j∈js,(j.1=(a:Int)∧j.2.1=(b:Int))∨(j.1=(b:Int)∧j.2.1=(a:Int))
inductive Con (js:List Jt):Nat→Nat→Prop where
 | refl (a:Nat):Con js a a
 | step {a b c:Nat}:Con js a b→Adj js b c→Con js a c
structure Vis (js:List Jt) (ls:List Int) (b f:Nat) (ls' : List Int):Prop where
 len:ls'.length=ls.length
 old : ∀ v,Asg ls v→gat ls' v=gat ls v
 got:Asg ls' b
 new : ∀ v, ¬ Asg ls v→Asg ls' v→gat ls' v=(f:Int)∧Con js b v
 clo : ∀ v w, ¬ Asg ls v→Asg ls' v→Adj js v w→Asg ls' w
 same:Asg ls b→ls' = ls
structure LInv (js:List Jt) (b f:Nat) (ls:List Int) (T:Nat→Prop) (lk:List Int):Prop where
 len:lk.length=ls.length
 old : ∀ v,Asg ls v→gat lk v=gat ls v
 new : ∀ v, ¬ Asg ls v→Asg lk v→gat lk v=(f:Int)∧Con js b v
 clo : ∀ v w, ¬ Asg ls v→Asg lk v→Adj js v w→Asg lk w
 nb : ∀ w,T w→Asg lk w
theorem jel {L:List Jt} {i:Nat} {x:Jt} {k:Int→Int→Int→Int→Bool→Prop} (h:L[i]? = some x) (hk:k x.1 x.2.1 x.2.2.1 x.2.2.2.1 x.2.2.2.2):onSome (jtl L)[i]? fun row=>onCons (List.drop 0 row) fun u r=>onIntK IntKind.i64 u fun n=>onCons r fun u r=>onIntK IntKind.i64 u fun n_1=>onCons r fun u r=>onIntK IntKind.i64 u fun n_2=>onCons r fun u r=>onIntK IntKind.u8 u fun n_3=>onCons r fun u r=>onBool u fun b=>k n n_1 n_2 n_3 b:=onSome_mk (x:=jtr x) (by simp [jtl,h]) hk
structure GrpP (js:List Jt) (n:Nat) (g:List Int):Prop where
 len:g.length=n
 lea : ∀ v,v<n → ∃ u:Nat,gat g v=(u:Int)∧u≤v∧Con js u v ∧ ∀ w,Con js w v→u≤w
structure GInv (js:List Jt) (n i:Nat) (g:List Int):Prop where
 len:g.length=n
 done : ∀ v,v<i→Asg g v
 lea : ∀ v,Asg g v → ∃ u:Nat,gat g v=(u:Int)∧Con js u v ∧ ∀ w,Con js w v→u≤w
 clo : ∀ v w,Asg g v→Adj js v w→Asg g w
theorem lnk_few {l:List Bdy} (hB:BodOK l) (h48 : ∀ b∈l,b.2.length≤60):(lnk l).length≤1000000000:=by
 have hk : ∀ a,(knobsAt l a).length≤60:=fun a=>by
  unfold knobsAt
  cases hb:l[a]? with
  | none=>simp
  | some x=>exact h48 x (mem_at hb)
 have:=fm_len (f:=fun a=>(List.range l.length).flatMap fun b=>if a<b then (knobsAt l a).zipIdx.flatMap fun o=>lko o.1 (a:Int) (b:Int) (o.2:Int) (knobsAt l b) else []) (c:=40 * 3600) (l:=List.range l.length) (fun a _=>by
  have:=fm_len (f:=fun b=>if a<b then (knobsAt l a).zipIdx.flatMap fun o=>lko o.1 (a:Int) (b:Int) (o.2:Int) (knobsAt l b) else []) (c:=3600) (l:=List.range l.length) (fun b _=>by
   split
   ·have:=fm_len (f:=fun o:Kn×Nat=>lko o.1 (a:Int) (b:Int) (o.2:Int) (knobsAt l b)) (c:=60) (l:=(knobsAt l a).zipIdx) (fun o _=>Nat.le_trans (lko_len ..) (hk b))
    rw [List.length_zipIdx] at this
    have:=hk a
    omega
   ·simp)
  rw [List.length_range] at this
  have:=Nat.mul_le_mul_right 3600 hB.n40
  omega)
 rw [List.length_range] at this
 have h2:=Nat.mul_le_mul_right (40 * 3600) hB.n40
 unfold lnk
 omega
theorem bods60 {l:List Kd} {m:List Bk} (hl : ∀ q∈l,KdR q) (hr : ∀ b∈m,BkR b) (hA:AskM l m) : ∀ b∈bods l m,b.2.length≤60:=by
 intro b hb
 obtain ⟨c,hc,rfl⟩:=List.mem_map.1 hb
 obtain ⟨hP,_,_,_⟩:=putK hA.kinds hl (hA.all c hc) (hr c hc)
 show (knb _ _ _).length≤60
 rw [knb_length]
 exact hP.put.2.2.2
theorem joints32 {l:List Kd} {m:List Bk} {R:V→Prop} (hl : ∀ q∈l,KdR q) (hll:(l.length:Int)≤1000000) (hml:m.length≤1000000) (hr : ∀ b∈m,BkR b) (h1 : ∀ e,errM l m e→e≠0→R (.tup [nilS,iv e])) (h2:OkM l m→jnt (bods l m)=[]→R (.tup [.lst 0 [],iv 0])) (h3:OkM l m→R (.tup [.lst 5 (jtl (jnt (bods l m))),iv 0])):K0G Tryz.prog glX 32 [.lst 3 (kdl l),.agg [.lst 6 (bkl m)]] R:=by
 refine K0_by hmX hcJ9 3000 Tryz.func32 (p:=K0G Tryz.prog glX 64 [V.lst 3 (kdl l),V.agg [V.lst 6 (bkl m)]] fun v=>onTup v fun vs=>onCons vs fun u r=>onLst u fun s es=>onCons r fun u r=>onIntK IntKind.i64 u fun n=>onNil r (ifB (n != (0:Int)) (R (V.tup [nilS,iv n])) (K0G Tryz.prog glX 68 [V.lst s es] fun v=>onLst v fun s es=>R (V.tup [V.lst s es,iv (0:Int)])))) (by kernel_rfl) ?_
 refine valid64 hl hll hml hr (fun e he hne=>⟨onTup_tup (onCons_cons (onLst_nil (onCons_cons (onIntK_iv (onNil_nil (ifB_t (by simpa using hne) (h1 e he hne))))))),onTup_tup (onCons_cons (onLst_lst (onCons_cons (onIntK_iv (onNil_nil (ifB_t (by simpa using hne) (h1 e he hne)))))))⟩) (fun hA=>?_)
 refine onTup_tup (onCons_cons (onLst_lst (onCons_cons (onIntK_iv (onNil_nil (ifB_f rfl ?_))))))
 exact joints68 (bod_ok hl hr hA.ask) (lnk_few (bod_ok hl hr hA.ask) (bods60 hl hr hA.ask)) (fun e=>onLst_nil (h2 hA e)) (onLst_lst (h3 hA))
theorem bods_length (l:List Kd) (m:List Bk):(bods l m).length=m.length:=by simp [bods]
theorem jnt_few {l:List Bdy} (h:(lnk l).length≤1000000000):(jnt l).length≤1000000000:=Nat.le_trans (jnS_len ..) h
set_option maxRecDepth 100000
def clX (g:FuncId):Bool := !(inN [104,110,129,132,135,145,146,147,148,150,151,152,153,157,158,159,161,162,163,164,166,167,168,170,171,172,173,174,176,179,182,120,94] g)
abbrev KFX (f:Fact):Prop:=K0G Tryz.prog glX f.g f.args fun v=>v=f.r
end Go.Proofs.YtbionhgjgcpogaaGreatDoor
