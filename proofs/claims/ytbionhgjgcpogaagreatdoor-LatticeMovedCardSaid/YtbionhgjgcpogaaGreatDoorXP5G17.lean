/- A part of the proof. -/
import Derived.Test.YtbionhgjgcpogaaGreatDoorProg
import Derived.Test.YtbionhgjgcpogaaGreatDoorXP5G10
import Derived.Test.YtbionhgjgcpogaaGreatDoorXP5G11
import Derived.Test.YtbionhgjgcpogaaGreatDoorXP5G12
import Derived.Test.YtbionhgjgcpogaaGreatDoorXP5G13
import Derived.Test.YtbionhgjgcpogaaGreatDoorXP5G15
import Derived.Test.YtbionhgjgcpogaaGreatDoorXP5G16
namespace Go.Proofs.YtbionhgjgcpogaaGreatDoor
open Go Go.Proofs.YtbionhgjgcpogaaGreatDoor.Clean
set_option linter.unusedVariables false
set_option maxRecDepth 100000
abbrev Jt:=Int×Int×Int×Int×Bool
def jtr (x:Jt):List V:=[iv x.1,iv x.2.1,iv x.2.2.1,u8 x.2.2.2.1,bv x.2.2.2.2]
def jtl (l:List Jt):List (List V):=l.map jtr
def kpJ9:FuncId→Nat→Option (List Tmp):=slotsOf [(138,0,[0,5,16,17,18]),(118,0,[4,5,31,32,33]),(68,0,[0,3,4,5]),(68,2,[0,3,4,5,6]),(70,0,[0,3,5,12,13]),(70,2,[5,7,21,22]),(120,0,[0,1,2,3,4,18,19,20])]
def moJ9 (f:FuncId):Nat:=bif inN [120] f then 3 else 0
def poJ9 (f:FuncId) (args:List V) (h:Hp) (us:Us):Hp:=h.put (.p 1) (.rows 1 true (us.getD 0 []))
def rtJ9 (f:FuncId) (args:List V) (us:Us) (v:V) (k:V→Prop):Prop:=onTup v fun vs=>onNil vs (k (.tup []))
noncomputable def cfJ9:Cfg:={ cfgG Tryz.prog glX moJ9 poJ9 rtJ9 (inN []) kpJ9 with clean:=fun g => !inN [120] g }
noncomputable def sh138 (y:List Kn) (k:Kn) (L:List Lk) (s i:Nat):St:=⟨mkT [(0,V.lst 5 (knl y)),(5,V.ptr (Id.p 0) 0 0),(16,V.lst 5 (lkl L)),(17,iv (s:Int)),(18,iv (i:Int))],⟨[(0,O.rows 5 false [knr k])],1,[]⟩⟩
noncomputable def sh118 (L:List Lk) (j:Jt) (s i:Nat):St:=⟨mkT [(4,V.ptr (Id.p 0) 0 0),(5,V.ptr (Id.p 1) 0 0),(31,V.lst 5 (lkl L)),(32,iv (s:Int)),(33,iv (i:Int))],⟨[(0,O.rows 5 false [jtr (0,0,0,0,false)]),(1,O.rows 5 false [jtr j])],2,[]⟩⟩
noncomputable def sh68a (l:List (List Cl×List Kn)) (L:List Lk) (f:Nat):St:=⟨mkT [(0,V.lst 2 (bdl l)),(3,V.lst 5 (lkl L)),(4,nilS),(5,iv (f:Int))],⟨[],0,[]⟩⟩
noncomputable def sh68aS (l:List (List Cl×List Kn)) (L:List Lk) (js:List Jt) (q f:Nat):St:=⟨mkT [(0,V.lst 2 (bdl l)),(3,V.lst 5 (lkl L)),(4,V.sl (Id.p 0) 0 q),(5,iv (f:Int))],⟨[(0,O.rows 5 true (jtl js))],1,[]⟩⟩
noncomputable def sh68b (l:List (List Cl×List Kn)) (L:List Lk) (f t:Nat):St:=⟨mkT [(0,V.lst 2 (bdl l)),(3,V.lst 5 (lkl L)),(4,nilS),(5,iv (f:Int)),(6,iv (t:Int))],⟨[],0,[]⟩⟩
noncomputable def sh68bS (l:List (List Cl×List Kn)) (L:List Lk) (js:List Jt) (q f t:Nat):St:=⟨mkT [(0,V.lst 2 (bdl l)),(3,V.lst 5 (lkl L)),(4,V.sl (Id.p 0) 0 q),(5,iv (f:Int)),(6,iv (t:Int))],⟨[(0,O.rows 5 true (jtl js))],1,[]⟩⟩
noncomputable def sh70a (js:List Jt) (n:Nat) (ls:List (List V)) (i:Nat):St:=⟨mkT [(0,iv (n:Int)),(3,V.ptr (Id.p 0) 0 0),(5,V.ptr (Id.p 1) 0 0),(12,iv (n:Int)),(13,iv (i:Int))],⟨[(0,O.rows 1 false [[V.lst 5 (jtl js)]]),(1,O.rows 1 false [[V.sl (Id.p 2) 0 n]]),(2,O.rows 1 true ls)],3,[]⟩⟩
noncomputable def sh70b (js:List Jt) (n:Nat) (ls:List (List V)) (i:Nat):St:=⟨mkT [(5,V.ptr (Id.p 0) 0 0),(7,V.ptr (Id.p 2) 0 0),(21,iv (n:Int)),(22,iv (i:Int))],⟨[(0,O.rows 1 false [[V.sl (Id.p 1) 0 n]]),(1,O.rows 1 true ls),(2,O.rows 1 false [[V.fn (Fn.func 120) [] [V.ptr (Id.p 0) 0 0,V.ptr (Id.p 3) 0 0,V.ptr (Id.p 2) 0 0]]]),(3,O.rows 1 false [[V.lst 5 (jtl js)]])],4,[]⟩⟩
def memG (js:List Jt) (n:Nat) (ls:List (List V)):Hp:=⟨[(0,O.rows 1 false [[V.sl (Id.p 1) 0 n]]),(1,O.rows 1 true ls),(2,O.rows 1 false [[V.lst 5 (jtl js)]]),(3,O.rows 1 false [[V.fn (Fn.func 120) [] [V.ptr (Id.p 0) 0 0,V.ptr (Id.p 2) 0 0,V.ptr (Id.p 3) 0 0]]])],4,[]⟩
def memGo (js:List Jt) (n:Nat) (ls:List (List V)):Hp:=⟨[(1,O.rows 1 true ls),(0,O.rows 1 false [[V.sl (Id.p 1) 0 n]]),(2,O.rows 1 false [[V.lst 5 (jtl js)]]),(3,O.rows 1 false [[V.fn (Fn.func 120) [] [V.ptr (Id.p 0) 0 0,V.ptr (Id.p 2) 0 0,V.ptr (Id.p 3) 0 0]]])],4,[]⟩
noncomputable def sh120 (js:List Jt) (n:Nat) (ls:List (List V)) (b f s k:Nat):St:=⟨mkT [(0,iv (b:Int)),(1,iv (f:Int)),(2,V.ptr (Id.p 0) 0 0),(3,V.ptr (Id.p 2) 0 0),(4,V.ptr (Id.p 3) 0 0),(18,V.lst 5 (jtl js)),(19,iv (s:Int)),(20,iv (k:Int))],memGo js n ls⟩
def SameH (a b:Hp):Prop:=a.nxt=b.nxt∧a.fs=b.fs ∧ ∀ n,getB a.bs n=getB b.bs n
noncomputable def sh68n (l:List (List Cl×List Kn)):St:=⟨mkT [(0,V.lst 2 (bdl l)),(3,V.lst 0 []),(4,nilS),(5,iv 0)],⟨[],0,[]⟩⟩
set_option linter.unusedSimpArgs false
set_option maxRecDepth 10000
theorem rtJ9_ok : ∀ (f:FuncId) (args:List V) (us:Us) (v:V) (k:V→Prop),rtJ9 f args us v k → ∃ v', k v' ∧ ∀ {F:Nat→Prop} {w:World} {ν:Nu} {x:Value},rep F w ν v x→rep F w ν v' x:=by
 intro f args us v k h
 unfold rtJ9 onTup at h
 split at h
 ·rename_i cs
  unfold onNil at h
  split at h
  ·exact ⟨_,h,fun h=>h⟩
  ·exact h.elim
 ·exact h.elim
theorem hcJ9:cfJ9.ok Tryz.prog:=by
 have h:(cfgG Tryz.prog glX moJ9 poJ9 rtJ9 (inN []) kpJ9).ok Tryz.prog:=cfgG_ok rtJ9_ok
 exact ⟨h.1,h.2⟩
theorem jtl_length (l:List Jt):(jtl l).length=l.length:=by simp [jtl]
theorem half8 {d:Int} (h0:0≤d) (h5:d≤5):IntKind.u8.wrap (d.tdiv (2:Int))=d / 2:=by
 have:d=0∨d=1∨d=2∨d=3∨d=4∨d=5:=by omega
 rcases this with rfl | rfl | rfl | rfl | rfl | rfl <;> decide
theorem plus8 {d:Int} (h0:0≤d) (h5:d≤5):IntKind.u8.wrap (d / 2+(1:Int))=d / 2+1:=by
 have:d=0∨d=1∨d=2∨d=3∨d=4∨d=5:=by omega
 rcases this with rfl | rfl | rfl | rfl | rfl | rfl <;> decide
def acr (k:Kn):Cl:=if k.2.1 / 2=0 then (0,k.1.2.1,k.1.2.2) else if k.2.1 / 2=1 then (k.1.1,0,k.1.2.2) else if k.2.1 / 2=2 then (k.1.1,k.1.2.1,0) else k.1
theorem across165 {k:Kn} {R:V→Prop} (h0:0≤k.2.1) (h5:k.2.1≤5) (h:R (.agg (clr (acr k)))):K0G Tryz.prog glX 165 [.agg (knr k)] R:=by
 refine K0_of_WY0 hmX hcJ9 3000 Tryz.func165 (see (p:=ifB (IntKind.u8.wrap (k.2.1.tdiv (2:Int))==(0:Int)) (R (V.agg [iv (0:Int),iv k.1.2.1,iv k.1.2.2])) (ifB (IntKind.u8.wrap (k.2.1.tdiv (2:Int))==(1:Int)) (R (V.agg [iv k.1.1,iv (0:Int),iv k.1.2.2])) (ifB (IntKind.u8.wrap (k.2.1.tdiv (2:Int))==(2:Int)) (R (V.agg [iv k.1.1,iv k.1.2.1,iv (0:Int)])) (R (V.agg [iv k.1.1,iv k.1.2.1,iv k.1.2.2]))))) (by kernel_rfl) ?_)
 rw [half8 h0 h5]
 unfold acr at h
 refine ifB_mk (fun c=>?_) (fun c=>ifB_mk (fun d=>?_) (fun d=>ifB_mk (fun e=>?_) (fun e=>?_)))
 ·rw [if_pos (by simpa using c)] at h; exact h
 ·rw [if_neg (by simpa using c),if_pos (by simpa using d)] at h; exact h
 ·rw [if_neg (by simpa using c),if_neg (by simpa using d),if_pos (by simpa using e)] at h; exact h
 ·rw [if_neg (by simpa using c),if_neg (by simpa using d),if_neg (by simpa using e)] at h; exact h
def strS (s:Int):Int:=if s=1 then 2 else if s=3 then 3 else if s=5 then 5 else 0
theorem strS_bd (s:Int):0≤strS s∧strS s≤5:=by unfold strS; split <;> (try split) <;> (try split) <;> omega
theorem strength139 {s:Int} {R:V→Prop} (h:R (iv (strS s))):K0G Tryz.prog glX 139 [u8 s] R:=by
 refine K0_of_WY0 hmX hcJ9 3000 Tryz.func139 (see (p:=ifB (s==(1:Int)) (R (iv (2:Int))) (ifB (s==(3:Int)) (R (iv (3:Int))) (ifB (s==(5:Int)) (R (iv (5:Int))) (R (iv (0:Int)))))) (by kernel_rfl) ?_)
 unfold strS at h
 refine ifB_mk (fun c=>?_) (fun c=>ifB_mk (fun d=>?_) (fun d=>ifB_mk (fun e=>?_) (fun e=>?_)))
 ·rw [if_pos (by simpa using c)] at h; exact h
 ·rw [if_neg (by simpa using c),if_pos (by simpa using d)] at h; exact h
 ·rw [if_neg (by simpa using c),if_neg (by simpa using d),if_pos (by simpa using e)] at h; exact h
 ·rw [if_neg (by simpa using c),if_neg (by simpa using d),if_neg (by simpa using e)] at h; exact h
def kn0:Kn:=((0,0,0),0,0)
def kAt (y:List Kn) (x:Lk):Kn:=(y[x.2.2.1.toNat]?).getD kn0
def OnLine (a f:Kn):Prop:=a.2.1 / 2=f.2.1 / 2∧acr a=acr f
noncomputable def axO (y:List Kn) (L:List Lk):Int:=match L with
 | []=>0
 | x::_=>if dc (∀ z∈L,OnLine (kAt y z) (kAt y x))=true then (kAt y x).2.1 / 2+1 else 0
theorem lel {L:List Lk} {i:Nat} {x:Lk} {k:Int→Int→Int→Int→Int→Prop} (h:L[i]? = some x) (hk:k x.1 x.2.1 x.2.2.1 x.2.2.2.1 x.2.2.2.2):onSome (lkl L)[i]? fun row=>onCons (List.drop 0 row) fun u r=>onIntK IntKind.i64 u fun n=>onCons r fun u r=>onIntK IntKind.i64 u fun n_1=>onCons r fun u r=>onIntK IntKind.i64 u fun n_2=>onCons r fun u r=>onIntK IntKind.i64 u fun n_3=>onCons r fun u r=>onIntK IntKind.u8 u fun n_4=>k n n_1 n_2 n_3 n_4:=onSome_mk (x:=lkr x) (by simp [lkl,h]) hk
theorem lrow {L:List Lk} {i:Nat} {x:Lk} (h:L[i]? = some x):(lkl L)[i]? = some (lkr x):=by simp [lkl,h]
theorem axis138 {y:List Kn} {L:List Lk} {x:Lk} {R:V→Prop} (hx:L[0]? = some x) (hy : ∀ k∈y,KnO k) (hL : ∀ z∈L,0≤z.2.2.1∧z.2.2.1.toNat<y.length) (hlen:L.length≤1000000000) (h:R (u8 (axO y L))):K0G Tryz.prog glX 138 [.lst 5 (knl y),.lst 5 (lkl L)] R:=by
 have hax:axO y L=if dc (∀ z∈L,OnLine (kAt y z) (kAt y x))=true then (kAt y x).2.1 / 2+1 else 0:=by
  cases L with
  | nil=>simp at hx
  | cons a L=>simp at hx; subst hx; rfl
 rw [hax] at h
 have kat : ∀ z∈L,y[z.2.2.1.toNat]? = some (kAt y z):=fun z hz=>by
  obtain ⟨k,hk⟩:=getI (hL z hz).2
  unfold kAt
  rw [hk]
  rfl
 have xm:=mem_at hx
 have hk0:=kat x xm
 obtain ⟨k,hk⟩ : ∃ k,k=kAt y x:=⟨_,rfl⟩
 rw [← hk] at h hk0
 refine K0_by hmX hcJ9 3000 Tryz.func138 (p:=onSome (lkl L)[0]? fun row=>onSome row[2]? fun v=>onIntK IntKind.i64 v fun n=>onNat n fun m=>onSome (knl y)[m]? fun row=>onCons (List.drop 0 row) fun u r=>onIntK IntKind.i64 u fun n=>onCons r fun u r=>onIntK IntKind.i64 u fun n_1=>onCons r fun u r=>onIntK IntKind.i64 u fun n_2=>onCons r fun u r=>onIntK IntKind.u8 u fun n_3=>onCons r fun u r=>onIntK IntKind.u8 u fun n_4=>La 0 [(0:Tmp),(5:Tmp),(16:Tmp),(17:Tmp),(18:Tmp)] (WY Tryz.prog cfJ9 2994 (Env.mk (Bs.mk 0 []) 0 none 46 138 0) (cdAt [1,1,0,1,0,0] (bodyOf Tryz.f138))) (Qblk 0 (Qthen (WY Tryz.prog cfJ9 2997 (Env.mk (Bs.mk 0 []) 0 none 46 138 0) (cdAt [1,1,1] (bodyOf Tryz.f138)) (QendX Tryz.prog Tryz.f138 fun v h=>R (frzW h v))) (QendX Tryz.prog Tryz.f138 fun v h=>R (frzW h v)))) (St.mk (mkT [(0,V.lst 5 (knl y)),(5,V.ptr (Id.p 0) 0 0),(16,V.lst 5 (lkl L)),(17,iv (↑(lkl L).length:Int)),(18,iv (0:Int))]) (Hp.mk [(0,O.rows 5 false [[iv n,iv n_1,iv n_2,V.raw (Value.int IntKind.u8 n_3),V.raw (Value.int IntKind.u8 n_4)]])] 1 []))) (by kernel_rfl) ?_
 refine onSome_mk (lrow hx) (onSome_mk (x:=iv x.2.2.1) rfl (onIntK_iv (onNat_mk (m:=x.2.2.1.toNat) (by have:=hL x xm; omega) (kel hk0 ?_))))
 obtain ⟨s,hs⟩ : ∃ s,s=(lkl L).length:=⟨_,rfl⟩
 rw [← hs]
 rw [lkl_length] at hs
 have hkO:=hy k (mem_at hk0)
 refine La.of (σ:=Nat) (fun i=>sh138 y k L s i) (fun i=>i≤s ∧ ∀ z∈L.take i,OnLine (kAt y z) k) (fun i=>s - i) 0 (by kernel_rfl) ⟨by omega,by simp⟩ ?_
 rintro i ⟨g1,g2⟩ J hJ
 refine see (p:=ifB (decide ((↑i:Int)<(↑s:Int))) (onSome (lkl L)[i]? fun row=>onCons (List.drop 0 row) fun u r=>onIntK IntKind.i64 u fun n=>onCons r fun u r=>onIntK IntKind.i64 u fun n=>onCons r fun u r=>onIntK IntKind.i64 u fun n=>onCons r fun u r=>onIntK IntKind.i64 u fun n_1=>onCons r fun u r=>onIntK IntKind.u8 u fun n_2=>onNat n fun m=>onSome (knl y)[m]? fun row=>onCons (List.drop 0 row) fun u r=>onIntK IntKind.i64 u fun n=>onCons r fun u r=>onIntK IntKind.i64 u fun n_3=>onCons r fun u r=>onIntK IntKind.i64 u fun n_4=>onCons r fun u r=>onIntK IntKind.u8 u fun n_5=>onCons r fun u r=>onIntK IntKind.u8 u fun n_6=>ifB (IntKind.u8.wrap (n_5.tdiv (2:Int)) != IntKind.u8.wrap (k.2.1.tdiv (2:Int))) (R (V.raw (Value.int IntKind.u8 (0:Int)))) (K0G Tryz.prog glX 165 [V.agg [iv n,iv n_3,iv n_4,V.raw (Value.int IntKind.u8 n_5),V.raw (Value.int IntKind.u8 n_6)]] fun v=>onAgg v fun cs=>onCons cs fun u r=>onIntK IntKind.i64 u fun n=>onCons r fun u r=>onIntK IntKind.i64 u fun n_7=>onCons r fun u r=>onIntK IntKind.i64 u fun n_8=>onNil r (K0G Tryz.prog glX 165 [V.agg [iv k.1.1,iv k.1.2.1,iv k.1.2.2,V.raw (Value.int IntKind.u8 k.2.1),V.raw (Value.int IntKind.u8 k.2.2)]] fun v=>onAgg v fun cs=>onCons cs fun u r=>onIntK IntKind.i64 u fun n_9=>onCons r fun u r=>onIntK IntKind.i64 u fun n_10=>onCons r fun u r=>onIntK IntKind.i64 u fun n_11=>onNil r (ifB (!(fun b=>n==n_9&&b) ((fun b=>n_7==n_10&&b) ((fun b=>n_8==n_11&&b) true))) (R (V.raw (Value.int IntKind.u8 (0:Int)))) (J (St.mk (mkT [(0,V.lst 5 (knl y)),(5,V.ptr (Id.p 0) 0 0),(16,V.lst 5 (lkl L)),(17,iv (↑s:Int)),(18,iv (IntKind.i64.wrap ((↑i:Int)+(1:Int))))]) (Hp.mk [(0,O.rows 5 false [[iv k.1.1,iv k.1.2.1,iv k.1.2.2,V.raw (Value.int IntKind.u8 k.2.1),V.raw (Value.int IntKind.u8 k.2.2)]])] 1 []))))))) (R (V.raw (Value.int IntKind.u8 (IntKind.u8.wrap (IntKind.u8.wrap (k.2.1.tdiv (2:Int))+(1:Int))))))) (by kernel_rfl) ?_
 refine ifB_mk (fun d=>?_) (fun d=>?_)
 ·have hi:i<s:=by have:=of_decide_eq_true d; omega
  obtain ⟨z,hz⟩:=getI (l:=L) (k:=i) (by omega)
  have zm:=mem_at hz
  have hzO:=hy _ (mem_at (kat z zm))
  have bad : ¬ OnLine (kAt y z) k→R (u8 0):=fun hn=>by
   rw [dc_f (fun q=>hn (q z zm)),if_neg (by simp)] at h
   exact h
  refine lel hz (onNat_mk (m:=z.2.2.1.toNat) (by have:=hL z zm; omega) (kel (kat z zm) ?_))
  rw [half8 hzO.1.1 hzO.1.2,half8 hkO.1.1 hkO.1.2]
  refine ifB_mk (fun c=>bad (fun q=>by rw [q.1] at c; simp at c)) (fun c=>?_)
  have e1:(kAt y z).2.1 / 2=k.2.1 / 2:=by simpa using c
  refine across165 (k:=kAt y z) hzO.1.1 hzO.1.2 (onAgg_agg (onCons_cons (onIntK_iv (onCons_cons (onIntK_iv (onCons_cons (onIntK_iv (onNil_nil ?_))))))))
  refine across165 (k:=k) hkO.1.1 hkO.1.2 (onAgg_agg (onCons_cons (onIntK_iv (onCons_cons (onIntK_iv (onCons_cons (onIntK_iv (onNil_nil ?_))))))))
  refine ifB_mk (fun c=>bad (fun q=>by rw [q.2] at c; simp at c)) (fun c=>?_)
  have e2:acr (kAt y z)=acr k:=by
   simp only [Bool.not_eq_false', Bool.and_eq_true,beq_iff_eq,Bool.and_true] at c
   exact cl_ext c.1 c.2.1 c.2.2
  rw [wr1i hi (by omega)]
  exact hJ (i+1) ⟨hi,all_take hz g2 ⟨e1,e2⟩⟩ (by omega)
 ·have hi:s≤i:=by have:=of_decide_eq_false d; omega
  rw [half8 hkO.1.1 hkO.1.2,plus8 hkO.1.1 hkO.1.2]
  rw [dc_t (fun z hz=>g2 z (by rw [List.take_of_length_le (by omega)]; exact hz)),if_pos rfl] at h
  exact h
theorem onIntK_u8 {n:Int} {k:Int→Prop} (h:k n):onIntK .u8 (u8 n) k:=h
def lk0:Lk:=(0,0,0,0,0)
noncomputable def joF (l:List Bdy) (L:List Lk):Jt:=((L.headD lk0).1,(L.headD lk0).2.1,(L.map fun x=>strS x.2.2.2.2).sum,axO (knobsAt l (L.headD lk0).1.toNat) L,dc (axO (knobsAt l (L.headD lk0).1.toNat) L≠0 ∧ ∀ x∈L,x.2.2.2.2=3))
theorem sum_bd : ∀ (L:List Lk),0≤(L.map fun x=>strS x.2.2.2.2).sum∧(L.map fun x=>strS x.2.2.2.2).sum≤5 * (L.length:Int)
 | []=>by simp
 | x::L=>by
  have h1:=sum_bd L
  have h2:=strS_bd x.2.2.2.2
  simp only [List.map_cons,List.sum_cons,List.length_cons]
  omega
theorem joint118 {l:List Bdy} {L:List Lk} {x:Lk} {R:V→Prop} (hx:L[0]? = some x) (hx0:0≤x.1) (hxl:x.1.toNat<l.length) (hy : ∀ k∈knobsAt l x.1.toNat,KnO k) (hL : ∀ z∈L,0≤z.2.2.1∧z.2.2.1.toNat<(knobsAt l x.1.toNat).length) (hlen:L.length≤1000000000) (h:R (.agg (jtr (joF l L)))):K0G Tryz.prog glX 118 [.lst 2 (bdl l),.lst 5 (lkl L)] R:=by
 have hhd:L.headD lk0=x:=by
  cases L with
  | nil=>simp at hx
  | cons a L=>simp at hx; subst hx; rfl
 refine K0_by hmX hcJ9 3000 Tryz.func118 (p:=onSome (lkl L)[0]? fun row=>onSome row[0]? fun v=>onIntK IntKind.i64 v fun n=>onSome (lkl L)[0]? fun row=>onSome row[1]? fun v=>onIntK IntKind.i64 v fun n_1=>onSome (lkl L)[0]? fun row=>onSome row[0]? fun v=>onIntK IntKind.i64 v fun n_2=>onNat n_2 fun m=>onSome (bdl l)[m]? fun row=>onSome row[1]? fun v=>onLst v fun s es=>K0G Tryz.prog glX 138 [V.lst s es,V.lst 5 (lkl L)] fun v=>onIntK IntKind.u8 v fun n_3=>La 0 [(4:Tmp),(5:Tmp),(31:Tmp),(32:Tmp),(33:Tmp)] (WY Tryz.prog cfJ9 2993 (Env.mk (Bs.mk 0 []) 0 none 54 118 0) (cdAt [1,1,1,0,1,0,0] (bodyOf Tryz.f118))) (Qblk 0 (Qthen (WY Tryz.prog cfJ9 2996 (Env.mk (Bs.mk 0 []) 0 none 54 118 0) (cdAt [1,1,1,1] (bodyOf Tryz.f118)) (QendX Tryz.prog Tryz.f118 fun v h=>R (frzW h v))) (QendX Tryz.prog Tryz.f118 fun v h=>R (frzW h v)))) (St.mk (mkT [(4,V.ptr (Id.p 0) 0 0),(5,V.ptr (Id.p 1) 0 0),(31,V.lst 5 (lkl L)),(32,iv (↑(lkl L).length:Int)),(33,iv (0:Int))]) (Hp.mk [(0,O.rows 5 false [[iv (0:Int),iv (0:Int),iv (0:Int),V.raw (Value.int IntKind.u8 (0:Int)),bv false]]),(1,O.rows 5 false [[iv n,iv n_1,iv (0:Int),V.raw (Value.int IntKind.u8 n_3),bv (n_3 != (0:Int))]])] 2 []))) (by kernel_rfl) ?_
 obtain ⟨b,hb⟩:=getI hxl
 have hkn:knobsAt l x.1.toNat=b.2:=by unfold knobsAt; rw [hb]; rfl
 have hrow:(bdl l)[x.1.toNat]? = some (bdr b):=by simp [bdl,hb]
 refine onSome_mk (lrow hx) (onSome_mk (x:=iv x.1) rfl (onIntK_iv (onSome_mk (lrow hx) (onSome_mk (x:=iv x.2.1) rfl (onIntK_iv (onSome_mk (lrow hx) (onSome_mk (x:=iv x.1) rfl (onIntK_iv (onNat_mk (m:=x.1.toNat) (by omega) (onSome_mk hrow (onSome_mk (x:=V.lst 5 (knl b.2)) rfl (onLst_lst ?_))))))))))))
 rw [hkn] at hy hL
 refine axis138 hx hy hL hlen (onIntK_u8 ?_)
 obtain ⟨ax,hax⟩ : ∃ ax,ax=axO b.2 L:=⟨_,rfl⟩
 rw [← hax]
 obtain ⟨s,hs⟩ : ∃ s,s=(lkl L).length:=⟨_,rfl⟩
 rw [← hs]
 rw [lkl_length] at hs
 refine La.of (σ:=Nat×Jt) (fun t=>sh118 L t.2 s t.1) (fun t=>t.1≤s∧t.2=(x.1,x.2.1,((L.take t.1).map fun x=>strS x.2.2.2.2).sum,ax,dc (ax≠0 ∧ ∀ z∈L.take t.1,z.2.2.2.2=3))) (fun t=>s - t.1) (0,(x.1,x.2.1,0,ax,(ax != (0:Int)))) (by kernel_rfl) ⟨by simp only; omega,?_⟩ ?_
 ·simp only [List.take_zero,List.map_nil,List.sum_nil]
  have:(ax != (0:Int))=dc (ax≠0 ∧ ∀ z∈([]:List Lk),z.2.2.2.2=3):=by
   by_cases h:ax=0
   ·rw [dc_f (fun q=>q.1 h),h]; rfl
   ·rw [dc_t ⟨h,by simp⟩]; simpa using h
  rw [this]
 rintro ⟨i,j⟩ ⟨g1,g2⟩ J hJ
 simp only at g1 g2
 refine see (p:=ifB (decide ((↑i:Int)<(↑s:Int))) (onSome (lkl L)[i]? fun row=>onCons (List.drop 0 row) fun u r=>onIntK IntKind.i64 u fun n=>onCons r fun u r=>onIntK IntKind.i64 u fun n=>onCons r fun u r=>onIntK IntKind.i64 u fun n=>onCons r fun u r=>onIntK IntKind.i64 u fun n=>onCons r fun u r=>onIntK IntKind.u8 u fun n=>K0G Tryz.prog glX 139 [V.raw (Value.int IntKind.u8 n)] fun v=>onIntK IntKind.i64 v fun n_1=>ifB j.2.2.2.2 (J (St.mk (mkT [(4,V.ptr (Id.p 0) 0 0),(5,V.ptr (Id.p 1) 0 0),(31,V.lst 5 (lkl L)),(32,iv (↑s:Int)),(33,iv (IntKind.i64.wrap ((↑i:Int)+(1:Int))))]) (Hp.mk [(0,O.rows 5 false [[iv (0:Int),iv (0:Int),iv (0:Int),V.raw (Value.int IntKind.u8 (0:Int)),bv false]]),(1,O.rows 5 false [[iv j.1,iv j.2.1,iv (IntKind.i64.wrap (j.2.2.1+n_1)),V.raw (Value.int IntKind.u8 j.2.2.2.1),bv (n==(3:Int))]])] 2 []))) (J (St.mk (mkT [(4,V.ptr (Id.p 0) 0 0),(5,V.ptr (Id.p 1) 0 0),(31,V.lst 5 (lkl L)),(32,iv (↑s:Int)),(33,iv (IntKind.i64.wrap ((↑i:Int)+(1:Int))))]) (Hp.mk [(0,O.rows 5 false [[iv (0:Int),iv (0:Int),iv (0:Int),V.raw (Value.int IntKind.u8 (0:Int)),bv false]]),(1,O.rows 5 false [[iv j.1,iv j.2.1,iv (IntKind.i64.wrap (j.2.2.1+n_1)),V.raw (Value.int IntKind.u8 j.2.2.2.1),bv false]])] 2 [])))) (R (V.agg [iv j.1,iv j.2.1,iv j.2.2.1,V.raw (Value.int IntKind.u8 j.2.2.2.1),bv j.2.2.2.2]))) (by kernel_rfl) ?_
 refine ifB_mk (fun d=>?_) (fun d=>?_)
 ·have hi:i<s:=by have:=of_decide_eq_true d; omega
  obtain ⟨z,hz⟩:=getI (l:=L) (k:=i) (by omega)
  have b1:=sum_bd (L.take i)
  have b2:=strS_bd z.2.2.2.2
  rw [List.length_take] at b1
  have e3:((L.take (i+1)).map fun x=>strS x.2.2.2.2).sum=((L.take i).map fun x=>strS x.2.2.2.2).sum+strS z.2.2.2.2:=by
   rw [take_succ' hz,List.map_append,List.sum_append]; simp
  refine lel hz (strength139 (onIntK_iv ?_))
  rw [g2]
  simp only
  rw [wr (n:=((L.take i).map fun x=>strS x.2.2.2.2).sum+_) (by omega) (by omega),wr1i hi (by omega),← e3]
  refine ifB_mk (fun c=>?_) (fun c=>?_)
  ·have c:=dc_true c
   refine hJ (i+1,(x.1,x.2.1,_,ax,(z.2.2.2.2==(3:Int)))) ⟨hi,?_⟩ (by simp only; omega)
   simp only
   have:(z.2.2.2.2==(3:Int))=dc (ax≠0 ∧ ∀ z∈L.take (i+1),z.2.2.2.2=3):=by
    rw [take_succ' hz]
    by_cases h3:z.2.2.2.2=3
    ·rw [dc_t ⟨c.1,fun w hw=>by rcases List.mem_append.1 hw with hw | hw; exact c.2 w hw; rw [List.mem_singleton.1 hw]; exact h3⟩]
     simpa using h3
    ·rw [dc_f (fun q=>h3 (q.2 z (by simp)))]
     simpa using h3
   rw [this]
   rfl
  ·have c:=dc_false c
   refine hJ (i+1,(x.1,x.2.1,_,ax,false)) ⟨hi,?_⟩ (by simp only; omega)
   simp only
   rw [dc_f (fun q=>c ⟨q.1,fun w hw=>q.2 w (by rw [take_succ' hz]; exact List.mem_append.2 (.inl hw))⟩)]
   rfl
 ·have hi:s≤i:=by have:=of_decide_eq_false d; omega
  rw [List.take_of_length_le (by omega)] at g2
  have:j=joF l L:=by
   rw [g2]
   unfold joF
   rw [hhd,hkn,← hax]
  rw [this]
  exact h
def key (x:Lk):Int×Int:=(x.1,x.2.1)
def at_ (L:List Lk) (i:Nat):Lk:=L.getD i lk0
def Hd (L:List Lk) (i:Nat):Prop:=i=0∨key (at_ L (i - 1))≠key (at_ L i)
def owL (L:List Lk) (i:Nat):List Lk:=L.filter fun x=>decide (key x=key (at_ L i))
noncomputable def jnS (g:List Lk→Jt) (L:List Lk) (n:Nat):List Jt:=(List.range n).flatMap fun i=>if dc (Hd L i)=true then [g (owL L i)] else []
theorem jnS_succ (g:List Lk→Jt) (L:List Lk) (n:Nat):jnS g L (n+1)=jnS g L n++if dc (Hd L n)=true then [g (owL L n)] else []:=by
 unfold jnS
 rw [List.range_succ,List.flatMap_append]
 simp
theorem at_get {L:List Lk} {i:Nat} (h:i<L.length):L[i]? = some (at_ L i):=by
 unfold at_
 rw [List.getD_eq_getElem?_getD]
 simp [h]
theorem jnS_len (g:List Lk→Jt) (L:List Lk) (n:Nat):(jnS g L n).length≤n:=by
 have:=fm_len (f:=fun i=>if dc (Hd L i)=true then [g (owL L i)] else []) (c:=1) (l:=List.range n) (fun i _=>by split <;> simp)
 rw [List.length_range,Nat.mul_one] at this
 exact this
theorem jnS_run {g:List Lk→Jt} {L:List Lk} {f:Nat} (hd:Hd L f) : ∀ {t:Nat},f<t→(∀ i,f≤i→i<t→key (at_ L i)=key (at_ L f))→jnS g L t=jnS g L f++[g (owL L f)]
 | 0,h,_=>by omega
 | t+1,h,hk=>by
  rw [jnS_succ]
  rcases Nat.lt_succ_iff_lt_or_eq.1 h with h1 | h1
  ·rw [jnS_run hd h1 (fun i a b=>hk i a (by omega)),dc_f (fun q=>?_),if_neg (by simp),List.append_nil]
   rcases q with q | q
   ·omega
   ·exact q ((hk (t - 1) (by omega) (by omega)).trans (hk t (by omega) (by omega)).symm)
  ·rw [← h1,dc_t hd,if_pos rfl]
theorem Of2.le {L:List Lk} (hs:L.Pairwise Of2) {i j:Nat} (h:i<j) (hj:j<L.length):(at_ L i).1<(at_ L j).1∨(at_ L i).1=(at_ L j).1∧(at_ L i).2.1≤(at_ L j).2.1:=by
 have h1:=at_get (L:=L) (i:=i) (by omega)
 have h2:=at_get (L:=L) (i:=j) hj
 have:=List.pairwise_iff_getElem.1 hs i j (by omega) hj h
 rw [(List.getElem?_eq_some_iff.1 h1).2,(List.getElem?_eq_some_iff.1 h2).2] at this
 unfold Of2 at this
 omega
theorem key_eq {x y:Lk}:key x=key y↔x.1=y.1∧x.2.1=y.2.1:=by unfold key; exact Prod.mk.injEq .. ▸ Iff.rfl
theorem run_own {L:List Lk} (hs:L.Pairwise Of2) {f t:Nat} (hf:f<L.length) (h:f<t) (ht:t≤L.length) (hd:Hd L f) (hk : ∀ i,f≤i→i<t→key (at_ L i)=key (at_ L f)) (he:t=L.length∨key (at_ L t)≠key (at_ L f)):(L.drop f).take (t - f)=owL L f:=by
 have e1:L=L.take f++((L.drop f).take (t - f)++L.drop t):=by
  have h1:=(List.take_append_drop f L).symm
  have h2:=(List.take_append_drop (t - f) (L.drop f)).symm
  rw [List.drop_drop,show f+(t - f)=t from by omega] at h2
  rw [← h2]
  exact h1
 have hin : ∀ x∈L.take f, ¬ key x=key (at_ L f):=by
  intro x hx e
  obtain ⟨i,hi⟩:=List.mem_iff_getElem?.1 hx
  rw [List.getElem?_take] at hi
  split at hi
  ·rename_i hif
   have hx' : x=at_ L i:=by rw [at_get (by omega)] at hi; exact (Option.some.inj hi).symm
   rw [hx', key_eq] at e
   rcases hd with hd | hd
   ·omega
   ·rw [Ne,key_eq] at hd
    have a:=Of2.le hs (i:=f - 1) (j:=f) (by omega) hf
    rcases Nat.lt_or_ge i (f - 1) with h1 | h1
    ·have b:=Of2.le hs (i:=i) (j:=f - 1) h1 (by omega)
     omega
    ·have:i=f - 1:=by omega
     rw [this] at e
     exact hd e
  ·cases hi
 have hout : ∀ x∈L.drop t, ¬ key x=key (at_ L f):=by
  intro x hx e
  obtain ⟨i,hi⟩:=List.mem_iff_getElem?.1 hx
  rw [List.getElem?_drop] at hi
  have hlt:=(List.getElem?_eq_some_iff.1 hi).1
  have hx' : x=at_ L (t+i):=by rw [at_get hlt] at hi; exact (Option.some.inj hi).symm
  rw [hx', key_eq] at e
  rcases he with he | he
  ·omega
  ·rw [Ne,key_eq] at he
   have a:=Of2.le hs (i:=f) (j:=t) h (by omega)
   rcases Nat.eq_zero_or_pos i with h0 | h0
   ·rw [h0] at e
    exact he e
   ·have b:=Of2.le hs (i:=t) (j:=t+i) (by omega) hlt
    omega
 have hmid : ∀ x∈(L.drop f).take (t - f),key x=key (at_ L f):=by
  intro x hx
  obtain ⟨i,hi⟩:=List.mem_iff_getElem?.1 hx
  rw [List.getElem?_take] at hi
  split at hi
  ·rename_i hif
   rw [List.getElem?_drop] at hi
   have hlt:=(List.getElem?_eq_some_iff.1 hi).1
   have hx' : x=at_ L (f+i):=by rw [at_get hlt] at hi; exact (Option.some.inj hi).symm
   rw [hx']
   exact hk _ (by omega) (by omega)
  ·cases hi
 unfold owL
 have : ∀ p:Lk→Bool,L.filter p=(L.take f).filter p++(((L.drop f).take (t - f)).filter p++(L.drop t).filter p):=fun p=>by
  rw [← List.filter_append,← List.filter_append,← e1]
 rw [this,List.filter_eq_nil_iff.2 (fun x hx=>by simpa using hin x hx),List.filter_eq_self.2 (fun x hx=>by simpa using hmid x hx),List.filter_eq_nil_iff.2 (fun x hx=>by simpa using hout x hx)]
 simp
theorem sub_lkl (L:List Lk) (a n:Nat):sub (lkl L) a n=lkl ((L.drop a).take n):=by simp [sub,lkl,List.map_take,List.map_drop]
noncomputable def jnt (l:List Bdy):List Jt:=jnS (joF l) (lnk l) (lnk l).length
noncomputable def fam68a (l:List Bdy) (L:List Lk) (s:Bool×Nat×Nat×List Jt):St:=match s.1 with | false=>sh68a l L s.2.1 | true=>sh68aS l L s.2.2.2 s.2.2.1 s.2.1
noncomputable def fam68b (l:List Bdy) (L:List Lk) (f:Nat) (s:Bool×Nat×Nat×List Jt):St:=match s.1 with | false=>sh68b l L f s.2.1 | true=>sh68bS l L s.2.2.2 s.2.2.1 f s.2.1
def OwnOK (l:List Bdy) (L:List Lk) (x:Lk):Prop:=0≤x.1∧x.1.toNat<l.length∧(∀ k∈knobsAt l x.1.toNat,KnO k) ∧ ∀ z∈L,0≤z.2.2.1∧z.2.2.1.toNat<(knobsAt l x.1.toNat).length
set_option maxHeartbeats 1000000 in
theorem joints68L {l:List Bdy} {L:List Lk} {R:V→Prop} (hs:L.Pairwise Of2) (hlen:L.length≤1000000000) (hown : ∀ i,i<L.length → ∃ x,(owL L i)[0]? = some x∧OwnOK l (owL L i) x) (h0:jnS (joF l) L L.length=[]→R nilS) (h:R (.lst 5 (jtl (jnS (joF l) L L.length)))):La 0 [(0:Tmp),(3:Tmp),(4:Tmp),(5:Tmp)] (WY Tryz.prog cfJ9 2993 (Env.mk (Bs.mk 0 []) 0 none 58 68 0) (cdAt [1,1,1,0,1,0,0] (bodyOf Tryz.f68))) (Qblk 0 (Qthen (WY Tryz.prog cfJ9 2996 (Env.mk (Bs.mk 0 []) 0 none 58 68 0) (cdAt [1,1,1,1] (bodyOf Tryz.f68)) (QendX Tryz.prog Tryz.f68 fun v h=>R (frzW h v))) (QendX Tryz.prog Tryz.f68 fun v h=>R (frzW h v)))) (sh68a l L 0):=by
 obtain ⟨n,hn⟩ : ∃ n,n=L.length:=⟨_,rfl⟩
 rw [← hn] at h h0 hlen hown
 refine La.of (σ:=Bool×Nat×Nat×List Jt) (fam68a l L) (fun s=>s.2.1≤n∧(s.2.1<n→Hd L s.2.1)∧s.2.2.1=s.2.2.2.length∧s.2.2.2=jnS (joF l) L s.2.1∧(s.1=false→s.2.2.2=[])∧(s.1=true→s.2.2.2≠[])) (fun s=>n - s.2.1) (false,0,0,[]) rfl ⟨by simp only; omega,fun _ => .inl rfl,rfl,rfl,fun _=>rfl,fun h=>by cases h⟩ ?_
 rintro ⟨bb,f,q,js⟩ ⟨g1,hd,gq,gj,gb,gb2⟩ J hJ
 simp only at g1 hd gq gj gb gb2
 have hq:q≤n:=by rw [gq,gj]; exact Nat.le_trans (jnS_len ..) g1
 have loop:f<n→La 0 [(0:Tmp),(3:Tmp),(4:Tmp),(5:Tmp),(6:Tmp)] (WY Tryz.prog cfJ9 2987 (Env.mk (Bs.mk 0 []) 0 none 58 68 2) (cdAt [1,1,1,0,1,0,0,1,0,1,0,0,0] (bodyOf Tryz.f68))) (Qblk 2 (Qthen (WY Tryz.prog cfJ9 2989 (Env.mk (Bs.mk 0 []) 0 none 58 68 1) (cdAt [1,1,1,0,1,0,0,1,0,1,1] (bodyOf Tryz.f68)) (Qblk 1 (Qla 0 [(0:Tmp),(3:Tmp),(4:Tmp),(5:Tmp)] J (Qblk 0 (Qthen (WY Tryz.prog cfJ9 2996 (Env.mk (Bs.mk 0 []) 0 none 58 68 0) (cdAt [1,1,1,1] (bodyOf Tryz.f68)) (QendX Tryz.prog Tryz.f68 fun v h=>R (frzW h v))) (QendX Tryz.prog Tryz.f68 fun v h=>R (frzW h v))))))) (Qblk 1 (Qla 0 [(0:Tmp),(3:Tmp),(4:Tmp),(5:Tmp)] J (Qblk 0 (Qthen (WY Tryz.prog cfJ9 2996 (Env.mk (Bs.mk 0 []) 0 none 58 68 0) (cdAt [1,1,1,1] (bodyOf Tryz.f68)) (QendX Tryz.prog Tryz.f68 fun v h=>R (frzW h v))) (QendX Tryz.prog Tryz.f68 fun v h=>R (frzW h v)))))))) (fam68b l L f (bb,f+1,q,js)):=by
  intro hf
  have hd:=hd hf
  refine La.of (σ:=Bool×Nat×Nat×List Jt) (fam68b l L f) (fun s=>(f<s.2.1∧s.2.1≤n)∧(∀ i,f≤i→i<s.2.1→key (at_ L i)=key (at_ L f))∧s.2.2.1=s.2.2.2.length∧s.2.2.2=jnS (joF l) L f∧(s.1=false→s.2.2.2=[])∧(s.1=true→s.2.2.2≠[])) (fun s=>n - s.2.1) (bb,f+1,q,js) rfl ⟨⟨by simp only; omega,by simp only; omega⟩,(fun i h1 h2=>by have h2:i<f+1:=h2; rw [show i=f from by omega]),gq,gj,gb,gb2⟩ ?_
  rintro ⟨bb,t,q,js⟩ ⟨⟨t0,t1⟩,tk,gq,gj,gb,gb2⟩ I hI
  simp only at t0 t1 tk gq gj gb gb2
  have hq:q≤n:=by rw [gq,gj]; exact Nat.le_trans (jnS_len ..) g1
  have hstep:(t=n∨key (at_ L t)≠key (at_ L f))→jnS (joF l) L t=jnS (joF l) L f++[joF l (owL L f)]:=fun _=>jnS_run hd t0 tk
  have hbd:(t=n∨key (at_ L t)≠key (at_ L f))→t<n→Hd L t:=fun he ht=>by
   rcases he with he | he
   ·omega
   ·exact .inr (fun e=>he (e.symm.trans (tk (t - 1) (by omega) (by omega))))
  rcases bb with _ | _
  ·refine see (p:=ifB (decide ((↑t:Int)<(↑(lkl L).length:Int))) (onSome (lkl L)[t]? fun row=>onSome row[0]? fun v=>onIntK IntKind.i64 v fun n=>onSome (lkl L)[f]? fun row=>onSome row[0]? fun v=>onIntK IntKind.i64 v fun n_1=>ifB (n==n_1) (onSome (lkl L)[t]? fun row=>onSome row[1]? fun v=>onIntK IntKind.i64 v fun n=>onSome (lkl L)[f]? fun row=>onSome row[1]? fun v=>onIntK IntKind.i64 v fun n_2=>ifB (n==n_2) (I (St.mk (mkT [(0,V.lst 2 (bdl l)),(3,V.lst 5 (lkl L)),(4,nilS),(5,iv (↑f:Int)),(6,iv (IntKind.i64.wrap ((↑t:Int)+(1:Int))))]) (Hp.mk [] 0 []))) (need (t≤(lkl L).length) (need (f≤t) (K0G Tryz.prog glX 118 [V.lst 2 (bdl l),V.lst 5 (sub (lkl L) f (t - f))] fun v=>onAgg v fun cs=>onCons cs fun u r=>onIntK IntKind.i64 u fun n=>onCons r fun u r=>onIntK IntKind.i64 u fun n_3=>onCons r fun u r=>onIntK IntKind.i64 u fun n_4=>onCons r fun u r=>onIntK IntKind.u8 u fun n_5=>onCons r fun u r=>onBool u fun b=>onNil r (J (St.mk (mkT [(0,V.lst 2 (bdl l)),(3,V.lst 5 (lkl L)),(4,V.sl (Id.p 0) 0 1),(5,iv (↑t:Int))]) (Hp.mk [(0,O.rows 5 true [[iv n,iv n_3,iv n_4,V.raw (Value.int IntKind.u8 n_5),bv b]])] 1 []))))))) (need (t≤(lkl L).length) (need (f≤t) (K0G Tryz.prog glX 118 [V.lst 2 (bdl l),V.lst 5 (sub (lkl L) f (t - f))] fun v=>onAgg v fun cs=>onCons cs fun u r=>onIntK IntKind.i64 u fun n=>onCons r fun u r=>onIntK IntKind.i64 u fun n_2=>onCons r fun u r=>onIntK IntKind.i64 u fun n_3=>onCons r fun u r=>onIntK IntKind.u8 u fun n_4=>onCons r fun u r=>onBool u fun b=>onNil r (J (St.mk (mkT [(0,V.lst 2 (bdl l)),(3,V.lst 5 (lkl L)),(4,V.sl (Id.p 0) 0 1),(5,iv (↑t:Int))]) (Hp.mk [(0,O.rows 5 true [[iv n,iv n_2,iv n_3,V.raw (Value.int IntKind.u8 n_4),bv b]])] 1 []))))))) (need (t≤(lkl L).length) (need (f≤t) (K0G Tryz.prog glX 118 [V.lst 2 (bdl l),V.lst 5 (sub (lkl L) f (t - f))] fun v=>onAgg v fun cs=>onCons cs fun u r=>onIntK IntKind.i64 u fun n=>onCons r fun u r=>onIntK IntKind.i64 u fun n_1=>onCons r fun u r=>onIntK IntKind.i64 u fun n_2=>onCons r fun u r=>onIntK IntKind.u8 u fun n_3=>onCons r fun u r=>onBool u fun b=>onNil r (J (St.mk (mkT [(0,V.lst 2 (bdl l)),(3,V.lst 5 (lkl L)),(4,V.sl (Id.p 0) 0 1),(5,iv (↑t:Int))]) (Hp.mk [(0,O.rows 5 true [[iv n,iv n_1,iv n_2,V.raw (Value.int IntKind.u8 n_3),bv b]])] 1 []))))))) (by kernel_rfl) ?_
   have hleaf:(t=n∨key (at_ L t)≠key (at_ L f))→need (t≤(lkl L).length) (need (f≤t) (K0G Tryz.prog glX 118 [V.lst 2 (bdl l),V.lst 5 (sub (lkl L) f (t - f))] fun v=>onAgg v fun cs=>onCons cs fun u r=>onIntK IntKind.i64 u fun n=>onCons r fun u r=>onIntK IntKind.i64 u fun n_3=>onCons r fun u r=>onIntK IntKind.i64 u fun n_4=>onCons r fun u r=>onIntK IntKind.u8 u fun n_5=>onCons r fun u r=>onBool u fun b=>onNil r (J (St.mk (mkT [(0,V.lst 2 (bdl l)),(3,V.lst 5 (lkl L)),(4,V.sl (Id.p 0) 0 1),(5,iv (↑t:Int))]) (Hp.mk [(0,O.rows 5 true ([[iv n,iv n_3,iv n_4,V.raw (Value.int IntKind.u8 n_5),bv b]]))] 1 []))))):=by
    intro hend
    refine need_mk ⟨by rw [lkl_length]; omega,need_mk ⟨by omega,?_⟩⟩
    rw [sub_lkl,run_own hs (by omega) t0 (by omega) hd tk (hn ▸ hend)]
    obtain ⟨x,hx0,hxg⟩:=hown f (by omega)
    refine joint118 (x:=x) hx0 hxg.1 hxg.2.1 hxg.2.2.1 hxg.2.2.2 (by have:=List.length_filter_le (fun x=>decide (key x=key (at_ L f))) L; unfold owL; omega) (onAgg_agg (onCons_cons (onIntK_iv (onCons_cons (onIntK_iv (onCons_cons (onIntK_iv (onCons_cons (onIntK_u8 (onCons_cons (onBool_bv (onNil_nil ?_))))))))))))
    exact hJ (true,t,1,[joF l (owL L f)]) ⟨t1,hbd hend,rfl,by simp only; rw [hstep hend,← gj,gb rfl]; rfl,(fun h=>by cases h),(fun _=>by simp)⟩ (by simp only; omega)
   refine ifB_mk (fun e=>?_) (fun e=>hleaf (.inl (by rw [lkl_length] at e; have:=of_decide_eq_false e; omega)))
   have ht:t<n:=by rw [lkl_length] at e; have:=of_decide_eq_true e; omega
   have ht' : L[t]? = some (at_ L t):=at_get (by omega)
   have hf' : L[f]? = some (at_ L f):=at_get (by omega)
   refine onSome_mk (lrow ht') (onSome_mk (x:=iv (at_ L t).1) rfl (onIntK_iv (onSome_mk (lrow hf') (onSome_mk (x:=iv (at_ L f).1) rfl (onIntK_iv (ifB_mk (fun c=>?_) (fun c=>hleaf (.inr (fun q=>by unfold key at q; rw [(Prod.mk.inj q).1] at c; simp at c)))))))))
   refine onSome_mk (lrow ht') (onSome_mk (x:=iv (at_ L t).2.1) rfl (onIntK_iv (onSome_mk (lrow hf') (onSome_mk (x:=iv (at_ L f).2.1) rfl (onIntK_iv (ifB_mk (fun c2=>?_) (fun c2=>hleaf (.inr (fun q=>by unfold key at q; rw [(Prod.mk.inj q).2] at c2; simp at c2)))))))))
   rw [wr1i ht (by omega)]
   refine hI (false,t+1,q,js) ⟨⟨by simp only; omega,ht⟩,?_,gq,gj,gb,gb2⟩ (by simp only; omega)
   intro i h1 h2
   simp only at h2
   rcases Nat.lt_succ_iff_lt_or_eq.1 h2 with h3 | h3
   ·exact tk i h1 h3
   ·rw [h3]
    unfold key
    rw [show (at_ L t).1=(at_ L f).1 from by simpa using c,show (at_ L t).2.1=(at_ L f).2.1 from by simpa using c2]
  ·refine see (p:=ifB (decide ((↑t:Int)<(↑(lkl L).length:Int))) (onSome (lkl L)[t]? fun row=>onSome row[0]? fun v=>onIntK IntKind.i64 v fun n=>onSome (lkl L)[f]? fun row=>onSome row[0]? fun v=>onIntK IntKind.i64 v fun n_1=>ifB (n==n_1) (onSome (lkl L)[t]? fun row=>onSome row[1]? fun v=>onIntK IntKind.i64 v fun n=>onSome (lkl L)[f]? fun row=>onSome row[1]? fun v=>onIntK IntKind.i64 v fun n_2=>ifB (n==n_2) (I (St.mk (mkT [(0,V.lst 2 (bdl l)),(3,V.lst 5 (lkl L)),(4,V.sl (Id.p 0) 0 q),(5,iv (↑f:Int)),(6,iv (IntKind.i64.wrap ((↑t:Int)+(1:Int))))]) (Hp.mk [(0,O.rows 5 true (jtl js))] 1 []))) (need (t≤(lkl L).length) (need (f≤t) (K0G Tryz.prog glX 118 [V.lst 2 (bdl l),V.lst 5 (sub (lkl L) f (t - f))] fun v=>onAgg v fun cs=>onCons cs fun u r=>onIntK IntKind.i64 u fun n=>onCons r fun u r=>onIntK IntKind.i64 u fun n_3=>onCons r fun u r=>onIntK IntKind.i64 u fun n_4=>onCons r fun u r=>onIntK IntKind.u8 u fun n_5=>onCons r fun u r=>onBool u fun b=>onNil r (need ((q+1) * 32≤140737488355328) (J (St.mk (mkT [(0,V.lst 2 (bdl l)),(3,V.lst 5 (lkl L)),(4,V.sl (Id.p 0) 0 (q+1)),(5,iv (↑t:Int))]) (Hp.mk [(0,O.rows 5 true (List.take q (jtl js)++[[iv n,iv n_3,iv n_4,V.raw (Value.int IntKind.u8 n_5),bv b]]))] 1 [])))))))) (need (t≤(lkl L).length) (need (f≤t) (K0G Tryz.prog glX 118 [V.lst 2 (bdl l),V.lst 5 (sub (lkl L) f (t - f))] fun v=>onAgg v fun cs=>onCons cs fun u r=>onIntK IntKind.i64 u fun n=>onCons r fun u r=>onIntK IntKind.i64 u fun n_2=>onCons r fun u r=>onIntK IntKind.i64 u fun n_3=>onCons r fun u r=>onIntK IntKind.u8 u fun n_4=>onCons r fun u r=>onBool u fun b=>onNil r (need ((q+1) * 32≤140737488355328) (J (St.mk (mkT [(0,V.lst 2 (bdl l)),(3,V.lst 5 (lkl L)),(4,V.sl (Id.p 0) 0 (q+1)),(5,iv (↑t:Int))]) (Hp.mk [(0,O.rows 5 true (List.take q (jtl js)++[[iv n,iv n_2,iv n_3,V.raw (Value.int IntKind.u8 n_4),bv b]]))] 1 [])))))))) (need (t≤(lkl L).length) (need (f≤t) (K0G Tryz.prog glX 118 [V.lst 2 (bdl l),V.lst 5 (sub (lkl L) f (t - f))] fun v=>onAgg v fun cs=>onCons cs fun u r=>onIntK IntKind.i64 u fun n=>onCons r fun u r=>onIntK IntKind.i64 u fun n_1=>onCons r fun u r=>onIntK IntKind.i64 u fun n_2=>onCons r fun u r=>onIntK IntKind.u8 u fun n_3=>onCons r fun u r=>onBool u fun b=>onNil r (need ((q+1) * 32≤140737488355328) (J (St.mk (mkT [(0,V.lst 2 (bdl l)),(3,V.lst 5 (lkl L)),(4,V.sl (Id.p 0) 0 (q+1)),(5,iv (↑t:Int))]) (Hp.mk [(0,O.rows 5 true (List.take q (jtl js)++[[iv n,iv n_1,iv n_2,V.raw (Value.int IntKind.u8 n_3),bv b]]))] 1 [])))))))) (by kernel_rfl) ?_
   have hleaf:(t=n∨key (at_ L t)≠key (at_ L f))→need (t≤(lkl L).length) (need (f≤t) (K0G Tryz.prog glX 118 [V.lst 2 (bdl l),V.lst 5 (sub (lkl L) f (t - f))] fun v=>onAgg v fun cs=>onCons cs fun u r=>onIntK IntKind.i64 u fun n=>onCons r fun u r=>onIntK IntKind.i64 u fun n_3=>onCons r fun u r=>onIntK IntKind.i64 u fun n_4=>onCons r fun u r=>onIntK IntKind.u8 u fun n_5=>onCons r fun u r=>onBool u fun b=>onNil r (need ((q+1) * 32≤140737488355328) (J (St.mk (mkT [(0,V.lst 2 (bdl l)),(3,V.lst 5 (lkl L)),(4,V.sl (Id.p 0) 0 (q+1)),(5,iv (↑t:Int))]) (Hp.mk [(0,O.rows 5 true (List.take q (jtl js)++[[iv n,iv n_3,iv n_4,V.raw (Value.int IntKind.u8 n_5),bv b]]))] 1 [])))))):=by
    intro hend
    refine need_mk ⟨by rw [lkl_length]; omega,need_mk ⟨by omega,?_⟩⟩
    rw [sub_lkl,run_own hs (by omega) t0 (by omega) hd tk (hn ▸ hend)]
    obtain ⟨x,hx0,hxg⟩:=hown f (by omega)
    refine joint118 (x:=x) hx0 hxg.1 hxg.2.1 hxg.2.2.1 hxg.2.2.2 (by have:=List.length_filter_le (fun x=>decide (key x=key (at_ L f))) L; unfold owL; omega) (onAgg_agg (onCons_cons (onIntK_iv (onCons_cons (onIntK_iv (onCons_cons (onIntK_iv (onCons_cons (onIntK_u8 (onCons_cons (onBool_bv (onNil_nil ?_))))))))))))
    refine need_mk ⟨by omega,?_⟩
    have e:List.take q (jtl js)++[jtr (joF l (owL L f))]=jtl (js++[joF l (owL L f)]):=by
     rw [gq,← jtl_length,List.take_length]; simp [jtl]
    refine (congrArg J ?_).mp (hJ (true,t,q+1,js++[joF l (owL L f)]) ⟨t1,hbd hend,by simp [gq],by simp only; rw [hstep hend,gj],(fun h=>by cases h),(fun _=>by simp)⟩ (by simp only; omega))
    show sh68aS l L (js++[joF l (owL L f)]) (q+1) t=_
    unfold sh68aS
    rw [← e]
    rfl
   refine ifB_mk (fun e=>?_) (fun e=>hleaf (.inl (by rw [lkl_length] at e; have:=of_decide_eq_false e; omega)))
   have ht:t<n:=by rw [lkl_length] at e; have:=of_decide_eq_true e; omega
   have ht' : L[t]? = some (at_ L t):=at_get (by omega)
   have hf' : L[f]? = some (at_ L f):=at_get (by omega)
   refine onSome_mk (lrow ht') (onSome_mk (x:=iv (at_ L t).1) rfl (onIntK_iv (onSome_mk (lrow hf') (onSome_mk (x:=iv (at_ L f).1) rfl (onIntK_iv (ifB_mk (fun c=>?_) (fun c=>hleaf (.inr (fun q=>by unfold key at q; rw [(Prod.mk.inj q).1] at c; simp at c)))))))))
   refine onSome_mk (lrow ht') (onSome_mk (x:=iv (at_ L t).2.1) rfl (onIntK_iv (onSome_mk (lrow hf') (onSome_mk (x:=iv (at_ L f).2.1) rfl (onIntK_iv (ifB_mk (fun c2=>?_) (fun c2=>hleaf (.inr (fun q=>by unfold key at q; rw [(Prod.mk.inj q).2] at c2; simp at c2)))))))))
   rw [wr1i ht (by omega)]
   refine hI (true,t+1,q,js) ⟨⟨by simp only; omega,ht⟩,?_,gq,gj,gb,gb2⟩ (by simp only; omega)
   intro i h1 h2
   simp only at h2
   rcases Nat.lt_succ_iff_lt_or_eq.1 h2 with h3 | h3
   ·exact tk i h1 h3
   ·rw [h3]
    unfold key
    rw [show (at_ L t).1=(at_ L f).1 from by simpa using c,show (at_ L t).2.1=(at_ L f).2.1 from by simpa using c2]
 rcases bb with _ | _
 ·refine see (p:=ifB (decide ((↑f:Int)<(↑(lkl L).length:Int))) (La 0 [(0:Tmp),(3:Tmp),(4:Tmp),(5:Tmp),(6:Tmp)] (WY Tryz.prog cfJ9 2987 (Env.mk (Bs.mk 0 []) 0 none 58 68 2) (cdAt [1,1,1,0,1,0,0,1,0,1,0,0,0] (bodyOf Tryz.f68))) (Qblk 2 (Qthen (WY Tryz.prog cfJ9 2989 (Env.mk (Bs.mk 0 []) 0 none 58 68 1) (cdAt [1,1,1,0,1,0,0,1,0,1,1] (bodyOf Tryz.f68)) (Qblk 1 (Qla 0 [(0:Tmp),(3:Tmp),(4:Tmp),(5:Tmp)] J (Qblk 0 (Qthen (WY Tryz.prog cfJ9 2996 (Env.mk (Bs.mk 0 []) 0 none 58 68 0) (cdAt [1,1,1,1] (bodyOf Tryz.f68)) (QendX Tryz.prog Tryz.f68 fun v h=>R (frzW h v))) (QendX Tryz.prog Tryz.f68 fun v h=>R (frzW h v))))))) (Qblk 1 (Qla 0 [(0:Tmp),(3:Tmp),(4:Tmp),(5:Tmp)] J (Qblk 0 (Qthen (WY Tryz.prog cfJ9 2996 (Env.mk (Bs.mk 0 []) 0 none 58 68 0) (cdAt [1,1,1,1] (bodyOf Tryz.f68)) (QendX Tryz.prog Tryz.f68 fun v h=>R (frzW h v))) (QendX Tryz.prog Tryz.f68 fun v h=>R (frzW h v)))))))) (St.mk (mkT [(0,V.lst 2 (bdl l)),(3,V.lst 5 (lkl L)),(4,nilS),(5,iv (↑f:Int)),(6,iv (IntKind.i64.wrap ((↑f:Int)+(1:Int))))]) (Hp.mk [] 0 []))) (R nilS)) (by kernel_rfl) ?_
  refine ifB_mk (fun d=>?_) (fun d=>?_)
  ·have hf:f<n:=by rw [lkl_length] at d; have:=of_decide_eq_true d; omega
   rw [wr1i hf (by omega)]
   exact see (by kernel_rfl) (loop hf)
  ·have hf:f=n:=by rw [lkl_length] at d; have:=of_decide_eq_false d; omega
   exact h0 (by rw [← hf,← gj]; exact gb rfl)
 ·refine see (p:=ifB (decide ((↑f:Int)<(↑(lkl L).length:Int))) (La 0 [(0:Tmp),(3:Tmp),(4:Tmp),(5:Tmp),(6:Tmp)] (WY Tryz.prog cfJ9 2987 (Env.mk (Bs.mk 0 []) 0 none 58 68 2) (cdAt [1,1,1,0,1,0,0,1,0,1,0,0,0] (bodyOf Tryz.f68))) (Qblk 2 (Qthen (WY Tryz.prog cfJ9 2989 (Env.mk (Bs.mk 0 []) 0 none 58 68 1) (cdAt [1,1,1,0,1,0,0,1,0,1,1] (bodyOf Tryz.f68)) (Qblk 1 (Qla 0 [(0:Tmp),(3:Tmp),(4:Tmp),(5:Tmp)] J (Qblk 0 (Qthen (WY Tryz.prog cfJ9 2996 (Env.mk (Bs.mk 0 []) 0 none 58 68 0) (cdAt [1,1,1,1] (bodyOf Tryz.f68)) (QendX Tryz.prog Tryz.f68 fun v h=>R (frzW h v))) (QendX Tryz.prog Tryz.f68 fun v h=>R (frzW h v))))))) (Qblk 1 (Qla 0 [(0:Tmp),(3:Tmp),(4:Tmp),(5:Tmp)] J (Qblk 0 (Qthen (WY Tryz.prog cfJ9 2996 (Env.mk (Bs.mk 0 []) 0 none 58 68 0) (cdAt [1,1,1,1] (bodyOf Tryz.f68)) (QendX Tryz.prog Tryz.f68 fun v h=>R (frzW h v))) (QendX Tryz.prog Tryz.f68 fun v h=>R (frzW h v)))))))) (St.mk (mkT [(0,V.lst 2 (bdl l)),(3,V.lst 5 (lkl L)),(4,V.sl (Id.p 0) 0 q),(5,iv (↑f:Int)),(6,iv (IntKind.i64.wrap ((↑f:Int)+(1:Int))))]) (Hp.mk [(0,O.rows 5 true (jtl js))] 1 []))) (R (V.lst 5 (sub (jtl js) 0 q)))) (by kernel_rfl) ?_
  refine ifB_mk (fun d=>?_) (fun d=>?_)
  ·have hf:f<n:=by rw [lkl_length] at d; have:=of_decide_eq_true d; omega
   rw [wr1i hf (by omega)]
   exact see (by kernel_rfl) (loop hf)
  ·have hf:f=n:=by rw [lkl_length] at d; have:=of_decide_eq_false d; omega
   have e:sub (jtl js) 0 q=jtl js:=by rw [gq,← jtl_length,sub,List.drop_zero,List.take_length]
   rw [e,gj,hf]
   exact h
theorem own_ok {l:List Bdy} (hB:BodOK l) (i:Nat) (hi:i<(lnk l).length) : ∃ x,(owL (lnk l) i)[0]? = some x∧OwnOK l (owL (lnk l) i) x:=by
 have hm:at_ (lnk l) i∈owL (lnk l) i:=List.mem_filter.2 ⟨mem_at (at_get hi),by simp⟩
 obtain ⟨x,hx⟩:=getI (l:=owL (lnk l) i) (k:=0) (List.length_pos_of_mem hm)
 have lk : ∀ z∈owL (lnk l) i,key z=key (at_ (lnk l) i) ∧ ∃ a b i j k o,LkP l z a b i j k o:=fun z hz=>by
  obtain ⟨h1,h2⟩:=List.mem_filter.1 hz
  exact ⟨by simpa using h2,mem_lnk.1 h1⟩
 obtain ⟨e,a,b,i', j,k,o,h1,h2,h3,h4,h5,rfl⟩:=lk x (mem_at hx)
 refine ⟨_,hx,by simp only; omega,by simp only; omega,?_,?_⟩
 ·intro k hk
  simp only [Int.toNat_natCast] at hk
  obtain ⟨j,hj⟩:=List.mem_iff_getElem?.1 hk
  obtain ⟨y,hy,hyk⟩:=knobsAt_mem hj
  exact hB.ko y (mem_at hy) k (mem_at hyk)
 ·intro z hz
  obtain ⟨e', a', b', i2,j', k', o', g1,g2,g3,g4,g5,rfl⟩:=lk z hz
  have:=key_eq.1 (e'.trans e.symm)
  simp only at this
  have ea:a' = a:=by omega
  subst ea
  simp only [Int.toNat_natCast]
  exact ⟨by omega,(List.getElem?_eq_some_iff.1 g3).1⟩
theorem joints_nil {l:List Bdy} {R:V→Prop} (h:R nilS):La 0 [(0:Tmp),(3:Tmp),(4:Tmp),(5:Tmp)] (WY Tryz.prog cfJ9 2993 (Env.mk (Bs.mk 0 []) 0 none 58 68 0) (cdAt [1,1,1,0,1,0,0] (bodyOf Tryz.f68))) (Qblk 0 (Qthen (WY Tryz.prog cfJ9 2996 (Env.mk (Bs.mk 0 []) 0 none 58 68 0) (cdAt [1,1,1,1] (bodyOf Tryz.f68)) (QendX Tryz.prog Tryz.f68 fun v h=>R (frzW h v))) (QendX Tryz.prog Tryz.f68 fun v h=>R (frzW h v)))) (sh68n l):=by
 refine La.of (σ:=Unit) (fun _=>sh68n l) (fun _=>True) (fun _=>0) () rfl trivial ?_
 rintro _ _ J hJ
 exact see (p:=R nilS) (by kernel_rfl) h
theorem joints68 {l:List Bdy} {R:V→Prop} (hB:BodOK l) (hlen:(lnk l).length≤1000000000) (h0:jnt l=[]→R nilS) (h:R (.lst 5 (jtl (jnt l)))):K0G Tryz.prog glX 68 [.lst 2 (bdl l)] R:=by
 refine K0_by hmX hcJ9 3000 Tryz.func68 (p:=K0G Tryz.prog glX 65 [V.lst 2 (bdl l)] fun v=>onLst v fun s es=>La 0 [(0:Tmp),(3:Tmp),(4:Tmp),(5:Tmp)] (WY Tryz.prog cfJ9 2993 (Env.mk (Bs.mk 0 []) 0 none 58 68 0) (cdAt [1,1,1,0,1,0,0] (bodyOf Tryz.f68))) (Qblk 0 (Qthen (WY Tryz.prog cfJ9 2996 (Env.mk (Bs.mk 0 []) 0 none 58 68 0) (cdAt [1,1,1,1] (bodyOf Tryz.f68)) (QendX Tryz.prog Tryz.f68 fun v h=>R (frzW h v))) (QendX Tryz.prog Tryz.f68 fun v h=>R (frzW h v)))) (St.mk (mkT [(0,V.lst 2 (bdl l)),(3,V.lst s es),(4,nilS),(5,iv (0:Int))]) (Hp.mk [] 0 []))) (by kernel_rfl) ?_
 refine links65 hB (fun e=>onLst_nil ?_) (onLst_lst ?_)
 ·exact see (by kernel_rfl) (joints_nil (l:=l) (R:=R) (h0 (by unfold jnt; rw [e]; rfl)))
 ·exact see (by kernel_rfl) (joints68L (L:=lnk l) (R:=R) (lnk_pw l) hlen (own_ok hB) h0 h)
theorem HeapOK_same {ν:Nu} {F:Nat→Prop} {a b:Hp} {w:World} (hs:SameH a b) (k:HeapOK ν F a w):HeapOK ν F b w:=by
 have hg : ∀ x,b.get x=a.get x:=fun x=>by
  obtain ⟨_,h2,h3⟩:=hs
  cases x with
  | p n=>exact (h3 n).symm
  | m B k=>unfold Hp.get; rw [h2]
 exact ⟨fun x r s n hx=>by rw [hg]; exact k.blk x r s n hx,fun x o hx=>k.dom x o (by rw [← hg]; exact hx),k.inj,k.frz,k.nxt.trans hs.1,fun B=>by rw [← hs.2.1]; exact k.cnt B⟩
theorem KM_of_WYKe {P:Program} (hm:P.follows .mixedOrders=true) {cfg:Cfg} (hcf:cfg.ok P) (fuel:Nat) {f:FuncId} {fn:Func} (hf:P.funcs[f]? = some fn) {args:List V} {h:Hp} {post:Hp→Us→Hp} {Q:V→Us→Prop} (hw : ∀ R:V→Hp→Prop,(∀ v us h1,Q v us→SameH h1 (post h us)→R v h1)→WYK P cfg fuel f fn args h R):KM P cfg.glob f args h post Q:=by
 unfold KM
 have:=K_of_WYK hm hcf fuel hf (hw (fun v h1 => ∃ us,SameH h1 (post h us)∧Q v us) fun v us h1 hv hs=>⟨us,hs,hv⟩)
 intro ν F w xs g1 g2 g3
 exact (this ν F w xs g1 g2 g3).mono fun e w' ⟨x,v,ν', F', h', z1,⟨us,hs,hq⟩,z3,z4,z5,z6⟩=>⟨x,v,ν', F', _,z1,⟨us,rfl,hq⟩,HeapOK_same hs z3,z4,z5,z6⟩
def gat (ls:List Int) (v:Nat):Int:=ls.getD v (-1)
def Asg (ls:List Int) (v:Nat):Prop:=gat ls v ≠ -1
def Adj (js:List Jt) (a b:Nat):Prop := ∃ j∈js,(j.1=(a:Int)∧j.2.1=(b:Int))∨(j.1=(b:Int)∧j.2.1=(a:Int))
inductive Con (js:List Jt):Nat→Nat→Prop where
 | refl (a:Nat):Con js a a
 | step {a b c:Nat}:Con js a b→Adj js b c→Con js a c
theorem Con.trans {js:List Jt} {a b c:Nat} (h:Con js a b) (g:Con js b c):Con js a c:=by
 induction g with
 | refl=>exact h
 | step _ e ih=>exact ih.step e
structure Vis (js:List Jt) (ls:List Int) (b f:Nat) (ls' : List Int):Prop where
 len:ls'.length=ls.length
 old : ∀ v,Asg ls v→gat ls' v=gat ls v
 got:Asg ls' b
 new : ∀ v, ¬ Asg ls v→Asg ls' v→gat ls' v=(f:Int)∧Con js b v
 clo : ∀ v w, ¬ Asg ls v→Asg ls' v→Adj js v w→Asg ls' w
 same:Asg ls b→ls' = ls
structure LInv (js:List Jt) (b f:Nat) (ls:List Int) (T:Nat→Prop) (lk:List Int):Prop where
 len:lk.length=ls.length
 old : ∀ v,Asg ls v→gat lk v=gat ls v
 new : ∀ v, ¬ Asg ls v→Asg lk v→gat lk v=(f:Int)∧Con js b v
 clo : ∀ v w, ¬ Asg ls v→Asg lk v→Adj js v w→Asg lk w
 nb : ∀ w,T w→Asg lk w
theorem LInv.call {js:List Jt} {b f w:Nat} {ls lk lk' : List Int} {T:Nat→Prop} (h:LInv js b f ls T lk) (ha:Adj js b w) (hv:Vis js lk w f lk'):LInv js b f ls (fun x=>T x∨x=w) lk' := by
 have keep : ∀ v,Asg lk v→Asg lk' v:=fun v hv' => by unfold Asg; rw [hv.old v hv']; exact hv'
 refine ⟨hv.len.trans h.len,fun v h1=>?_,fun v h1 h2=>?_,fun v x h1 h2 h3=>?_,fun x hx=>?_⟩
 ·have:=h.old v h1
  have h4:Asg lk v:=by unfold Asg; rw [this]; exact h1
  rw [hv.old v h4,this]
 ·by_cases h4:Asg lk v
  ·rw [hv.old v h4]; exact h.new v h1 h4
  ·obtain ⟨e,c⟩:=hv.new v h4 h2
   exact ⟨e,(Con.step (.refl b) ha).trans c⟩
 ·by_cases h4:Asg lk v
  ·exact keep x (h.clo v x h1 h4 h3)
  ·exact hv.clo v x h4 h2 h3
 ·rcases hx with hx | hx
  ·exact keep x (h.nb x hx)
  ·rw [hx]; exact hv.got
def un (ls:List Int) (n:Nat):Nat:=((List.range n).filter fun v=>gat ls v == -1).length
theorem un_succ (ls:List Int) (n:Nat):un ls (n+1)=un ls n+if gat ls n = -1 then 1 else 0:=by
 unfold un
 rw [List.range_succ,List.filter_append,List.length_append]
 by_cases h:gat ls n = -1 <;> simp [h]
theorem un_le {ls ls' : List Int} (h : ∀ v,Asg ls v→Asg ls' v) : ∀ n,un ls' n≤un ls n
 | 0=>by simp [un]
 | n+1=>by
  have:=un_le h n
  rw [un_succ,un_succ]
  by_cases g:gat ls n = -1
  ·rw [if_pos g]; split <;> omega
  ·rw [if_neg g,if_neg (h n g)]; omega
theorem un_lt {ls ls' : List Int} (h : ∀ v,Asg ls v→Asg ls' v) {b:Nat} (h1 : ¬ Asg ls b) (h2:Asg ls' b) : ∀ n,b<n→un ls' n<un ls n
 | 0,hb=>by omega
 | n+1,hb=>by
  rw [un_succ,un_succ]
  rcases Nat.lt_succ_iff_lt_or_eq.1 hb with g | g
  ·have:=un_lt h h1 h2 n g
   by_cases e:gat ls n = -1
   ·rw [if_pos e]; split <;> omega
   ·rw [if_neg e,if_neg (h n e)]; omega
  ·subst g
   have:=un_le h b
   have e:gat ls b = -1:=by unfold Asg at h1; omega
   have e2 : ¬ gat ls' b = -1:=h2
   rw [if_pos e,if_neg e2]
   omega
theorem gat_set {ls:List Int} {b v:Nat} {x:Int} (hb:b<ls.length):gat (ls.set b x) v=if b=v then x else gat ls v:=by
 unfold gat
 rw [List.getD_eq_getElem?_getD,List.getD_eq_getElem?_getD,List.getElem?_set]
 by_cases e:b=v
 ·subst e; simp [hb]
 ·simp [e]
theorem gat_get {ls:List Int} {v:Nat} (h:v<ls.length):ls[v]? = some (gat ls v):=by
 unfold gat
 rw [List.getD_eq_getElem?_getD]
 simp [h]
theorem nl_get0 {l:List Int} {k:Nat} {x:Int} (h:l[k]? = some x):(nl l)[0+k]? = some [iv x]:=by rw [Nat.zero_add]; simp [nl,h]
theorem nl_set0 {l:List Int} {k:Nat} {x y:Int}:(nl l).set (0+k) (iv y::List.append [] (List.drop 1 [iv x]))=nl (l.set k y):=by
 rw [Nat.zero_add]
 refine List.ext_getElem? (fun i=>?_)
 simp only [nl,List.getElem?_map,List.getElem?_set,List.length_map]
 split
 ·split <;> rfl
 ·rfl
theorem jel {L:List Jt} {i:Nat} {x:Jt} {k:Int→Int→Int→Int→Bool→Prop} (h:L[i]? = some x) (hk:k x.1 x.2.1 x.2.2.1 x.2.2.2.1 x.2.2.2.2):onSome (jtl L)[i]? fun row=>onCons (List.drop 0 row) fun u r=>onIntK IntKind.i64 u fun n=>onCons r fun u r=>onIntK IntKind.i64 u fun n_1=>onCons r fun u r=>onIntK IntKind.i64 u fun n_2=>onCons r fun u r=>onIntK IntKind.u8 u fun n_3=>onCons r fun u r=>onBool u fun b=>k n n_1 n_2 n_3 b:=onSome_mk (x:=jtr x) (by simp [jtl,h]) hk
def JsR (js:List Jt) (n:Nat):Prop := ∀ j∈js,(0≤j.1∧j.1.toNat<n)∧0≤j.2.1∧j.2.1.toNat<n
def nbT (js:List Jt) (b k:Nat) (w:Nat):Prop := ∃ j∈js.take k,(j.1=(b:Int)∧j.2.1=(w:Int))∨(j.1=(w:Int)∧j.2.1=(b:Int))
theorem LInv.mono {js:List Jt} {b f:Nat} {ls lk:List Int} {T T' : Nat→Prop} (h:LInv js b f ls T lk) (hT : ∀ w,T' w→T w):LInv js b f ls T' lk:=⟨h.len,h.old,h.new,h.clo,fun w hw=>h.nb w (hT w hw)⟩
set_option maxHeartbeats 1000000 in
theorem visit120 {js:List Jt} {n f:Nat} (hj:JsR js n) (hlen:js.length≤1000000000) : ∀ (d b:Nat) (ls:List Int) {args:List V} {Q:V→Us→Prop},un ls n=d→ls.length=n→b<n→(∀ ls', Vis js ls b f ls' → Q (.tup []) [nl ls'])→KM Tryz.prog glX 120 [iv (b:Int),iv (f:Int),.ptr (.p 0) 0 0,.ptr (.p 2) 0 0,.ptr (.p 3) 0 0] (memG js n (nl ls)) (poJ9 120 args) Q:=by
 intro d
 induction d using Nat.strongRecOn with
 | ind d ih =>
  intro b lq args Q hd hn hb hQ
  obtain ⟨ls,hls⟩ : ∃ ls,ls=nl lq:=⟨_,rfl⟩
  rw [← hls]
  refine KM_of_WYKe hmX hcJ9 3000 Tryz.func120 (fun R hR=>?_)
  refine see (p:=need (b<n) (onSome ls[0+b]? fun row=>onSome row[0]? fun v=>onIntK IntKind.i64 v fun n_1=>ifB (n_1 != (-1:Int)) (R (V.tup []) (Hp.mk [(0,O.rows 1 false [[V.sl (Id.p 1) 0 n]]),(1,O.rows 1 true ls),(2,O.rows 1 false [[V.lst 5 (jtl js)]]),(3,O.rows 1 false [[V.fn (Fn.func (120:FuncId)) [] [V.ptr (Id.p 0) 0 0,V.ptr (Id.p 2) 0 0,V.ptr (Id.p 3) 0 0]]])] 4 [])) (need (b<n) (onSome ls[0+b]? fun row=>guardB ((0+1).ble row.length) (La 4 [(0:Tmp),(1:Tmp),(2:Tmp),(3:Tmp),(4:Tmp),(18:Tmp),(19:Tmp),(20:Tmp)] (WY Tryz.prog cfJ9 2995 (Env.mk (Bs.mk 0 []) 4 none 43 120 0) (cdAt [1,1,1,0,0] (bodyOf Tryz.f120))) (Qblk 0 (QendX Tryz.prog Tryz.f120 R)) (St.mk (mkT [(0,iv (↑b:Int)),(1,iv (↑f:Int)),(2,V.ptr (Id.p 0) 0 0),(3,V.ptr (Id.p 2) 0 0),(4,V.ptr (Id.p 3) 0 0),(18,V.lst 5 (jtl js)),(19,iv (↑(jtl js).length:Int)),(20,iv (0:Int))]) (Hp.mk [(1,O.rows 1 true (ls.set (0+b) (iv (↑f:Int)::(List.append []) (List.drop 1 row)))),(0,O.rows 1 false [[V.sl (Id.p 1) 0 n]]),(2,O.rows 1 false [[V.lst 5 (jtl js)]]),(3,O.rows 1 false [[V.fn (Fn.func (120:FuncId)) [] [V.ptr (Id.p 0) 0 0,V.ptr (Id.p 2) 0 0,V.ptr (Id.p 3) 0 0]]])] 4 []))))))) (by kernel_rfl) ?_
  have hg:lq[b]? = some (gat lq b):=gat_get (by omega)
  rw [hls] at hR ⊢
  refine need_mk ⟨hb,onSome_mk (nl_get0 hg) (onSome_mk (x:=iv (gat lq b)) rfl (onIntK_iv (ifB_mk (fun c=>?_) (fun c=>?_))))⟩
  ·have ha:Asg lq b:=by unfold Asg; simpa using c
   have hV:Vis js lq b f lq:=⟨rfl,fun v _=>rfl,ha,fun v h1 h2=>(h1 h2).elim,fun v w h1 h2=>(h1 h2).elim,fun _=>rfl⟩
   refine hR _ _ _ (hQ lq hV) ⟨rfl,rfl,fun n=>?_⟩
   rcases n with _ | _ | _ | _ | n <;> rfl
  have hu : ¬ Asg lq b:=fun h=>by unfold Asg at h; simp at c; exact h c
  refine need_mk ⟨hb,onSome_mk (nl_get0 hg) (guardB_mk rfl ?_)⟩
  rw [nl_set0]
  obtain ⟨l1,hl1⟩ : ∃ l1,l1=lq.set b (f:Int):=⟨_,rfl⟩
  rw [← hl1]
  obtain ⟨s,hs⟩ : ∃ s,s=(jtl js).length:=⟨_,rfl⟩
  rw [← hs]
  rw [jtl_length] at hs
  have g1 : ∀ v,gat l1 v=if b=v then (f:Int) else gat lq v:=fun v=>by rw [hl1,gat_set (by omega)]
  have a1:Asg l1 b:=by unfold Asg; rw [g1,if_pos rfl]; omega
  have hun:un l1 n<un lq n:=un_lt (fun v hv=>by unfold Asg; rw [g1]; split; omega; exact hv) hu a1 n hb
  have hlen1:l1.length=n:=by rw [hl1,List.length_set]; exact hn
  refine La.of (σ:=Nat×List Int) (fun t=>sh120 js n (nl t.2) b f s t.1) (fun t=>t.1≤s∧LInv js b f l1 (nbT js b t.1) t.2) (fun t=>s - t.1) (0,l1) (by kernel_rfl) ⟨by simp only; omega,⟨rfl,fun v _=>rfl,fun v h1 h2=>(h1 h2).elim,fun v w h1 h2=>(h1 h2).elim,fun w hw=>by obtain ⟨j,hj,_⟩:=hw; simp at hj⟩⟩ ?_
  rintro ⟨k,lk⟩ ⟨k1,hI⟩ J hJ
  simp only at k1 hI
  obtain ⟨ls,hls⟩ : ∃ ls,ls=nl lk:=⟨_,rfl⟩
  rw [← hls]
  refine see (p:=ifB (decide ((↑k:Int)<(↑s:Int))) (onSome (jtl js)[k]? fun row=>onCons (List.drop 0 row) fun u r=>onIntK IntKind.i64 u fun n_1=>onCons r fun u r=>onIntK IntKind.i64 u fun n_2=>onCons r fun u r=>onIntK IntKind.i64 u fun n_3=>onCons r fun u r=>onIntK IntKind.u8 u fun n_4=>onCons r fun u r=>onBool u fun b_1=>ifB (n_1==(↑b:Int)) (KM Tryz.prog glX 120 [iv n_2,iv (↑f:Int),V.ptr (Id.p 0) 0 0,V.ptr (Id.p 2) 0 0,V.ptr (Id.p 3) 0 0] (Hp.mk [(0,O.rows 1 false [[V.sl (Id.p 1) 0 n]]),(1,O.rows 1 true ls),(2,O.rows 1 false [[V.lst 5 (jtl js)]]),(3,O.rows 1 false [[V.fn (Fn.func (120:FuncId)) [] [V.ptr (Id.p 0) 0 0,V.ptr (Id.p 2) 0 0,V.ptr (Id.p 3) 0 0]]])] 4 []) (poJ9 120 [iv n_2,iv (↑f:Int),V.ptr (Id.p 0) 0 0,V.ptr (Id.p 2) 0 0,V.ptr (Id.p 3) 0 0]) fun v us=>onTup v fun vs=>onNil vs (ifB (n_2==(↑b:Int)) (KM Tryz.prog glX 120 [iv n_1,iv (↑f:Int),V.ptr (Id.p 0) 0 0,V.ptr (Id.p 2) 0 0,V.ptr (Id.p 3) 0 0] (Hp.mk [(0,O.rows 1 false [[V.sl (Id.p 1) 0 n]]),(1,O.rows 1 true (List.getD us 0 [])),(2,O.rows 1 false [[V.lst 5 (jtl js)]]),(3,O.rows 1 false [[V.fn (Fn.func (120:FuncId)) [] [V.ptr (Id.p 0) 0 0,V.ptr (Id.p 2) 0 0,V.ptr (Id.p 3) 0 0]]])] 4 []) (poJ9 120 [iv n_1,iv (↑f:Int),V.ptr (Id.p 0) 0 0,V.ptr (Id.p 2) 0 0,V.ptr (Id.p 3) 0 0]) fun v us=>onTup v fun vs=>onNil vs (J (St.mk (mkT [(0,iv (↑b:Int)),(1,iv (↑f:Int)),(2,V.ptr (Id.p 0) 0 0),(3,V.ptr (Id.p 2) 0 0),(4,V.ptr (Id.p 3) 0 0),(18,V.lst 5 (jtl js)),(19,iv (↑s:Int)),(20,iv (IntKind.i64.wrap ((↑k:Int)+(1:Int))))]) (Hp.mk [(1,O.rows 1 true (List.getD us 0 [])),(0,O.rows 1 false [[V.sl (Id.p 1) 0 n]]),(2,O.rows 1 false [[V.lst 5 (jtl js)]]),(3,O.rows 1 false [[V.fn (Fn.func (120:FuncId)) [] [V.ptr (Id.p 0) 0 0,V.ptr (Id.p 2) 0 0,V.ptr (Id.p 3) 0 0]]])] 4 [])))) (J (St.mk (mkT [(0,iv (↑b:Int)),(1,iv (↑f:Int)),(2,V.ptr (Id.p 0) 0 0),(3,V.ptr (Id.p 2) 0 0),(4,V.ptr (Id.p 3) 0 0),(18,V.lst 5 (jtl js)),(19,iv (↑s:Int)),(20,iv (IntKind.i64.wrap ((↑k:Int)+(1:Int))))]) (Hp.mk [(1,O.rows 1 true (List.getD us 0 [])),(0,O.rows 1 false [[V.sl (Id.p 1) 0 n]]),(2,O.rows 1 false [[V.lst 5 (jtl js)]]),(3,O.rows 1 false [[V.fn (Fn.func (120:FuncId)) [] [V.ptr (Id.p 0) 0 0,V.ptr (Id.p 2) 0 0,V.ptr (Id.p 3) 0 0]]])] 4 []))))) (ifB (n_2==(↑b:Int)) (KM Tryz.prog glX 120 [iv n_1,iv (↑f:Int),V.ptr (Id.p 0) 0 0,V.ptr (Id.p 2) 0 0,V.ptr (Id.p 3) 0 0] (Hp.mk [(0,O.rows 1 false [[V.sl (Id.p 1) 0 n]]),(1,O.rows 1 true ls),(2,O.rows 1 false [[V.lst 5 (jtl js)]]),(3,O.rows 1 false [[V.fn (Fn.func (120:FuncId)) [] [V.ptr (Id.p 0) 0 0,V.ptr (Id.p 2) 0 0,V.ptr (Id.p 3) 0 0]]])] 4 []) (poJ9 120 [iv n_1,iv (↑f:Int),V.ptr (Id.p 0) 0 0,V.ptr (Id.p 2) 0 0,V.ptr (Id.p 3) 0 0]) fun v us=>onTup v fun vs=>onNil vs (J (St.mk (mkT [(0,iv (↑b:Int)),(1,iv (↑f:Int)),(2,V.ptr (Id.p 0) 0 0),(3,V.ptr (Id.p 2) 0 0),(4,V.ptr (Id.p 3) 0 0),(18,V.lst 5 (jtl js)),(19,iv (↑s:Int)),(20,iv (IntKind.i64.wrap ((↑k:Int)+(1:Int))))]) (Hp.mk [(1,O.rows 1 true (List.getD us 0 [])),(0,O.rows 1 false [[V.sl (Id.p 1) 0 n]]),(2,O.rows 1 false [[V.lst 5 (jtl js)]]),(3,O.rows 1 false [[V.fn (Fn.func (120:FuncId)) [] [V.ptr (Id.p 0) 0 0,V.ptr (Id.p 2) 0 0,V.ptr (Id.p 3) 0 0]]])] 4 [])))) (J (St.mk (mkT [(0,iv (↑b:Int)),(1,iv (↑f:Int)),(2,V.ptr (Id.p 0) 0 0),(3,V.ptr (Id.p 2) 0 0),(4,V.ptr (Id.p 3) 0 0),(18,V.lst 5 (jtl js)),(19,iv (↑s:Int)),(20,iv (IntKind.i64.wrap ((↑k:Int)+(1:Int))))]) (Hp.mk [(1,O.rows 1 true ls),(0,O.rows 1 false [[V.sl (Id.p 1) 0 n]]),(2,O.rows 1 false [[V.lst 5 (jtl js)]]),(3,O.rows 1 false [[V.fn (Fn.func (120:FuncId)) [] [V.ptr (Id.p 0) 0 0,V.ptr (Id.p 2) 0 0,V.ptr (Id.p 3) 0 0]]])] 4 []))))) (R (V.tup []) (Hp.mk [(1,O.rows 1 true ls),(0,O.rows 1 false [[V.sl (Id.p 1) 0 n]]),(2,O.rows 1 false [[V.lst 5 (jtl js)]]),(3,O.rows 1 false [[V.fn (Fn.func (120:FuncId)) [] [V.ptr (Id.p 0) 0 0,V.ptr (Id.p 2) 0 0,V.ptr (Id.p 3) 0 0]]])] 4 []))) (by kernel_rfl) ?_
  rw [hls]
  have call : ∀ (T:Nat→Prop) (lk:List Int) (w:Nat),LInv js b f l1 T lk→Adj js b w→w<n → ∀ {args:List V} {Q:V→Us→Prop},(∀ lk', LInv js b f l1 (fun x=>T x∨x=w) lk' → Q (.tup []) [nl lk'])→KM Tryz.prog glX 120 [iv (w:Int),iv (f:Int),.ptr (.p 0) 0 0,.ptr (.p 2) 0 0,.ptr (.p 3) 0 0] (memG js n (nl lk)) (poJ9 120 args) Q:=by
   intro T lk w hI ha hw args Q hQ
   have h1:un lk n≤un l1 n:=un_le (fun v hv=>by unfold Asg; rw [hI.old v hv]; exact hv) n
   exact ih (un lk n) (by omega) w lk rfl (hI.len.trans hlen1) hw (fun ls' hV=>hQ ls' (hI.call ha hV))
  refine ifB_mk (fun d=>?_) (fun d=>?_)
  ·have hk:k<s:=by have:=of_decide_eq_true d; omega
   obtain ⟨j,hjk⟩:=getI (l:=js) (k:=k) (by omega)
   have hjm:=mem_at hjk
   obtain ⟨⟨r1,r2⟩,r3,r4⟩:=hj j hjm
   obtain ⟨u,hu'⟩ : ∃ u:Nat,j.1=(u:Int):=⟨j.1.toNat,by omega⟩
   obtain ⟨w,hw⟩ : ∃ w:Nat,j.2.1=(w:Int):=⟨j.2.1.toNat,by omega⟩
   have ht : ∀ x,nbT js b (k+1) x→nbT js b k x∨(u=b∧x=w)∨(w=b∧x=u):=by
    rintro x ⟨i,hi,h⟩
    rw [take_succ' hjk] at hi
    rcases List.mem_append.1 hi with hi | hi
    ·exact .inl ⟨i,hi,h⟩
    ·rw [List.mem_singleton.1 hi,hu', hw] at h
     omega
   refine jel hjk ?_
   rw [hu', hw,wr1i hk (by omega)]
   refine ifB_mk (fun c=>?_) (fun c=>?_)
   ·have eu:u=b:=by have:=beq_iff_eq.1 c; omega
    refine call _ lk w hI ⟨j,hjm,.inl ⟨by rw [hu', eu],hw⟩⟩ (by omega) (fun lk' hI' => onTup_tup (onNil_nil (ifB_mk (fun c2=>?_) (fun c2=>?_))))
    ·have ew:w=b:=by have:=beq_iff_eq.1 c2; omega
     refine call _ lk' u hI' ⟨j,hjm,.inr ⟨hu', by rw [hw,ew]⟩⟩ (by omega) (fun lk2 hI2=>onTup_tup (onNil_nil ?_))
     exact hJ (k+1,lk2) ⟨hk,hI2.mono (fun x hx=>by rcases ht x hx with h | ⟨_,h⟩ | ⟨_,h⟩; exact .inl (.inl h); exact .inl (.inr h); exact .inr h)⟩ (by simp only; omega)
    ·have ew : ¬ w=b:=fun e=>by rw [e] at c2; simp at c2
     exact hJ (k+1,lk') ⟨hk,hI'.mono (fun x hx=>by rcases ht x hx with h | ⟨_,h⟩ | ⟨h,_⟩; exact .inl h; exact .inr h; exact (ew h).elim)⟩ (by simp only; omega)
   ·have eu : ¬ u=b:=fun e=>by rw [e] at c; simp at c
    refine ifB_mk (fun c2=>?_) (fun c2=>?_)
    ·have ew:w=b:=by have:=beq_iff_eq.1 c2; omega
     refine call _ lk u hI ⟨j,hjm,.inr ⟨hu', by rw [hw,ew]⟩⟩ (by omega) (fun lk2 hI2=>onTup_tup (onNil_nil ?_))
     exact hJ (k+1,lk2) ⟨hk,hI2.mono (fun x hx=>by rcases ht x hx with h | ⟨h,_⟩ | ⟨_,h⟩; exact .inl h; exact (eu h).elim; exact .inr h)⟩ (by simp only; omega)
    ·have ew : ¬ w=b:=fun e=>by rw [e] at c2; simp at c2
     exact hJ (k+1,lk) ⟨hk,hI.mono (fun x hx=>by rcases ht x hx with h | ⟨h,_⟩ | ⟨h,_⟩; exact h; exact (eu h).elim; exact (ew h).elim)⟩ (by simp only; omega)
  ·have hk:s≤k:=by have:=of_decide_eq_false d; omega
   have hV:Vis js lq b f lk:=by
    refine ⟨by rw [hI.len,hlen1,hn],fun v hv=>?_,?_,fun v h1 h2=>?_,fun v x h1 h2 h3=>?_,fun h=>(hu h).elim⟩
    ·have hvb : ¬ b=v:=fun e=>hu (e ▸ hv)
     have h1:Asg l1 v:=by unfold Asg; rw [g1,if_neg hvb]; exact hv
     rw [hI.old v h1,g1,if_neg hvb]
    ·unfold Asg; rw [hI.old b a1]; exact a1
    ·by_cases e:b=v
     ·subst e
      rw [hI.old b a1,g1,if_pos rfl]
      exact ⟨rfl,.refl b⟩
     ·exact hI.new v (fun h=>h1 (by unfold Asg at h ⊢; rw [g1,if_neg e] at h; exact h)) h2
    ·by_cases e:b=v
     ·subst e
      obtain ⟨j,hjm,h⟩:=h3
      exact hI.nb x ⟨j,by rw [List.take_of_length_le (by omega)]; exact hjm,h⟩
     ·exact hI.clo v x (fun h=>h1 (by unfold Asg at h ⊢; rw [g1,if_neg e] at h; exact h)) h2 h3
   refine hR _ _ _ (hQ lk hV) ⟨rfl,rfl,fun n=>?_⟩
   rcases n with _ | _ | _ | _ | n <;> rfl
structure GrpP (js:List Jt) (n:Nat) (g:List Int):Prop where
 len:g.length=n
 lea : ∀ v,v<n → ∃ u:Nat,gat g v=(u:Int)∧u≤v∧Con js u v ∧ ∀ w,Con js w v→u≤w
structure GInv (js:List Jt) (n i:Nat) (g:List Int):Prop where
 len:g.length=n
 done : ∀ v,v<i→Asg g v
 lea : ∀ v,Asg g v → ∃ u:Nat,gat g v=(u:Int)∧Con js u v ∧ ∀ w,Con js w v→u≤w
 clo : ∀ v w,Asg g v→Adj js v w→Asg g w
theorem GInv.con {js:List Jt} {n i:Nat} {g:List Int} (h:GInv js n i g) {v w:Nat} (hc:Con js v w):Asg g v→Asg g w:=by
 induction hc with
 | refl=>exact id
 | step _ e ih=>exact fun h' => h.clo _ _ (ih h') e
theorem GInv.step {js:List Jt} {n i:Nat} {g g' : List Int} (h:GInv js n i g) (hV:Vis js g i i g'):GInv js n (i+1) g' := by
 have keep : ∀ v,Asg g v→Asg g' v:=fun v hv=>by unfold Asg; rw [hV.old v hv]; exact hv
 refine ⟨hV.len.trans h.len,fun v hv=>?_,fun v hv=>?_,fun v w hv ha=>?_⟩
 ·rcases Nat.lt_succ_iff_lt_or_eq.1 hv with h1 | h1
  ·exact keep v (h.done v h1)
  ·rw [h1]; exact hV.got
 ·by_cases h1:Asg g v
  ·rw [hV.old v h1]; exact h.lea v h1
  ·obtain ⟨e,c⟩:=hV.new v h1 hv
   refine ⟨i,e,c,fun w hw=>?_⟩
   rcases Nat.lt_or_ge w i with h2 | h2
   ·exact (h1 (h.con hw (h.done w h2))).elim
   ·exact h2
 ·by_cases h1:Asg g v
  ·exact keep w (h.clo v w h1 ha)
  ·exact hV.clo v w h1 hv ha
set_option maxHeartbeats 1000000 in
theorem groups70 {js:List Jt} {n:Nat} {R:V→Prop} (hn:n≤1000000) (hj:JsR js n) (hlen:js.length≤1000000000) (h : ∀ g,GrpP js n g→R (.lst 1 (nl g))):K0G Tryz.prog glX 70 [iv (n:Int),.lst 5 (jtl js)] R:=by
 refine K0_by hmX hcJ9 3000 Tryz.func70 (p:=need (n≤n) (need (8 * n≤140737488355328) (need (n≤9223372036854775807) (La 0 [(0:Tmp),(3:Tmp),(5:Tmp),(12:Tmp),(13:Tmp)] (WY Tryz.prog cfJ9 2994 (Env.mk (Bs.mk 0 []) 0 none 31 70 0) (cdAt [1,1,0,1,0,0] (bodyOf Tryz.f70))) (Qblk 0 (Qthen (WY Tryz.prog cfJ9 2997 (Env.mk (Bs.mk 0 []) 0 none 31 70 0) (cdAt [1,1,1] (bodyOf Tryz.f70)) (QendX Tryz.prog Tryz.f70 fun v h=>R (frzW h v))) (QendX Tryz.prog Tryz.f70 fun v h=>R (frzW h v)))) (St.mk (mkT [(0,iv (↑n:Int)),(3,V.ptr (Id.p 0) 0 0),(5,V.ptr (Id.p 1) 0 0),(12,iv (↑n:Int)),(13,iv (0:Int))]) (Hp.mk [(0,O.rows 1 false [[V.lst 5 (jtl js)]]),(1,O.rows 1 false [[V.sl (Id.p 2) 0 n]]),(2,O.rows 1 true (List.replicate n [iv (0:Int)]))] 3 [])))))) (by kernel_rfl) ?_
 refine need_mk ⟨Nat.le_refl _,need_mk ⟨by omega,need_mk ⟨by omega,?_⟩⟩⟩
 refine La.of (σ:=Nat) (fun i=>sh70a js n (List.replicate i [iv (-1)]++List.replicate (n - i) [iv 0]) i) (fun i=>i≤n) (fun i=>n - i) 0 (by kernel_rfl) (by omega) ?_
 rintro i g1 J hJ
 obtain ⟨ls,hls⟩ : ∃ ls,ls=List.replicate i [iv (-1)]++List.replicate (n - i) [iv 0]:=⟨_,rfl⟩
 rw [← hls]
 refine see (p:=ifB (decide ((↑i:Int)<(↑n:Int))) (need (i<n) (onSome ls[0+i]? fun row=>guardB ((0+1).ble row.length) (J (St.mk (mkT [(0,iv (↑n:Int)),(3,V.ptr (Id.p 0) 0 0),(5,V.ptr (Id.p 1) 0 0),(12,iv (↑n:Int)),(13,iv (IntKind.i64.wrap ((↑i:Int)+(1:Int))))]) (Hp.mk [(0,O.rows 1 false [[V.lst 5 (jtl js)]]),(1,O.rows 1 false [[V.sl (Id.p 2) 0 n]]),(2,O.rows 1 true (ls.set (0+i) (iv (-1:Int)::(List.append []) (List.drop 1 row))))] 3 []))))) (La 0 [(5:Tmp),(7:Tmp),(21:Tmp),(22:Tmp)] (WY Tryz.prog cfJ9 2991 (Env.mk (Bs.mk 0 []) 0 none 31 70 2) (cdAt [1,1,1,1,1,0,1,0,0] (bodyOf Tryz.f70))) (Qblk 2 (Qthen (WY Tryz.prog cfJ9 2994 (Env.mk (Bs.mk 0 []) 0 none 31 70 0) (cdAt [1,1,1,1,1,1] (bodyOf Tryz.f70)) (QendX Tryz.prog Tryz.f70 fun v h=>R (frzW h v))) (QendX Tryz.prog Tryz.f70 fun v h=>R (frzW h v)))) (St.mk (mkT [(5,V.ptr (Id.p 0) 0 0),(7,V.ptr (Id.p 2) 0 0),(21,iv (↑n:Int)),(22,iv (0:Int))]) (Hp.mk [(0,O.rows 1 false [[V.sl (Id.p 1) 0 n]]),(1,O.rows 1 true ls),(2,O.rows 1 false [[V.fn (Fn.func 120) [] [V.ptr (Id.p 0) 0 0,V.ptr (Id.p 3) 0 0,V.ptr (Id.p 2) 0 0]]]),(3,O.rows 1 false [[V.lst 5 (jtl js)]])] 4 [])))) (by kernel_rfl) ?_
 refine ifB_mk (fun d=>?_) (fun d=>?_)
 ·have hi:i<n:=by have:=of_decide_eq_true d; omega
  refine need_mk ⟨hi,onSome_mk (x:=[iv 0]) ?_ (guardB_mk rfl ?_)⟩
  ·rw [hls,Nat.zero_add,List.getElem?_append_right (by simp),List.length_replicate,Nat.sub_self,List.getElem?_replicate,if_pos (by omega)]
  ·rw [wr1i hi (by omega)]
   have e:ls.set (0+i) (iv (-1:Int)::(List.append []) (List.drop 1 [iv 0]))=List.replicate (i+1) [iv (-1)]++List.replicate (n - (i+1)) [iv 0]:=by
    rw [hls,Nat.zero_add,set_rep (by simp) hi,List.replicate_succ' (n:=i)]
    rfl
   refine (congrArg J ?_).mp (hJ (i+1) hi (by omega))
   rw [← e]
   rfl
 ·have hi:i=n:=by have:=of_decide_eq_false d; omega
  have e:ls=nl (List.replicate n (-1)):=by
   rw [hls,hi,Nat.sub_self]
   simp [nl]
  rw [e]
  have g0 : ∀ v,gat (List.replicate n (-1)) v = -1:=fun v=>by
   unfold gat
   rw [List.getD_eq_getElem?_getD,List.getElem?_replicate]
   split <;> rfl
  refine La.of (σ:=Nat×List Int) (fun t=>sh70b js n (nl t.2) t.1) (fun t=>t.1≤n∧GInv js n t.1 t.2) (fun t=>n - t.1) (0,List.replicate n (-1)) (by kernel_rfl) ⟨by simp only; omega,⟨by simp,fun v hv=>by omega,fun v hv=>(hv (g0 v)).elim,fun v w hv=>(hv (g0 v)).elim⟩⟩ ?_
  rintro ⟨i,g⟩ ⟨g1,hG⟩ J hJ
  simp only at g1 hG
  obtain ⟨ls,hls⟩ : ∃ ls,ls=nl g:=⟨_,rfl⟩
  rw [← hls]
  refine see (p:=ifB (decide ((↑i:Int)<(↑n:Int))) (KM Tryz.prog glX 120 [iv (↑i:Int),iv (↑i:Int),V.ptr (Id.p 0) 0 0,V.ptr (Id.p 2) 0 0,V.ptr (Id.p 3) 0 0] (Hp.mk [(0,O.rows 1 false [[V.sl (Id.p 1) 0 n]]),(1,O.rows 1 true ls),(2,O.rows 1 false [[V.lst 5 (jtl js)]]),(3,O.rows 1 false [[V.fn (Fn.func (120:FuncId)) [] [V.ptr (Id.p 0) 0 0,V.ptr (Id.p 2) 0 0,V.ptr (Id.p 3) 0 0]]])] 4 []) (poJ9 120 [iv (↑i:Int),iv (↑i:Int),V.ptr (Id.p 0) 0 0,V.ptr (Id.p 3) 0 0,V.ptr (Id.p 2) 0 0]) fun v us=>onTup v fun vs=>onNil vs (J (St.mk (mkT [(5,V.ptr (Id.p 0) 0 0),(7,V.ptr (Id.p 2) 0 0),(21,iv (↑n:Int)),(22,iv (IntKind.i64.wrap ((↑i:Int)+(1:Int))))]) (Hp.mk [(0,O.rows 1 false [[V.sl (Id.p 1) 0 n]]),(1,O.rows 1 true (List.getD us 0 [])),(2,O.rows 1 false [[V.fn (Fn.func (120:FuncId)) [] [V.ptr (Id.p 0) 0 0,V.ptr (Id.p 3) 0 0,V.ptr (Id.p 2) 0 0]]]),(3,O.rows 1 false [[V.lst 5 (jtl js)]])] 4 [])))) (R (V.lst 1 (sub ls 0 n)))) (by kernel_rfl) ?_
  rw [hls]
  refine ifB_mk (fun d=>?_) (fun d=>?_)
  ·have hi:i<n:=by have:=of_decide_eq_true d; omega
   refine visit120 hj hlen _ i g rfl hG.len hi (fun g' hV=>onTup_tup (onNil_nil ?_))
   rw [wr1i hi (by omega)]
   exact hJ (i+1,g') ⟨hi,hG.step hV⟩ (by simp only; omega)
  ·have hi:i=n:=by have:=of_decide_eq_false d; omega
   have e:sub (nl g) 0 n=nl g:=by rw [← hG.len,← nl_length,sub,List.drop_zero,List.take_length]
   rw [e]
   refine h g ⟨hG.len,fun v hv=>?_⟩
   obtain ⟨u,h1,h2,h3⟩:=hG.lea v (hG.done v (by omega))
   exact ⟨u,h1,h3 v (.refl v),h2,h3⟩
theorem jnt_ok {l:List Bdy}:JsR (jnt l) l.length:=by
 intro j hj
 unfold jnt jnS at hj
 obtain ⟨i,hi,hj⟩:=List.mem_flatMap.1 hj
 split at hj
 ·rw [List.mem_singleton.1 hj]
  have hi:=List.mem_range.1 hi
  have hm:at_ (lnk l) i∈owL (lnk l) i:=List.mem_filter.2 ⟨mem_at (at_get hi),by simp⟩
  have hh:(owL (lnk l) i).headD lk0∈owL (lnk l) i:=by
   cases ho:owL (lnk l) i with
   | nil=>rw [ho] at hm; simp at hm
   | cons x L=>simp
  obtain ⟨a,b,i', j', k,o,h1,h2,h3,h4,h5,h6⟩:=mem_lnk.1 (List.mem_filter.1 hh).1
  show (0≤((owL (lnk l) i).headD lk0).1∧((owL (lnk l) i).headD lk0).1.toNat<l.length)∧0≤((owL (lnk l) i).headD lk0).2.1∧((owL (lnk l) i).headD lk0).2.1.toNat<l.length
  rw [h6]
  simp only
  omega
 ·simp at hj
theorem ri_nil5 {F:Nat→Prop} {w:World} {x:Value} (hx:ri F w (.lst 0 []) x):ri F w (.lst 5 []) x:=by simpa [ri,riRows] using hx
theorem lnk_few {l:List Bdy} (hB:BodOK l) (h48 : ∀ b∈l,b.2.length≤60):(lnk l).length≤1000000000:=by
 have hk : ∀ a,(knobsAt l a).length≤60:=fun a=>by
  unfold knobsAt
  cases hb:l[a]? with
  | none=>simp
  | some x=>exact h48 x (mem_at hb)
 have:=fm_len (f:=fun a=>(List.range l.length).flatMap fun b=>if a<b then (knobsAt l a).zipIdx.flatMap fun o=>lko o.1 (a:Int) (b:Int) (o.2:Int) (knobsAt l b) else []) (c:=40 * 3600) (l:=List.range l.length) (fun a _=>by
  have:=fm_len (f:=fun b=>if a<b then (knobsAt l a).zipIdx.flatMap fun o=>lko o.1 (a:Int) (b:Int) (o.2:Int) (knobsAt l b) else []) (c:=3600) (l:=List.range l.length) (fun b _=>by
   split
   ·have:=fm_len (f:=fun o:Kn×Nat=>lko o.1 (a:Int) (b:Int) (o.2:Int) (knobsAt l b)) (c:=60) (l:=(knobsAt l a).zipIdx) (fun o _=>Nat.le_trans (lko_len ..) (hk b))
    rw [List.length_zipIdx] at this
    have:=hk a
    omega
   ·simp)
  rw [List.length_range] at this
  have:=Nat.mul_le_mul_right 3600 hB.n40
  omega)
 rw [List.length_range] at this
 have h2:=Nat.mul_le_mul_right (40 * 3600) hB.n40
 unfold lnk
 omega
theorem bods60 {l:List Kd} {m:List Bk} (hl : ∀ q∈l,KdR q) (hr : ∀ b∈m,BkR b) (hA:AskM l m) : ∀ b∈bods l m,b.2.length≤60:=by
 intro b hb
 obtain ⟨c,hc,rfl⟩:=List.mem_map.1 hb
 obtain ⟨hP,_,_,_⟩:=putK hA.kinds hl (hA.all c hc) (hr c hc)
 show (knb _ _ _).length≤60
 rw [knb_length]
 exact hP.put.2.2.2
theorem bods_length (l:List Kd) (m:List Bk):(bods l m).length=m.length:=by simp [bods]
theorem jnt_few {l:List Bdy} (h:(lnk l).length≤1000000000):(jnt l).length≤1000000000:=Nat.le_trans (jnS_len ..) h
theorem groups35 {l:List Kd} {m:List Bk} {R:V→Prop} (hl : ∀ q∈l,KdR q) (hll:(l.length:Int)≤1000000) (hml:m.length≤1000000) (hr : ∀ b∈m,BkR b) (h1 : ∀ e,errM l m e→e≠0→R (.tup [nilS,iv e])) (h2:OkM l m → ∀ g,GrpP (jnt (bods l m)) m.length g→R (.tup [.lst 1 (nl g),iv 0])):K0G Tryz.prog glX 35 [.lst 3 (kdl l),.agg [.lst 6 (bkl m)]] R:=by
 refine K0_by hmX hcJ9 3000 Tryz.func35 (p:=K0G Tryz.prog glX 64 [V.lst 3 (kdl l),V.agg [V.lst 6 (bkl m)]] fun v=>onTup v fun vs=>onCons vs fun u r=>onLst u fun s es=>onCons r fun u r=>onIntK IntKind.i64 u fun n=>onNil r (ifB (n != (0:Int)) (R (V.tup [nilS,iv n])) (K0G Tryz.prog glX 68 [V.lst s es] fun v=>onLst v fun s es_1=>K0G Tryz.prog glX 70 [iv (↑es.length:Int),V.lst s es_1] fun v=>onLst v fun s es=>R (V.tup [V.lst s es,iv (0:Int)])))) (by kernel_rfl) ?_
 refine valid64 hl hll hml hr (fun e he hne=>⟨onTup_tup (onCons_cons (onLst_nil (onCons_cons (onIntK_iv (onNil_nil (ifB_t (by simpa using hne) (h1 e he hne))))))),onTup_tup (onCons_cons (onLst_lst (onCons_cons (onIntK_iv (onNil_nil (ifB_t (by simpa using hne) (h1 e he hne)))))))⟩) (fun hA=>?_)
 refine onTup_tup (onCons_cons (onLst_lst (onCons_cons (onIntK_iv (onNil_nil (ifB_f rfl ?_))))))
 have hB:=bod_ok hl hr hA.ask
 have hf:=lnk_few hB (bods60 hl hr hA.ask)
 have hjs:JsR (jnt (bods l m)) m.length:=by have:=@jnt_ok (bods l m); rw [bods_length] at this; exact this
 have hm40:=hA.ask.few
 rw [bdl_length,bods_length]
 refine joints68 hB hf (fun e=>onLst_nil ?_) (onLst_lst (groups70 (by omega) hjs (jnt_few hf) (fun g hg=>onLst_lst (h2 hA g hg))))
 refine K0_args (args:=[iv (m.length:Int),.lst 5 (jtl [])]) (groups70 (js:=[]) (by omega) (fun j hj=>(by cases hj)) (by simp) (fun g hg=>onLst_lst (h2 hA g (e ▸ hg)))) (fun F w xs hx=>?_)
 simp only [riL] at hx ⊢
 obtain ⟨x,r,e1,h1,y,r', e2,h2,h3⟩:=hx
 exact ⟨x,r,e1,h1,y,r', e2,ri_nil5 h2,h3⟩
set_option maxRecDepth 100000
def clX (g:FuncId):Bool := !(inN [104,110,129,132,135,145,146,147,148,150,151,152,153,157,158,159,161,162,163,164,166,167,168,170,171,172,173,174,176,179,182,120,94] g)
abbrev KFX (f:Fact):Prop:=K0G Tryz.prog glX f.g f.args fun v=>v=f.r
def compL:List (List Nat):=[[0,1,2,3,4,5,6,7,8,9,10,11,12,13,14,15,16,17,18,19,20,21,22,23],[1,2,3,0,5,6,7,4,9,10,11,8,13,14,15,12,17,18,19,16,21,22,23,20],[2,3,0,1,6,7,4,5,10,11,8,9,14,15,12,13,18,19,16,17,22,23,20,21],[3,0,1,2,7,4,5,6,11,8,9,10,15,12,13,14,19,16,17,18,23,20,21,22],[4,16,14,20,8,17,2,23,12,18,6,22,0,19,10,21,11,15,3,7,9,5,1,13],[5,17,15,21,9,18,3,20,13,19,7,23,1,16,11,22,8,12,0,4,10,6,2,14],[6,18,12,22,10,19,0,21,14,16,4,20,2,17,8,23,9,13,1,5,11,7,3,15],[7,19,13,23,11,16,1,22,15,17,5,21,3,18,9,20,10,14,2,6,8,4,0,12],[8,11,10,9,12,15,14,13,0,3,2,1,4,7,6,5,22,21,20,23,18,17,16,19],[9,8,11,10,13,12,15,14,1,0,3,2,5,4,7,6,23,22,21,20,19,18,17,16],[10,9,8,11,14,13,12,15,2,1,0,3,6,5,4,7,20,23,22,21,16,19,18,17],[11,10,9,8,15,14,13,12,3,2,1,0,7,6,5,4,21,20,23,22,17,16,19,18],[12,22,6,18,0,21,10,19,4,20,14,16,8,23,2,17,1,5,9,13,3,15,11,7],[13,23,7,19,1,22,11,16,5,21,15,17,9,20,3,18,2,6,10,14,0,12,8,4],[14,20,4,16,2,23,8,17,6,22,12,18,10,21,0,19,3,7,11,15,1,13,9,5],[15,21,5,17,3,20,9,18,7,23,13,19,11,22,1,16,0,4,8,12,2,14,10,6],[16,14,20,4,17,2,23,8,18,6,22,12,19,10,21,0,15,3,7,11,5,1,13,9],[17,15,21,5,18,3,20,9,19,7,23,13,16,11,22,1,12,0,4,8,6,2,14,10],[18,12,22,6,19,0,21,10,16,4,20,14,17,8,23,2,13,1,5,9,7,3,15,11],[19,13,23,7,16,1,22,11,17,5,21,15,18,9,20,3,14,2,6,10,4,0,12,8],[20,4,16,14,23,8,17,2,22,12,18,6,21,0,19,10,7,11,15,3,13,9,5,1],[21,5,17,15,20,9,18,3,23,13,19,7,22,1,16,11,4,8,12,0,14,10,6,2],[22,6,18,12,21,10,19,0,20,14,16,4,23,2,17,8,5,9,13,1,15,11,7,3],[23,7,19,13,22,11,16,1,21,15,17,5,20,3,18,9,6,10,14,2,12,8,4,0]]
def comp (a b:Nat):Nat:=(compL.getD a []).getD b 0
def invL:List Nat:=[0,3,2,1,12,18,6,22,8,9,10,11,4,20,14,16,15,17,5,21,13,19,7,23]
def inv (a:Nat):Nat:=invL.getD a 0
theorem all24 {P:Nat→Prop} (h0:P 0) (h1:P 1) (h2:P 2) (h3:P 3) (h4:P 4) (h5:P 5) (h6:P 6) (h7:P 7) (h8:P 8) (h9:P 9) (h10:P 10) (h11:P 11) (h12:P 12) (h13:P 13) (h14:P 14) (h15:P 15) (h16:P 16) (h17:P 17) (h18:P 18) (h19:P 19) (h20:P 20) (h21:P 21) (h22:P 22) (h23:P 23) : ∀ n,n<24→P n:=by
 intro n hn
 match n,hn with
 | 0,_=>exact h0
 | 1,_=>exact h1
 | 2,_=>exact h2
 | 3,_=>exact h3
 | 4,_=>exact h4
 | 5,_=>exact h5
 | 6,_=>exact h6
 | 7,_=>exact h7
 | 8,_=>exact h8
 | 9,_=>exact h9
 | 10,_=>exact h10
 | 11,_=>exact h11
 | 12,_=>exact h12
 | 13,_=>exact h13
 | 14,_=>exact h14
 | 15,_=>exact h15
 | 16,_=>exact h16
 | 17,_=>exact h17
 | 18,_=>exact h18
 | 19,_=>exact h19
 | 20,_=>exact h20
 | 21,_=>exact h21
 | 22,_=>exact h22
 | 23,_=>exact h23
 | n+24,h=>exact absurd h (by omega)
def prb:Cl:=(1,2,3)
def f82 (n:Nat):Fact:=⟨82,[iv (n:Int)],ch n⟩
def f85 (n:Nat) (c:Cl):Fact:=⟨85,[ch n,.agg (clr c)],.agg (clr (tn n c))⟩
def f126:Fact:=⟨126,[],.agg (clr prb)⟩
def f125 (n:Nat):Fact:=⟨125,[.agg (clr prb),.agg (clr (tn n prb))],iv (n:Int)⟩
theorem k82 {n:Nat} (h:n<24):KFX (f82 n):=chain82 (R:=fun v=>v=ch n) n h rfl
theorem k85 {n:Nat} {c:Cl} (hb:Bd 3000 c) (h:n<24):KFX (f85 n c):=cell85 (R:=fun v=>v = .agg (clr (tn n c))) hb n h rfl
theorem k126:KFX f126:=K0_ranQ (cfg:=cfgAll Tryz.prog glX clX (knownI [] [])) hmX (cfgAll_ok (knownI_ok (show Facts Tryz.prog glX [] from trivial))) (fun _ _=>rfl) 3000 Tryz.func126 (by kernel_rfl)
theorem prb_bd:Bd 3000 prb:=by unfold Bd Nr prb; decide
def tbT:List Fact:=[f82 0,f85 0 prb,f82 1,f85 1 prb,f82 2,f85 2 prb,f82 3,f85 3 prb,f82 4,f85 4 prb,f82 5,f85 5 prb,f82 6,f85 6 prb,f82 7,f85 7 prb,f82 8,f85 8 prb,f82 9,f85 9 prb,f82 10,f85 10 prb,f82 11,f85 11 prb,f82 12,f85 12 prb,f82 13,f85 13 prb,f82 14,f85 14 prb,f82 15,f85 15 prb,f82 16,f85 16 prb,f82 17,f85 17 prb,f82 18,f85 18 prb,f82 19,f85 19 prb,f82 20,f85 20 prb,f82 21,f85 21 prb,f82 22,f85 22 prb,f82 23,f85 23 prb]
theorem tbT_ok:Facts Tryz.prog glX tbT:=⟨k82 (n:=0) (by decide),⟨k85 (n:=0) prb_bd (by decide),⟨k82 (n:=1) (by decide),⟨k85 (n:=1) prb_bd (by decide),⟨k82 (n:=2) (by decide),⟨k85 (n:=2) prb_bd (by decide),⟨k82 (n:=3) (by decide),⟨k85 (n:=3) prb_bd (by decide),⟨k82 (n:=4) (by decide),⟨k85 (n:=4) prb_bd (by decide),⟨k82 (n:=5) (by decide),⟨k85 (n:=5) prb_bd (by decide),⟨k82 (n:=6) (by decide),⟨k85 (n:=6) prb_bd (by decide),⟨k82 (n:=7) (by decide),⟨k85 (n:=7) prb_bd (by decide),⟨k82 (n:=8) (by decide),⟨k85 (n:=8) prb_bd (by decide),⟨k82 (n:=9) (by decide),⟨k85 (n:=9) prb_bd (by decide),⟨k82 (n:=10) (by decide),⟨k85 (n:=10) prb_bd (by decide),⟨k82 (n:=11) (by decide),⟨k85 (n:=11) prb_bd (by decide),⟨k82 (n:=12) (by decide),⟨k85 (n:=12) prb_bd (by decide),⟨k82 (n:=13) (by decide),⟨k85 (n:=13) prb_bd (by decide),⟨k82 (n:=14) (by decide),⟨k85 (n:=14) prb_bd (by decide),⟨k82 (n:=15) (by decide),⟨k85 (n:=15) prb_bd (by decide),⟨k82 (n:=16) (by decide),⟨k85 (n:=16) prb_bd (by decide),⟨k82 (n:=17) (by decide),⟨k85 (n:=17) prb_bd (by decide),⟨k82 (n:=18) (by decide),⟨k85 (n:=18) prb_bd (by decide),⟨k82 (n:=19) (by decide),⟨k85 (n:=19) prb_bd (by decide),⟨k82 (n:=20) (by decide),⟨k85 (n:=20) prb_bd (by decide),⟨k82 (n:=21) (by decide),⟨k85 (n:=21) prb_bd (by decide),⟨k82 (n:=22) (by decide),⟨k85 (n:=22) prb_bd (by decide),⟨k82 (n:=23) (by decide),⟨k85 (n:=23) prb_bd (by decide),trivial⟩⟩⟩⟩⟩⟩⟩⟩⟩⟩⟩⟩⟩⟩⟩⟩⟩⟩⟩⟩⟩⟩⟩⟩⟩⟩⟩⟩⟩⟩⟩⟩⟩⟩⟩⟩⟩⟩⟩⟩⟩⟩⟩⟩⟩⟩⟩⟩
theorem k125 : ∀ n,n<24→KFX (f125 n):=all24 (P:=fun n=>KFX (f125 n)) (K0_ranQ (cfg:=cfgAll Tryz.prog glX clX (knownI [82,85] tbT)) hmX (cfgAll_ok (knownI_ok tbT_ok)) (fun _ _=>rfl) 3000 Tryz.func125 (by kernel_rfl)) (K0_ranQ (cfg:=cfgAll Tryz.prog glX clX (knownI [82,85] tbT)) hmX (cfgAll_ok (knownI_ok tbT_ok)) (fun _ _=>rfl) 3000 Tryz.func125 (by kernel_rfl)) (K0_ranQ (cfg:=cfgAll Tryz.prog glX clX (knownI [82,85] tbT)) hmX (cfgAll_ok (knownI_ok tbT_ok)) (fun _ _=>rfl) 3000 Tryz.func125 (by kernel_rfl)) (K0_ranQ (cfg:=cfgAll Tryz.prog glX clX (knownI [82,85] tbT)) hmX (cfgAll_ok (knownI_ok tbT_ok)) (fun _ _=>rfl) 3000 Tryz.func125 (by kernel_rfl)) (K0_ranQ (cfg:=cfgAll Tryz.prog glX clX (knownI [82,85] tbT)) hmX (cfgAll_ok (knownI_ok tbT_ok)) (fun _ _=>rfl) 3000 Tryz.func125 (by kernel_rfl)) (K0_ranQ (cfg:=cfgAll Tryz.prog glX clX (knownI [82,85] tbT)) hmX (cfgAll_ok (knownI_ok tbT_ok)) (fun _ _=>rfl) 3000 Tryz.func125 (by kernel_rfl)) (K0_ranQ (cfg:=cfgAll Tryz.prog glX clX (knownI [82,85] tbT)) hmX (cfgAll_ok (knownI_ok tbT_ok)) (fun _ _=>rfl) 3000 Tryz.func125 (by kernel_rfl)) (K0_ranQ (cfg:=cfgAll Tryz.prog glX clX (knownI [82,85] tbT)) hmX (cfgAll_ok (knownI_ok tbT_ok)) (fun _ _=>rfl) 3000 Tryz.func125 (by kernel_rfl)) (K0_ranQ (cfg:=cfgAll Tryz.prog glX clX (knownI [82,85] tbT)) hmX (cfgAll_ok (knownI_ok tbT_ok)) (fun _ _=>rfl) 3000 Tryz.func125 (by kernel_rfl)) (K0_ranQ (cfg:=cfgAll Tryz.prog glX clX (knownI [82,85] tbT)) hmX (cfgAll_ok (knownI_ok tbT_ok)) (fun _ _=>rfl) 3000 Tryz.func125 (by kernel_rfl)) (K0_ranQ (cfg:=cfgAll Tryz.prog glX clX (knownI [82,85] tbT)) hmX (cfgAll_ok (knownI_ok tbT_ok)) (fun _ _=>rfl) 3000 Tryz.func125 (by kernel_rfl)) (K0_ranQ (cfg:=cfgAll Tryz.prog glX clX (knownI [82,85] tbT)) hmX (cfgAll_ok (knownI_ok tbT_ok)) (fun _ _=>rfl) 3000 Tryz.func125 (by kernel_rfl)) (K0_ranQ (cfg:=cfgAll Tryz.prog glX clX (knownI [82,85] tbT)) hmX (cfgAll_ok (knownI_ok tbT_ok)) (fun _ _=>rfl) 3000 Tryz.func125 (by kernel_rfl)) (K0_ranQ (cfg:=cfgAll Tryz.prog glX clX (knownI [82,85] tbT)) hmX (cfgAll_ok (knownI_ok tbT_ok)) (fun _ _=>rfl) 3000 Tryz.func125 (by kernel_rfl)) (K0_ranQ (cfg:=cfgAll Tryz.prog glX clX (knownI [82,85] tbT)) hmX (cfgAll_ok (knownI_ok tbT_ok)) (fun _ _=>rfl) 3000 Tryz.func125 (by kernel_rfl)) (K0_ranQ (cfg:=cfgAll Tryz.prog glX clX (knownI [82,85] tbT)) hmX (cfgAll_ok (knownI_ok tbT_ok)) (fun _ _=>rfl) 3000 Tryz.func125 (by kernel_rfl)) (K0_ranQ (cfg:=cfgAll Tryz.prog glX clX (knownI [82,85] tbT)) hmX (cfgAll_ok (knownI_ok tbT_ok)) (fun _ _=>rfl) 3000 Tryz.func125 (by kernel_rfl)) (K0_ranQ (cfg:=cfgAll Tryz.prog glX clX (knownI [82,85] tbT)) hmX (cfgAll_ok (knownI_ok tbT_ok)) (fun _ _=>rfl) 3000 Tryz.func125 (by kernel_rfl)) (K0_ranQ (cfg:=cfgAll Tryz.prog glX clX (knownI [82,85] tbT)) hmX (cfgAll_ok (knownI_ok tbT_ok)) (fun _ _=>rfl) 3000 Tryz.func125 (by kernel_rfl)) (K0_ranQ (cfg:=cfgAll Tryz.prog glX clX (knownI [82,85] tbT)) hmX (cfgAll_ok (knownI_ok tbT_ok)) (fun _ _=>rfl) 3000 Tryz.func125 (by kernel_rfl)) (K0_ranQ (cfg:=cfgAll Tryz.prog glX clX (knownI [82,85] tbT)) hmX (cfgAll_ok (knownI_ok tbT_ok)) (fun _ _=>rfl) 3000 Tryz.func125 (by kernel_rfl)) (K0_ranQ (cfg:=cfgAll Tryz.prog glX clX (knownI [82,85] tbT)) hmX (cfgAll_ok (knownI_ok tbT_ok)) (fun _ _=>rfl) 3000 Tryz.func125 (by kernel_rfl)) (K0_ranQ (cfg:=cfgAll Tryz.prog glX clX (knownI [82,85] tbT)) hmX (cfgAll_ok (knownI_ok tbT_ok)) (fun _ _=>rfl) 3000 Tryz.func125 (by kernel_rfl)) (K0_ranQ (cfg:=cfgAll Tryz.prog glX clX (knownI [82,85] tbT)) hmX (cfgAll_ok (knownI_ok tbT_ok)) (fun _ _=>rfl) 3000 Tryz.func125 (by kernel_rfl))
def tbP (a b:Nat):List Fact:=[f126,f82 a,f82 b,f85 a prb,f85 b (tn a prb),⟨125,[.agg (clr prb),.agg (clr (tn b (tn a prb)))],iv (comp a b:Int)⟩]
theorem comp_prb : ∀ a,a<24 → ∀ b,b<24→comp a b<24∧tn (comp a b) prb=tn b (tn a prb):=by decide +kernel
theorem tbP_ok {a b:Nat} (ha:a<24) (hb:b<24):Facts Tryz.prog glX (tbP a b):=by
 obtain ⟨h1,h2⟩:=comp_prb a ha b hb
 refine ⟨k126,k82 ha,k82 hb,k85 prb_bd ha,k85 (tn_bd prb_bd) hb,?_,trivial⟩
 rw [← h2]
 exact k125 _ h1
set_option maxRecDepth 10000
def smC (k:Int) (c:Cl):Cl:=(k * c.1,k * c.2.1,k * c.2.2)
def LinC (f:Cl→Cl):Prop:=(∀ a b,f (addC a b)=addC (f a) (f b)) ∧ ∀ k a,f (smC k a)=smC k (f a)
theorem lin_qz:LinC qz:=⟨fun a b=>by simp only [qz,addC]; rw [Int.neg_add],fun k a=>by simp only [qz,smC]; rw [Int.mul_neg]⟩
theorem lin_qx:LinC qx:=⟨fun a b=>by simp only [qx,addC]; rw [Int.neg_add],fun k a=>by simp only [qx,smC]; rw [Int.mul_neg]⟩
theorem LinC.comp {f g:Cl→Cl} (hf:LinC f) (hg:LinC g):LinC (fun c=>g (f c)):=⟨fun a b=>by simp only [hf.1,hg.1],fun k a=>by simp only [hf.2,hg.2]⟩
theorem lin_id:LinC (fun c=>c):=⟨fun _ _=>rfl,fun _ _=>rfl⟩
theorem lin_itr {f:Cl→Cl} (hf:LinC f) : ∀ n,LinC (itr f n)
 | 0=>lin_id
 | n+1=>hf.comp (lin_itr hf n)
theorem lin_tn (n:Nat):LinC (tn n):=by
 by_cases h:n / 4<4
 ·have:tn n=fun c=>itr qx (n / 4) (itr qz (n % 4) c):=by funext c; unfold tn; rw [if_pos h]
  rw [this]
  exact (lin_itr lin_qz _).comp (lin_itr lin_qx _)
 ·have:tn n=fun c=>itr qz (if n / 4=4 then 1 else 3) (qx (itr qz (n % 4) c)):=by funext c; unfold tn; rw [if_neg h]
  rw [this]
  exact ((lin_itr lin_qz _).comp lin_qx).comp (lin_itr lin_qz _)
theorem lin_ext {f g:Cl→Cl} (hf:LinC f) (hg:LinC g) (h1:f (1,0,0)=g (1,0,0)) (h2:f (0,1,0)=g (0,1,0)) (h3:f (0,0,1)=g (0,0,1)) (c:Cl):f c=g c:=by
 have e:c=addC (smC c.1 (1,0,0)) (addC (smC c.2.1 (0,1,0)) (smC c.2.2 (0,0,1))):=by
  simp [addC,smC]
 rw [e,hf.1,hf.1,hf.2,hf.2,hf.2,hg.1,hg.1,hg.2,hg.2,hg.2,h1,h2,h3]
theorem comp_e : ∀ a,a<24 → ∀ b,b<24→tn (comp a b) (1,0,0)=tn b (tn a (1,0,0))∧tn (comp a b) (0,1,0)=tn b (tn a (0,1,0))∧tn (comp a b) (0,0,1)=tn b (tn a (0,0,1)):=by decide +kernel
theorem tn_comp {a b:Nat} (ha:a<24) (hb:b<24) (c:Cl):tn (comp a b) c=tn b (tn a c):=by
 obtain ⟨h1,h2,h3⟩:=comp_e a ha b hb
 exact lin_ext (lin_tn _) ((lin_tn a).comp (lin_tn b)) h1 h2 h3 c
theorem pt_compN : ∀ a,a<24 → ∀ b,b<24 → ∀ d:Nat,d<6→pt (comp a b) (d:Int)=pt b (pt a (d:Int)):=by decide +kernel
theorem pt_comp {a b:Nat} (ha:a<24) (hb:b<24) {d:Int} (h0:0≤d) (h5:d≤5):pt (comp a b) d=pt b (pt a d):=by
 obtain ⟨n,rfl⟩:=Int.eq_ofNat_of_zero_le h0
 exact pt_compN a ha b hb n (by omega)
theorem comp_lt {a b:Nat} (ha:a<24) (hb:b<24):comp a b<24:=(comp_prb a ha b hb).1
set_option maxRecDepth 100000
abbrev CmpA (a:Nat):Prop := ∀ b,b<24→K0G Tryz.prog glX 86 [iv ((a:Nat):Int),iv ((b:Nat):Int)] fun v=>v=iv (comp a b:Int)
theorem cR {a b:Nat} (ha:a<24) (hb:b<24) (h:ranQ Tryz.prog (cfgAll Tryz.prog glX clX (knownI [82,85,125,126] (tbP a b))) 3000 86 Tryz.f86 [iv ((a:Nat):Int),iv ((b:Nat):Int)] (iv (comp a b:Int))=(iv (comp a b:Int)=iv (comp a b:Int))):K0G Tryz.prog glX 86 [iv ((a:Nat):Int),iv ((b:Nat):Int)] fun v=>v=iv (comp a b:Int) :=
 K0_ranQ (cfg:=cfgAll Tryz.prog glX clX (knownI [82,85,125,126] (tbP a b))) hmX (cfgAll_ok (knownI_ok (tbP_ok ha hb))) (fun _ _=>rfl) 3000 Tryz.func86 h
end Go.Proofs.YtbionhgjgcpogaaGreatDoor
