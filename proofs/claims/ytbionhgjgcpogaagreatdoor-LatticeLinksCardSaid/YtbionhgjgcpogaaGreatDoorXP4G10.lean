/- A part of the proof. -/
import Derived.Test.YtbionhgjgcpogaaGreatDoorProg
import Derived.Test.YtbionhgjgcpogaaGreatDoorXP4G9
namespace Go.Proofs.YtbionhgjgcpogaaGreatDoor
open Go Go.Proofs.YtbionhgjgcpogaaGreatDoor.Clean
set_option linter.unusedVariables false
set_option linter.unusedSimpArgs false
set_option maxRecDepth 10000
theorem hcR:cfR.ok Tryz.prog:=cfgM_ok
theorem nb {p:Prop} (h:(!dc p)=false):p:=by cases hq:dc p with
 | true=>exact dc_true hq
 | false=>rw [hq] at h; cases h
theorem nbt {p:Prop} (h:(!dc p)=true) : ¬ p:=fun hp=>by rw [dc_t hp] at h; cases h
theorem before92 {a b:Cl} {R:V→Prop} (h:R (bv (dc (Bef a b)))):K0G Tryz.prog glX 92 [.agg (clr a),.agg (clr b)] R:=by
 refine K0_of_WY0 hmX hcR 3000 Tryz.func92 (see (p:=ifB (decide (a.2.2<b.2.2)) (R (bv true)) (ifB (a.2.2==b.2.2) (ifB (decide (a.2.1<b.2.1)) (R (bv true)) (ifB (a.2.1==b.2.1) (R (bv (decide (a.1<b.1)))) (R (bv false)))) (R (bv false)))) (by kernel_rfl) ?_)
 unfold Bef at h
 refine ifB_mk (fun c1=>rt h (.inl (of_decide_eq_true c1))) (fun c1=>ifB_mk (fun c2=>ifB_mk (fun c3=>rt h (.inr ⟨by simpa using c2,.inl (of_decide_eq_true c3)⟩)) (fun c3=>ifB_mk (fun c4=>rb h ?_) (fun c4=>rf h (fun q=>?_)))) (fun c2=>rf h (fun q=>?_)))
 ·have c1:=of_decide_eq_false c1
  have c3:=of_decide_eq_false c3
  have c2:a.2.2=b.2.2:=by simpa using c2
  have c4:a.2.1=b.2.1:=by simpa using c4
  exact ⟨fun q => .inr ⟨c2,.inr ⟨c4,of_decide_eq_true q⟩⟩,fun q=>decide_eq_true (by omega)⟩
 ·have c1:=of_decide_eq_false c1
  have c3:=of_decide_eq_false c3
  have c4:a.2.1≠b.2.1:=by simpa using c4
  omega
 ·have c1:=of_decide_eq_false c1
  have c2:a.2.2≠b.2.2:=by simpa using c2
  omega
theorem has42 {l:List Cl} {c:Cl} {R:V→Prop} (hl:(l.length:Int)≤1000000) (h:R (bv (dc (c∈l)))):K0G Tryz.prog glX 42 [.lst 3 (cll l),.agg (clr c)] R:=by
 refine K0_of_WY0 hmX hcR 3000 Tryz.func42 (see (p:=La 0 [(0:Tmp),(3:Tmp),(5:Tmp)] (WY Tryz.prog cfR 2995 (Env.mk (Bs.mk 0 []) 0 none 18 42 0) (cdAt [1,0,1,0,0] (bodyOf Tryz.f42))) (Qblk 0 (Qthen (WY Tryz.prog cfR 2998 (Env.mk (Bs.mk 0 []) 0 none 18 42 0) (cdAt [1,1] (bodyOf Tryz.f42)) (QendX Tryz.prog Tryz.f42 fun v h=>R (frzW h v))) (QendX Tryz.prog Tryz.f42 fun v h=>R (frzW h v)))) (St.mk (mkT [(0,V.lst 3 (cll l)),(3,V.ptr (Id.p 0) 0 0),(5,iv (0:Int))]) (Hp.mk [(0,O.rows 3 false [[iv c.1,iv c.2.1,iv c.2.2]])] 1 []))) (by kernel_rfl) ?_)
 refine La.of (σ:=Nat) (fun k=>sh42 l c k) (fun k=>k≤l.length ∧ ∀ x∈l.take k,x≠c) (fun k=>l.length - k) 0 (by kernel_rfl) ⟨by omega,by simp⟩ ?_
 rintro k ⟨g1,g2⟩ J hJ
 refine see (p:=ifB (decide ((↑k:Int)<(↑(cll l).length:Int))) (onSome (cll l)[k]? fun row=>onCons (List.drop 0 row) fun u r=>onIntK IntKind.i64 u fun n=>onCons r fun u r=>onIntK IntKind.i64 u fun n_1=>onCons r fun u r=>onIntK IntKind.i64 u fun n_2=>ifB (n==c.1&&(fun b=>n_1==c.2.1&&b) ((fun b=>n_2==c.2.2&&b) true)) (R (bv true)) (J (St.mk (mkT [(0,V.lst 3 (cll l)),(3,V.ptr (Id.p 0) 0 0),(5,iv (IntKind.i64.wrap ((↑k:Int)+(1:Int))))]) (Hp.mk [(0,O.rows 3 false [[iv c.1,iv c.2.1,iv c.2.2]])] 1 [])))) (R (bv false))) (by kernel_rfl) ?_
 rw [cll_length]
 refine ifB_mk (fun hb=>?_) (fun hb=>?_)
 ·have hlt:k<l.length:=by have:=of_decide_eq_true hb; omega
  obtain ⟨x,hx⟩:=getI hlt
  refine cel hx (ifB_mk (fun d=>?_) (fun d=>?_))
  ·simp only [Bool.and_eq_true,beq_iff_eq,Bool.and_true] at d
   have:x=c:=cl_ext d.1 d.2.1 d.2.2
   exact rt h (this ▸ mem_at hx)
  ·rw [wr1i hlt (by omega)]
   refine hJ (k+1) ⟨hlt,all_take hx g2 (fun e=>?_)⟩ (by omega)
   subst e
   simp at d
 ·have hk:l.length≤k:=by have:=of_decide_eq_false hb; omega
  exact rf h (fun hn=>(all_all hk g2 c hn rfl).elim)
theorem eq45_0 (R:V→Prop):R (V.agg [iv 1,iv 0,iv 0])=WY0 Tryz.prog cfR 3000 45 Tryz.f45 [iv 0] R:=by kernel_rfl
theorem step45_0 {R:V→Prop} (h:R (V.agg [iv 1,iv 0,iv 0])):K0G Tryz.prog glX 45 [iv 0] R:=K0_by hmX hcR 3000 Tryz.func45 (eq45_0 R) h
theorem eq45_1 (R:V→Prop):R (V.agg [iv (-1),iv 0,iv 0])=WY0 Tryz.prog cfR 3000 45 Tryz.f45 [iv 1] R:=by kernel_rfl
theorem step45_1 {R:V→Prop} (h:R (V.agg [iv (-1),iv 0,iv 0])):K0G Tryz.prog glX 45 [iv 1] R:=K0_by hmX hcR 3000 Tryz.func45 (eq45_1 R) h
theorem eq45_2 (R:V→Prop):R (V.agg [iv 0,iv 1,iv 0])=WY0 Tryz.prog cfR 3000 45 Tryz.f45 [iv 2] R:=by kernel_rfl
theorem step45_2 {R:V→Prop} (h:R (V.agg [iv 0,iv 1,iv 0])):K0G Tryz.prog glX 45 [iv 2] R:=K0_by hmX hcR 3000 Tryz.func45 (eq45_2 R) h
theorem eq45_3 (R:V→Prop):R (V.agg [iv 0,iv (-1),iv 0])=WY0 Tryz.prog cfR 3000 45 Tryz.f45 [iv 3] R:=by kernel_rfl
theorem step45_3 {R:V→Prop} (h:R (V.agg [iv 0,iv (-1),iv 0])):K0G Tryz.prog glX 45 [iv 3] R:=K0_by hmX hcR 3000 Tryz.func45 (eq45_3 R) h
theorem eq45_4 (R:V→Prop):R (V.agg [iv 0,iv 0,iv 1])=WY0 Tryz.prog cfR 3000 45 Tryz.f45 [iv 4] R:=by kernel_rfl
theorem step45_4 {R:V→Prop} (h:R (V.agg [iv 0,iv 0,iv 1])):K0G Tryz.prog glX 45 [iv 4] R:=K0_by hmX hcR 3000 Tryz.func45 (eq45_4 R) h
theorem eq45_5 (R:V→Prop):R (V.agg [iv 0,iv 0,iv (-1)])=WY0 Tryz.prog cfR 3000 45 Tryz.f45 [iv 5] R:=by kernel_rfl
theorem step45_5 {R:V→Prop} (h:R (V.agg [iv 0,iv 0,iv (-1)])):K0G Tryz.prog glX 45 [iv 5] R:=K0_by hmX hcR 3000 Tryz.func45 (eq45_5 R) h
theorem step45 {d:Int} {R:V→Prop} (h0:0≤d) (h5:d≤5) (h:R (.agg (clr (stp d)))):K0G Tryz.prog glX 45 [iv d] R:=by
 obtain ⟨m,rfl⟩ : ∃ m:Nat,d=(m:Int):=⟨d.toNat,by omega⟩
 have hm:m<6:=by omega
 match m,hm with
 | 0,_=>exact step45_0 h
 | 1,_=>exact step45_1 h
 | 2,_=>exact step45_2 h
 | 3,_=>exact step45_3 h
 | 4,_=>exact step45_4 h
 | 5,_=>exact step45_5 h
def Bd (b:Int) (c:Cl):Prop:=Nr (-b) b c
theorem plus99 {a b:Cl} {R:V→Prop} (ha:Bd 1000000 a) (hb:Bd 1000000 b) (h:R (.agg (clr (addC a b)))):K0G Tryz.prog glX 99 [.agg (clr a),.agg (clr b)] R:=by
 refine K0_of_WY0 hmX hcR 3000 Tryz.func99 (see (p:=R (V.agg [iv (IntKind.i64.wrap (a.1+b.1)),iv (IntKind.i64.wrap (a.2.1+b.2.1)),iv (IntKind.i64.wrap (a.2.2+b.2.2))])) (by kernel_rfl) ?_)
 unfold Bd Nr at ha hb
 rw [wr (n:=a.1+_) (by omega) (by omega),wr (n:=a.2.1+_) (by omega) (by omega),wr (n:=a.2.2+_) (by omega) (by omega)]
 exact h
theorem Nr.mono {a b c d:Int} {x:Cl} (h:Nr a b x) (h1:c≤a) (h2:b≤d):Nr c d x:=by
 obtain ⟨⟨c1,c2⟩,⟨c3,c4⟩,c5,c6⟩:=h
 exact ⟨⟨by omega,by omega⟩,⟨by omega,by omega⟩,by omega,by omega⟩
theorem onC {c:Cl} {k:Int→Int→Int→Prop} (h:k c.1 c.2.1 c.2.2):onAgg (V.agg (clr c)) fun cs=>onCons cs fun u r=>onIntK IntKind.i64 u fun n=>onCons r fun u r=>onIntK IntKind.i64 u fun n_1=>onCons r fun u r=>onIntK IntKind.i64 u fun n_2=>onNil r (k n n_1 n_2):=h
theorem knobbed93 {q:Kd} {R:V→Prop} (hr : ∀ k∈q.2.1,KnR k) (hc : ∀ c∈q.1,Nr 0 15 c) (hcl:(q.1.length:Int)≤1000000) (h:R (bv (dc (KnobsP q.1 q.2.1)))):K0G Tryz.prog glX 93 [.agg (kdr q)] R:=by
 refine K0_of_WY0 hmX hcR 3000 Tryz.func93 (see (p:=ifB (decide ((↑(knl q.2.1).length:Int) > (48:Int))) (R (bv false)) (La 0 [(1:Tmp),(3:Tmp)] (WY Tryz.prog cfR 2994 (Env.mk (Bs.mk 0 []) 0 none 83 93 0) (cdAt [1,1,0,1,0,0] (bodyOf Tryz.f93))) (Qblk 0 (Qthen (WY Tryz.prog cfR 2997 (Env.mk (Bs.mk 0 []) 0 none 83 93 0) (cdAt [1,1,1] (bodyOf Tryz.f93)) (QendX Tryz.prog Tryz.f93 fun v h=>R (frzW h v))) (QendX Tryz.prog Tryz.f93 fun v h=>R (frzW h v)))) (St.mk (mkT [(1,V.ptr (Id.p 0) 0 0),(3,iv (0:Int))]) (Hp.mk [(0,O.rows 3 false [[V.lst 3 (cll q.1),V.lst 5 (knl q.2.1),iv q.2.2]])] 1 [])))) (by kernel_rfl) ?_)
 rw [knl_length]
 refine ifB_mk (fun c=>rf h (fun q=>by have:=q.1; have:=of_decide_eq_true c; omega)) (fun c=>?_)
 have h48:q.2.1.length≤48:=by have:=of_decide_eq_false c; omega
 refine La.of (σ:=Nat) (fun k=>sh93 q k) (fun k=>k≤q.2.1.length∧(∀ x∈q.2.1.take k,KnobP q.1 x)∧(q.2.1.take k).Pairwise BefK) (fun k=>q.2.1.length - k) 0 (by kernel_rfl) ⟨by omega,by simp,by simp⟩ ?_
 rintro k ⟨g1,g2,g3⟩ J hJ
 refine see (p:=ifB (decide ((↑k:Int)<(↑(knl q.2.1).length:Int))) (onSome (knl q.2.1)[k]? fun row=>onCons (List.drop 0 row) fun u r=>onIntK IntKind.i64 u fun n=>onCons r fun u r=>onIntK IntKind.i64 u fun n_1=>onCons r fun u r=>onIntK IntKind.i64 u fun n_2=>onCons r fun u r=>onIntK IntKind.u8 u fun n_3=>onCons r fun u r=>onIntK IntKind.u8 u fun n_4=>K0G Tryz.prog glX 42 [V.lst 3 (cll q.1),V.agg [iv n,iv n_1,iv n_2]] fun v=>onBool v fun b=>ifB (!b) (R (bv false)) (ifB (decide (n_3 > (5:Int))) (R (bv false)) (K0G Tryz.prog glX 45 [iv (IntKind.i64.wrap n_3)] fun v=>onAgg v fun cs=>onCons cs fun u r=>onIntK IntKind.i64 u fun n_5=>onCons r fun u r=>onIntK IntKind.i64 u fun n_6=>onCons r fun u r=>onIntK IntKind.i64 u fun n_7=>onNil r (K0G Tryz.prog glX 99 [V.agg [iv n,iv n_1,iv n_2],V.agg [iv n_5,iv n_6,iv n_7]] fun v=>onAgg v fun cs=>onCons cs fun u r=>onIntK IntKind.i64 u fun n_8=>onCons r fun u r=>onIntK IntKind.i64 u fun n_9=>onCons r fun u r=>onIntK IntKind.i64 u fun n_10=>onNil r (K0G Tryz.prog glX 42 [V.lst 3 (cll q.1),V.agg [iv n_8,iv n_9,iv n_10]] fun v=>onBool v fun b=>ifB b (R (bv false)) (ifB (decide (n_4<(1:Int))) (R (bv false)) (ifB (decide (n_4 > (6:Int))) (R (bv false)) (ifB (decide ((↑k:Int) > (0:Int))) (onNat (IntKind.i64.wrap ((↑k:Int) - (1:Int))) fun m=>onSome (knl q.2.1)[m]? fun row=>onCons (List.drop 0 row) fun u r=>onIntK IntKind.i64 u fun n_11=>onCons r fun u r=>onIntK IntKind.i64 u fun n_12=>onCons r fun u r=>onIntK IntKind.i64 u fun n_13=>onCons r fun u r=>onIntK IntKind.u8 u fun n_14=>onCons r fun u r=>onIntK IntKind.u8 u fun n_15=>K0G Tryz.prog glX 92 [V.agg [iv n_11,iv n_12,iv n_13],V.agg [iv n,iv n_1,iv n_2]] fun v=>onBool v fun b=>ifB (!b) (ifB (!(fun b=>n_11==n&&b) ((fun b=>n_12==n_1&&b) ((fun b=>n_13==n_2&&b) true))) (R (bv false)) (ifB (decide (n_14 ≥ n_3)) (R (bv false)) (J (St.mk (mkT [(1,V.ptr (Id.p 0) 0 0),(3,iv (IntKind.i64.wrap ((↑k:Int)+(1:Int))))]) (Hp.mk [(0,O.rows 3 false [[V.lst 3 (cll q.1),V.lst 5 (knl q.2.1),iv q.2.2]])] 1 []))))) (J (St.mk (mkT [(1,V.ptr (Id.p 0) 0 0),(3,iv (IntKind.i64.wrap ((↑k:Int)+(1:Int))))]) (Hp.mk [(0,O.rows 3 false [[V.lst 3 (cll q.1),V.lst 5 (knl q.2.1),iv q.2.2]])] 1 [])))) (J (St.mk (mkT [(1,V.ptr (Id.p 0) 0 0),(3,iv (IntKind.i64.wrap ((↑k:Int)+(1:Int))))]) (Hp.mk [(0,O.rows 3 false [[V.lst 3 (cll q.1),V.lst 5 (knl q.2.1),iv q.2.2]])] 1 []))))))))))) (R (bv true))) (by kernel_rfl) ?_
 rw [knl_length]
 refine ifB_mk (fun hb=>?_) (fun hb=>?_)
 ·have hlt:k<q.2.1.length:=by have:=of_decide_eq_true hb; omega
  obtain ⟨x,hx⟩:=getI hlt
  obtain ⟨⟨r1,r2⟩,r3,r4⟩:=hr x (mem_at hx)
  have no : ¬ KnobP q.1 x→R (bv false):=fun hn=>rf h (fun w=>hn (w.2.1 x (mem_at hx)))
  refine kel hx (has42 (c:=x.1) hcl (onBool_bv (ifB_mk (fun d=>no (fun w=>nbt d w.2.2.1)) (fun d=>?_))))
  have hm:=nb d
  refine ifB_mk (fun d=>no (fun w=>by have:=w.1; have:=of_decide_eq_true d; omega)) (fun d=>?_)
  have d5:x.2.1≤5:=by have:=of_decide_eq_false d; omega
  rw [wr (n:=x.2.1) (by omega) (by omega)]
  refine step45 r1 d5 (onC (plus99 (a:=x.1) (b:=stp x.2.1) ((hc _ hm).mono (by omega) (by omega)) ((stp_bd _).mono (by omega) (by omega)) (onC ?_)))
  refine has42 (c:=addC x.1 (stp x.2.1)) hcl (onBool_bv (ifB_mk (fun d=>no (fun w=>w.2.2.2 (dc_true d))) (fun d=>?_)))
  have hnm:=dc_false d
  refine ifB_mk (fun d=>no (fun w=>by have:=w.2.1.1; have:=of_decide_eq_true d; omega)) (fun e1=>?_)
  refine ifB_mk (fun d=>no (fun w=>by have:=w.2.1.2; have:=of_decide_eq_true d; omega)) (fun e2=>?_)
  have hn:KnobP q.1 x:=⟨d5,⟨by have:=of_decide_eq_false e1; omega,by have:=of_decide_eq_false e2; omega⟩,hm,hnm⟩
  have nxt:(k=0 ∨ ∃ y,q.2.1[k - 1]? = some y∧BefK y x)→J (sh93 q (k+1)):=fun hp=>hJ (k+1) ⟨hlt,all_take hx g2 hn,pw_take BefK.tr hx g3 hp⟩ (by omega)
  refine ifB_mk (fun e=>?_) (fun e=>?_)
  ·have hk:0<k:=by have:=of_decide_eq_true e; omega
   obtain ⟨y,hy⟩:=getI (l:=q.2.1) (k:=k - 1) (by omega)
   have bad : ¬ BefK y x→R (bv false):=fun hn=>rf h (fun w=>hn (pw_at w.2.2 hx hy hk))
   refine onNat_mk (m:=k - 1) (by rw [wr (by omega) (by omega)]; omega) (kel hy (before92 (a:=y.1) (b:=x.1) (onBool_bv (ifB_mk (fun f=>?_) (fun f=>?_)))))
   ·have f:=nbt f
    refine ifB_mk (fun g=>bad (fun w=>?_)) (fun g=>?_)
    ·rcases w with w | ⟨w,_⟩
     ·exact f w
     ·simp [w] at g
    ·have g:y.1=x.1:=by
      simp only [Bool.not_eq_false', Bool.and_eq_true,beq_iff_eq,Bool.and_true] at g
      exact cl_ext g.1 g.2.1 g.2.2
     refine ifB_mk (fun u=>bad (fun w=>?_)) (fun u=>?_)
     ·rcases w with w | ⟨_,w⟩
      ·exact f w
      ·have:=of_decide_eq_true u; omega
     ·rw [wr1i hlt (by omega)]
      exact nxt (.inr ⟨y,hy,.inr ⟨g,by have:=of_decide_eq_false u; omega⟩⟩)
   ·rw [wr1i hlt (by omega)]
    exact nxt (.inr ⟨y,hy,.inl (nb f)⟩)
  ·rw [wr1i hlt (by omega)]
   exact nxt (.inl (by have:=of_decide_eq_false e; omega))
 ·have hk:q.2.1.length≤k:=by have:=of_decide_eq_false hb; omega
  rw [List.take_of_length_le hk] at g3
  exact rt h ⟨h48,all_all hk g2,g3⟩
theorem valid53 {q:Kd} {R:V→Prop} (hq:KdR q) (h:R (bv (dc (KindP q)))):K0G Tryz.prog glX 53 [.agg (kdr q)] R:=by
 refine K0_of_WY0 hmX hcR 3000 Tryz.func53 (see (p:=ifB (decide ((↑(cll q.1).length:Int)<(1:Int))) (R (bv false)) (ifB (decide ((↑(cll q.1).length:Int) > (24:Int))) (R (bv false)) (K0G Tryz.prog glX 87 [iv q.2.2,iv (1:Int),iv (100:Int)] fun v=>onBool v fun b=>ifB (!b) (R (bv false)) (La 0 [(1:Tmp),(3:Tmp)] (WY Tryz.prog cfR 2994 (Env.mk (Bs.mk 0 []) 0 none 55 53 0) (cdAt [1,1,0,1,0,0] (bodyOf Tryz.f53))) (Qblk 0 (Qthen (WY Tryz.prog cfR 2997 (Env.mk (Bs.mk 0 []) 0 none 55 53 0) (cdAt [1,1,1] (bodyOf Tryz.f53)) (QendX Tryz.prog Tryz.f53 fun v h=>R (frzW h v))) (QendX Tryz.prog Tryz.f53 fun v h=>R (frzW h v)))) (St.mk (mkT [(1,V.ptr (Id.p 0) 0 0),(3,iv (0:Int))]) (Hp.mk [(0,O.rows 3 false [[V.lst 3 (cll q.1),V.lst 5 (knl q.2.1),iv q.2.2]])] 1 [])))))) (by kernel_rfl) ?_)
 obtain ⟨k1,k2,k3⟩:=hq
 rw [cll_length]
 refine ifB_mk (fun c=>rf h (fun w=>by have:=w.1.1.1; have:=of_decide_eq_true c; omega)) (fun c1=>ifB_mk (fun c=>rf h (fun w=>by have:=w.1.1.2; have:=of_decide_eq_true c; omega)) (fun c2=>within87 (onBool_bv (ifB_mk (fun c=>rf h (fun w=>nbt c w.2.2)) (fun c3=>?_)))))
 have c1:=of_decide_eq_false c1
 have c2:=of_decide_eq_false c2
 have c3:=nb c3
 refine La.of (σ:=Nat) (fun k=>sh53 q k) (fun k=>k≤q.1.length∧(∀ x∈q.1.take k,Nr 0 15 x)∧(q.1.take k).Pairwise Bef) (fun k=>q.1.length - k) 0 (by kernel_rfl) ⟨by omega,by simp,by simp⟩ ?_
 rintro k ⟨g1,g2,g3⟩ J hJ
 refine see (p:=ifB (decide ((↑k:Int)<(↑(cll q.1).length:Int))) (onSome (cll q.1)[k]? fun row=>onCons (List.drop 0 row) fun u r=>onIntK IntKind.i64 u fun n=>onCons r fun u r=>onIntK IntKind.i64 u fun n_1=>onCons r fun u r=>onIntK IntKind.i64 u fun n_2=>K0G Tryz.prog glX 49 [V.agg [iv n,iv n_1,iv n_2],iv (0:Int),iv (15:Int)] fun v=>onBool v fun b=>ifB (!b) (R (bv false)) (ifB (decide ((↑k:Int) > (0:Int))) (onNat (IntKind.i64.wrap ((↑k:Int) - (1:Int))) fun m=>onSome (cll q.1)[m]? fun row=>onCons (List.drop 0 row) fun u r=>onIntK IntKind.i64 u fun n=>onCons r fun u r=>onIntK IntKind.i64 u fun n_3=>onCons r fun u r=>onIntK IntKind.i64 u fun n_4=>onSome (cll q.1)[k]? fun row=>onCons (List.drop 0 row) fun u r=>onIntK IntKind.i64 u fun n_5=>onCons r fun u r=>onIntK IntKind.i64 u fun n_6=>onCons r fun u r=>onIntK IntKind.i64 u fun n_7=>K0G Tryz.prog glX 92 [V.agg [iv n,iv n_3,iv n_4],V.agg [iv n_5,iv n_6,iv n_7]] fun v=>onBool v fun b=>ifB (!b) (R (bv false)) (J (St.mk (mkT [(1,V.ptr (Id.p 0) 0 0),(3,iv (IntKind.i64.wrap ((↑k:Int)+(1:Int))))]) (Hp.mk [(0,O.rows 3 false [[V.lst 3 (cll q.1),V.lst 5 (knl q.2.1),iv q.2.2]])] 1 [])))) (J (St.mk (mkT [(1,V.ptr (Id.p 0) 0 0),(3,iv (IntKind.i64.wrap ((↑k:Int)+(1:Int))))]) (Hp.mk [(0,O.rows 3 false [[V.lst 3 (cll q.1),V.lst 5 (knl q.2.1),iv q.2.2]])] 1 []))))) (K0G Tryz.prog glX 93 [V.agg [V.lst 3 (cll q.1),V.lst 5 (knl q.2.1),iv q.2.2]] fun v=>onBool v fun b=>R (bv b))) (by kernel_rfl) ?_
 rw [cll_length]
 refine ifB_mk (fun hb=>?_) (fun hb=>?_)
 ·have hlt:k<q.1.length:=by have:=of_decide_eq_true hb; omega
  obtain ⟨x,hx⟩:=getI hlt
  refine cel hx (near49 (c:=x) (onBool_bv (ifB_mk (fun d=>rf h (fun w=>nbt d (w.1.2.1 x (mem_at hx)))) (fun d=>?_))))
  have hn:=nb d
  have nxt:(k=0 ∨ ∃ y,q.1[k - 1]? = some y∧Bef y x)→J (sh53 q (k+1)):=fun hp=>hJ (k+1) ⟨hlt,all_take hx g2 hn,pw_take Bef.tr hx g3 hp⟩ (by omega)
  refine ifB_mk (fun e=>?_) (fun e=>?_)
  ·have hk:0<k:=by have:=of_decide_eq_true e; omega
   obtain ⟨y,hy⟩:=getI (l:=q.1) (k:=k - 1) (by omega)
   refine onNat_mk (m:=k - 1) (by rw [wr (by omega) (by omega)]; omega) (cel hy (cel hx (before92 (a:=y) (b:=x) (onBool_bv (ifB_mk (fun f=>rf h (fun w=>nbt f (pw_at w.1.2.2 hx hy hk))) (fun f=>?_))))))
   rw [wr1i hlt (by omega)]
   exact nxt (.inr ⟨y,hy,nb f⟩)
  ·rw [wr1i hlt (by omega)]
   exact nxt (.inl (by have:=of_decide_eq_false e; omega))
 ·have hk:q.1.length≤k:=by have:=of_decide_eq_false hb; omega
  rw [List.take_of_length_le hk] at g3
  have hc:=all_all hk g2
  refine knobbed93 k1 hc (by omega) (onBool_bv (rb h ⟨fun w=>⟨⟨⟨by omega,by omega⟩,hc,g3⟩,dc_true w,c3⟩,fun w=>dc_t w.2.1⟩))
theorem kinds17 {l:List Kd} {R:V→Prop} (hl : ∀ q∈l,KdR q) (h1:KindsP l→R (iv 0)) (h2:16<l.length→R (iv 4)) (h3:l.length≤16 → ¬ KindsP l→R (iv 10)):K0G Tryz.prog glX 17 [.lst 3 (kdl l)] R:=by
 refine K0_of_WY0 hmX hcR 3000 Tryz.func17 (see (p:=ifB (decide ((↑(kdl l).length:Int) > (16:Int))) (R (iv (4:Int))) (La 0 [(0:Tmp),(3:Tmp)] (WY Tryz.prog cfR 2994 (Env.mk (Bs.mk 0 []) 0 none 19 17 0) (cdAt [1,1,0,1,0,0] (bodyOf Tryz.f17))) (Qblk 0 (Qthen (WY Tryz.prog cfR 2997 (Env.mk (Bs.mk 0 []) 0 none 19 17 0) (cdAt [1,1,1] (bodyOf Tryz.f17)) (QendX Tryz.prog Tryz.f17 fun v h=>R (frzW h v))) (QendX Tryz.prog Tryz.f17 fun v h=>R (frzW h v)))) (St.mk (mkT [(0,V.lst 3 (kdl l)),(3,iv (0:Int))]) (Hp.mk [] 0 [])))) (by kernel_rfl) ?_)
 rw [kdl_length]
 refine ifB_mk (fun c=>h2 (by have:=of_decide_eq_true c; omega)) (fun c=>?_)
 have h16:l.length≤16:=by have:=of_decide_eq_false c; omega
 refine La.of (σ:=Nat) (fun k=>sh17 l k) (fun k=>k≤l.length∧(∀ x∈l.take k,KindP x)) (fun k=>l.length - k) 0 (by kernel_rfl) ⟨by omega,by simp⟩ ?_
 rintro k ⟨g1,g2⟩ J hJ
 refine see (p:=ifB (decide ((↑k:Int)<(↑(kdl l).length:Int))) (onSome (kdl l)[k]? fun row=>onCons (List.drop 0 row) fun u r=>onLst u fun s es=>onCons r fun u r=>onLst u fun s_1 es_1=>onCons r fun u r=>onIntK IntKind.i64 u fun n=>K0G Tryz.prog glX 53 [V.agg [V.lst s es,V.lst s_1 es_1,iv n]] fun v=>onBool v fun b=>ifB (!b) (R (iv (10:Int))) (J (St.mk (mkT [(0,V.lst 3 (kdl l)),(3,iv (IntKind.i64.wrap ((↑k:Int)+(1:Int))))]) (Hp.mk [] 0 [])))) (R (iv (0:Int)))) (by kernel_rfl) ?_
 rw [kdl_length]
 refine ifB_mk (fun hb=>?_) (fun hb=>?_)
 ·have hlt:k<l.length:=by have:=of_decide_eq_true hb; omega
  obtain ⟨x,hx⟩:=getI hlt
  refine del hx (valid53 (q:=x) (hl x (mem_at hx)) (onBool_bv (ifB_mk (fun c=>h3 h16 (fun q=>nbt c (q.2 x (mem_at hx)))) (fun c=>?_))))
  rw [wr1i hlt (by omega)]
  exact hJ (k+1) ⟨hlt,all_take hx g2 (nb c)⟩ (by omega)
 ·have hk:l.length≤k:=by have:=of_decide_eq_false hb; omega
  exact h1 ⟨h16,all_all hk g2⟩
def BrickP (n:Nat) (b:Bk):Prop:=(0≤b.1∧b.1<(n:Int))∧Bd 1000 b.2.1∧b.2.2.1<24∧b.2.2.2≤15
def BkR (b:Bk):Prop:=(0≤b.2.2.1∧b.2.2.1≤255)∧0≤b.2.2.2∧b.2.2.2≤255
theorem brick47 {l:List Kd} {b:Bk} {R:V→Prop} (hl:(l.length:Int)≤1000000) (h:R (bv (dc (BrickP l.length b)))):K0G Tryz.prog glX 47 [.lst 3 (kdl l),.agg (bkr b)] R:=by
 refine K0_of_WY0 hmX hcR 3000 Tryz.func47 (see (p:=K0G Tryz.prog glX 87 [iv b.1,iv (0:Int),iv (IntKind.i64.wrap ((↑(kdl l).length:Int) - (1:Int)))] fun v=>onBool v fun b_1=>ifB b_1 (K0G Tryz.prog glX 49 [V.agg [iv b.2.1.1,iv b.2.1.2.1,iv b.2.1.2.2],iv (-1000:Int),iv (1000:Int)] fun v=>onBool v fun b_2=>ifB b_2 (ifB (decide (b.2.2.1<(24:Int))) (R (bv (decide (b.2.2.2≤(15:Int))))) (R (bv false))) (R (bv false))) (R (bv false))) (by kernel_rfl) ?_)
 rw [kdl_length,wr (n:=(l.length:Int) - 1) (by omega) (by omega)]
 refine within87 (onBool_bv (ifB_mk (fun c1=>near49 (c:=b.2.1) (onBool_bv (ifB_mk (fun c2=>ifB_mk (fun c3=>rb h ?_) (fun c3=>rf h (fun q=>of_decide_eq_false c3 q.2.2.1))) (fun c2=>rf h (fun q=>dc_false c2 q.2.1))))) (fun c1=>rf h (fun q=>dc_false c1 ⟨q.1.1,by have:=q.1.2; omega⟩))))
 have c1:=dc_true c1
 exact ⟨fun q=>⟨⟨c1.1,by omega⟩,dc_true c2,of_decide_eq_true c3,of_decide_eq_true q⟩,fun q=>decide_eq_true q.2.2.2⟩
theorem brick98 {l:List Kd} {b:Bk} {R:V→Prop} (hb:BkR b) (hl:(l.length:Int)≤1000000) (h:R (bv (dc (BrickP l.length b)))):K0G Tryz.prog glX 98 [.lst 3 (kdl l),.agg (bkr b)] R:=by
 refine K0_of_WY0 hmX hcR 3000 Tryz.func98 (see (p:=K0G Tryz.prog glX 52 [iv b.1,iv (0:Int),iv (IntKind.i64.wrap ((↑(kdl l).length:Int) - (1:Int)))] fun v=>onBool v fun b_1=>ifB b_1 (K0G Tryz.prog glX 84 [V.agg [iv b.2.1.1,iv b.2.1.2.1,iv b.2.1.2.2],iv (-1000:Int),iv (1000:Int)] fun v=>onBool v fun b_2=>ifB b_2 (K0G Tryz.prog glX 52 [iv (IntKind.i64.wrap b.2.2.1),iv (0:Int),iv (23:Int)] fun v=>onBool v fun b_3=>ifB b_3 (R (bv (decide (b.2.2.2≤(15:Int))))) (R (bv false))) (R (bv false))) (R (bv false))) (by kernel_rfl) ?_)
 obtain ⟨⟨b1,b2⟩,b3,b4⟩:=hb
 rw [kdl_length,wr (n:=(l.length:Int) - 1) (by omega) (by omega),wr (n:=b.2.2.1) (by omega) (by omega)]
 refine within52 (onBool_bv (ifB_mk (fun c1=>near84 (c:=b.2.1) (onBool_bv (ifB_mk (fun c2=>within52 (onBool_bv (ifB_mk (fun c3=>rb h ?_) (fun c3=>rf h (fun q=>dc_false c3 ⟨b1,by have:=q.2.2.1; omega⟩))))) (fun c2=>rf h (fun q=>dc_false c2 q.2.1))))) (fun c1=>rf h (fun q=>dc_false c1 ⟨q.1.1,by have:=q.1.2; omega⟩))))
 have c1:=dc_true c1
 have c3:=dc_true c3
 exact ⟨fun q=>⟨⟨c1.1,by omega⟩,dc_true c2,by omega,of_decide_eq_true q⟩,fun q=>decide_eq_true q.2.2.2⟩
def askE (l:List Kd) (b:Bk) (e:Int):Prop:=(16<l.length∧e=4)∨(l.length≤16 ∧ ¬ KindsP l∧e=10)∨(KindsP l ∧ ¬ BrickP l.length b∧e=11)∨(KindsP l∧BrickP l.length b∧e=0)
theorem askE.ok {l:List Kd} {b:Bk} (h:askE l b 0):KindsP l∧BrickP l.length b:=by
 rcases h with ⟨h1,h2⟩ | ⟨h1,h2,h3⟩ | ⟨h1,h2,h3⟩ | ⟨h1,h2,h3⟩
 ·omega
 ·omega
 ·omega
 ·exact ⟨h1,h2⟩
def GreatP (l:List Kd) (m:List Bk):Prop:=20<l.length∨45<m.length ∨ ∃ q∈l,30<q.1.length∨60<q.2.1.length
theorem del0 {l:List Kd} {i:Nat} {q:Kd} {k:Nat→List (List V)→Prop} (h:l[i]? = some q) (hk:k 3 (cll q.1)):onSome (kdl l)[i]? fun row=>onSome row[0]? fun v=>onLst v fun s es=>k s es:=onSome_mk (by simp [kdl,h]:(kdl l)[i]? = some (kdr q)) hk
theorem del1 {l:List Kd} {i:Nat} {q:Kd} {k:Nat→List (List V)→Prop} (h:l[i]? = some q) (hk:k 5 (knl q.2.1)):onSome (kdl l)[i]? fun row=>onSome row[1]? fun v=>onLst v fun s es=>k s es:=onSome_mk (by simp [kdl,h]:(kdl l)[i]? = some (kdr q)) hk
theorem great12 {l:List Kd} {m:List Bk} {R:V→Prop} (h:R (bv (dc (GreatP l m)))):K0G Tryz.prog glX 12 [.lst 3 (kdl l),.agg [.lst 6 (bkl m)]] R:=by
 refine K0_of_WY0 hmX hcR 3000 Tryz.func12 (see (p:=ifB (decide ((↑(kdl l).length:Int) > (20:Int))) (R (bv true)) (ifB (decide ((↑(bkl m).length:Int) > (45:Int))) (R (bv true)) (La 0 [(0:Tmp),(5:Tmp)] (WY Tryz.prog cfR 2994 (Env.mk (Bs.mk 0 []) 0 none 37 12 0) (cdAt [1,1,0,1,0,0] (bodyOf Tryz.f12))) (Qblk 0 (Qthen (WY Tryz.prog cfR 2997 (Env.mk (Bs.mk 0 []) 0 none 37 12 0) (cdAt [1,1,1] (bodyOf Tryz.f12)) (QendX Tryz.prog Tryz.f12 fun v h=>R (frzW h v))) (QendX Tryz.prog Tryz.f12 fun v h=>R (frzW h v)))) (St.mk (mkT [(0,V.lst 3 (kdl l)),(5,iv (0:Int))]) (Hp.mk [] 0 []))))) (by kernel_rfl) ?_)
 rw [kdl_length,bkl_length]
 refine ifB_mk (fun c=>rt h (.inl (by have:=of_decide_eq_true c; omega))) (fun c1=>ifB_mk (fun c=>rt h (.inr (.inl (by have:=of_decide_eq_true c; omega)))) (fun c2=>?_))
 have c1:l.length≤20:=by have:=of_decide_eq_false c1; omega
 have c2:m.length≤45:=by have:=of_decide_eq_false c2; omega
 refine La.of (σ:=Nat) (fun k=>sh12 l k) (fun k=>k≤l.length∧(∀ x∈l.take k, ¬ (30<x.1.length∨60<x.2.1.length))) (fun k=>l.length - k) 0 (by kernel_rfl) ⟨by omega,by simp⟩ ?_
 rintro k ⟨g1,g2⟩ J hJ
 refine see (p:=ifB (decide ((↑k:Int)<(↑(kdl l).length:Int))) (onSome (kdl l)[k]? fun row=>onSome row[0]? fun v=>onLst v fun s es=>ifB (decide ((↑es.length:Int) > (30:Int))) (R (bv true)) (onSome (kdl l)[k]? fun row=>onSome row[1]? fun v=>onLst v fun s es=>ifB (decide ((↑es.length:Int) > (60:Int))) (R (bv true)) (J (St.mk (mkT [(0,V.lst 3 (kdl l)),(5,iv (IntKind.i64.wrap ((↑k:Int)+(1:Int))))]) (Hp.mk [] 0 []))))) (R (bv false))) (by kernel_rfl) ?_
 rw [kdl_length]
 refine ifB_mk (fun hb=>?_) (fun hb=>?_)
 ·have hlt:k<l.length:=by have:=of_decide_eq_true hb; omega
  obtain ⟨x,hx⟩:=getI hlt
  refine del0 hx ?_
  rw [cll_length]
  refine ifB_mk (fun c=>rt h (.inr (.inr ⟨x,mem_at hx,.inl (by have:=of_decide_eq_true c; omega)⟩))) (fun c=>del1 hx ?_)
  rw [knl_length]
  refine ifB_mk (fun d=>rt h (.inr (.inr ⟨x,mem_at hx,.inr (by have:=of_decide_eq_true d; omega)⟩))) (fun d=>?_)
  rw [wr1i hlt (by omega)]
  exact hJ (k+1) ⟨hlt,all_take hx g2 (by have:=of_decide_eq_false c; have:=of_decide_eq_false d; omega)⟩ (by omega)
 ·have hk:l.length≤k:=by have:=of_decide_eq_false hb; omega
  refine rf h ?_
  rintro (q | q | ⟨x,hx,q⟩)
  ·omega
  ·omega
  ·exact all_all hk g2 x hx q
set_option maxRecDepth 100000
def fZ:V:=V.fn (Fn.func 124) [] []
def fX:V:=V.fn (Fn.func 123) [] []
def fN:V:=V.raw Value.nilFunc
def chA (k:Int):V:=V.agg [fZ,iv k,fN,iv 0,fN,iv 0]
def chB (k s:Int):V:=V.agg [fZ,iv k,fX,iv s,fN,iv 0]
def chC (k j:Int):V:=V.agg [fZ,iv k,fX,iv 1,fZ,iv j]
noncomputable def cfT:Cfg:=cfgM Tryz.prog glX moZ tyZ (inN [123,124]) (fun _ _=>none)
noncomputable def cfU:Cfg:=cfgM Tryz.prog glX moZ tyZ (inN [123,124,85]) (fun _ _=>none)
noncomputable def cfV:Cfg:=cfgM Tryz.prog glX moZ tyZ (inN [130,131]) (fun _ _=>none)
noncomputable def cfX:Cfg:=cfgM Tryz.prog glX moZ tyZ (inN [130,131,100,45]) (fun _ _=>none)
set_option maxRecDepth 10000
theorem hcT:cfT.ok Tryz.prog:=cfgM_ok
theorem hcU:cfU.ok Tryz.prog:=cfgM_ok
theorem hcV:cfV.ok Tryz.prog:=cfgM_ok
theorem hcX:cfX.ok Tryz.prog:=cfgM_ok
def qz (c:Cl):Cl:=(-c.2.1,c.1,c.2.2)
def qx (c:Cl):Cl:=(c.1, -c.2.2,c.2.1)
def itr (f:Cl→Cl):Nat→Cl→Cl
 | 0,c=>c
 | n+1,c=>itr f n (f c)
def tn (n:Nat) (c:Cl):Cl:=if n / 4<4 then itr qx (n / 4) (itr qz (n % 4) c) else itr qz (if n / 4=4 then 1 else 3) (qx (itr qz (n % 4) c))
theorem wn {t:Int} (h : -3000≤t) (h' : t≤3000):IntKind.i64.wrap (0 - t) = -t:=by rw [wr (by omega) (by omega)]; omega
theorem wn6 {t:Int} (h : -3000≤t) (h' : t≤3000):IntKind.i64.wrap (0 - t) = -t∧IntKind.i64.wrap (0 - -t) = - -t∧IntKind.i64.wrap (0 - - -t) = - - -t∧IntKind.i64.wrap (0 - - - -t) = - - - -t∧IntKind.i64.wrap (0 - - - - -t) = - - - - -t :=
 ⟨wn h h', wn (by omega) (by omega),wn (by omega) (by omega),wn (by omega) (by omega),wn (by omega) (by omega)⟩
theorem cell85_0 {c:Cl} {R:V→Prop} (hb:Bd 3000 c) (h:R (.agg (clr (tn 0 c)))):K0G Tryz.prog glX 85 [(chA 0),.agg (clr c)] R:=by
 refine K0_by hmX hcT 3000 Tryz.func85 (p:=R (V.agg [iv c.1,iv c.2.1,iv c.2.2])) (by kernel_rfl) ?_
 unfold Bd Nr at hb
 obtain ⟨x1,x2,x3,x4,x5⟩:=wn6 (t:=c.1) (by omega) (by omega)
 obtain ⟨y1,y2,y3,y4,y5⟩:=wn6 (t:=c.2.1) (by omega) (by omega)
 obtain ⟨z1,z2,z3,z4,z5⟩:=wn6 (t:=c.2.2) (by omega) (by omega)
 try simp only [x1,x2,x3,x4,x5,y1,y2,y3,y4,y5,z1,z2,z3,z4,z5]
 exact h
theorem chain82_0 {R:V→Prop} (h:R (chA 0)):K0G Tryz.prog glX 82 [iv 0] R:=K0_by hmX hcT 3000 Tryz.func82 (p:=R (chA 0)) (by kernel_rfl) h
theorem turned100_0 {c:Cl} {R:V→Prop} (hb:Bd 3000 c) (h:R (.agg (clr (tn 0 c)))):K0G Tryz.prog glX 100 [.agg (clr c),iv 0] R:=by
 refine K0_by hmX hcV 3000 Tryz.func100 (p:=R (V.agg [iv c.1,iv c.2.1,iv c.2.2])) (by kernel_rfl) ?_
 unfold Bd Nr at hb
 obtain ⟨x1,x2,x3,x4,x5⟩:=wn6 (t:=c.1) (by omega) (by omega)
 obtain ⟨y1,y2,y3,y4,y5⟩:=wn6 (t:=c.2.1) (by omega) (by omega)
 obtain ⟨z1,z2,z3,z4,z5⟩:=wn6 (t:=c.2.2) (by omega) (by omega)
 try simp only [x1,x2,x3,x4,x5,y1,y2,y3,y4,y5,z1,z2,z3,z4,z5]
 exact h
theorem cell85_1 {c:Cl} {R:V→Prop} (hb:Bd 3000 c) (h:R (.agg (clr (tn 1 c)))):K0G Tryz.prog glX 85 [(chA 1),.agg (clr c)] R:=by
 refine K0_by hmX hcT 3000 Tryz.func85 (p:=R (V.agg [iv (IntKind.i64.wrap (0 - c.2.1)),iv c.1,iv c.2.2])) (by kernel_rfl) ?_
 unfold Bd Nr at hb
 obtain ⟨x1,x2,x3,x4,x5⟩:=wn6 (t:=c.1) (by omega) (by omega)
 obtain ⟨y1,y2,y3,y4,y5⟩:=wn6 (t:=c.2.1) (by omega) (by omega)
 obtain ⟨z1,z2,z3,z4,z5⟩:=wn6 (t:=c.2.2) (by omega) (by omega)
 try simp only [x1,x2,x3,x4,x5,y1,y2,y3,y4,y5,z1,z2,z3,z4,z5]
 exact h
theorem chain82_1 {R:V→Prop} (h:R (chA 1)):K0G Tryz.prog glX 82 [iv 1] R:=K0_by hmX hcT 3000 Tryz.func82 (p:=R (chA 1)) (by kernel_rfl) h
theorem turned100_1 {c:Cl} {R:V→Prop} (hb:Bd 3000 c) (h:R (.agg (clr (tn 1 c)))):K0G Tryz.prog glX 100 [.agg (clr c),iv 1] R:=by
 refine K0_by hmX hcV 3000 Tryz.func100 (p:=R (V.agg [iv (IntKind.i64.wrap (0 - c.2.1)),iv c.1,iv c.2.2])) (by kernel_rfl) ?_
 unfold Bd Nr at hb
 obtain ⟨x1,x2,x3,x4,x5⟩:=wn6 (t:=c.1) (by omega) (by omega)
 obtain ⟨y1,y2,y3,y4,y5⟩:=wn6 (t:=c.2.1) (by omega) (by omega)
 obtain ⟨z1,z2,z3,z4,z5⟩:=wn6 (t:=c.2.2) (by omega) (by omega)
 try simp only [x1,x2,x3,x4,x5,y1,y2,y3,y4,y5,z1,z2,z3,z4,z5]
 exact h
theorem cell85_2 {c:Cl} {R:V→Prop} (hb:Bd 3000 c) (h:R (.agg (clr (tn 2 c)))):K0G Tryz.prog glX 85 [(chA 2),.agg (clr c)] R:=by
 refine K0_by hmX hcT 3000 Tryz.func85 (p:=R (V.agg [iv (IntKind.i64.wrap (0 - c.1)),iv (IntKind.i64.wrap (0 - c.2.1)),iv c.2.2])) (by kernel_rfl) ?_
 unfold Bd Nr at hb
 obtain ⟨x1,x2,x3,x4,x5⟩:=wn6 (t:=c.1) (by omega) (by omega)
 obtain ⟨y1,y2,y3,y4,y5⟩:=wn6 (t:=c.2.1) (by omega) (by omega)
 obtain ⟨z1,z2,z3,z4,z5⟩:=wn6 (t:=c.2.2) (by omega) (by omega)
 try simp only [x1,x2,x3,x4,x5,y1,y2,y3,y4,y5,z1,z2,z3,z4,z5]
 exact h
theorem chain82_2 {R:V→Prop} (h:R (chA 2)):K0G Tryz.prog glX 82 [iv 2] R:=K0_by hmX hcT 3000 Tryz.func82 (p:=R (chA 2)) (by kernel_rfl) h
theorem turned100_2 {c:Cl} {R:V→Prop} (hb:Bd 3000 c) (h:R (.agg (clr (tn 2 c)))):K0G Tryz.prog glX 100 [.agg (clr c),iv 2] R:=by
 refine K0_by hmX hcV 3000 Tryz.func100 (p:=R (V.agg [iv (IntKind.i64.wrap (0 - c.1)),iv (IntKind.i64.wrap (0 - c.2.1)),iv c.2.2])) (by kernel_rfl) ?_
 unfold Bd Nr at hb
 obtain ⟨x1,x2,x3,x4,x5⟩:=wn6 (t:=c.1) (by omega) (by omega)
 obtain ⟨y1,y2,y3,y4,y5⟩:=wn6 (t:=c.2.1) (by omega) (by omega)
 obtain ⟨z1,z2,z3,z4,z5⟩:=wn6 (t:=c.2.2) (by omega) (by omega)
 try simp only [x1,x2,x3,x4,x5,y1,y2,y3,y4,y5,z1,z2,z3,z4,z5]
 exact h
theorem cell85_3 {c:Cl} {R:V→Prop} (hb:Bd 3000 c) (h:R (.agg (clr (tn 3 c)))):K0G Tryz.prog glX 85 [(chA 3),.agg (clr c)] R:=by
 refine K0_by hmX hcT 3000 Tryz.func85 (p:=R (V.agg [iv (IntKind.i64.wrap (0 - (IntKind.i64.wrap (0 - c.2.1)))),iv (IntKind.i64.wrap (0 - c.1)),iv c.2.2])) (by kernel_rfl) ?_
 unfold Bd Nr at hb
 obtain ⟨x1,x2,x3,x4,x5⟩:=wn6 (t:=c.1) (by omega) (by omega)
 obtain ⟨y1,y2,y3,y4,y5⟩:=wn6 (t:=c.2.1) (by omega) (by omega)
 obtain ⟨z1,z2,z3,z4,z5⟩:=wn6 (t:=c.2.2) (by omega) (by omega)
 try simp only [x1,x2,x3,x4,x5,y1,y2,y3,y4,y5,z1,z2,z3,z4,z5]
 exact h
theorem chain82_3 {R:V→Prop} (h:R (chA 3)):K0G Tryz.prog glX 82 [iv 3] R:=K0_by hmX hcT 3000 Tryz.func82 (p:=R (chA 3)) (by kernel_rfl) h
theorem turned100_3 {c:Cl} {R:V→Prop} (hb:Bd 3000 c) (h:R (.agg (clr (tn 3 c)))):K0G Tryz.prog glX 100 [.agg (clr c),iv 3] R:=by
 refine K0_by hmX hcV 3000 Tryz.func100 (p:=R (V.agg [iv (IntKind.i64.wrap (0 - (IntKind.i64.wrap (0 - c.2.1)))),iv (IntKind.i64.wrap (0 - c.1)),iv c.2.2])) (by kernel_rfl) ?_
 unfold Bd Nr at hb
 obtain ⟨x1,x2,x3,x4,x5⟩:=wn6 (t:=c.1) (by omega) (by omega)
 obtain ⟨y1,y2,y3,y4,y5⟩:=wn6 (t:=c.2.1) (by omega) (by omega)
 obtain ⟨z1,z2,z3,z4,z5⟩:=wn6 (t:=c.2.2) (by omega) (by omega)
 try simp only [x1,x2,x3,x4,x5,y1,y2,y3,y4,y5,z1,z2,z3,z4,z5]
 exact h
theorem cell85_4 {c:Cl} {R:V→Prop} (hb:Bd 3000 c) (h:R (.agg (clr (tn 4 c)))):K0G Tryz.prog glX 85 [(chB 0 1),.agg (clr c)] R:=by
 refine K0_by hmX hcT 3000 Tryz.func85 (p:=R (V.agg [iv c.1,iv (IntKind.i64.wrap (0 - c.2.2)),iv c.2.1])) (by kernel_rfl) ?_
 unfold Bd Nr at hb
 obtain ⟨x1,x2,x3,x4,x5⟩:=wn6 (t:=c.1) (by omega) (by omega)
 obtain ⟨y1,y2,y3,y4,y5⟩:=wn6 (t:=c.2.1) (by omega) (by omega)
 obtain ⟨z1,z2,z3,z4,z5⟩:=wn6 (t:=c.2.2) (by omega) (by omega)
 try simp only [x1,x2,x3,x4,x5,y1,y2,y3,y4,y5,z1,z2,z3,z4,z5]
 exact h
theorem chain82_4 {R:V→Prop} (h:R (chB 0 1)):K0G Tryz.prog glX 82 [iv 4] R:=K0_by hmX hcT 3000 Tryz.func82 (p:=R (chB 0 1)) (by kernel_rfl) h
theorem turned100_4 {c:Cl} {R:V→Prop} (hb:Bd 3000 c) (h:R (.agg (clr (tn 4 c)))):K0G Tryz.prog glX 100 [.agg (clr c),iv 4] R:=by
 refine K0_by hmX hcV 3000 Tryz.func100 (p:=R (V.agg [iv c.1,iv (IntKind.i64.wrap (0 - c.2.2)),iv c.2.1])) (by kernel_rfl) ?_
 unfold Bd Nr at hb
 obtain ⟨x1,x2,x3,x4,x5⟩:=wn6 (t:=c.1) (by omega) (by omega)
 obtain ⟨y1,y2,y3,y4,y5⟩:=wn6 (t:=c.2.1) (by omega) (by omega)
 obtain ⟨z1,z2,z3,z4,z5⟩:=wn6 (t:=c.2.2) (by omega) (by omega)
 try simp only [x1,x2,x3,x4,x5,y1,y2,y3,y4,y5,z1,z2,z3,z4,z5]
 exact h
theorem cell85_5 {c:Cl} {R:V→Prop} (hb:Bd 3000 c) (h:R (.agg (clr (tn 5 c)))):K0G Tryz.prog glX 85 [(chB 1 1),.agg (clr c)] R:=by
 refine K0_by hmX hcT 3000 Tryz.func85 (p:=R (V.agg [iv (IntKind.i64.wrap (0 - c.2.1)),iv (IntKind.i64.wrap (0 - c.2.2)),iv c.1])) (by kernel_rfl) ?_
 unfold Bd Nr at hb
 obtain ⟨x1,x2,x3,x4,x5⟩:=wn6 (t:=c.1) (by omega) (by omega)
 obtain ⟨y1,y2,y3,y4,y5⟩:=wn6 (t:=c.2.1) (by omega) (by omega)
 obtain ⟨z1,z2,z3,z4,z5⟩:=wn6 (t:=c.2.2) (by omega) (by omega)
 try simp only [x1,x2,x3,x4,x5,y1,y2,y3,y4,y5,z1,z2,z3,z4,z5]
 exact h
theorem chain82_5 {R:V→Prop} (h:R (chB 1 1)):K0G Tryz.prog glX 82 [iv 5] R:=K0_by hmX hcT 3000 Tryz.func82 (p:=R (chB 1 1)) (by kernel_rfl) h
theorem turned100_5 {c:Cl} {R:V→Prop} (hb:Bd 3000 c) (h:R (.agg (clr (tn 5 c)))):K0G Tryz.prog glX 100 [.agg (clr c),iv 5] R:=by
 refine K0_by hmX hcV 3000 Tryz.func100 (p:=R (V.agg [iv (IntKind.i64.wrap (0 - c.2.1)),iv (IntKind.i64.wrap (0 - c.2.2)),iv c.1])) (by kernel_rfl) ?_
 unfold Bd Nr at hb
 obtain ⟨x1,x2,x3,x4,x5⟩:=wn6 (t:=c.1) (by omega) (by omega)
 obtain ⟨y1,y2,y3,y4,y5⟩:=wn6 (t:=c.2.1) (by omega) (by omega)
 obtain ⟨z1,z2,z3,z4,z5⟩:=wn6 (t:=c.2.2) (by omega) (by omega)
 try simp only [x1,x2,x3,x4,x5,y1,y2,y3,y4,y5,z1,z2,z3,z4,z5]
 exact h
theorem cell85_6 {c:Cl} {R:V→Prop} (hb:Bd 3000 c) (h:R (.agg (clr (tn 6 c)))):K0G Tryz.prog glX 85 [(chB 2 1),.agg (clr c)] R:=by
 refine K0_by hmX hcT 3000 Tryz.func85 (p:=R (V.agg [iv (IntKind.i64.wrap (0 - c.1)),iv (IntKind.i64.wrap (0 - c.2.2)),iv (IntKind.i64.wrap (0 - c.2.1))])) (by kernel_rfl) ?_
 unfold Bd Nr at hb
 obtain ⟨x1,x2,x3,x4,x5⟩:=wn6 (t:=c.1) (by omega) (by omega)
 obtain ⟨y1,y2,y3,y4,y5⟩:=wn6 (t:=c.2.1) (by omega) (by omega)
 obtain ⟨z1,z2,z3,z4,z5⟩:=wn6 (t:=c.2.2) (by omega) (by omega)
 try simp only [x1,x2,x3,x4,x5,y1,y2,y3,y4,y5,z1,z2,z3,z4,z5]
 exact h
theorem chain82_6 {R:V→Prop} (h:R (chB 2 1)):K0G Tryz.prog glX 82 [iv 6] R:=K0_by hmX hcT 3000 Tryz.func82 (p:=R (chB 2 1)) (by kernel_rfl) h
theorem turned100_6 {c:Cl} {R:V→Prop} (hb:Bd 3000 c) (h:R (.agg (clr (tn 6 c)))):K0G Tryz.prog glX 100 [.agg (clr c),iv 6] R:=by
 refine K0_by hmX hcV 3000 Tryz.func100 (p:=R (V.agg [iv (IntKind.i64.wrap (0 - c.1)),iv (IntKind.i64.wrap (0 - c.2.2)),iv (IntKind.i64.wrap (0 - c.2.1))])) (by kernel_rfl) ?_
 unfold Bd Nr at hb
 obtain ⟨x1,x2,x3,x4,x5⟩:=wn6 (t:=c.1) (by omega) (by omega)
 obtain ⟨y1,y2,y3,y4,y5⟩:=wn6 (t:=c.2.1) (by omega) (by omega)
 obtain ⟨z1,z2,z3,z4,z5⟩:=wn6 (t:=c.2.2) (by omega) (by omega)
 try simp only [x1,x2,x3,x4,x5,y1,y2,y3,y4,y5,z1,z2,z3,z4,z5]
 exact h
theorem cell85_7 {c:Cl} {R:V→Prop} (hb:Bd 3000 c) (h:R (.agg (clr (tn 7 c)))):K0G Tryz.prog glX 85 [(chB 3 1),.agg (clr c)] R:=by
 refine K0_by hmX hcT 3000 Tryz.func85 (p:=R (V.agg [iv (IntKind.i64.wrap (0 - (IntKind.i64.wrap (0 - c.2.1)))),iv (IntKind.i64.wrap (0 - c.2.2)),iv (IntKind.i64.wrap (0 - c.1))])) (by kernel_rfl) ?_
 unfold Bd Nr at hb
 obtain ⟨x1,x2,x3,x4,x5⟩:=wn6 (t:=c.1) (by omega) (by omega)
 obtain ⟨y1,y2,y3,y4,y5⟩:=wn6 (t:=c.2.1) (by omega) (by omega)
 obtain ⟨z1,z2,z3,z4,z5⟩:=wn6 (t:=c.2.2) (by omega) (by omega)
 try simp only [x1,x2,x3,x4,x5,y1,y2,y3,y4,y5,z1,z2,z3,z4,z5]
 exact h
theorem chain82_7 {R:V→Prop} (h:R (chB 3 1)):K0G Tryz.prog glX 82 [iv 7] R:=K0_by hmX hcT 3000 Tryz.func82 (p:=R (chB 3 1)) (by kernel_rfl) h
theorem turned100_7 {c:Cl} {R:V→Prop} (hb:Bd 3000 c) (h:R (.agg (clr (tn 7 c)))):K0G Tryz.prog glX 100 [.agg (clr c),iv 7] R:=by
 refine K0_by hmX hcV 3000 Tryz.func100 (p:=R (V.agg [iv (IntKind.i64.wrap (0 - (IntKind.i64.wrap (0 - c.2.1)))),iv (IntKind.i64.wrap (0 - c.2.2)),iv (IntKind.i64.wrap (0 - c.1))])) (by kernel_rfl) ?_
 unfold Bd Nr at hb
 obtain ⟨x1,x2,x3,x4,x5⟩:=wn6 (t:=c.1) (by omega) (by omega)
 obtain ⟨y1,y2,y3,y4,y5⟩:=wn6 (t:=c.2.1) (by omega) (by omega)
 obtain ⟨z1,z2,z3,z4,z5⟩:=wn6 (t:=c.2.2) (by omega) (by omega)
 try simp only [x1,x2,x3,x4,x5,y1,y2,y3,y4,y5,z1,z2,z3,z4,z5]
 exact h
theorem cell85_8 {c:Cl} {R:V→Prop} (hb:Bd 3000 c) (h:R (.agg (clr (tn 8 c)))):K0G Tryz.prog glX 85 [(chB 0 2),.agg (clr c)] R:=by
 refine K0_by hmX hcT 3000 Tryz.func85 (p:=R (V.agg [iv c.1,iv (IntKind.i64.wrap (0 - c.2.1)),iv (IntKind.i64.wrap (0 - c.2.2))])) (by kernel_rfl) ?_
 unfold Bd Nr at hb
 obtain ⟨x1,x2,x3,x4,x5⟩:=wn6 (t:=c.1) (by omega) (by omega)
 obtain ⟨y1,y2,y3,y4,y5⟩:=wn6 (t:=c.2.1) (by omega) (by omega)
 obtain ⟨z1,z2,z3,z4,z5⟩:=wn6 (t:=c.2.2) (by omega) (by omega)
 try simp only [x1,x2,x3,x4,x5,y1,y2,y3,y4,y5,z1,z2,z3,z4,z5]
 exact h
theorem chain82_8 {R:V→Prop} (h:R (chB 0 2)):K0G Tryz.prog glX 82 [iv 8] R:=K0_by hmX hcT 3000 Tryz.func82 (p:=R (chB 0 2)) (by kernel_rfl) h
theorem turned100_8 {c:Cl} {R:V→Prop} (hb:Bd 3000 c) (h:R (.agg (clr (tn 8 c)))):K0G Tryz.prog glX 100 [.agg (clr c),iv 8] R:=by
 refine K0_by hmX hcV 3000 Tryz.func100 (p:=R (V.agg [iv c.1,iv (IntKind.i64.wrap (0 - c.2.1)),iv (IntKind.i64.wrap (0 - c.2.2))])) (by kernel_rfl) ?_
 unfold Bd Nr at hb
 obtain ⟨x1,x2,x3,x4,x5⟩:=wn6 (t:=c.1) (by omega) (by omega)
 obtain ⟨y1,y2,y3,y4,y5⟩:=wn6 (t:=c.2.1) (by omega) (by omega)
 obtain ⟨z1,z2,z3,z4,z5⟩:=wn6 (t:=c.2.2) (by omega) (by omega)
 try simp only [x1,x2,x3,x4,x5,y1,y2,y3,y4,y5,z1,z2,z3,z4,z5]
 exact h
theorem cell85_9 {c:Cl} {R:V→Prop} (hb:Bd 3000 c) (h:R (.agg (clr (tn 9 c)))):K0G Tryz.prog glX 85 [(chB 1 2),.agg (clr c)] R:=by
 refine K0_by hmX hcT 3000 Tryz.func85 (p:=R (V.agg [iv (IntKind.i64.wrap (0 - c.2.1)),iv (IntKind.i64.wrap (0 - c.1)),iv (IntKind.i64.wrap (0 - c.2.2))])) (by kernel_rfl) ?_
 unfold Bd Nr at hb
 obtain ⟨x1,x2,x3,x4,x5⟩:=wn6 (t:=c.1) (by omega) (by omega)
 obtain ⟨y1,y2,y3,y4,y5⟩:=wn6 (t:=c.2.1) (by omega) (by omega)
 obtain ⟨z1,z2,z3,z4,z5⟩:=wn6 (t:=c.2.2) (by omega) (by omega)
 try simp only [x1,x2,x3,x4,x5,y1,y2,y3,y4,y5,z1,z2,z3,z4,z5]
 exact h
theorem chain82_9 {R:V→Prop} (h:R (chB 1 2)):K0G Tryz.prog glX 82 [iv 9] R:=K0_by hmX hcT 3000 Tryz.func82 (p:=R (chB 1 2)) (by kernel_rfl) h
theorem turned100_9 {c:Cl} {R:V→Prop} (hb:Bd 3000 c) (h:R (.agg (clr (tn 9 c)))):K0G Tryz.prog glX 100 [.agg (clr c),iv 9] R:=by
 refine K0_by hmX hcV 3000 Tryz.func100 (p:=R (V.agg [iv (IntKind.i64.wrap (0 - c.2.1)),iv (IntKind.i64.wrap (0 - c.1)),iv (IntKind.i64.wrap (0 - c.2.2))])) (by kernel_rfl) ?_
 unfold Bd Nr at hb
 obtain ⟨x1,x2,x3,x4,x5⟩:=wn6 (t:=c.1) (by omega) (by omega)
 obtain ⟨y1,y2,y3,y4,y5⟩:=wn6 (t:=c.2.1) (by omega) (by omega)
 obtain ⟨z1,z2,z3,z4,z5⟩:=wn6 (t:=c.2.2) (by omega) (by omega)
 try simp only [x1,x2,x3,x4,x5,y1,y2,y3,y4,y5,z1,z2,z3,z4,z5]
 exact h
theorem cell85_10 {c:Cl} {R:V→Prop} (hb:Bd 3000 c) (h:R (.agg (clr (tn 10 c)))):K0G Tryz.prog glX 85 [(chB 2 2),.agg (clr c)] R:=by
 refine K0_by hmX hcT 3000 Tryz.func85 (p:=R (V.agg [iv (IntKind.i64.wrap (0 - c.1)),iv (IntKind.i64.wrap (0 - (IntKind.i64.wrap (0 - c.2.1)))),iv (IntKind.i64.wrap (0 - c.2.2))])) (by kernel_rfl) ?_
 unfold Bd Nr at hb
 obtain ⟨x1,x2,x3,x4,x5⟩:=wn6 (t:=c.1) (by omega) (by omega)
 obtain ⟨y1,y2,y3,y4,y5⟩:=wn6 (t:=c.2.1) (by omega) (by omega)
 obtain ⟨z1,z2,z3,z4,z5⟩:=wn6 (t:=c.2.2) (by omega) (by omega)
 try simp only [x1,x2,x3,x4,x5,y1,y2,y3,y4,y5,z1,z2,z3,z4,z5]
 exact h
theorem chain82_10 {R:V→Prop} (h:R (chB 2 2)):K0G Tryz.prog glX 82 [iv 10] R:=K0_by hmX hcT 3000 Tryz.func82 (p:=R (chB 2 2)) (by kernel_rfl) h
theorem turned100_10 {c:Cl} {R:V→Prop} (hb:Bd 3000 c) (h:R (.agg (clr (tn 10 c)))):K0G Tryz.prog glX 100 [.agg (clr c),iv 10] R:=by
 refine K0_by hmX hcV 3000 Tryz.func100 (p:=R (V.agg [iv (IntKind.i64.wrap (0 - c.1)),iv (IntKind.i64.wrap (0 - (IntKind.i64.wrap (0 - c.2.1)))),iv (IntKind.i64.wrap (0 - c.2.2))])) (by kernel_rfl) ?_
 unfold Bd Nr at hb
 obtain ⟨x1,x2,x3,x4,x5⟩:=wn6 (t:=c.1) (by omega) (by omega)
 obtain ⟨y1,y2,y3,y4,y5⟩:=wn6 (t:=c.2.1) (by omega) (by omega)
 obtain ⟨z1,z2,z3,z4,z5⟩:=wn6 (t:=c.2.2) (by omega) (by omega)
 try simp only [x1,x2,x3,x4,x5,y1,y2,y3,y4,y5,z1,z2,z3,z4,z5]
 exact h
theorem cell85_11 {c:Cl} {R:V→Prop} (hb:Bd 3000 c) (h:R (.agg (clr (tn 11 c)))):K0G Tryz.prog glX 85 [(chB 3 2),.agg (clr c)] R:=by
 refine K0_by hmX hcT 3000 Tryz.func85 (p:=R (V.agg [iv (IntKind.i64.wrap (0 - (IntKind.i64.wrap (0 - c.2.1)))),iv (IntKind.i64.wrap (0 - (IntKind.i64.wrap (0 - c.1)))),iv (IntKind.i64.wrap (0 - c.2.2))])) (by kernel_rfl) ?_
 unfold Bd Nr at hb
 obtain ⟨x1,x2,x3,x4,x5⟩:=wn6 (t:=c.1) (by omega) (by omega)
 obtain ⟨y1,y2,y3,y4,y5⟩:=wn6 (t:=c.2.1) (by omega) (by omega)
 obtain ⟨z1,z2,z3,z4,z5⟩:=wn6 (t:=c.2.2) (by omega) (by omega)
 try simp only [x1,x2,x3,x4,x5,y1,y2,y3,y4,y5,z1,z2,z3,z4,z5]
 exact h
theorem chain82_11 {R:V→Prop} (h:R (chB 3 2)):K0G Tryz.prog glX 82 [iv 11] R:=K0_by hmX hcT 3000 Tryz.func82 (p:=R (chB 3 2)) (by kernel_rfl) h
theorem turned100_11 {c:Cl} {R:V→Prop} (hb:Bd 3000 c) (h:R (.agg (clr (tn 11 c)))):K0G Tryz.prog glX 100 [.agg (clr c),iv 11] R:=by
 refine K0_by hmX hcV 3000 Tryz.func100 (p:=R (V.agg [iv (IntKind.i64.wrap (0 - (IntKind.i64.wrap (0 - c.2.1)))),iv (IntKind.i64.wrap (0 - (IntKind.i64.wrap (0 - c.1)))),iv (IntKind.i64.wrap (0 - c.2.2))])) (by kernel_rfl) ?_
 unfold Bd Nr at hb
 obtain ⟨x1,x2,x3,x4,x5⟩:=wn6 (t:=c.1) (by omega) (by omega)
 obtain ⟨y1,y2,y3,y4,y5⟩:=wn6 (t:=c.2.1) (by omega) (by omega)
 obtain ⟨z1,z2,z3,z4,z5⟩:=wn6 (t:=c.2.2) (by omega) (by omega)
 try simp only [x1,x2,x3,x4,x5,y1,y2,y3,y4,y5,z1,z2,z3,z4,z5]
 exact h
theorem cell85_12 {c:Cl} {R:V→Prop} (hb:Bd 3000 c) (h:R (.agg (clr (tn 12 c)))):K0G Tryz.prog glX 85 [(chB 0 3),.agg (clr c)] R:=by
 refine K0_by hmX hcT 3000 Tryz.func85 (p:=R (V.agg [iv c.1,iv (IntKind.i64.wrap (0 - (IntKind.i64.wrap (0 - c.2.2)))),iv (IntKind.i64.wrap (0 - c.2.1))])) (by kernel_rfl) ?_
 unfold Bd Nr at hb
 obtain ⟨x1,x2,x3,x4,x5⟩:=wn6 (t:=c.1) (by omega) (by omega)
 obtain ⟨y1,y2,y3,y4,y5⟩:=wn6 (t:=c.2.1) (by omega) (by omega)
 obtain ⟨z1,z2,z3,z4,z5⟩:=wn6 (t:=c.2.2) (by omega) (by omega)
 try simp only [x1,x2,x3,x4,x5,y1,y2,y3,y4,y5,z1,z2,z3,z4,z5]
 exact h
theorem chain82_12 {R:V→Prop} (h:R (chB 0 3)):K0G Tryz.prog glX 82 [iv 12] R:=K0_by hmX hcT 3000 Tryz.func82 (p:=R (chB 0 3)) (by kernel_rfl) h
theorem turned100_12 {c:Cl} {R:V→Prop} (hb:Bd 3000 c) (h:R (.agg (clr (tn 12 c)))):K0G Tryz.prog glX 100 [.agg (clr c),iv 12] R:=by
 refine K0_by hmX hcV 3000 Tryz.func100 (p:=R (V.agg [iv c.1,iv (IntKind.i64.wrap (0 - (IntKind.i64.wrap (0 - c.2.2)))),iv (IntKind.i64.wrap (0 - c.2.1))])) (by kernel_rfl) ?_
 unfold Bd Nr at hb
 obtain ⟨x1,x2,x3,x4,x5⟩:=wn6 (t:=c.1) (by omega) (by omega)
 obtain ⟨y1,y2,y3,y4,y5⟩:=wn6 (t:=c.2.1) (by omega) (by omega)
 obtain ⟨z1,z2,z3,z4,z5⟩:=wn6 (t:=c.2.2) (by omega) (by omega)
 try simp only [x1,x2,x3,x4,x5,y1,y2,y3,y4,y5,z1,z2,z3,z4,z5]
 exact h
theorem cell85_13 {c:Cl} {R:V→Prop} (hb:Bd 3000 c) (h:R (.agg (clr (tn 13 c)))):K0G Tryz.prog glX 85 [(chB 1 3),.agg (clr c)] R:=by
 refine K0_by hmX hcT 3000 Tryz.func85 (p:=R (V.agg [iv (IntKind.i64.wrap (0 - c.2.1)),iv (IntKind.i64.wrap (0 - (IntKind.i64.wrap (0 - c.2.2)))),iv (IntKind.i64.wrap (0 - c.1))])) (by kernel_rfl) ?_
 unfold Bd Nr at hb
 obtain ⟨x1,x2,x3,x4,x5⟩:=wn6 (t:=c.1) (by omega) (by omega)
 obtain ⟨y1,y2,y3,y4,y5⟩:=wn6 (t:=c.2.1) (by omega) (by omega)
 obtain ⟨z1,z2,z3,z4,z5⟩:=wn6 (t:=c.2.2) (by omega) (by omega)
 try simp only [x1,x2,x3,x4,x5,y1,y2,y3,y4,y5,z1,z2,z3,z4,z5]
 exact h
theorem chain82_13 {R:V→Prop} (h:R (chB 1 3)):K0G Tryz.prog glX 82 [iv 13] R:=K0_by hmX hcT 3000 Tryz.func82 (p:=R (chB 1 3)) (by kernel_rfl) h
theorem turned100_13 {c:Cl} {R:V→Prop} (hb:Bd 3000 c) (h:R (.agg (clr (tn 13 c)))):K0G Tryz.prog glX 100 [.agg (clr c),iv 13] R:=by
 refine K0_by hmX hcV 3000 Tryz.func100 (p:=R (V.agg [iv (IntKind.i64.wrap (0 - c.2.1)),iv (IntKind.i64.wrap (0 - (IntKind.i64.wrap (0 - c.2.2)))),iv (IntKind.i64.wrap (0 - c.1))])) (by kernel_rfl) ?_
 unfold Bd Nr at hb
 obtain ⟨x1,x2,x3,x4,x5⟩:=wn6 (t:=c.1) (by omega) (by omega)
 obtain ⟨y1,y2,y3,y4,y5⟩:=wn6 (t:=c.2.1) (by omega) (by omega)
 obtain ⟨z1,z2,z3,z4,z5⟩:=wn6 (t:=c.2.2) (by omega) (by omega)
 try simp only [x1,x2,x3,x4,x5,y1,y2,y3,y4,y5,z1,z2,z3,z4,z5]
 exact h
theorem cell85_14 {c:Cl} {R:V→Prop} (hb:Bd 3000 c) (h:R (.agg (clr (tn 14 c)))):K0G Tryz.prog glX 85 [(chB 2 3),.agg (clr c)] R:=by
 refine K0_by hmX hcT 3000 Tryz.func85 (p:=R (V.agg [iv (IntKind.i64.wrap (0 - c.1)),iv (IntKind.i64.wrap (0 - (IntKind.i64.wrap (0 - c.2.2)))),iv (IntKind.i64.wrap (0 - (IntKind.i64.wrap (0 - c.2.1))))])) (by kernel_rfl) ?_
 unfold Bd Nr at hb
 obtain ⟨x1,x2,x3,x4,x5⟩:=wn6 (t:=c.1) (by omega) (by omega)
 obtain ⟨y1,y2,y3,y4,y5⟩:=wn6 (t:=c.2.1) (by omega) (by omega)
 obtain ⟨z1,z2,z3,z4,z5⟩:=wn6 (t:=c.2.2) (by omega) (by omega)
 try simp only [x1,x2,x3,x4,x5,y1,y2,y3,y4,y5,z1,z2,z3,z4,z5]
 exact h
theorem chain82_14 {R:V→Prop} (h:R (chB 2 3)):K0G Tryz.prog glX 82 [iv 14] R:=K0_by hmX hcT 3000 Tryz.func82 (p:=R (chB 2 3)) (by kernel_rfl) h
theorem turned100_14 {c:Cl} {R:V→Prop} (hb:Bd 3000 c) (h:R (.agg (clr (tn 14 c)))):K0G Tryz.prog glX 100 [.agg (clr c),iv 14] R:=by
 refine K0_by hmX hcV 3000 Tryz.func100 (p:=R (V.agg [iv (IntKind.i64.wrap (0 - c.1)),iv (IntKind.i64.wrap (0 - (IntKind.i64.wrap (0 - c.2.2)))),iv (IntKind.i64.wrap (0 - (IntKind.i64.wrap (0 - c.2.1))))])) (by kernel_rfl) ?_
 unfold Bd Nr at hb
 obtain ⟨x1,x2,x3,x4,x5⟩:=wn6 (t:=c.1) (by omega) (by omega)
 obtain ⟨y1,y2,y3,y4,y5⟩:=wn6 (t:=c.2.1) (by omega) (by omega)
 obtain ⟨z1,z2,z3,z4,z5⟩:=wn6 (t:=c.2.2) (by omega) (by omega)
 try simp only [x1,x2,x3,x4,x5,y1,y2,y3,y4,y5,z1,z2,z3,z4,z5]
 exact h
theorem cell85_15 {c:Cl} {R:V→Prop} (hb:Bd 3000 c) (h:R (.agg (clr (tn 15 c)))):K0G Tryz.prog glX 85 [(chB 3 3),.agg (clr c)] R:=by
 refine K0_by hmX hcT 3000 Tryz.func85 (p:=R (V.agg [iv (IntKind.i64.wrap (0 - (IntKind.i64.wrap (0 - c.2.1)))),iv (IntKind.i64.wrap (0 - (IntKind.i64.wrap (0 - c.2.2)))),iv (IntKind.i64.wrap (0 - (IntKind.i64.wrap (0 - c.1))))])) (by kernel_rfl) ?_
 unfold Bd Nr at hb
 obtain ⟨x1,x2,x3,x4,x5⟩:=wn6 (t:=c.1) (by omega) (by omega)
 obtain ⟨y1,y2,y3,y4,y5⟩:=wn6 (t:=c.2.1) (by omega) (by omega)
 obtain ⟨z1,z2,z3,z4,z5⟩:=wn6 (t:=c.2.2) (by omega) (by omega)
 try simp only [x1,x2,x3,x4,x5,y1,y2,y3,y4,y5,z1,z2,z3,z4,z5]
 exact h
theorem chain82_15 {R:V→Prop} (h:R (chB 3 3)):K0G Tryz.prog glX 82 [iv 15] R:=K0_by hmX hcT 3000 Tryz.func82 (p:=R (chB 3 3)) (by kernel_rfl) h
theorem turned100_15 {c:Cl} {R:V→Prop} (hb:Bd 3000 c) (h:R (.agg (clr (tn 15 c)))):K0G Tryz.prog glX 100 [.agg (clr c),iv 15] R:=by
 refine K0_by hmX hcV 3000 Tryz.func100 (p:=R (V.agg [iv (IntKind.i64.wrap (0 - (IntKind.i64.wrap (0 - c.2.1)))),iv (IntKind.i64.wrap (0 - (IntKind.i64.wrap (0 - c.2.2)))),iv (IntKind.i64.wrap (0 - (IntKind.i64.wrap (0 - c.1))))])) (by kernel_rfl) ?_
 unfold Bd Nr at hb
 obtain ⟨x1,x2,x3,x4,x5⟩:=wn6 (t:=c.1) (by omega) (by omega)
 obtain ⟨y1,y2,y3,y4,y5⟩:=wn6 (t:=c.2.1) (by omega) (by omega)
 obtain ⟨z1,z2,z3,z4,z5⟩:=wn6 (t:=c.2.2) (by omega) (by omega)
 try simp only [x1,x2,x3,x4,x5,y1,y2,y3,y4,y5,z1,z2,z3,z4,z5]
 exact h
theorem cell85_16 {c:Cl} {R:V→Prop} (hb:Bd 3000 c) (h:R (.agg (clr (tn 16 c)))):K0G Tryz.prog glX 85 [(chC 0 1),.agg (clr c)] R:=by
 refine K0_by hmX hcT 3000 Tryz.func85 (p:=R (V.agg [iv (IntKind.i64.wrap (0 - (IntKind.i64.wrap (0 - c.2.2)))),iv c.1,iv c.2.1])) (by kernel_rfl) ?_
 unfold Bd Nr at hb
 obtain ⟨x1,x2,x3,x4,x5⟩:=wn6 (t:=c.1) (by omega) (by omega)
 obtain ⟨y1,y2,y3,y4,y5⟩:=wn6 (t:=c.2.1) (by omega) (by omega)
 obtain ⟨z1,z2,z3,z4,z5⟩:=wn6 (t:=c.2.2) (by omega) (by omega)
 try simp only [x1,x2,x3,x4,x5,y1,y2,y3,y4,y5,z1,z2,z3,z4,z5]
 exact h
theorem chain82_16 {R:V→Prop} (h:R (chC 0 1)):K0G Tryz.prog glX 82 [iv 16] R:=K0_by hmX hcT 3000 Tryz.func82 (p:=R (chC 0 1)) (by kernel_rfl) h
theorem turned100_16 {c:Cl} {R:V→Prop} (hb:Bd 3000 c) (h:R (.agg (clr (tn 16 c)))):K0G Tryz.prog glX 100 [.agg (clr c),iv 16] R:=by
 refine K0_by hmX hcV 3000 Tryz.func100 (p:=R (V.agg [iv (IntKind.i64.wrap (0 - (IntKind.i64.wrap (0 - c.2.2)))),iv c.1,iv c.2.1])) (by kernel_rfl) ?_
 unfold Bd Nr at hb
 obtain ⟨x1,x2,x3,x4,x5⟩:=wn6 (t:=c.1) (by omega) (by omega)
 obtain ⟨y1,y2,y3,y4,y5⟩:=wn6 (t:=c.2.1) (by omega) (by omega)
 obtain ⟨z1,z2,z3,z4,z5⟩:=wn6 (t:=c.2.2) (by omega) (by omega)
 try simp only [x1,x2,x3,x4,x5,y1,y2,y3,y4,y5,z1,z2,z3,z4,z5]
 exact h
theorem cell85_17 {c:Cl} {R:V→Prop} (hb:Bd 3000 c) (h:R (.agg (clr (tn 17 c)))):K0G Tryz.prog glX 85 [(chC 1 1),.agg (clr c)] R:=by
 refine K0_by hmX hcT 3000 Tryz.func85 (p:=R (V.agg [iv (IntKind.i64.wrap (0 - (IntKind.i64.wrap (0 - c.2.2)))),iv (IntKind.i64.wrap (0 - c.2.1)),iv c.1])) (by kernel_rfl) ?_
 unfold Bd Nr at hb
 obtain ⟨x1,x2,x3,x4,x5⟩:=wn6 (t:=c.1) (by omega) (by omega)
 obtain ⟨y1,y2,y3,y4,y5⟩:=wn6 (t:=c.2.1) (by omega) (by omega)
 obtain ⟨z1,z2,z3,z4,z5⟩:=wn6 (t:=c.2.2) (by omega) (by omega)
 try simp only [x1,x2,x3,x4,x5,y1,y2,y3,y4,y5,z1,z2,z3,z4,z5]
 exact h
theorem chain82_17 {R:V→Prop} (h:R (chC 1 1)):K0G Tryz.prog glX 82 [iv 17] R:=K0_by hmX hcT 3000 Tryz.func82 (p:=R (chC 1 1)) (by kernel_rfl) h
theorem turned100_17 {c:Cl} {R:V→Prop} (hb:Bd 3000 c) (h:R (.agg (clr (tn 17 c)))):K0G Tryz.prog glX 100 [.agg (clr c),iv 17] R:=by
 refine K0_by hmX hcV 3000 Tryz.func100 (p:=R (V.agg [iv (IntKind.i64.wrap (0 - (IntKind.i64.wrap (0 - c.2.2)))),iv (IntKind.i64.wrap (0 - c.2.1)),iv c.1])) (by kernel_rfl) ?_
 unfold Bd Nr at hb
 obtain ⟨x1,x2,x3,x4,x5⟩:=wn6 (t:=c.1) (by omega) (by omega)
 obtain ⟨y1,y2,y3,y4,y5⟩:=wn6 (t:=c.2.1) (by omega) (by omega)
 obtain ⟨z1,z2,z3,z4,z5⟩:=wn6 (t:=c.2.2) (by omega) (by omega)
 try simp only [x1,x2,x3,x4,x5,y1,y2,y3,y4,y5,z1,z2,z3,z4,z5]
 exact h
theorem cell85_18 {c:Cl} {R:V→Prop} (hb:Bd 3000 c) (h:R (.agg (clr (tn 18 c)))):K0G Tryz.prog glX 85 [(chC 2 1),.agg (clr c)] R:=by
 refine K0_by hmX hcT 3000 Tryz.func85 (p:=R (V.agg [iv (IntKind.i64.wrap (0 - (IntKind.i64.wrap (0 - c.2.2)))),iv (IntKind.i64.wrap (0 - c.1)),iv (IntKind.i64.wrap (0 - c.2.1))])) (by kernel_rfl) ?_
 unfold Bd Nr at hb
 obtain ⟨x1,x2,x3,x4,x5⟩:=wn6 (t:=c.1) (by omega) (by omega)
 obtain ⟨y1,y2,y3,y4,y5⟩:=wn6 (t:=c.2.1) (by omega) (by omega)
 obtain ⟨z1,z2,z3,z4,z5⟩:=wn6 (t:=c.2.2) (by omega) (by omega)
 try simp only [x1,x2,x3,x4,x5,y1,y2,y3,y4,y5,z1,z2,z3,z4,z5]
 exact h
theorem chain82_18 {R:V→Prop} (h:R (chC 2 1)):K0G Tryz.prog glX 82 [iv 18] R:=K0_by hmX hcT 3000 Tryz.func82 (p:=R (chC 2 1)) (by kernel_rfl) h
theorem turned100_18 {c:Cl} {R:V→Prop} (hb:Bd 3000 c) (h:R (.agg (clr (tn 18 c)))):K0G Tryz.prog glX 100 [.agg (clr c),iv 18] R:=by
 refine K0_by hmX hcV 3000 Tryz.func100 (p:=R (V.agg [iv (IntKind.i64.wrap (0 - (IntKind.i64.wrap (0 - c.2.2)))),iv (IntKind.i64.wrap (0 - c.1)),iv (IntKind.i64.wrap (0 - c.2.1))])) (by kernel_rfl) ?_
 unfold Bd Nr at hb
 obtain ⟨x1,x2,x3,x4,x5⟩:=wn6 (t:=c.1) (by omega) (by omega)
 obtain ⟨y1,y2,y3,y4,y5⟩:=wn6 (t:=c.2.1) (by omega) (by omega)
 obtain ⟨z1,z2,z3,z4,z5⟩:=wn6 (t:=c.2.2) (by omega) (by omega)
 try simp only [x1,x2,x3,x4,x5,y1,y2,y3,y4,y5,z1,z2,z3,z4,z5]
 exact h
theorem cell85_19 {c:Cl} {R:V→Prop} (hb:Bd 3000 c) (h:R (.agg (clr (tn 19 c)))):K0G Tryz.prog glX 85 [(chC 3 1),.agg (clr c)] R:=by
 refine K0_by hmX hcT 3000 Tryz.func85 (p:=R (V.agg [iv (IntKind.i64.wrap (0 - (IntKind.i64.wrap (0 - c.2.2)))),iv (IntKind.i64.wrap (0 - (IntKind.i64.wrap (0 - c.2.1)))),iv (IntKind.i64.wrap (0 - c.1))])) (by kernel_rfl) ?_
 unfold Bd Nr at hb
 obtain ⟨x1,x2,x3,x4,x5⟩:=wn6 (t:=c.1) (by omega) (by omega)
 obtain ⟨y1,y2,y3,y4,y5⟩:=wn6 (t:=c.2.1) (by omega) (by omega)
 obtain ⟨z1,z2,z3,z4,z5⟩:=wn6 (t:=c.2.2) (by omega) (by omega)
 try simp only [x1,x2,x3,x4,x5,y1,y2,y3,y4,y5,z1,z2,z3,z4,z5]
 exact h
theorem chain82_19 {R:V→Prop} (h:R (chC 3 1)):K0G Tryz.prog glX 82 [iv 19] R:=K0_by hmX hcT 3000 Tryz.func82 (p:=R (chC 3 1)) (by kernel_rfl) h
theorem turned100_19 {c:Cl} {R:V→Prop} (hb:Bd 3000 c) (h:R (.agg (clr (tn 19 c)))):K0G Tryz.prog glX 100 [.agg (clr c),iv 19] R:=by
 refine K0_by hmX hcV 3000 Tryz.func100 (p:=R (V.agg [iv (IntKind.i64.wrap (0 - (IntKind.i64.wrap (0 - c.2.2)))),iv (IntKind.i64.wrap (0 - (IntKind.i64.wrap (0 - c.2.1)))),iv (IntKind.i64.wrap (0 - c.1))])) (by kernel_rfl) ?_
 unfold Bd Nr at hb
 obtain ⟨x1,x2,x3,x4,x5⟩:=wn6 (t:=c.1) (by omega) (by omega)
 obtain ⟨y1,y2,y3,y4,y5⟩:=wn6 (t:=c.2.1) (by omega) (by omega)
 obtain ⟨z1,z2,z3,z4,z5⟩:=wn6 (t:=c.2.2) (by omega) (by omega)
 try simp only [x1,x2,x3,x4,x5,y1,y2,y3,y4,y5,z1,z2,z3,z4,z5]
 exact h
theorem cell85_20 {c:Cl} {R:V→Prop} (hb:Bd 3000 c) (h:R (.agg (clr (tn 20 c)))):K0G Tryz.prog glX 85 [(chC 0 3),.agg (clr c)] R:=by
 refine K0_by hmX hcT 3000 Tryz.func85 (p:=R (V.agg [iv (IntKind.i64.wrap (0 - (IntKind.i64.wrap (0 - (IntKind.i64.wrap (0 - c.2.2)))))),iv (IntKind.i64.wrap (0 - c.1)),iv c.2.1])) (by kernel_rfl) ?_
 unfold Bd Nr at hb
 obtain ⟨x1,x2,x3,x4,x5⟩:=wn6 (t:=c.1) (by omega) (by omega)
 obtain ⟨y1,y2,y3,y4,y5⟩:=wn6 (t:=c.2.1) (by omega) (by omega)
 obtain ⟨z1,z2,z3,z4,z5⟩:=wn6 (t:=c.2.2) (by omega) (by omega)
 try simp only [x1,x2,x3,x4,x5,y1,y2,y3,y4,y5,z1,z2,z3,z4,z5]
 exact h
theorem chain82_20 {R:V→Prop} (h:R (chC 0 3)):K0G Tryz.prog glX 82 [iv 20] R:=K0_by hmX hcT 3000 Tryz.func82 (p:=R (chC 0 3)) (by kernel_rfl) h
theorem turned100_20 {c:Cl} {R:V→Prop} (hb:Bd 3000 c) (h:R (.agg (clr (tn 20 c)))):K0G Tryz.prog glX 100 [.agg (clr c),iv 20] R:=by
 refine K0_by hmX hcV 3000 Tryz.func100 (p:=R (V.agg [iv (IntKind.i64.wrap (0 - (IntKind.i64.wrap (0 - (IntKind.i64.wrap (0 - c.2.2)))))),iv (IntKind.i64.wrap (0 - c.1)),iv c.2.1])) (by kernel_rfl) ?_
 unfold Bd Nr at hb
 obtain ⟨x1,x2,x3,x4,x5⟩:=wn6 (t:=c.1) (by omega) (by omega)
 obtain ⟨y1,y2,y3,y4,y5⟩:=wn6 (t:=c.2.1) (by omega) (by omega)
 obtain ⟨z1,z2,z3,z4,z5⟩:=wn6 (t:=c.2.2) (by omega) (by omega)
 try simp only [x1,x2,x3,x4,x5,y1,y2,y3,y4,y5,z1,z2,z3,z4,z5]
 exact h
theorem cell85_21 {c:Cl} {R:V→Prop} (hb:Bd 3000 c) (h:R (.agg (clr (tn 21 c)))):K0G Tryz.prog glX 85 [(chC 1 3),.agg (clr c)] R:=by
 refine K0_by hmX hcT 3000 Tryz.func85 (p:=R (V.agg [iv (IntKind.i64.wrap (0 - (IntKind.i64.wrap (0 - (IntKind.i64.wrap (0 - c.2.2)))))),iv (IntKind.i64.wrap (0 - (IntKind.i64.wrap (0 - c.2.1)))),iv c.1])) (by kernel_rfl) ?_
 unfold Bd Nr at hb
 obtain ⟨x1,x2,x3,x4,x5⟩:=wn6 (t:=c.1) (by omega) (by omega)
 obtain ⟨y1,y2,y3,y4,y5⟩:=wn6 (t:=c.2.1) (by omega) (by omega)
 obtain ⟨z1,z2,z3,z4,z5⟩:=wn6 (t:=c.2.2) (by omega) (by omega)
 try simp only [x1,x2,x3,x4,x5,y1,y2,y3,y4,y5,z1,z2,z3,z4,z5]
 exact h
theorem chain82_21 {R:V→Prop} (h:R (chC 1 3)):K0G Tryz.prog glX 82 [iv 21] R:=K0_by hmX hcT 3000 Tryz.func82 (p:=R (chC 1 3)) (by kernel_rfl) h
theorem turned100_21 {c:Cl} {R:V→Prop} (hb:Bd 3000 c) (h:R (.agg (clr (tn 21 c)))):K0G Tryz.prog glX 100 [.agg (clr c),iv 21] R:=by
 refine K0_by hmX hcV 3000 Tryz.func100 (p:=R (V.agg [iv (IntKind.i64.wrap (0 - (IntKind.i64.wrap (0 - (IntKind.i64.wrap (0 - c.2.2)))))),iv (IntKind.i64.wrap (0 - (IntKind.i64.wrap (0 - c.2.1)))),iv c.1])) (by kernel_rfl) ?_
 unfold Bd Nr at hb
 obtain ⟨x1,x2,x3,x4,x5⟩:=wn6 (t:=c.1) (by omega) (by omega)
 obtain ⟨y1,y2,y3,y4,y5⟩:=wn6 (t:=c.2.1) (by omega) (by omega)
 obtain ⟨z1,z2,z3,z4,z5⟩:=wn6 (t:=c.2.2) (by omega) (by omega)
 try simp only [x1,x2,x3,x4,x5,y1,y2,y3,y4,y5,z1,z2,z3,z4,z5]
 exact h
theorem cell85_22 {c:Cl} {R:V→Prop} (hb:Bd 3000 c) (h:R (.agg (clr (tn 22 c)))):K0G Tryz.prog glX 85 [(chC 2 3),.agg (clr c)] R:=by
 refine K0_by hmX hcT 3000 Tryz.func85 (p:=R (V.agg [iv (IntKind.i64.wrap (0 - (IntKind.i64.wrap (0 - (IntKind.i64.wrap (0 - c.2.2)))))),iv (IntKind.i64.wrap (0 - (IntKind.i64.wrap (0 - c.1)))),iv (IntKind.i64.wrap (0 - c.2.1))])) (by kernel_rfl) ?_
 unfold Bd Nr at hb
 obtain ⟨x1,x2,x3,x4,x5⟩:=wn6 (t:=c.1) (by omega) (by omega)
 obtain ⟨y1,y2,y3,y4,y5⟩:=wn6 (t:=c.2.1) (by omega) (by omega)
 obtain ⟨z1,z2,z3,z4,z5⟩:=wn6 (t:=c.2.2) (by omega) (by omega)
 try simp only [x1,x2,x3,x4,x5,y1,y2,y3,y4,y5,z1,z2,z3,z4,z5]
 exact h
theorem chain82_22 {R:V→Prop} (h:R (chC 2 3)):K0G Tryz.prog glX 82 [iv 22] R:=K0_by hmX hcT 3000 Tryz.func82 (p:=R (chC 2 3)) (by kernel_rfl) h
theorem turned100_22 {c:Cl} {R:V→Prop} (hb:Bd 3000 c) (h:R (.agg (clr (tn 22 c)))):K0G Tryz.prog glX 100 [.agg (clr c),iv 22] R:=by
 refine K0_by hmX hcV 3000 Tryz.func100 (p:=R (V.agg [iv (IntKind.i64.wrap (0 - (IntKind.i64.wrap (0 - (IntKind.i64.wrap (0 - c.2.2)))))),iv (IntKind.i64.wrap (0 - (IntKind.i64.wrap (0 - c.1)))),iv (IntKind.i64.wrap (0 - c.2.1))])) (by kernel_rfl) ?_
 unfold Bd Nr at hb
 obtain ⟨x1,x2,x3,x4,x5⟩:=wn6 (t:=c.1) (by omega) (by omega)
 obtain ⟨y1,y2,y3,y4,y5⟩:=wn6 (t:=c.2.1) (by omega) (by omega)
 obtain ⟨z1,z2,z3,z4,z5⟩:=wn6 (t:=c.2.2) (by omega) (by omega)
 try simp only [x1,x2,x3,x4,x5,y1,y2,y3,y4,y5,z1,z2,z3,z4,z5]
 exact h
theorem cell85_23 {c:Cl} {R:V→Prop} (hb:Bd 3000 c) (h:R (.agg (clr (tn 23 c)))):K0G Tryz.prog glX 85 [(chC 3 3),.agg (clr c)] R:=by
 refine K0_by hmX hcT 3000 Tryz.func85 (p:=R (V.agg [iv (IntKind.i64.wrap (0 - (IntKind.i64.wrap (0 - (IntKind.i64.wrap (0 - c.2.2)))))),iv (IntKind.i64.wrap (0 - (IntKind.i64.wrap (0 - (IntKind.i64.wrap (0 - c.2.1)))))),iv (IntKind.i64.wrap (0 - c.1))])) (by kernel_rfl) ?_
 unfold Bd Nr at hb
 obtain ⟨x1,x2,x3,x4,x5⟩:=wn6 (t:=c.1) (by omega) (by omega)
 obtain ⟨y1,y2,y3,y4,y5⟩:=wn6 (t:=c.2.1) (by omega) (by omega)
 obtain ⟨z1,z2,z3,z4,z5⟩:=wn6 (t:=c.2.2) (by omega) (by omega)
 try simp only [x1,x2,x3,x4,x5,y1,y2,y3,y4,y5,z1,z2,z3,z4,z5]
 exact h
theorem chain82_23 {R:V→Prop} (h:R (chC 3 3)):K0G Tryz.prog glX 82 [iv 23] R:=K0_by hmX hcT 3000 Tryz.func82 (p:=R (chC 3 3)) (by kernel_rfl) h
theorem turned100_23 {c:Cl} {R:V→Prop} (hb:Bd 3000 c) (h:R (.agg (clr (tn 23 c)))):K0G Tryz.prog glX 100 [.agg (clr c),iv 23] R:=by
 refine K0_by hmX hcV 3000 Tryz.func100 (p:=R (V.agg [iv (IntKind.i64.wrap (0 - (IntKind.i64.wrap (0 - (IntKind.i64.wrap (0 - c.2.2)))))),iv (IntKind.i64.wrap (0 - (IntKind.i64.wrap (0 - (IntKind.i64.wrap (0 - c.2.1)))))),iv (IntKind.i64.wrap (0 - c.1))])) (by kernel_rfl) ?_
 unfold Bd Nr at hb
 obtain ⟨x1,x2,x3,x4,x5⟩:=wn6 (t:=c.1) (by omega) (by omega)
 obtain ⟨y1,y2,y3,y4,y5⟩:=wn6 (t:=c.2.1) (by omega) (by omega)
 obtain ⟨z1,z2,z3,z4,z5⟩:=wn6 (t:=c.2.2) (by omega) (by omega)
 try simp only [x1,x2,x3,x4,x5,y1,y2,y3,y4,y5,z1,z2,z3,z4,z5]
 exact h
def ch (n:Nat):V:=if n / 4<1 then chA (n % 4:Nat) else if n / 4<4 then chB (n % 4:Nat) (n / 4:Nat) else chC (n % 4:Nat) (if n / 4=4 then 1 else 3)
theorem cell85 {c:Cl} {R:V→Prop} (hb:Bd 3000 c) : ∀ n:Nat,n<24→R (.agg (clr (tn n c)))→K0G Tryz.prog glX 85 [ch n,.agg (clr c)] R
 | 0,_=>fun h=>cell85_0 hb h
 | 1,_=>fun h=>cell85_1 hb h
 | 2,_=>fun h=>cell85_2 hb h
 | 3,_=>fun h=>cell85_3 hb h
 | 4,_=>fun h=>cell85_4 hb h
 | 5,_=>fun h=>cell85_5 hb h
 | 6,_=>fun h=>cell85_6 hb h
 | 7,_=>fun h=>cell85_7 hb h
 | 8,_=>fun h=>cell85_8 hb h
 | 9,_=>fun h=>cell85_9 hb h
 | 10,_=>fun h=>cell85_10 hb h
 | 11,_=>fun h=>cell85_11 hb h
 | 12,_=>fun h=>cell85_12 hb h
 | 13,_=>fun h=>cell85_13 hb h
 | 14,_=>fun h=>cell85_14 hb h
 | 15,_=>fun h=>cell85_15 hb h
 | 16,_=>fun h=>cell85_16 hb h
 | 17,_=>fun h=>cell85_17 hb h
 | 18,_=>fun h=>cell85_18 hb h
 | 19,_=>fun h=>cell85_19 hb h
 | 20,_=>fun h=>cell85_20 hb h
 | 21,_=>fun h=>cell85_21 hb h
 | 22,_=>fun h=>cell85_22 hb h
 | 23,_=>fun h=>cell85_23 hb h
 | n+24,h=>absurd h (by omega)
theorem chain82 {R:V→Prop} : ∀ n:Nat,n<24→R (ch n)→K0G Tryz.prog glX 82 [iv (n:Int)] R
 | 0,_=>fun h=>chain82_0 h
 | 1,_=>fun h=>chain82_1 h
 | 2,_=>fun h=>chain82_2 h
 | 3,_=>fun h=>chain82_3 h
 | 4,_=>fun h=>chain82_4 h
 | 5,_=>fun h=>chain82_5 h
 | 6,_=>fun h=>chain82_6 h
 | 7,_=>fun h=>chain82_7 h
 | 8,_=>fun h=>chain82_8 h
 | 9,_=>fun h=>chain82_9 h
 | 10,_=>fun h=>chain82_10 h
 | 11,_=>fun h=>chain82_11 h
 | 12,_=>fun h=>chain82_12 h
 | 13,_=>fun h=>chain82_13 h
 | 14,_=>fun h=>chain82_14 h
 | 15,_=>fun h=>chain82_15 h
 | 16,_=>fun h=>chain82_16 h
 | 17,_=>fun h=>chain82_17 h
 | 18,_=>fun h=>chain82_18 h
 | 19,_=>fun h=>chain82_19 h
 | 20,_=>fun h=>chain82_20 h
 | 21,_=>fun h=>chain82_21 h
 | 22,_=>fun h=>chain82_22 h
 | 23,_=>fun h=>chain82_23 h
 | n+24,h=>absurd h (by omega)
theorem turned100 {c:Cl} {R:V→Prop} (hb:Bd 3000 c) : ∀ n:Nat,n<24→R (.agg (clr (tn n c)))→K0G Tryz.prog glX 100 [.agg (clr c),iv (n:Int)] R
 | 0,_=>fun h=>turned100_0 hb h
 | 1,_=>fun h=>turned100_1 hb h
 | 2,_=>fun h=>turned100_2 hb h
 | 3,_=>fun h=>turned100_3 hb h
 | 4,_=>fun h=>turned100_4 hb h
 | 5,_=>fun h=>turned100_5 hb h
 | 6,_=>fun h=>turned100_6 hb h
 | 7,_=>fun h=>turned100_7 hb h
 | 8,_=>fun h=>turned100_8 hb h
 | 9,_=>fun h=>turned100_9 hb h
 | 10,_=>fun h=>turned100_10 hb h
 | 11,_=>fun h=>turned100_11 hb h
 | 12,_=>fun h=>turned100_12 hb h
 | 13,_=>fun h=>turned100_13 hb h
 | 14,_=>fun h=>turned100_14 hb h
 | 15,_=>fun h=>turned100_15 hb h
 | 16,_=>fun h=>turned100_16 hb h
 | 17,_=>fun h=>turned100_17 hb h
 | 18,_=>fun h=>turned100_18 hb h
 | 19,_=>fun h=>turned100_19 hb h
 | 20,_=>fun h=>turned100_20 hb h
 | 21,_=>fun h=>turned100_21 hb h
 | 22,_=>fun h=>turned100_22 hb h
 | 23,_=>fun h=>turned100_23 hb h
 | n+24,h=>absurd h (by omega)
end Go.Proofs.YtbionhgjgcpogaaGreatDoor
