/- A part of the proof. -/
import Derived.Test.YtbionhgjgcpogaaGreatDoorXP4G19
namespace Go.Proofs.YtbionhgjgcpogaaGreatDoor
open Go Go.Proofs.YtbionhgjgcpogaaGreatDoor.Clean
set_option linter.unusedVariables false
set_option linter.unusedSimpArgs false
set_option maxRecDepth 10000
theorem beq_dc {x y:Int} {p:Prop} (h:x=y↔p):(x==y)=dc p:=by
 by_cases e:x=y
 ·rw [dc_t (h.1 e)]; simpa using e
 ·rw [dc_f (fun q=>e (h.2 q))]; simpa using e
theorem line141 {a b:Kn} {R:V→Prop} (ha:KnO a) (hb:KnO b) (h:R (bv (dc (OnLine b a)))):K0G Tryz.prog glX 141 [.agg (knr a),.agg (knr b)] R:=by
  refine K0_by hmX hcRR 3000 Tryz.func141 (p:=ifB (IntKind.u8.wrap (a.2.1.tdiv (2:Int)) != IntKind.u8.wrap (b.2.1.tdiv (2:Int))) (R (bv false)) (ifB (IntKind.u8.wrap (a.2.1.tdiv (2:Int))==(0:Int)) (ifB (IntKind.u8.wrap (a.2.1.tdiv (2:Int))==(1:Int)) (ifB (IntKind.u8.wrap (a.2.1.tdiv (2:Int))==(2:Int)) (R (bv true)) (R (bv (a.1.2.2==b.1.2.2)))) (ifB (a.1.2.1==b.1.2.1) (ifB (IntKind.u8.wrap (a.2.1.tdiv (2:Int))==(2:Int)) (R (bv true)) (R (bv (a.1.2.2==b.1.2.2)))) (R (bv false)))) (ifB (a.1.1==b.1.1) (ifB (IntKind.u8.wrap (a.2.1.tdiv (2:Int))==(1:Int)) (ifB (IntKind.u8.wrap (a.2.1.tdiv (2:Int))==(2:Int)) (R (bv true)) (R (bv (a.1.2.2==b.1.2.2)))) (ifB (a.1.2.1==b.1.2.1) (ifB (IntKind.u8.wrap (a.2.1.tdiv (2:Int))==(2:Int)) (R (bv true)) (R (bv (a.1.2.2==b.1.2.2)))) (R (bv false)))) (R (bv false))))) (by kernel_rfl) ?_
  have a1:=ha.1
  have b1:=hb.1
  rw [half8 a1.1 a1.2,half8 b1.1 b1.2]
  refine ifB_mk (fun c=>rf h (fun q=>by have:=q.1; simp at c; omega)) (fun c=>?_)
  have e : b.2.1 / 2 = a.2.1 / 2 := by have : a.2.1 / 2 = b.2.1 / 2 := by simpa using c
                                       omega
  have hd:a.2.1 / 2=0∨a.2.1 / 2=1∨a.2.1 / 2=2:=by omega
  rcases hd with hd | hd | hd
  · have hq:OnLine b a↔b.1.2.1=a.1.2.1∧b.1.2.2=a.1.2.2:=by
      unfold OnLine acr
      rw [e,hd]
      simp
    rw [hd]
    refine ifB_t rfl (ifB_f rfl (ifB_mk (fun c1=>ifB_f rfl ?_) (fun c1=>rf h (fun q=>by have:=(hq.1 q).1; rw [this] at c1; simp at c1))))
    have c1:a.1.2.1=b.1.2.1:=by simpa using c1
    rw [beq_dc (p:=OnLine b a) (by rw [hq]; exact ⟨fun x=>⟨c1.symm,x.symm⟩,fun x=>x.2.symm⟩)]
    exact h
  · have hq:OnLine b a↔b.1.1=a.1.1∧b.1.2.2=a.1.2.2:=by
      unfold OnLine acr
      rw [e,hd]
      simp
    rw [hd]
    refine ifB_f rfl (ifB_mk (fun c1=>ifB_t rfl (ifB_f rfl ?_)) (fun c1=>rf h (fun q=>by have:=(hq.1 q).1; rw [this] at c1; simp at c1)))
    have c1:a.1.1=b.1.1:=by simpa using c1
    rw [beq_dc (p:=OnLine b a) (by rw [hq]; exact ⟨fun x=>⟨c1.symm,x.symm⟩,fun x=>x.2.symm⟩)]
    exact h
  · have hq:OnLine b a↔b.1.1=a.1.1∧b.1.2.1=a.1.2.1:=by
      unfold OnLine acr
      rw [e,hd]
      simp
    rw [hd]
    refine ifB_f rfl (ifB_mk (fun c1=>ifB_f rfl (ifB_mk (fun c2=>ifB_t rfl ?_) (fun c2=>rf h (fun q=>by have:=(hq.1 q).2; rw [this] at c2; simp at c2)))) (fun c1=>rf h (fun q=>by have:=(hq.1 q).1; rw [this] at c1; simp at c1)))
    exact rt h (hq.2 ⟨by have : a.1.1 = b.1.1 := by simpa using c1
                         exact this.symm, by have : a.1.2.1 = b.1.2.1 := by simpa using c2
                                             exact this.symm⟩)
theorem onLine_meet {k o f:Kn} (hk:KnO k) (hm:MeetP k o) (h:OnLine k f):OnLine o f:=by
 obtain ⟨⟨k1,k2,k3⟩,d,s⟩:=k
 obtain ⟨⟨o1,o2,o3⟩,e,t⟩:=o
 obtain ⟨⟨h1,h2⟩,_⟩:=hk
 obtain ⟨m1,m2,_⟩:=hm
 simp only at h1 h2 m1 m2
 have hd:d=0∨d=1∨d=2∨d=3∨d=4∨d=5:=by omega
 unfold OnLine at h ⊢
 refine ⟨?_,Eq.trans ?_ h.2⟩
 ·rw [← h.1]
  simp only
  rw [m2]
  unfold opp
  split <;> omega
 ·rcases hd with rfl | rfl | rfl | rfl | rfl | rfl <;> (simp [fc,addC,stp,stpL] at m1; simp [opp] at m2; simp [acr,m2,← m1])
theorem strong140 {s:Int} {R:V→Prop} (hs:s=1∨s=3∨s=5) (h:R (iv (strS s))):K0G Tryz.prog glX 140 [u8 s] R:=by
 refine K0_by hmX hcRR 3000 Tryz.func140 (p:=onNat s fun m=>need (m<6) (onSome [[iv (0:Int)],[iv (2:Int)],[iv (0:Int)],[iv (3:Int)],[iv (0:Int)],[iv (5:Int)]][0+m]? fun row=>onSome row[0]? fun v=>onIntK IntKind.i64 v fun n=>R (iv n))) (by kernel_rfl) ?_
 rcases hs with rfl | rfl | rfl
 ·exact onNat_mk (m:=1) rfl (need_mk ⟨by omega,h⟩)
 ·exact onNat_mk (m:=3) rfl (need_mk ⟨by omega,h⟩)
 ·exact onNat_mk (m:=5) rfl (need_mk ⟨by omega,h⟩)
theorem fit_mn {a b:Int} (a1:1≤a) (a6:a≤6) (b1:1≤b) (b6:b≤6) (h:FitS a b):mn b a=1∨mn b a=3∨mn b a=5:=by
 unfold FitS at h
 unfold mn
 split <;> omega
noncomputable def axS (y:List Kn) (k:Kn) (M:List Lk):Int:=if dc (∀ z∈M,OnLine (kAt y z) k)=true then k.2.1 / 2+1 else 0
theorem axS_yes {y:List Kn} {k:Kn} {L:List Lk} {i:Nat} {z:Lk} (hz:L[i]? = some z) (h:OnLine (kAt y z) k):axS y k (L.take (i+1))=axS y k (L.take i):=by
 unfold axS
 rw [dc_iff (q := ∀ z∈L.take i,OnLine (kAt y z) k) ⟨fun q w hw=>q w (by rw [take_succ' hz]; exact List.mem_append.2 (.inl hw)),fun q=>all_take hz q h⟩]
theorem axS_no {y:List Kn} {k:Kn} {L:List Lk} {i:Nat} {z:Lk} (hz:L[i]? = some z) (h : ¬ OnLine (kAt y z) k):axS y k (L.take (i+1))=0:=by
 unfold axS
 rw [dc_f (fun q=>h (q z (by rw [take_succ' hz]; simp))),if_neg (by simp)]
theorem is5 {s:Nat} {y:List Kn} {p:Nat} {k:Kn} (h:s=5∨y=[]) (hk:y[p]? = some k):s=5:=by
 rcases h with h | h
 ·exact h
 ·rw [h] at hk; simp at hk
set_option maxHeartbeats 2000000 in
theorem joined119 {l:List Kd} {m:List Bk} {L:List Lk} {x:Lk} {a b:Nat} {R:V→Prop} (hl : ∀ q∈l,KdR q) (hr : ∀ b∈m,BkR b) (hA:AskM l m) (hx:L[0]? = some x) (hL : ∀ z∈L, ∃ i j k o,LkP (bods l m) z a b i j k o) (hlen:L.length≤1000000000) (h:R (.agg (jtr (joF (bods l m) L)))):K0G Tryz.prog glX 119 [.lst 3 (kdl l),.agg [.lst 6 (bkl m)],.lst 5 (lkl L)] R:=by
 have hhd:L.headD lk0=x:=by
  cases L with
  | nil=>simp at hx
  | cons a L=>simp at hx; subst hx; rfl
 have hB:=bod_ok hl hr hA
 obtain ⟨i0,j0,f,o0,hLx⟩:=hL x (mem_at hx)
 obtain ⟨x1,x2,x3,x4,x5,x6⟩:=id hLx
 have xa:x.1=(a:Int):=by rw [x6]
 have xb:x.2.1=(b:Int):=by rw [x6]
 rw [bods_length] at x2
 obtain ⟨ba,hma⟩:=getI (l:=m) (k:=a) (by omega)
 obtain ⟨bb,hmb⟩:=getI (l:=m) (k:=b) (by omega)
 obtain ⟨hPa,_,_,_⟩:=putK hA.kinds hl (hA.all ba (mem_at hma)) (hr ba (mem_at hma))
 obtain ⟨hPb,_,_,_⟩:=putK hA.kinds hl (hA.all bb (mem_at hmb)) (hr bb (mem_at hmb))
 have kOK : ∀ {v:Nat} {i:Nat} {k:Kn},(knobsAt (bods l m) v)[i]? = some k→KnO k:=fun {v i k} hk=>by
  obtain ⟨y,hy,hyk⟩:=knobsAt_mem hk
  exact hB.ko y (mem_at hy) k (mem_at hyk)
 have hfO:=kOK x3
 rw [knobs_bods hma] at x3
 obtain ⟨y,hy⟩ : ∃ y,y=knb (kOf l ba) ba.2.2.1.toNat ba.2.1:=⟨_,rfl⟩
 have kat : ∀ z∈L, ∀ {i j k o},LkP (bods l m) z a b i j k o→kAt y z=k:=fun z hz i j k o hz2=>by
  obtain ⟨z1,z2,z3,z4,z5,z6⟩:=hz2
  rw [knobs_bods hma,← hy] at z3
  unfold kAt
  rw [z6]
  simp only [Int.toNat_natCast]
  rw [z3]
  rfl
 have hfx:kAt y x=f:=kat x (mem_at hx) hLx
 refine K0_by hmX hcRR 3000 Tryz.func119 (p:=onSome (lkl L)[0]? fun row=>onCons (List.drop 0 row) fun u r=>onIntK IntKind.i64 u fun n=>onCons r fun u r=>onIntK IntKind.i64 u fun n_1=>onCons r fun u r=>onIntK IntKind.i64 u fun n_2=>onCons r fun u r=>onIntK IntKind.i64 u fun n_3=>onCons r fun u r=>onIntK IntKind.u8 u fun n_4=>onNat n fun m_1=>onSome (bkl m)[m_1]? fun row=>onCons (List.drop 0 row) fun u r=>onIntK IntKind.i64 u fun n_5=>onCons r fun u r=>onIntK IntKind.i64 u fun n_6=>onCons r fun u r=>onIntK IntKind.i64 u fun n_7=>onCons r fun u r=>onIntK IntKind.i64 u fun n_8=>onCons r fun u r=>onIntK IntKind.u8 u fun n_9=>onCons r fun u r=>onIntK IntKind.u8 u fun n_10=>K0G Tryz.prog glX 60 [V.lst 3 (kdl l),V.agg [iv n_5,iv n_6,iv n_7,iv n_8,V.raw (Value.int IntKind.u8 n_9),V.raw (Value.int IntKind.u8 n_10)]] fun v=>onLst v fun s es=>onNat n_2 fun m_2=>need (s=5) (onSome es[m_2]? fun row=>onCons (List.drop 0 row) fun u r=>onIntK IntKind.i64 u fun n_11=>onCons r fun u r=>onIntK IntKind.i64 u fun n_12=>onCons r fun u r=>onIntK IntKind.i64 u fun n_13=>onCons r fun u r=>onIntK IntKind.u8 u fun n_14=>onCons r fun u r=>onIntK IntKind.u8 u fun n_15=>La 0 [(0:Tmp),(2:Tmp),(4:Tmp),(6:Tmp),(7:Tmp),(8:Tmp),(9:Tmp),(10:Tmp)] (WY Tryz.prog cfRR 2992 (Env.mk (Bs.mk 0 []) 0 none 110 119 0) (cdAt [1,1,1,1,0,1,0,0] (bodyOf Tryz.f119))) (Qblk 0 (Qthen (WY Tryz.prog cfRR 2995 (Env.mk (Bs.mk 0 []) 0 none 110 119 0) (cdAt [1,1,1,1,1] (bodyOf Tryz.f119)) (QendX Tryz.prog Tryz.f119 fun v h=>R (frzW h v))) (QendX Tryz.prog Tryz.f119 fun v h=>R (frzW h v)))) (St.mk (mkT [(0,V.lst 3 (kdl l)),(2,V.lst 5 (lkl L)),(4,V.ptr (Id.p 0) 0 0),(6,V.ptr (Id.p 1) 0 0),(7,V.ptr (Id.p 2) 0 0),(8,V.ptr (Id.p 3) 0 0),(9,V.ptr (Id.p 4) 0 0),(10,iv (0:Int))]) (Hp.mk [(0,O.rows 1 false [[V.lst 6 (bkl m)]]),(1,O.rows 5 false [[iv (0:Int),iv (0:Int),iv (0:Int),V.raw (Value.int IntKind.u8 (0:Int)),bv false]]),(2,O.rows 5 false [[iv n,iv n_1,iv n_2,iv n_3,V.raw (Value.int IntKind.u8 n_4)]]),(3,O.rows 5 false [[iv n_11,iv n_12,iv n_13,V.raw (Value.int IntKind.u8 n_14),V.raw (Value.int IntKind.u8 n_15)]]),(4,O.rows 5 false [[iv n,iv n_1,iv (0:Int),V.raw (Value.int IntKind.u8 (IntKind.u8.wrap (IntKind.u8.wrap (n_14.tdiv (2:Int))+(1:Int)))),bv true]])] 5 [])))) (by kernel_rfl) ?_
 have hx2:x.2.2.1=(i0:Int):=by rw [x6]
 refine lel hx (onNat_mk (m:=a) xa (bel hma (knobbed60' (b:=ba) hPa (fun s5 hs5=>onNat_mk (m:=i0) hx2 (need_mk ⟨is5 hs5 x3,kel x3 ?_⟩)))))
 rw [half8 hfO.1.1 hfO.1.2,plus8 hfO.1.1 hfO.1.2]
 obtain ⟨s,hs⟩ : ∃ s,s=L.length:=⟨_,rfl⟩
 refine La.of (σ:=Nat×Jt) (fun t=>sh119 l m L x f t.2 t.1) (fun t=>t.1≤s∧t.2=(x.1,x.2.1,((L.take t.1).map fun x=>strS x.2.2.2.2).sum,axS y f (L.take t.1),dc (∀ z∈L.take t.1,z.2.2.2.2=3))) (fun t=>s - t.1) (0,(x.1,x.2.1,0,f.2.1 / 2+1,true)) rfl ⟨by simp only; omega,?_⟩ ?_
 ·simp only [List.take_zero,List.map_nil,List.sum_nil]
  unfold axS
  rw [dc_t (by simp),if_pos rfl,dc_t (by simp)]
 rintro ⟨i,j⟩ ⟨g1,g2⟩ J hJ
 simp only at g1 g2
 refine see (p:=ifB (decide ((↑i:Int)<(↑(lkl L).length:Int))) (onSome (lkl L)[i]? fun row=>onSome row[4]? fun v=>onIntK IntKind.u8 v fun n=>K0G Tryz.prog glX 140 [V.raw (Value.int IntKind.u8 n)] fun v=>onIntK IntKind.i64 v fun n=>ifB j.2.2.2.2 (onSome (lkl L)[i]? fun row=>onSome row[4]? fun v=>onIntK IntKind.u8 v fun n_1=>onNat x.1 fun m_1=>onSome (bkl m)[m_1]? fun row=>onCons (List.drop 0 row) fun u r=>onIntK IntKind.i64 u fun n_2=>onCons r fun u r=>onIntK IntKind.i64 u fun n_3=>onCons r fun u r=>onIntK IntKind.i64 u fun n_4=>onCons r fun u r=>onIntK IntKind.i64 u fun n_5=>onCons r fun u r=>onIntK IntKind.u8 u fun n_6=>onCons r fun u r=>onIntK IntKind.u8 u fun n_7=>onSome (lkl L)[i]? fun row=>onSome row[2]? fun v=>onIntK IntKind.i64 v fun n_8=>K0G Tryz.prog glX 60 [V.lst 3 (kdl l),V.agg [iv n_2,iv n_3,iv n_4,iv n_5,V.raw (Value.int IntKind.u8 n_6),V.raw (Value.int IntKind.u8 n_7)]] fun v=>onLst v fun s es=>onNat n_8 fun m_2=>need (s=5) (onSome es[m_2]? fun row=>onCons (List.drop 0 row) fun u r=>onIntK IntKind.i64 u fun n_9=>onCons r fun u r=>onIntK IntKind.i64 u fun n_10=>onCons r fun u r=>onIntK IntKind.i64 u fun n_11=>onCons r fun u r=>onIntK IntKind.u8 u fun n_12=>onCons r fun u r=>onIntK IntKind.u8 u fun n_13=>K0G Tryz.prog glX 141 [V.agg [iv f.1.1,iv f.1.2.1,iv f.1.2.2,V.raw (Value.int IntKind.u8 f.2.1),V.raw (Value.int IntKind.u8 f.2.2)],V.agg [iv n_9,iv n_10,iv n_11,V.raw (Value.int IntKind.u8 n_12),V.raw (Value.int IntKind.u8 n_13)]] fun v=>onBool v fun b=>ifB (!b) (J (St.mk (mkT [(0,V.lst 3 (kdl l)),(2,V.lst 5 (lkl L)),(4,V.ptr (Id.p 0) 0 0),(6,V.ptr (Id.p 1) 0 0),(7,V.ptr (Id.p 2) 0 0),(8,V.ptr (Id.p 3) 0 0),(9,V.ptr (Id.p 4) 0 0),(10,iv (IntKind.i64.wrap ((↑i:Int)+(1:Int))))]) (Hp.mk [(0,O.rows 1 false [[V.lst 6 (bkl m)]]),(1,O.rows 5 false [[iv (0:Int),iv (0:Int),iv (0:Int),V.raw (Value.int IntKind.u8 (0:Int)),bv false]]),(2,O.rows 5 false [[iv x.1,iv x.2.1,iv x.2.2.1,iv x.2.2.2.1,V.raw (Value.int IntKind.u8 x.2.2.2.2)]]),(3,O.rows 5 false [[iv f.1.1,iv f.1.2.1,iv f.1.2.2,V.raw (Value.int IntKind.u8 f.2.1),V.raw (Value.int IntKind.u8 f.2.2)]]),(4,O.rows 5 false [[iv j.1,iv j.2.1,iv (IntKind.i64.wrap (j.2.2.1+n)),V.raw (Value.int IntKind.u8 (0:Int)),bv (n_1==(3:Int))]])] 5 []))) (onNat x.2.1 fun m_3=>onSome (bkl m)[m_3]? fun row=>onCons (List.drop 0 row) fun u r=>onIntK IntKind.i64 u fun n_14=>onCons r fun u r=>onIntK IntKind.i64 u fun n_15=>onCons r fun u r=>onIntK IntKind.i64 u fun n_16=>onCons r fun u r=>onIntK IntKind.i64 u fun n_17=>onCons r fun u r=>onIntK IntKind.u8 u fun n_18=>onCons r fun u r=>onIntK IntKind.u8 u fun n_19=>onSome (lkl L)[i]? fun row=>onSome row[3]? fun v=>onIntK IntKind.i64 v fun n_20=>K0G Tryz.prog glX 60 [V.lst 3 (kdl l),V.agg [iv n_14,iv n_15,iv n_16,iv n_17,V.raw (Value.int IntKind.u8 n_18),V.raw (Value.int IntKind.u8 n_19)]] fun v=>onLst v fun s es=>onNat n_20 fun m_4=>need (s=5) (onSome es[m_4]? fun row=>onCons (List.drop 0 row) fun u r=>onIntK IntKind.i64 u fun n_21=>onCons r fun u r=>onIntK IntKind.i64 u fun n_22=>onCons r fun u r=>onIntK IntKind.i64 u fun n_23=>onCons r fun u r=>onIntK IntKind.u8 u fun n_24=>onCons r fun u r=>onIntK IntKind.u8 u fun n_25=>K0G Tryz.prog glX 141 [V.agg [iv f.1.1,iv f.1.2.1,iv f.1.2.2,V.raw (Value.int IntKind.u8 f.2.1),V.raw (Value.int IntKind.u8 f.2.2)],V.agg [iv n_21,iv n_22,iv n_23,V.raw (Value.int IntKind.u8 n_24),V.raw (Value.int IntKind.u8 n_25)]] fun v=>onBool v fun b=>ifB (!b) (J (St.mk (mkT [(0,V.lst 3 (kdl l)),(2,V.lst 5 (lkl L)),(4,V.ptr (Id.p 0) 0 0),(6,V.ptr (Id.p 1) 0 0),(7,V.ptr (Id.p 2) 0 0),(8,V.ptr (Id.p 3) 0 0),(9,V.ptr (Id.p 4) 0 0),(10,iv (IntKind.i64.wrap ((↑i:Int)+(1:Int))))]) (Hp.mk [(0,O.rows 1 false [[V.lst 6 (bkl m)]]),(1,O.rows 5 false [[iv (0:Int),iv (0:Int),iv (0:Int),V.raw (Value.int IntKind.u8 (0:Int)),bv false]]),(2,O.rows 5 false [[iv x.1,iv x.2.1,iv x.2.2.1,iv x.2.2.2.1,V.raw (Value.int IntKind.u8 x.2.2.2.2)]]),(3,O.rows 5 false [[iv f.1.1,iv f.1.2.1,iv f.1.2.2,V.raw (Value.int IntKind.u8 f.2.1),V.raw (Value.int IntKind.u8 f.2.2)]]),(4,O.rows 5 false [[iv j.1,iv j.2.1,iv (IntKind.i64.wrap (j.2.2.1+n)),V.raw (Value.int IntKind.u8 (0:Int)),bv (n_1==(3:Int))]])] 5 []))) (J (St.mk (mkT [(0,V.lst 3 (kdl l)),(2,V.lst 5 (lkl L)),(4,V.ptr (Id.p 0) 0 0),(6,V.ptr (Id.p 1) 0 0),(7,V.ptr (Id.p 2) 0 0),(8,V.ptr (Id.p 3) 0 0),(9,V.ptr (Id.p 4) 0 0),(10,iv (IntKind.i64.wrap ((↑i:Int)+(1:Int))))]) (Hp.mk [(0,O.rows 1 false [[V.lst 6 (bkl m)]]),(1,O.rows 5 false [[iv (0:Int),iv (0:Int),iv (0:Int),V.raw (Value.int IntKind.u8 (0:Int)),bv false]]),(2,O.rows 5 false [[iv x.1,iv x.2.1,iv x.2.2.1,iv x.2.2.2.1,V.raw (Value.int IntKind.u8 x.2.2.2.2)]]),(3,O.rows 5 false [[iv f.1.1,iv f.1.2.1,iv f.1.2.2,V.raw (Value.int IntKind.u8 f.2.1),V.raw (Value.int IntKind.u8 f.2.2)]]),(4,O.rows 5 false [[iv j.1,iv j.2.1,iv (IntKind.i64.wrap (j.2.2.1+n)),V.raw (Value.int IntKind.u8 j.2.2.2.1),bv (n_1==(3:Int))]])] 5 []))))))) (onNat x.1 fun m_1=>onSome (bkl m)[m_1]? fun row=>onCons (List.drop 0 row) fun u r=>onIntK IntKind.i64 u fun n_1=>onCons r fun u r=>onIntK IntKind.i64 u fun n_2=>onCons r fun u r=>onIntK IntKind.i64 u fun n_3=>onCons r fun u r=>onIntK IntKind.i64 u fun n_4=>onCons r fun u r=>onIntK IntKind.u8 u fun n_5=>onCons r fun u r=>onIntK IntKind.u8 u fun n_6=>onSome (lkl L)[i]? fun row=>onSome row[2]? fun v=>onIntK IntKind.i64 v fun n_7=>K0G Tryz.prog glX 60 [V.lst 3 (kdl l),V.agg [iv n_1,iv n_2,iv n_3,iv n_4,V.raw (Value.int IntKind.u8 n_5),V.raw (Value.int IntKind.u8 n_6)]] fun v=>onLst v fun s es=>onNat n_7 fun m_2=>need (s=5) (onSome es[m_2]? fun row=>onCons (List.drop 0 row) fun u r=>onIntK IntKind.i64 u fun n_8=>onCons r fun u r=>onIntK IntKind.i64 u fun n_9=>onCons r fun u r=>onIntK IntKind.i64 u fun n_10=>onCons r fun u r=>onIntK IntKind.u8 u fun n_11=>onCons r fun u r=>onIntK IntKind.u8 u fun n_12=>K0G Tryz.prog glX 141 [V.agg [iv f.1.1,iv f.1.2.1,iv f.1.2.2,V.raw (Value.int IntKind.u8 f.2.1),V.raw (Value.int IntKind.u8 f.2.2)],V.agg [iv n_8,iv n_9,iv n_10,V.raw (Value.int IntKind.u8 n_11),V.raw (Value.int IntKind.u8 n_12)]] fun v=>onBool v fun b=>ifB (!b) (J (St.mk (mkT [(0,V.lst 3 (kdl l)),(2,V.lst 5 (lkl L)),(4,V.ptr (Id.p 0) 0 0),(6,V.ptr (Id.p 1) 0 0),(7,V.ptr (Id.p 2) 0 0),(8,V.ptr (Id.p 3) 0 0),(9,V.ptr (Id.p 4) 0 0),(10,iv (IntKind.i64.wrap ((↑i:Int)+(1:Int))))]) (Hp.mk [(0,O.rows 1 false [[V.lst 6 (bkl m)]]),(1,O.rows 5 false [[iv (0:Int),iv (0:Int),iv (0:Int),V.raw (Value.int IntKind.u8 (0:Int)),bv false]]),(2,O.rows 5 false [[iv x.1,iv x.2.1,iv x.2.2.1,iv x.2.2.2.1,V.raw (Value.int IntKind.u8 x.2.2.2.2)]]),(3,O.rows 5 false [[iv f.1.1,iv f.1.2.1,iv f.1.2.2,V.raw (Value.int IntKind.u8 f.2.1),V.raw (Value.int IntKind.u8 f.2.2)]]),(4,O.rows 5 false [[iv j.1,iv j.2.1,iv (IntKind.i64.wrap (j.2.2.1+n)),V.raw (Value.int IntKind.u8 (0:Int)),bv false]])] 5 []))) (onNat x.2.1 fun m_3=>onSome (bkl m)[m_3]? fun row=>onCons (List.drop 0 row) fun u r=>onIntK IntKind.i64 u fun n_13=>onCons r fun u r=>onIntK IntKind.i64 u fun n_14=>onCons r fun u r=>onIntK IntKind.i64 u fun n_15=>onCons r fun u r=>onIntK IntKind.i64 u fun n_16=>onCons r fun u r=>onIntK IntKind.u8 u fun n_17=>onCons r fun u r=>onIntK IntKind.u8 u fun n_18=>onSome (lkl L)[i]? fun row=>onSome row[3]? fun v=>onIntK IntKind.i64 v fun n_19=>K0G Tryz.prog glX 60 [V.lst 3 (kdl l),V.agg [iv n_13,iv n_14,iv n_15,iv n_16,V.raw (Value.int IntKind.u8 n_17),V.raw (Value.int IntKind.u8 n_18)]] fun v=>onLst v fun s es=>onNat n_19 fun m_4=>need (s=5) (onSome es[m_4]? fun row=>onCons (List.drop 0 row) fun u r=>onIntK IntKind.i64 u fun n_20=>onCons r fun u r=>onIntK IntKind.i64 u fun n_21=>onCons r fun u r=>onIntK IntKind.i64 u fun n_22=>onCons r fun u r=>onIntK IntKind.u8 u fun n_23=>onCons r fun u r=>onIntK IntKind.u8 u fun n_24=>K0G Tryz.prog glX 141 [V.agg [iv f.1.1,iv f.1.2.1,iv f.1.2.2,V.raw (Value.int IntKind.u8 f.2.1),V.raw (Value.int IntKind.u8 f.2.2)],V.agg [iv n_20,iv n_21,iv n_22,V.raw (Value.int IntKind.u8 n_23),V.raw (Value.int IntKind.u8 n_24)]] fun v=>onBool v fun b=>ifB (!b) (J (St.mk (mkT [(0,V.lst 3 (kdl l)),(2,V.lst 5 (lkl L)),(4,V.ptr (Id.p 0) 0 0),(6,V.ptr (Id.p 1) 0 0),(7,V.ptr (Id.p 2) 0 0),(8,V.ptr (Id.p 3) 0 0),(9,V.ptr (Id.p 4) 0 0),(10,iv (IntKind.i64.wrap ((↑i:Int)+(1:Int))))]) (Hp.mk [(0,O.rows 1 false [[V.lst 6 (bkl m)]]),(1,O.rows 5 false [[iv (0:Int),iv (0:Int),iv (0:Int),V.raw (Value.int IntKind.u8 (0:Int)),bv false]]),(2,O.rows 5 false [[iv x.1,iv x.2.1,iv x.2.2.1,iv x.2.2.2.1,V.raw (Value.int IntKind.u8 x.2.2.2.2)]]),(3,O.rows 5 false [[iv f.1.1,iv f.1.2.1,iv f.1.2.2,V.raw (Value.int IntKind.u8 f.2.1),V.raw (Value.int IntKind.u8 f.2.2)]]),(4,O.rows 5 false [[iv j.1,iv j.2.1,iv (IntKind.i64.wrap (j.2.2.1+n)),V.raw (Value.int IntKind.u8 (0:Int)),bv false]])] 5 []))) (J (St.mk (mkT [(0,V.lst 3 (kdl l)),(2,V.lst 5 (lkl L)),(4,V.ptr (Id.p 0) 0 0),(6,V.ptr (Id.p 1) 0 0),(7,V.ptr (Id.p 2) 0 0),(8,V.ptr (Id.p 3) 0 0),(9,V.ptr (Id.p 4) 0 0),(10,iv (IntKind.i64.wrap ((↑i:Int)+(1:Int))))]) (Hp.mk [(0,O.rows 1 false [[V.lst 6 (bkl m)]]),(1,O.rows 5 false [[iv (0:Int),iv (0:Int),iv (0:Int),V.raw (Value.int IntKind.u8 (0:Int)),bv false]]),(2,O.rows 5 false [[iv x.1,iv x.2.1,iv x.2.2.1,iv x.2.2.2.1,V.raw (Value.int IntKind.u8 x.2.2.2.2)]]),(3,O.rows 5 false [[iv f.1.1,iv f.1.2.1,iv f.1.2.2,V.raw (Value.int IntKind.u8 f.2.1),V.raw (Value.int IntKind.u8 f.2.2)]]),(4,O.rows 5 false [[iv j.1,iv j.2.1,iv (IntKind.i64.wrap (j.2.2.1+n)),V.raw (Value.int IntKind.u8 j.2.2.2.1),bv false]])] 5 [])))))))) (ifB j.2.2.2.2 (R (V.agg [iv j.1,iv j.2.1,iv j.2.2.1,V.raw (Value.int IntKind.u8 j.2.2.2.1),bv (j.2.2.2.1 != (0:Int))])) (R (V.agg [iv j.1,iv j.2.1,iv j.2.2.1,V.raw (Value.int IntKind.u8 j.2.2.2.1),bv false])))) (by kernel_rfl) ?_
 rw [lkl_length]
 refine ifB_mk (fun d=>?_) (fun d=>?_)
 ·have hi:i<s:=by have:=of_decide_eq_true d; omega
  obtain ⟨z,hz⟩:=getI (l:=L) (k:=i) (by omega)
  obtain ⟨p,r,k1,k2,z1,z2,z3,z4,hmt,z6⟩:=hL z (mem_at hz)
  have hk1O:=kOK z3
  have hk2O:=kOK z4
  have hkz:=kat z (mem_at hz) ⟨z1,z2,z3,z4,hmt,z6⟩
  have hk1:=z3
  have hk2:=z4
  rw [knobs_bods hma] at hk1
  rw [knobs_bods hmb] at hk2
  have hp:z.2.2.1=(p:Int):=by rw [z6]
  have hr' : z.2.2.2.1=(r:Int):=by rw [z6]
  have ha:x.1=(a:Int):=xa
  have hb:x.2.1=(b:Int):=xb
  have hsort:z.2.2.2.2=1∨z.2.2.2.2=3∨z.2.2.2.2=5:=by
   have:=fit_mn hk1O.2.1.1 hk1O.2.1.2 hk2O.2.1.1 hk2O.2.1.2 hmt.2.2
   rw [z6]
   exact this
  have b1:=sum_bd (L.take i)
  have b2:=strS_bd z.2.2.2.2
  rw [List.length_take] at b1
  have e3:((L.take (i+1)).map fun x=>strS x.2.2.2.2).sum=((L.take i).map fun x=>strS x.2.2.2.2).sum+strS z.2.2.2.2:=by
   rw [take_succ' hz,List.map_append,List.sum_append]; simp
  refine onSome_mk (lrow hz) (onSome_mk (x:=u8 z.2.2.2.2) rfl (onIntK_u8 (strong140 hsort (onIntK_iv ?_))))
  rw [g2]
  simp only
  rw [wr (n:=((L.take i).map fun x=>strS x.2.2.2.2).sum+_) (by omega) (by omega)]
  refine ifB_mk (fun c=>?_) (fun c=>?_)
  ·have hlt:dc (∀ z∈L.take (i+1),z.2.2.2.2=3)=(z.2.2.2.2==(3:Int)):=(beq_dc ⟨fun q=>all_take hz (dc_true c) q,fun q=>q z (by rw [take_succ' hz]; simp)⟩).symm
   refine onSome_mk (lrow hz) (onSome_mk (x:=u8 z.2.2.2.2) rfl (onIntK_u8 ?_))
   refine onNat_mk (m:=a) ha (bel hma (onSome_mk (lrow hz) (onSome_mk (x:=iv z.2.2.1) rfl (onIntK_iv (knobbed60' (b:=ba) hPa (fun s5 hs5=>onNat_mk (m:=p) hp (need_mk ⟨is5 hs5 hk1,kel hk1 (line141 (a:=f) (b:=k1) hfO hk1O (onBool_bv (ifB_mk (fun c=>?_) (fun c=>?_))))⟩)))))))
   ·have c : ¬ OnLine k1 f:=dc_false (by simpa using c)
    rw [wr1i hi (by omega)]
    exact hJ (i+1,(x.1,x.2.1,_,0,(z.2.2.2.2==(3:Int)))) ⟨hi,by simp only; rw [hlt,← e3,axS_no hz (hkz ▸ c)]⟩ (by simp only; omega)
   have c:OnLine k1 f:=dc_true (by simpa using c)
   refine onNat_mk (m:=b) hb (bel hmb (onSome_mk (lrow hz) (onSome_mk (x:=iv z.2.2.2.1) rfl (onIntK_iv (knobbed60' (b:=bb) hPb (fun s5 hs5=>onNat_mk (m:=r) hr' (need_mk ⟨is5 hs5 hk2,kel hk2 (line141 (a:=f) (b:=k2) hfO hk2O (onBool_bv (ifB_mk (fun d=>?_) (fun d=>?_))))⟩)))))))
   ·exact (dc_false (by simpa using d) (onLine_meet hk1O hmt c)).elim
   rw [wr1i hi (by omega)]
   exact hJ (i+1,(x.1,x.2.1,((L.take i).map fun x=>strS x.2.2.2.2).sum+strS z.2.2.2.2,axS y f (L.take i),(z.2.2.2.2==(3:Int)))) ⟨hi,by simp only; rw [hlt,← e3,axS_yes hz (hkz ▸ c)]⟩ (by simp only; omega)
  ·have hlt:dc (∀ z∈L.take (i+1),z.2.2.2.2=3)=false:=dc_f (fun q=>dc_false c (fun w hw=>q w (by rw [take_succ' hz]; exact List.mem_append.2 (.inl hw))))
   refine onNat_mk (m:=a) ha (bel hma (onSome_mk (lrow hz) (onSome_mk (x:=iv z.2.2.1) rfl (onIntK_iv (knobbed60' (b:=ba) hPa (fun s5 hs5=>onNat_mk (m:=p) hp (need_mk ⟨is5 hs5 hk1,kel hk1 (line141 (a:=f) (b:=k1) hfO hk1O (onBool_bv (ifB_mk (fun c=>?_) (fun c=>?_))))⟩)))))))
   ·have c : ¬ OnLine k1 f:=dc_false (by simpa using c)
    rw [wr1i hi (by omega)]
    exact hJ (i+1,(x.1,x.2.1,_,0,false)) ⟨hi,by simp only; rw [hlt,← e3,axS_no hz (hkz ▸ c)]⟩ (by simp only; omega)
   have c:OnLine k1 f:=dc_true (by simpa using c)
   refine onNat_mk (m:=b) hb (bel hmb (onSome_mk (lrow hz) (onSome_mk (x:=iv z.2.2.2.1) rfl (onIntK_iv (knobbed60' (b:=bb) hPb (fun s5 hs5=>onNat_mk (m:=r) hr' (need_mk ⟨is5 hs5 hk2,kel hk2 (line141 (a:=f) (b:=k2) hfO hk2O (onBool_bv (ifB_mk (fun d=>?_) (fun d=>?_))))⟩)))))))
   ·exact (dc_false (by simpa using d) (onLine_meet hk1O hmt c)).elim
   rw [wr1i hi (by omega)]
   exact hJ (i+1,(x.1,x.2.1,((L.take i).map fun x=>strS x.2.2.2.2).sum+strS z.2.2.2.2,axS y f (L.take i),false)) ⟨hi,by simp only; rw [hlt,← e3,axS_yes hz (hkz ▸ c)]⟩ (by simp only; omega)
 ·have hi:s≤i:=by have:=of_decide_eq_false d; omega
  rw [List.take_of_length_le (by omega)] at g2
  have hkn:knobsAt (bods l m) x.1.toNat=y:=by rw [xa,Int.toNat_natCast,knobs_bods hma,hy]
  have hax:axO y L=axS y f L:=by
   unfold axS
   rw [← hfx]
   cases L with
   | nil=>simp at hx
   | cons w L=>simp at hx; subst hx; rfl
  have hf0:f.2.1 / 2+1≠0:=by have:=hfO.1.1; omega
  have hj:joF (bods l m) L=(x.1,x.2.1,(L.map fun x=>strS x.2.2.2.2).sum,axS y f L,dc (axS y f L≠0 ∧ ∀ x∈L,x.2.2.2.2=3)):=by
   unfold joF
   rw [hhd,hkn,hax]
  rw [hj] at h
  rw [g2]
  simp only
  refine ifB_mk (fun c=>?_) (fun c=>?_)
  ·have c:=dc_true c
   have:(axS y f L != (0:Int))=dc (axS y f L≠0 ∧ ∀ x∈L,x.2.2.2.2=3):=by
    by_cases h:axS y f L=0
    ·rw [dc_f (fun q=>q.1 h),h]; rfl
    ·rw [dc_t ⟨h,c⟩]; simpa using h
   rw [this]
   exact h
  ·rw [dc_f (fun q=>dc_false c q.2)] at h
   exact h
def ownT (L:List Lk) (i k:Nat):List Lk:=(L.take k).filter fun x=>decide (key x=key (at_ L i))
theorem ownT_yes {L:List Lk} {i k:Nat} {z:Lk} (hz:L[k]? = some z) (h:key z=key (at_ L i)):ownT L i (k+1)=ownT L i k++[z]:=by
 unfold ownT
 rw [take_succ' hz,List.filter_append]
 simp [h]
theorem ownT_no {L:List Lk} {i k:Nat} {z:Lk} (hz:L[k]? = some z) (h : ¬ key z=key (at_ L i)):ownT L i (k+1)=ownT L i k:=by
 unfold ownT
 rw [take_succ' hz,List.filter_append]
 simp [h]
noncomputable def fJo (l:List Kd) (m:List Bk) (s:Nat) (L:List Lk) (z:Bool×Nat×Nat×List Jt):St:=match z.1 with | false=>jRa l m s L z.2.1 | true=>jRaS l m s L z.2.1 z.2.2.2 z.2.2.1
noncomputable def fJi (l:List Kd) (m:List Bk) (s:Nat) (L:List Lk) (i:Nat) (b:Bool) (q:Nat) (js:List Jt) (z:Bool×Nat×Nat×List Lk):St:=match b,z.1 with | false,false=>jRb l m s L i z.2.1 | false,true=>jRbO l m s L i z.2.1 z.2.2.2 z.2.2.1 | true,false=>jRbS l m s L i z.2.1 js q | true,true=>jRbSO l m s L i z.2.1 js q z.2.2.2 z.2.2.1
set_option maxHeartbeats 4000000 in
theorem jointed69 {l:List Kd} {m:List Bk} {R:V→Prop} (hl : ∀ q∈l,KdR q) (hr : ∀ b∈m,BkR b) (hA:AskM l m) (h0:jnt (bods l m)=[]→R nilS) (h:R (.lst 5 (jtl (jnt (bods l m))))):K0G Tryz.prog glX 69 [.lst 3 (kdl l),.agg [.lst 6 (bkl m)]] R:=by
 refine K0_by hmX hcRR 3000 Tryz.func69 (p:=K0G Tryz.prog glX 67 [V.lst 3 (kdl l),V.agg [V.lst 6 (bkl m)]] fun v=>onLst v fun s es=>La 0 [(0:Tmp),(3:Tmp),(5:Tmp),(6:Tmp),(7:Tmp)] (WY Tryz.prog cfRR 2993 (Env.mk (Bs.mk 0 []) 0 none 94 69 0) (cdAt [1,1,1,0,1,0,0] (bodyOf Tryz.f69))) (Qblk 0 (Qthen (WY Tryz.prog cfRR 2996 (Env.mk (Bs.mk 0 []) 0 none 94 69 0) (cdAt [1,1,1,1] (bodyOf Tryz.f69)) (QendX Tryz.prog Tryz.f69 fun v h=>R (frzW h v))) (QendX Tryz.prog Tryz.f69 fun v h=>R (frzW h v)))) (St.mk (mkT [(0,V.lst 3 (kdl l)),(3,V.ptr (Id.p 0) 0 0),(5,V.lst s es),(6,nilS),(7,iv (0:Int))]) (Hp.mk [(0,O.rows 1 false [[V.lst 6 (bkl m)]])] 1 []))) (by kernel_rfl) ?_
 obtain ⟨L,hL⟩ : ∃ L,L=lnk (bods l m):=⟨_,rfl⟩
 have hfew:L.length≤1000000000:=hL ▸ lnk_few (bod_ok hl hr hA) (bods60 hl hr hA)
 have main : ∀ s,(s=5∨L=[])→La 0 [(0:Tmp),(3:Tmp),(5:Tmp),(6:Tmp),(7:Tmp)] (WY Tryz.prog cfRR 2993 (Env.mk (Bs.mk 0 []) 0 none 94 69 0) (cdAt [1,1,1,0,1,0,0] (bodyOf Tryz.f69))) (Qblk 0 (Qthen (WY Tryz.prog cfRR 2996 (Env.mk (Bs.mk 0 []) 0 none 94 69 0) (cdAt [1,1,1,1] (bodyOf Tryz.f69)) (QendX Tryz.prog Tryz.f69 fun v h=>R (frzW h v))) (QendX Tryz.prog Tryz.f69 fun v h=>R (frzW h v)))) (jRa l m s L 0):=by
  intro s hs
  obtain ⟨n,hn⟩ : ∃ n,n=L.length:=⟨_,rfl⟩
  have hs5 : ∀ {i:Nat},i<n→s=5:=fun {i} hi=>by
   rcases hs with hs | hs
   ·exact hs
   ·rw [hn,hs] at hi; simp at hi
  unfold jnt at h h0
  rw [← hL,← hn] at h h0
  refine La.of (σ:=Bool×Nat×Nat×List Jt) (fJo l m s L) (fun z=>z.2.1≤n∧z.2.2.1=z.2.2.2.length∧z.2.2.2=jnS (joF (bods l m)) L z.2.1∧(z.1=false→z.2.2.2=[])) (fun z=>n - z.2.1) (false,0,0,[]) rfl ⟨by simp only; omega,rfl,rfl,fun _=>rfl⟩ ?_
  rintro ⟨bo,i,q,js⟩ ⟨g1,gq,gj,gb⟩ J hJ
  simp only at g1 gq gj gb
  have hq:q≤n:=by rw [gq,gj]; exact Nat.le_trans (jnS_len ..) g1
  have loop:i<n→Hd L i→La 0 [(0:Tmp),(3:Tmp),(5:Tmp),(6:Tmp),(7:Tmp),(8:Tmp),(9:Tmp)] (WY Tryz.prog cfRR 2984 (Env.mk (Bs.mk 0 []) 0 none 94 69 2) (cdAt [1,1,1,0,1,0,0,1,0,0,1,1,0,1,0,0] (bodyOf Tryz.f69))) (Qblk 2 (Qthen (WY Tryz.prog cfRR 2987 (Env.mk (Bs.mk 0 []) 0 none 94 69 1) (cdAt [1,1,1,0,1,0,0,1,0,0,1,1,1] (bodyOf Tryz.f69)) (Qblk 1 (Qthen (WY Tryz.prog cfRR 2991 (Env.mk (Bs.mk 0 []) 0 none 94 69 0) (cdAt [1,1,1,0,1,0,0,1,1] (bodyOf Tryz.f69)) (Qla 0 [(0:Tmp),(3:Tmp),(5:Tmp),(6:Tmp),(7:Tmp)] J (Qblk 0 (Qthen (WY Tryz.prog cfRR 2996 (Env.mk (Bs.mk 0 []) 0 none 94 69 0) (cdAt [1,1,1,1] (bodyOf Tryz.f69)) (QendX Tryz.prog Tryz.f69 fun v h=>R (frzW h v))) (QendX Tryz.prog Tryz.f69 fun v h=>R (frzW h v)))))) (Qla 0 [(0:Tmp),(3:Tmp),(5:Tmp),(6:Tmp),(7:Tmp)] J (Qblk 0 (Qthen (WY Tryz.prog cfRR 2996 (Env.mk (Bs.mk 0 []) 0 none 94 69 0) (cdAt [1,1,1,1] (bodyOf Tryz.f69)) (QendX Tryz.prog Tryz.f69 fun v h=>R (frzW h v))) (QendX Tryz.prog Tryz.f69 fun v h=>R (frzW h v)))))))) (Qblk 1 (Qthen (WY Tryz.prog cfRR 2991 (Env.mk (Bs.mk 0 []) 0 none 94 69 0) (cdAt [1,1,1,0,1,0,0,1,1] (bodyOf Tryz.f69)) (Qla 0 [(0:Tmp),(3:Tmp),(5:Tmp),(6:Tmp),(7:Tmp)] J (Qblk 0 (Qthen (WY Tryz.prog cfRR 2996 (Env.mk (Bs.mk 0 []) 0 none 94 69 0) (cdAt [1,1,1,1] (bodyOf Tryz.f69)) (QendX Tryz.prog Tryz.f69 fun v h=>R (frzW h v))) (QendX Tryz.prog Tryz.f69 fun v h=>R (frzW h v)))))) (Qla 0 [(0:Tmp),(3:Tmp),(5:Tmp),(6:Tmp),(7:Tmp)] J (Qblk 0 (Qthen (WY Tryz.prog cfRR 2996 (Env.mk (Bs.mk 0 []) 0 none 94 69 0) (cdAt [1,1,1,1] (bodyOf Tryz.f69)) (QendX Tryz.prog Tryz.f69 fun v h=>R (frzW h v))) (QendX Tryz.prog Tryz.f69 fun v h=>R (frzW h v))))))))) (fJi l m s L i bo q js (false,0,0,[])):=by
   intro hi hd
   have hs5:=hs5 hi
   have hf' : L[i]? = some (at_ L i):=at_get (by omega)
   obtain ⟨a,b,_,_,_,_,w1,w2,w3,w4,w5,w6⟩:=mem_lnk.1 (hL ▸ mem_at hf')
   rw [← hL] at w6
   have hown : ∀ z∈owL L i, ∃ i j k o,LkP (bods l m) z a b i j k o:=fun z hz=>by
    obtain ⟨h1,h2⟩:=List.mem_filter.1 hz
    obtain ⟨a', b', i', j', k', o', u1,u2,u3,u4,u5,u6⟩:=mem_lnk.1 (hL ▸ h1)
    have e:=key_eq.1 (by simpa using h2:key z=key (at_ L i))
    rw [w6,u6] at e
    simp only at e
    have ea:a' = a:=by omega
    have eb:b' = b:=by omega
    subst ea eb
    exact ⟨i', j', k', o', u1,u2,u3,u4,u5,u6⟩
   refine La.of (σ:=Bool×Nat×Nat×List Lk) (fJi l m s L i bo q js) (fun z=>z.2.1≤n∧z.2.2.1=z.2.2.2.length∧z.2.2.2=ownT L i z.2.1∧(z.1=false→z.2.2.2=[])) (fun z=>n - z.2.1) (false,0,0,[]) rfl ⟨by simp only; omega,rfl,rfl,fun _=>rfl⟩ ?_
   rintro ⟨ow,k,p,K⟩ ⟨k1,gp,gK,gb'⟩ I hI
   simp only at k1 gp gK gb'
   have hp:p≤n:=by
    have h1:=List.length_filter_le (fun x=>decide (key x=key (at_ L i))) (L.take k)
    rw [List.length_take] at h1
    rw [gp,gK]
    unfold ownT
    omega
   rcases bo with _ | _ <;> rcases ow with _ | _
   ·refine see (p:=ifB (decide ((↑k:Int)<(↑(lkl L).length:Int))) (need (s=5) (onSome (lkl L)[k]? fun row=>onSome row[0]? fun v=>onIntK IntKind.i64 v fun n=>need (s=5) (onSome (lkl L)[i]? fun row=>onSome row[0]? fun v=>onIntK IntKind.i64 v fun n_1=>ifB (n==n_1) (need (s=5) (onSome (lkl L)[k]? fun row=>onSome row[1]? fun v=>onIntK IntKind.i64 v fun n=>need (s=5) (onSome (lkl L)[i]? fun row=>onSome row[1]? fun v=>onIntK IntKind.i64 v fun n_2=>ifB (n==n_2) (need (s=5) (onSome (lkl L)[k]? fun row=>onCons (List.drop 0 row) fun u r=>onIntK IntKind.i64 u fun n=>onCons r fun u r=>onIntK IntKind.i64 u fun n_3=>onCons r fun u r=>onIntK IntKind.i64 u fun n_4=>onCons r fun u r=>onIntK IntKind.i64 u fun n_5=>onCons r fun u r=>onIntK IntKind.u8 u fun n_6=>I (St.mk (mkT [(0,V.lst 3 (kdl l)),(3,V.ptr (Id.p 0) 0 0),(5,V.lst s (lkl L)),(6,nilS),(7,iv (↑i:Int)),(8,V.sl (Id.p 1) 0 1),(9,iv (IntKind.i64.wrap ((↑k:Int)+(1:Int))))]) (Hp.mk [(0,O.rows 1 false [[V.lst 6 (bkl m)]]),(1,O.rows 5 true [[iv n,iv n_3,iv n_4,iv n_5,V.raw (Value.int IntKind.u8 n_6)]])] 2 [])))) (I (St.mk (mkT [(0,V.lst 3 (kdl l)),(3,V.ptr (Id.p 0) 0 0),(5,V.lst s (lkl L)),(6,nilS),(7,iv (↑i:Int)),(8,nilS),(9,iv (IntKind.i64.wrap ((↑k:Int)+(1:Int))))]) (Hp.mk [(0,O.rows 1 false [[V.lst 6 (bkl m)]])] 1 [])))))) (I (St.mk (mkT [(0,V.lst 3 (kdl l)),(3,V.ptr (Id.p 0) 0 0),(5,V.lst s (lkl L)),(6,nilS),(7,iv (↑i:Int)),(8,nilS),(9,iv (IntKind.i64.wrap ((↑k:Int)+(1:Int))))]) (Hp.mk [(0,O.rows 1 false [[V.lst 6 (bkl m)]])] 1 [])))))) (K0G Tryz.prog glX 119 [V.lst 3 (kdl l),V.agg [V.lst 6 (bkl m)],nilS] fun v=>onAgg v fun cs=>onCons cs fun u r=>onIntK IntKind.i64 u fun n=>onCons r fun u r=>onIntK IntKind.i64 u fun n_1=>onCons r fun u r=>onIntK IntKind.i64 u fun n_2=>onCons r fun u r=>onIntK IntKind.u8 u fun n_3=>onCons r fun u r=>onBool u fun b=>onNil r (J (St.mk (mkT [(0,V.lst 3 (kdl l)),(3,V.ptr (Id.p 0) 0 0),(5,V.lst s (lkl L)),(6,V.sl (Id.p 1) 0 1),(7,iv (IntKind.i64.wrap ((↑i:Int)+(1:Int))))]) (Hp.mk [(0,O.rows 1 false [[V.lst 6 (bkl m)]]),(1,O.rows 5 true [[iv n,iv n_1,iv n_2,V.raw (Value.int IntKind.u8 n_3),bv b]])] 2 []))))) (by kernel_rfl) ?_
    rw [lkl_length,← hn]
    refine ifB_mk (fun e=>?_) (fun e=>?_)
    ·have hk:k<n:=by have:=of_decide_eq_true e; omega
     have hz:L[k]? = some (at_ L k):=at_get (by omega)
     obtain ⟨z,hzz⟩ : ∃ z,z=at_ L k:=⟨_,rfl⟩
     rw [← hzz] at hz
     refine need_mk ⟨hs5,onSome_mk (lrow hz) (onSome_mk (x:=iv z.1) rfl (onIntK_iv (need_mk ⟨hs5,onSome_mk (lrow hf') (onSome_mk (x:=iv (at_ L i).1) rfl (onIntK_iv (ifB_mk (fun c1=>?_) (fun c1=>?_))))⟩)))⟩
     ·refine need_mk ⟨hs5,onSome_mk (lrow hz) (onSome_mk (x:=iv z.2.1) rfl (onIntK_iv (need_mk ⟨hs5,onSome_mk (lrow hf') (onSome_mk (x:=iv (at_ L i).2.1) rfl (onIntK_iv (ifB_mk (fun c2=>?_) (fun c2=>?_))))⟩)))⟩
      ·have hkey:key z=key (at_ L i):=key_eq.2 ⟨by simpa using c1,by simpa using c2⟩
       refine need_mk ⟨hs5,lel hz ?_⟩
       rw [wr1i hk (by omega)]
       exact hI (true,k+1,1,[z]) ⟨hk,rfl,by simp only; rw [ownT_yes hz hkey,← gK,gb' rfl]; rfl,(fun h=>by cases h)⟩ (by simp only; omega)
      ·rw [wr1i hk (by omega)]
       exact hI (false,k+1,p,K) ⟨hk,gp,by simp only; rw [ownT_no hz (fun q=>by have:=key_eq.1 q; simp [this.2] at c2)]; exact gK,gb'⟩ (by simp only; omega)
     ·rw [wr1i hk (by omega)]
      exact hI (false,k+1,p,K) ⟨hk,gp,by simp only; rw [ownT_no hz (fun q=>by have:=key_eq.1 q; simp [this.1] at c1)]; exact gK,gb'⟩ (by simp only; omega)
    ·have hk:k=n:=by have:=of_decide_eq_false e; omega
     have hKo:K=owL L i:=by rw [gK,hk]; unfold ownT owL; rw [List.take_of_length_le (by omega)]
     have hKne:K≠[]:=fun q=>by
      have hm:at_ L i∈owL L i:=List.mem_filter.2 ⟨mem_at hf', by simp⟩
      rw [← hKo,q] at hm
      simp at hm
     exact absurd (gb' rfl) hKne
   ·refine see (p:=ifB (decide ((↑k:Int)<(↑(lkl L).length:Int))) (need (s=5) (onSome (lkl L)[k]? fun row=>onSome row[0]? fun v=>onIntK IntKind.i64 v fun n=>need (s=5) (onSome (lkl L)[i]? fun row=>onSome row[0]? fun v=>onIntK IntKind.i64 v fun n_1=>ifB (n==n_1) (need (s=5) (onSome (lkl L)[k]? fun row=>onSome row[1]? fun v=>onIntK IntKind.i64 v fun n=>need (s=5) (onSome (lkl L)[i]? fun row=>onSome row[1]? fun v=>onIntK IntKind.i64 v fun n_2=>ifB (n==n_2) (need (s=5) (onSome (lkl L)[k]? fun row=>onCons (List.drop 0 row) fun u r=>onIntK IntKind.i64 u fun n=>onCons r fun u r=>onIntK IntKind.i64 u fun n_3=>onCons r fun u r=>onIntK IntKind.i64 u fun n_4=>onCons r fun u r=>onIntK IntKind.i64 u fun n_5=>onCons r fun u r=>onIntK IntKind.u8 u fun n_6=>need ((p+1) * 40≤140737488355328) (I (St.mk (mkT [(0,V.lst 3 (kdl l)),(3,V.ptr (Id.p 0) 0 0),(5,V.lst s (lkl L)),(6,nilS),(7,iv (↑i:Int)),(8,V.sl (Id.p 1) 0 (p+1)),(9,iv (IntKind.i64.wrap ((↑k:Int)+(1:Int))))]) (Hp.mk [(0,O.rows 1 false [[V.lst 6 (bkl m)]]),(1,O.rows 5 true (List.take p (lkl K)++[[iv n,iv n_3,iv n_4,iv n_5,V.raw (Value.int IntKind.u8 n_6)]]))] 2 []))))) (I (St.mk (mkT [(0,V.lst 3 (kdl l)),(3,V.ptr (Id.p 0) 0 0),(5,V.lst s (lkl L)),(6,nilS),(7,iv (↑i:Int)),(8,V.sl (Id.p 1) 0 p),(9,iv (IntKind.i64.wrap ((↑k:Int)+(1:Int))))]) (Hp.mk [(0,O.rows 1 false [[V.lst 6 (bkl m)]]),(1,O.rows 5 true (lkl K))] 2 [])))))) (I (St.mk (mkT [(0,V.lst 3 (kdl l)),(3,V.ptr (Id.p 0) 0 0),(5,V.lst s (lkl L)),(6,nilS),(7,iv (↑i:Int)),(8,V.sl (Id.p 1) 0 p),(9,iv (IntKind.i64.wrap ((↑k:Int)+(1:Int))))]) (Hp.mk [(0,O.rows 1 false [[V.lst 6 (bkl m)]]),(1,O.rows 5 true (lkl K))] 2 [])))))) (K0G Tryz.prog glX 119 [V.lst 3 (kdl l),V.agg [V.lst 6 (bkl m)],V.lst 5 (sub (lkl K) 0 p)] fun v=>onAgg v fun cs=>onCons cs fun u r=>onIntK IntKind.i64 u fun n=>onCons r fun u r=>onIntK IntKind.i64 u fun n_1=>onCons r fun u r=>onIntK IntKind.i64 u fun n_2=>onCons r fun u r=>onIntK IntKind.u8 u fun n_3=>onCons r fun u r=>onBool u fun b=>onNil r (J (St.mk (mkT [(0,V.lst 3 (kdl l)),(3,V.ptr (Id.p 0) 0 0),(5,V.lst s (lkl L)),(6,V.sl (Id.p 1) 0 1),(7,iv (IntKind.i64.wrap ((↑i:Int)+(1:Int))))]) (Hp.mk [(0,O.rows 1 false [[V.lst 6 (bkl m)]]),(1,O.rows 5 true [[iv n,iv n_1,iv n_2,V.raw (Value.int IntKind.u8 n_3),bv b]])] 2 []))))) (by kernel_rfl) ?_
    rw [lkl_length,← hn]
    refine ifB_mk (fun e=>?_) (fun e=>?_)
    ·have hk:k<n:=by have:=of_decide_eq_true e; omega
     have hz:L[k]? = some (at_ L k):=at_get (by omega)
     obtain ⟨z,hzz⟩ : ∃ z,z=at_ L k:=⟨_,rfl⟩
     rw [← hzz] at hz
     refine need_mk ⟨hs5,onSome_mk (lrow hz) (onSome_mk (x:=iv z.1) rfl (onIntK_iv (need_mk ⟨hs5,onSome_mk (lrow hf') (onSome_mk (x:=iv (at_ L i).1) rfl (onIntK_iv (ifB_mk (fun c1=>?_) (fun c1=>?_))))⟩)))⟩
     ·refine need_mk ⟨hs5,onSome_mk (lrow hz) (onSome_mk (x:=iv z.2.1) rfl (onIntK_iv (need_mk ⟨hs5,onSome_mk (lrow hf') (onSome_mk (x:=iv (at_ L i).2.1) rfl (onIntK_iv (ifB_mk (fun c2=>?_) (fun c2=>?_))))⟩)))⟩
      ·have hkey:key z=key (at_ L i):=key_eq.2 ⟨by simpa using c1,by simpa using c2⟩
       refine need_mk ⟨hs5,lel hz ?_⟩
       refine need_mk ⟨by omega,?_⟩
       have e:List.take p (lkl K)++[[iv z.1,iv z.2.1,iv z.2.2.1,iv z.2.2.2.1,V.raw (Value.int IntKind.u8 z.2.2.2.2)]]=lkl (K++[z]):=by
        rw [gp,← lkl_length,List.take_length]; simp [lkl,lkr,u8]
       rw [wr1i hk (by omega),e]
       exact hI (true,k+1,p+1,K++[z]) ⟨hk,by simp [gp],by simp only; rw [ownT_yes hz hkey,gK],(fun h=>by cases h)⟩ (by simp only; omega)
      ·rw [wr1i hk (by omega)]
       exact hI (true,k+1,p,K) ⟨hk,gp,by simp only; rw [ownT_no hz (fun q=>by have:=key_eq.1 q; simp [this.2] at c2)]; exact gK,gb'⟩ (by simp only; omega)
     ·rw [wr1i hk (by omega)]
      exact hI (true,k+1,p,K) ⟨hk,gp,by simp only; rw [ownT_no hz (fun q=>by have:=key_eq.1 q; simp [this.1] at c1)]; exact gK,gb'⟩ (by simp only; omega)
    ·have hk:k=n:=by have:=of_decide_eq_false e; omega
     have hKo:K=owL L i:=by rw [gK,hk]; unfold ownT owL; rw [List.take_of_length_le (by omega)]
     have hKne:K≠[]:=fun q=>by
      have hm:at_ L i∈owL L i:=List.mem_filter.2 ⟨mem_at hf', by simp⟩
      rw [← hKo,q] at hm
      simp at hm
     rw [show sub (lkl K) 0 p=lkl K from by rw [gp,← lkl_length,sub,List.drop_zero,List.take_length],hKo]
     obtain ⟨x,hx⟩:=getI (l:=owL L i) (k:=0) (List.length_pos_iff.2 (hKo ▸ hKne))
     refine joined119 hl hr hA hx hown (by have:=List.length_filter_le (fun x=>decide (key x=key (at_ L i))) L; unfold owL; omega) (onAgg_agg (onCons_cons (onIntK_iv (onCons_cons (onIntK_iv (onCons_cons (onIntK_iv (onCons_cons (onIntK_u8 (onCons_cons (onBool_bv (onNil_nil ?_))))))))))))
     rw [wr1i hi (by omega)]
     exact hJ (true,i+1,1,[joF (bods l m) (owL L i)]) ⟨hi,rfl,by simp only; rw [jnS_succ,dc_t hd,if_pos rfl,← gj,gb rfl]; rfl,(fun h=>by cases h)⟩ (by simp only; omega)
   ·refine see (p:=ifB (decide ((↑k:Int)<(↑(lkl L).length:Int))) (need (s=5) (onSome (lkl L)[k]? fun row=>onSome row[0]? fun v=>onIntK IntKind.i64 v fun n=>need (s=5) (onSome (lkl L)[i]? fun row=>onSome row[0]? fun v=>onIntK IntKind.i64 v fun n_1=>ifB (n==n_1) (need (s=5) (onSome (lkl L)[k]? fun row=>onSome row[1]? fun v=>onIntK IntKind.i64 v fun n=>need (s=5) (onSome (lkl L)[i]? fun row=>onSome row[1]? fun v=>onIntK IntKind.i64 v fun n_2=>ifB (n==n_2) (need (s=5) (onSome (lkl L)[k]? fun row=>onCons (List.drop 0 row) fun u r=>onIntK IntKind.i64 u fun n=>onCons r fun u r=>onIntK IntKind.i64 u fun n_3=>onCons r fun u r=>onIntK IntKind.i64 u fun n_4=>onCons r fun u r=>onIntK IntKind.i64 u fun n_5=>onCons r fun u r=>onIntK IntKind.u8 u fun n_6=>I (St.mk (mkT [(0,V.lst 3 (kdl l)),(3,V.ptr (Id.p 0) 0 0),(5,V.lst s (lkl L)),(6,V.sl (Id.p 1) 0 q),(7,iv (↑i:Int)),(8,V.sl (Id.p 2) 0 1),(9,iv (IntKind.i64.wrap ((↑k:Int)+(1:Int))))]) (Hp.mk [(0,O.rows 1 false [[V.lst 6 (bkl m)]]),(1,O.rows 5 true (jtl js)),(2,O.rows 5 true [[iv n,iv n_3,iv n_4,iv n_5,V.raw (Value.int IntKind.u8 n_6)]])] 3 [])))) (I (St.mk (mkT [(0,V.lst 3 (kdl l)),(3,V.ptr (Id.p 0) 0 0),(5,V.lst s (lkl L)),(6,V.sl (Id.p 1) 0 q),(7,iv (↑i:Int)),(8,nilS),(9,iv (IntKind.i64.wrap ((↑k:Int)+(1:Int))))]) (Hp.mk [(0,O.rows 1 false [[V.lst 6 (bkl m)]]),(1,O.rows 5 true (jtl js))] 2 [])))))) (I (St.mk (mkT [(0,V.lst 3 (kdl l)),(3,V.ptr (Id.p 0) 0 0),(5,V.lst s (lkl L)),(6,V.sl (Id.p 1) 0 q),(7,iv (↑i:Int)),(8,nilS),(9,iv (IntKind.i64.wrap ((↑k:Int)+(1:Int))))]) (Hp.mk [(0,O.rows 1 false [[V.lst 6 (bkl m)]]),(1,O.rows 5 true (jtl js))] 2 [])))))) (K0G Tryz.prog glX 119 [V.lst 3 (kdl l),V.agg [V.lst 6 (bkl m)],nilS] fun v=>onAgg v fun cs=>onCons cs fun u r=>onIntK IntKind.i64 u fun n=>onCons r fun u r=>onIntK IntKind.i64 u fun n_1=>onCons r fun u r=>onIntK IntKind.i64 u fun n_2=>onCons r fun u r=>onIntK IntKind.u8 u fun n_3=>onCons r fun u r=>onBool u fun b=>onNil r (need ((q+1) * 32≤140737488355328) (J (St.mk (mkT [(0,V.lst 3 (kdl l)),(3,V.ptr (Id.p 0) 0 0),(5,V.lst s (lkl L)),(6,V.sl (Id.p 1) 0 (q+1)),(7,iv (IntKind.i64.wrap ((↑i:Int)+(1:Int))))]) (Hp.mk [(0,O.rows 1 false [[V.lst 6 (bkl m)]]),(1,O.rows 5 true (List.take q (jtl js)++[[iv n,iv n_1,iv n_2,V.raw (Value.int IntKind.u8 n_3),bv b]]))] 2 [])))))) (by kernel_rfl) ?_
    rw [lkl_length,← hn]
    refine ifB_mk (fun e=>?_) (fun e=>?_)
    ·have hk:k<n:=by have:=of_decide_eq_true e; omega
     have hz:L[k]? = some (at_ L k):=at_get (by omega)
     obtain ⟨z,hzz⟩ : ∃ z,z=at_ L k:=⟨_,rfl⟩
     rw [← hzz] at hz
     refine need_mk ⟨hs5,onSome_mk (lrow hz) (onSome_mk (x:=iv z.1) rfl (onIntK_iv (need_mk ⟨hs5,onSome_mk (lrow hf') (onSome_mk (x:=iv (at_ L i).1) rfl (onIntK_iv (ifB_mk (fun c1=>?_) (fun c1=>?_))))⟩)))⟩
     ·refine need_mk ⟨hs5,onSome_mk (lrow hz) (onSome_mk (x:=iv z.2.1) rfl (onIntK_iv (need_mk ⟨hs5,onSome_mk (lrow hf') (onSome_mk (x:=iv (at_ L i).2.1) rfl (onIntK_iv (ifB_mk (fun c2=>?_) (fun c2=>?_))))⟩)))⟩
      ·have hkey:key z=key (at_ L i):=key_eq.2 ⟨by simpa using c1,by simpa using c2⟩
       refine need_mk ⟨hs5,lel hz ?_⟩
       rw [wr1i hk (by omega)]
       exact hI (true,k+1,1,[z]) ⟨hk,rfl,by simp only; rw [ownT_yes hz hkey,← gK,gb' rfl]; rfl,(fun h=>by cases h)⟩ (by simp only; omega)
      ·rw [wr1i hk (by omega)]
       exact hI (false,k+1,p,K) ⟨hk,gp,by simp only; rw [ownT_no hz (fun q=>by have:=key_eq.1 q; simp [this.2] at c2)]; exact gK,gb'⟩ (by simp only; omega)
     ·rw [wr1i hk (by omega)]
      exact hI (false,k+1,p,K) ⟨hk,gp,by simp only; rw [ownT_no hz (fun q=>by have:=key_eq.1 q; simp [this.1] at c1)]; exact gK,gb'⟩ (by simp only; omega)
    ·have hk:k=n:=by have:=of_decide_eq_false e; omega
     have hKo:K=owL L i:=by rw [gK,hk]; unfold ownT owL; rw [List.take_of_length_le (by omega)]
     have hKne:K≠[]:=fun q=>by
      have hm:at_ L i∈owL L i:=List.mem_filter.2 ⟨mem_at hf', by simp⟩
      rw [← hKo,q] at hm
      simp at hm
     exact absurd (gb' rfl) hKne
   ·refine see (p:=ifB (decide ((↑k:Int)<(↑(lkl L).length:Int))) (need (s=5) (onSome (lkl L)[k]? fun row=>onSome row[0]? fun v=>onIntK IntKind.i64 v fun n=>need (s=5) (onSome (lkl L)[i]? fun row=>onSome row[0]? fun v=>onIntK IntKind.i64 v fun n_1=>ifB (n==n_1) (need (s=5) (onSome (lkl L)[k]? fun row=>onSome row[1]? fun v=>onIntK IntKind.i64 v fun n=>need (s=5) (onSome (lkl L)[i]? fun row=>onSome row[1]? fun v=>onIntK IntKind.i64 v fun n_2=>ifB (n==n_2) (need (s=5) (onSome (lkl L)[k]? fun row=>onCons (List.drop 0 row) fun u r=>onIntK IntKind.i64 u fun n=>onCons r fun u r=>onIntK IntKind.i64 u fun n_3=>onCons r fun u r=>onIntK IntKind.i64 u fun n_4=>onCons r fun u r=>onIntK IntKind.i64 u fun n_5=>onCons r fun u r=>onIntK IntKind.u8 u fun n_6=>need ((p+1) * 40≤140737488355328) (I (St.mk (mkT [(0,V.lst 3 (kdl l)),(3,V.ptr (Id.p 0) 0 0),(5,V.lst s (lkl L)),(6,V.sl (Id.p 1) 0 q),(7,iv (↑i:Int)),(8,V.sl (Id.p 2) 0 (p+1)),(9,iv (IntKind.i64.wrap ((↑k:Int)+(1:Int))))]) (Hp.mk [(0,O.rows 1 false [[V.lst 6 (bkl m)]]),(1,O.rows 5 true (jtl js)),(2,O.rows 5 true (List.take p (lkl K)++[[iv n,iv n_3,iv n_4,iv n_5,V.raw (Value.int IntKind.u8 n_6)]]))] 3 []))))) (I (St.mk (mkT [(0,V.lst 3 (kdl l)),(3,V.ptr (Id.p 0) 0 0),(5,V.lst s (lkl L)),(6,V.sl (Id.p 1) 0 q),(7,iv (↑i:Int)),(8,V.sl (Id.p 2) 0 p),(9,iv (IntKind.i64.wrap ((↑k:Int)+(1:Int))))]) (Hp.mk [(0,O.rows 1 false [[V.lst 6 (bkl m)]]),(1,O.rows 5 true (jtl js)),(2,O.rows 5 true (lkl K))] 3 [])))))) (I (St.mk (mkT [(0,V.lst 3 (kdl l)),(3,V.ptr (Id.p 0) 0 0),(5,V.lst s (lkl L)),(6,V.sl (Id.p 1) 0 q),(7,iv (↑i:Int)),(8,V.sl (Id.p 2) 0 p),(9,iv (IntKind.i64.wrap ((↑k:Int)+(1:Int))))]) (Hp.mk [(0,O.rows 1 false [[V.lst 6 (bkl m)]]),(1,O.rows 5 true (jtl js)),(2,O.rows 5 true (lkl K))] 3 [])))))) (K0G Tryz.prog glX 119 [V.lst 3 (kdl l),V.agg [V.lst 6 (bkl m)],V.lst 5 (sub (lkl K) 0 p)] fun v=>onAgg v fun cs=>onCons cs fun u r=>onIntK IntKind.i64 u fun n=>onCons r fun u r=>onIntK IntKind.i64 u fun n_1=>onCons r fun u r=>onIntK IntKind.i64 u fun n_2=>onCons r fun u r=>onIntK IntKind.u8 u fun n_3=>onCons r fun u r=>onBool u fun b=>onNil r (need ((q+1) * 32≤140737488355328) (J (St.mk (mkT [(0,V.lst 3 (kdl l)),(3,V.ptr (Id.p 0) 0 0),(5,V.lst s (lkl L)),(6,V.sl (Id.p 1) 0 (q+1)),(7,iv (IntKind.i64.wrap ((↑i:Int)+(1:Int))))]) (Hp.mk [(0,O.rows 1 false [[V.lst 6 (bkl m)]]),(1,O.rows 5 true (List.take q (jtl js)++[[iv n,iv n_1,iv n_2,V.raw (Value.int IntKind.u8 n_3),bv b]]))] 2 [])))))) (by kernel_rfl) ?_
    rw [lkl_length,← hn]
    refine ifB_mk (fun e=>?_) (fun e=>?_)
    ·have hk:k<n:=by have:=of_decide_eq_true e; omega
     have hz:L[k]? = some (at_ L k):=at_get (by omega)
     obtain ⟨z,hzz⟩ : ∃ z,z=at_ L k:=⟨_,rfl⟩
     rw [← hzz] at hz
     refine need_mk ⟨hs5,onSome_mk (lrow hz) (onSome_mk (x:=iv z.1) rfl (onIntK_iv (need_mk ⟨hs5,onSome_mk (lrow hf') (onSome_mk (x:=iv (at_ L i).1) rfl (onIntK_iv (ifB_mk (fun c1=>?_) (fun c1=>?_))))⟩)))⟩
     ·refine need_mk ⟨hs5,onSome_mk (lrow hz) (onSome_mk (x:=iv z.2.1) rfl (onIntK_iv (need_mk ⟨hs5,onSome_mk (lrow hf') (onSome_mk (x:=iv (at_ L i).2.1) rfl (onIntK_iv (ifB_mk (fun c2=>?_) (fun c2=>?_))))⟩)))⟩
      ·have hkey:key z=key (at_ L i):=key_eq.2 ⟨by simpa using c1,by simpa using c2⟩
       refine need_mk ⟨hs5,lel hz ?_⟩
       refine need_mk ⟨by omega,?_⟩
       have e:List.take p (lkl K)++[[iv z.1,iv z.2.1,iv z.2.2.1,iv z.2.2.2.1,V.raw (Value.int IntKind.u8 z.2.2.2.2)]]=lkl (K++[z]):=by
        rw [gp,← lkl_length,List.take_length]; simp [lkl,lkr,u8]
       rw [wr1i hk (by omega),e]
       exact hI (true,k+1,p+1,K++[z]) ⟨hk,by simp [gp],by simp only; rw [ownT_yes hz hkey,gK],(fun h=>by cases h)⟩ (by simp only; omega)
      ·rw [wr1i hk (by omega)]
       exact hI (true,k+1,p,K) ⟨hk,gp,by simp only; rw [ownT_no hz (fun q=>by have:=key_eq.1 q; simp [this.2] at c2)]; exact gK,gb'⟩ (by simp only; omega)
     ·rw [wr1i hk (by omega)]
      exact hI (true,k+1,p,K) ⟨hk,gp,by simp only; rw [ownT_no hz (fun q=>by have:=key_eq.1 q; simp [this.1] at c1)]; exact gK,gb'⟩ (by simp only; omega)
    ·have hk:k=n:=by have:=of_decide_eq_false e; omega
     have hKo:K=owL L i:=by rw [gK,hk]; unfold ownT owL; rw [List.take_of_length_le (by omega)]
     have hKne:K≠[]:=fun q=>by
      have hm:at_ L i∈owL L i:=List.mem_filter.2 ⟨mem_at hf', by simp⟩
      rw [← hKo,q] at hm
      simp at hm
     rw [show sub (lkl K) 0 p=lkl K from by rw [gp,← lkl_length,sub,List.drop_zero,List.take_length],hKo]
     obtain ⟨x,hx⟩:=getI (l:=owL L i) (k:=0) (List.length_pos_iff.2 (hKo ▸ hKne))
     refine joined119 hl hr hA hx hown (by have:=List.length_filter_le (fun x=>decide (key x=key (at_ L i))) L; unfold owL; omega) (onAgg_agg (onCons_cons (onIntK_iv (onCons_cons (onIntK_iv (onCons_cons (onIntK_iv (onCons_cons (onIntK_u8 (onCons_cons (onBool_bv (onNil_nil ?_))))))))))))
     refine need_mk ⟨by omega,?_⟩
     have e:List.take q (jtl js)++[jtr (joF (bods l m) (owL L i))]=jtl (js++[joF (bods l m) (owL L i)]):=by
      rw [gq,← jtl_length,List.take_length]; simp [jtl]
     rw [wr1i hi (by omega)]
     refine (congrArg J ?_).mp (hJ (true,i+1,q+1,js++[joF (bods l m) (owL L i)]) ⟨hi,by simp [gq],by simp only; rw [jnS_succ,dc_t hd,if_pos rfl,gj],(fun h=>by cases h)⟩ (by simp only; omega))
     show jRaS l m s L (i+1) (js++[joF (bods l m) (owL L i)]) (q+1)=_
     unfold jRaS
     rw [← e]
     rfl
  rcases bo with _ | _
  ·refine see (p:=ifB (decide ((↑i:Int)<(↑(lkl L).length:Int))) (ifB (decide ((↑i:Int) > (0:Int))) (need (s=5) (onSome (lkl L)[i]? fun row=>onSome row[0]? fun v=>onIntK IntKind.i64 v fun n=>onNat (IntKind.i64.wrap ((↑i:Int) - (1:Int))) fun m_1=>need (s=5) (onSome (lkl L)[m_1]? fun row=>onSome row[0]? fun v=>onIntK IntKind.i64 v fun n_1=>ifB (n==n_1) (need (s=5) (onSome (lkl L)[i]? fun row=>onSome row[1]? fun v=>onIntK IntKind.i64 v fun n=>onNat (IntKind.i64.wrap ((↑i:Int) - (1:Int))) fun m_2=>need (s=5) (onSome (lkl L)[m_2]? fun row=>onSome row[1]? fun v=>onIntK IntKind.i64 v fun n_2=>ifB (n==n_2) (J (St.mk (mkT [(0,V.lst 3 (kdl l)),(3,V.ptr (Id.p 0) 0 0),(5,V.lst s (lkl L)),(6,nilS),(7,iv (IntKind.i64.wrap ((↑i:Int)+(1:Int))))]) (Hp.mk [(0,O.rows 1 false [[V.lst 6 (bkl m)]])] 1 []))) (La 0 [(0:Tmp),(3:Tmp),(5:Tmp),(6:Tmp),(7:Tmp),(8:Tmp),(9:Tmp)] (WY Tryz.prog cfRR 2984 (Env.mk (Bs.mk 0 []) 0 none 94 69 2) (cdAt [1,1,1,0,1,0,0,1,0,0,1,1,0,1,0,0] (bodyOf Tryz.f69))) (Qblk 2 (Qthen (WY Tryz.prog cfRR 2987 (Env.mk (Bs.mk 0 []) 0 none 94 69 1) (cdAt [1,1,1,0,1,0,0,1,0,0,1,1,1] (bodyOf Tryz.f69)) (Qblk 1 (Qthen (WY Tryz.prog cfRR 2991 (Env.mk (Bs.mk 0 []) 0 none 94 69 0) (cdAt [1,1,1,0,1,0,0,1,1] (bodyOf Tryz.f69)) (Qla 0 [(0:Tmp),(3:Tmp),(5:Tmp),(6:Tmp),(7:Tmp)] J (Qblk 0 (Qthen (WY Tryz.prog cfRR 2996 (Env.mk (Bs.mk 0 []) 0 none 94 69 0) (cdAt [1,1,1,1] (bodyOf Tryz.f69)) (QendX Tryz.prog Tryz.f69 fun v h=>R (frzW h v))) (QendX Tryz.prog Tryz.f69 fun v h=>R (frzW h v)))))) (Qla 0 [(0:Tmp),(3:Tmp),(5:Tmp),(6:Tmp),(7:Tmp)] J (Qblk 0 (Qthen (WY Tryz.prog cfRR 2996 (Env.mk (Bs.mk 0 []) 0 none 94 69 0) (cdAt [1,1,1,1] (bodyOf Tryz.f69)) (QendX Tryz.prog Tryz.f69 fun v h=>R (frzW h v))) (QendX Tryz.prog Tryz.f69 fun v h=>R (frzW h v)))))))) (Qblk 1 (Qthen (WY Tryz.prog cfRR 2991 (Env.mk (Bs.mk 0 []) 0 none 94 69 0) (cdAt [1,1,1,0,1,0,0,1,1] (bodyOf Tryz.f69)) (Qla 0 [(0:Tmp),(3:Tmp),(5:Tmp),(6:Tmp),(7:Tmp)] J (Qblk 0 (Qthen (WY Tryz.prog cfRR 2996 (Env.mk (Bs.mk 0 []) 0 none 94 69 0) (cdAt [1,1,1,1] (bodyOf Tryz.f69)) (QendX Tryz.prog Tryz.f69 fun v h=>R (frzW h v))) (QendX Tryz.prog Tryz.f69 fun v h=>R (frzW h v)))))) (Qla 0 [(0:Tmp),(3:Tmp),(5:Tmp),(6:Tmp),(7:Tmp)] J (Qblk 0 (Qthen (WY Tryz.prog cfRR 2996 (Env.mk (Bs.mk 0 []) 0 none 94 69 0) (cdAt [1,1,1,1] (bodyOf Tryz.f69)) (QendX Tryz.prog Tryz.f69 fun v h=>R (frzW h v))) (QendX Tryz.prog Tryz.f69 fun v h=>R (frzW h v))))))))) (St.mk (mkT [(0,V.lst 3 (kdl l)),(3,V.ptr (Id.p 0) 0 0),(5,V.lst s (lkl L)),(6,nilS),(7,iv (↑i:Int)),(8,nilS),(9,iv (0:Int))]) (Hp.mk [(0,O.rows 1 false [[V.lst 6 (bkl m)]])] 1 [])))))) (La 0 [(0:Tmp),(3:Tmp),(5:Tmp),(6:Tmp),(7:Tmp),(8:Tmp),(9:Tmp)] (WY Tryz.prog cfRR 2984 (Env.mk (Bs.mk 0 []) 0 none 94 69 2) (cdAt [1,1,1,0,1,0,0,1,0,0,1,1,0,1,0,0] (bodyOf Tryz.f69))) (Qblk 2 (Qthen (WY Tryz.prog cfRR 2987 (Env.mk (Bs.mk 0 []) 0 none 94 69 1) (cdAt [1,1,1,0,1,0,0,1,0,0,1,1,1] (bodyOf Tryz.f69)) (Qblk 1 (Qthen (WY Tryz.prog cfRR 2991 (Env.mk (Bs.mk 0 []) 0 none 94 69 0) (cdAt [1,1,1,0,1,0,0,1,1] (bodyOf Tryz.f69)) (Qla 0 [(0:Tmp),(3:Tmp),(5:Tmp),(6:Tmp),(7:Tmp)] J (Qblk 0 (Qthen (WY Tryz.prog cfRR 2996 (Env.mk (Bs.mk 0 []) 0 none 94 69 0) (cdAt [1,1,1,1] (bodyOf Tryz.f69)) (QendX Tryz.prog Tryz.f69 fun v h=>R (frzW h v))) (QendX Tryz.prog Tryz.f69 fun v h=>R (frzW h v)))))) (Qla 0 [(0:Tmp),(3:Tmp),(5:Tmp),(6:Tmp),(7:Tmp)] J (Qblk 0 (Qthen (WY Tryz.prog cfRR 2996 (Env.mk (Bs.mk 0 []) 0 none 94 69 0) (cdAt [1,1,1,1] (bodyOf Tryz.f69)) (QendX Tryz.prog Tryz.f69 fun v h=>R (frzW h v))) (QendX Tryz.prog Tryz.f69 fun v h=>R (frzW h v)))))))) (Qblk 1 (Qthen (WY Tryz.prog cfRR 2991 (Env.mk (Bs.mk 0 []) 0 none 94 69 0) (cdAt [1,1,1,0,1,0,0,1,1] (bodyOf Tryz.f69)) (Qla 0 [(0:Tmp),(3:Tmp),(5:Tmp),(6:Tmp),(7:Tmp)] J (Qblk 0 (Qthen (WY Tryz.prog cfRR 2996 (Env.mk (Bs.mk 0 []) 0 none 94 69 0) (cdAt [1,1,1,1] (bodyOf Tryz.f69)) (QendX Tryz.prog Tryz.f69 fun v h=>R (frzW h v))) (QendX Tryz.prog Tryz.f69 fun v h=>R (frzW h v)))))) (Qla 0 [(0:Tmp),(3:Tmp),(5:Tmp),(6:Tmp),(7:Tmp)] J (Qblk 0 (Qthen (WY Tryz.prog cfRR 2996 (Env.mk (Bs.mk 0 []) 0 none 94 69 0) (cdAt [1,1,1,1] (bodyOf Tryz.f69)) (QendX Tryz.prog Tryz.f69 fun v h=>R (frzW h v))) (QendX Tryz.prog Tryz.f69 fun v h=>R (frzW h v))))))))) (St.mk (mkT [(0,V.lst 3 (kdl l)),(3,V.ptr (Id.p 0) 0 0),(5,V.lst s (lkl L)),(6,nilS),(7,iv (↑i:Int)),(8,nilS),(9,iv (0:Int))]) (Hp.mk [(0,O.rows 1 false [[V.lst 6 (bkl m)]])] 1 [])))))) (La 0 [(0:Tmp),(3:Tmp),(5:Tmp),(6:Tmp),(7:Tmp),(8:Tmp),(9:Tmp)] (WY Tryz.prog cfRR 2984 (Env.mk (Bs.mk 0 []) 0 none 94 69 2) (cdAt [1,1,1,0,1,0,0,1,0,0,1,1,0,1,0,0] (bodyOf Tryz.f69))) (Qblk 2 (Qthen (WY Tryz.prog cfRR 2987 (Env.mk (Bs.mk 0 []) 0 none 94 69 1) (cdAt [1,1,1,0,1,0,0,1,0,0,1,1,1] (bodyOf Tryz.f69)) (Qblk 1 (Qthen (WY Tryz.prog cfRR 2991 (Env.mk (Bs.mk 0 []) 0 none 94 69 0) (cdAt [1,1,1,0,1,0,0,1,1] (bodyOf Tryz.f69)) (Qla 0 [(0:Tmp),(3:Tmp),(5:Tmp),(6:Tmp),(7:Tmp)] J (Qblk 0 (Qthen (WY Tryz.prog cfRR 2996 (Env.mk (Bs.mk 0 []) 0 none 94 69 0) (cdAt [1,1,1,1] (bodyOf Tryz.f69)) (QendX Tryz.prog Tryz.f69 fun v h=>R (frzW h v))) (QendX Tryz.prog Tryz.f69 fun v h=>R (frzW h v)))))) (Qla 0 [(0:Tmp),(3:Tmp),(5:Tmp),(6:Tmp),(7:Tmp)] J (Qblk 0 (Qthen (WY Tryz.prog cfRR 2996 (Env.mk (Bs.mk 0 []) 0 none 94 69 0) (cdAt [1,1,1,1] (bodyOf Tryz.f69)) (QendX Tryz.prog Tryz.f69 fun v h=>R (frzW h v))) (QendX Tryz.prog Tryz.f69 fun v h=>R (frzW h v)))))))) (Qblk 1 (Qthen (WY Tryz.prog cfRR 2991 (Env.mk (Bs.mk 0 []) 0 none 94 69 0) (cdAt [1,1,1,0,1,0,0,1,1] (bodyOf Tryz.f69)) (Qla 0 [(0:Tmp),(3:Tmp),(5:Tmp),(6:Tmp),(7:Tmp)] J (Qblk 0 (Qthen (WY Tryz.prog cfRR 2996 (Env.mk (Bs.mk 0 []) 0 none 94 69 0) (cdAt [1,1,1,1] (bodyOf Tryz.f69)) (QendX Tryz.prog Tryz.f69 fun v h=>R (frzW h v))) (QendX Tryz.prog Tryz.f69 fun v h=>R (frzW h v)))))) (Qla 0 [(0:Tmp),(3:Tmp),(5:Tmp),(6:Tmp),(7:Tmp)] J (Qblk 0 (Qthen (WY Tryz.prog cfRR 2996 (Env.mk (Bs.mk 0 []) 0 none 94 69 0) (cdAt [1,1,1,1] (bodyOf Tryz.f69)) (QendX Tryz.prog Tryz.f69 fun v h=>R (frzW h v))) (QendX Tryz.prog Tryz.f69 fun v h=>R (frzW h v))))))))) (St.mk (mkT [(0,V.lst 3 (kdl l)),(3,V.ptr (Id.p 0) 0 0),(5,V.lst s (lkl L)),(6,nilS),(7,iv (↑i:Int)),(8,nilS),(9,iv (0:Int))]) (Hp.mk [(0,O.rows 1 false [[V.lst 6 (bkl m)]])] 1 [])))) (R nilS)) (by kernel_rfl) ?_
   rw [lkl_length,← hn]
   refine ifB_mk (fun d=>?_) (fun d=>?_)
   ·have hi:i<n:=by have:=of_decide_eq_true d; omega
    have hs5:=hs5 hi
    have hf' : L[i]? = some (at_ L i):=at_get (by omega)
    refine ifB_mk (fun d0=>?_) (fun d0=>?_)
    ·have i0:0<i:=by have:=of_decide_eq_true d0; omega
     have hp' : L[i - 1]? = some (at_ L (i - 1)):=at_get (by omega)
     have wi:IntKind.i64.wrap ((i:Int) - (1:Int))=((i - 1:Nat):Int):=by rw [wr (by omega) (by omega)]; omega
     refine need_mk ⟨hs5,onSome_mk (lrow hf') (onSome_mk (x:=iv (at_ L i).1) rfl (onIntK_iv (onNat_mk (m:=i - 1) wi (need_mk ⟨hs5,onSome_mk (lrow hp') (onSome_mk (x:=iv (at_ L (i - 1)).1) rfl (onIntK_iv (ifB_mk (fun c1=>?_) (fun c1=>?_))))⟩))))⟩
     ·refine need_mk ⟨hs5,onSome_mk (lrow hf') (onSome_mk (x:=iv (at_ L i).2.1) rfl (onIntK_iv (onNat_mk (m:=i - 1) wi (need_mk ⟨hs5,onSome_mk (lrow hp') (onSome_mk (x:=iv (at_ L (i - 1)).2.1) rfl (onIntK_iv (ifB_mk (fun c2=>?_) (fun c2=>?_))))⟩))))⟩
      ·have hkey:key (at_ L i)=key (at_ L (i - 1)):=key_eq.2 ⟨by simpa using c1,by simpa using c2⟩
       rw [wr1i hi (by omega)]
       exact hJ (false,i+1,q,js) ⟨hi,gq,by simp only; rw [jnS_succ,dc_f (fun q=>q.elim (fun q=>by omega) (fun q=>q hkey.symm)),if_neg (by simp),List.append_nil]; exact gj,gb⟩ (by simp only; omega)
      ·exact see (by kernel_rfl) (loop hi (.inr (fun q=>by have:=key_eq.1 q; simp [this.2] at c2)))
     ·exact see (by kernel_rfl) (loop hi (.inr (fun q=>by have:=key_eq.1 q; simp [this.1] at c1)))
    ·exact see (by kernel_rfl) (loop hi (.inl (by have:=of_decide_eq_false d0; omega)))
   ·have hi:i=n:=by have:=of_decide_eq_false d; omega
    exact h0 (by rw [← hi,← gj]; exact gb rfl)
  ·refine see (p:=ifB (decide ((↑i:Int)<(↑(lkl L).length:Int))) (ifB (decide ((↑i:Int) > (0:Int))) (need (s=5) (onSome (lkl L)[i]? fun row=>onSome row[0]? fun v=>onIntK IntKind.i64 v fun n=>onNat (IntKind.i64.wrap ((↑i:Int) - (1:Int))) fun m_1=>need (s=5) (onSome (lkl L)[m_1]? fun row=>onSome row[0]? fun v=>onIntK IntKind.i64 v fun n_1=>ifB (n==n_1) (need (s=5) (onSome (lkl L)[i]? fun row=>onSome row[1]? fun v=>onIntK IntKind.i64 v fun n=>onNat (IntKind.i64.wrap ((↑i:Int) - (1:Int))) fun m_2=>need (s=5) (onSome (lkl L)[m_2]? fun row=>onSome row[1]? fun v=>onIntK IntKind.i64 v fun n_2=>ifB (n==n_2) (J (St.mk (mkT [(0,V.lst 3 (kdl l)),(3,V.ptr (Id.p 0) 0 0),(5,V.lst s (lkl L)),(6,V.sl (Id.p 1) 0 q),(7,iv (IntKind.i64.wrap ((↑i:Int)+(1:Int))))]) (Hp.mk [(0,O.rows 1 false [[V.lst 6 (bkl m)]]),(1,O.rows 5 true (jtl js))] 2 []))) (La 0 [(0:Tmp),(3:Tmp),(5:Tmp),(6:Tmp),(7:Tmp),(8:Tmp),(9:Tmp)] (WY Tryz.prog cfRR 2984 (Env.mk (Bs.mk 0 []) 0 none 94 69 2) (cdAt [1,1,1,0,1,0,0,1,0,0,1,1,0,1,0,0] (bodyOf Tryz.f69))) (Qblk 2 (Qthen (WY Tryz.prog cfRR 2987 (Env.mk (Bs.mk 0 []) 0 none 94 69 1) (cdAt [1,1,1,0,1,0,0,1,0,0,1,1,1] (bodyOf Tryz.f69)) (Qblk 1 (Qthen (WY Tryz.prog cfRR 2991 (Env.mk (Bs.mk 0 []) 0 none 94 69 0) (cdAt [1,1,1,0,1,0,0,1,1] (bodyOf Tryz.f69)) (Qla 0 [(0:Tmp),(3:Tmp),(5:Tmp),(6:Tmp),(7:Tmp)] J (Qblk 0 (Qthen (WY Tryz.prog cfRR 2996 (Env.mk (Bs.mk 0 []) 0 none 94 69 0) (cdAt [1,1,1,1] (bodyOf Tryz.f69)) (QendX Tryz.prog Tryz.f69 fun v h=>R (frzW h v))) (QendX Tryz.prog Tryz.f69 fun v h=>R (frzW h v)))))) (Qla 0 [(0:Tmp),(3:Tmp),(5:Tmp),(6:Tmp),(7:Tmp)] J (Qblk 0 (Qthen (WY Tryz.prog cfRR 2996 (Env.mk (Bs.mk 0 []) 0 none 94 69 0) (cdAt [1,1,1,1] (bodyOf Tryz.f69)) (QendX Tryz.prog Tryz.f69 fun v h=>R (frzW h v))) (QendX Tryz.prog Tryz.f69 fun v h=>R (frzW h v)))))))) (Qblk 1 (Qthen (WY Tryz.prog cfRR 2991 (Env.mk (Bs.mk 0 []) 0 none 94 69 0) (cdAt [1,1,1,0,1,0,0,1,1] (bodyOf Tryz.f69)) (Qla 0 [(0:Tmp),(3:Tmp),(5:Tmp),(6:Tmp),(7:Tmp)] J (Qblk 0 (Qthen (WY Tryz.prog cfRR 2996 (Env.mk (Bs.mk 0 []) 0 none 94 69 0) (cdAt [1,1,1,1] (bodyOf Tryz.f69)) (QendX Tryz.prog Tryz.f69 fun v h=>R (frzW h v))) (QendX Tryz.prog Tryz.f69 fun v h=>R (frzW h v)))))) (Qla 0 [(0:Tmp),(3:Tmp),(5:Tmp),(6:Tmp),(7:Tmp)] J (Qblk 0 (Qthen (WY Tryz.prog cfRR 2996 (Env.mk (Bs.mk 0 []) 0 none 94 69 0) (cdAt [1,1,1,1] (bodyOf Tryz.f69)) (QendX Tryz.prog Tryz.f69 fun v h=>R (frzW h v))) (QendX Tryz.prog Tryz.f69 fun v h=>R (frzW h v))))))))) (St.mk (mkT [(0,V.lst 3 (kdl l)),(3,V.ptr (Id.p 0) 0 0),(5,V.lst s (lkl L)),(6,V.sl (Id.p 1) 0 q),(7,iv (↑i:Int)),(8,nilS),(9,iv (0:Int))]) (Hp.mk [(0,O.rows 1 false [[V.lst 6 (bkl m)]]),(1,O.rows 5 true (jtl js))] 2 [])))))) (La 0 [(0:Tmp),(3:Tmp),(5:Tmp),(6:Tmp),(7:Tmp),(8:Tmp),(9:Tmp)] (WY Tryz.prog cfRR 2984 (Env.mk (Bs.mk 0 []) 0 none 94 69 2) (cdAt [1,1,1,0,1,0,0,1,0,0,1,1,0,1,0,0] (bodyOf Tryz.f69))) (Qblk 2 (Qthen (WY Tryz.prog cfRR 2987 (Env.mk (Bs.mk 0 []) 0 none 94 69 1) (cdAt [1,1,1,0,1,0,0,1,0,0,1,1,1] (bodyOf Tryz.f69)) (Qblk 1 (Qthen (WY Tryz.prog cfRR 2991 (Env.mk (Bs.mk 0 []) 0 none 94 69 0) (cdAt [1,1,1,0,1,0,0,1,1] (bodyOf Tryz.f69)) (Qla 0 [(0:Tmp),(3:Tmp),(5:Tmp),(6:Tmp),(7:Tmp)] J (Qblk 0 (Qthen (WY Tryz.prog cfRR 2996 (Env.mk (Bs.mk 0 []) 0 none 94 69 0) (cdAt [1,1,1,1] (bodyOf Tryz.f69)) (QendX Tryz.prog Tryz.f69 fun v h=>R (frzW h v))) (QendX Tryz.prog Tryz.f69 fun v h=>R (frzW h v)))))) (Qla 0 [(0:Tmp),(3:Tmp),(5:Tmp),(6:Tmp),(7:Tmp)] J (Qblk 0 (Qthen (WY Tryz.prog cfRR 2996 (Env.mk (Bs.mk 0 []) 0 none 94 69 0) (cdAt [1,1,1,1] (bodyOf Tryz.f69)) (QendX Tryz.prog Tryz.f69 fun v h=>R (frzW h v))) (QendX Tryz.prog Tryz.f69 fun v h=>R (frzW h v)))))))) (Qblk 1 (Qthen (WY Tryz.prog cfRR 2991 (Env.mk (Bs.mk 0 []) 0 none 94 69 0) (cdAt [1,1,1,0,1,0,0,1,1] (bodyOf Tryz.f69)) (Qla 0 [(0:Tmp),(3:Tmp),(5:Tmp),(6:Tmp),(7:Tmp)] J (Qblk 0 (Qthen (WY Tryz.prog cfRR 2996 (Env.mk (Bs.mk 0 []) 0 none 94 69 0) (cdAt [1,1,1,1] (bodyOf Tryz.f69)) (QendX Tryz.prog Tryz.f69 fun v h=>R (frzW h v))) (QendX Tryz.prog Tryz.f69 fun v h=>R (frzW h v)))))) (Qla 0 [(0:Tmp),(3:Tmp),(5:Tmp),(6:Tmp),(7:Tmp)] J (Qblk 0 (Qthen (WY Tryz.prog cfRR 2996 (Env.mk (Bs.mk 0 []) 0 none 94 69 0) (cdAt [1,1,1,1] (bodyOf Tryz.f69)) (QendX Tryz.prog Tryz.f69 fun v h=>R (frzW h v))) (QendX Tryz.prog Tryz.f69 fun v h=>R (frzW h v))))))))) (St.mk (mkT [(0,V.lst 3 (kdl l)),(3,V.ptr (Id.p 0) 0 0),(5,V.lst s (lkl L)),(6,V.sl (Id.p 1) 0 q),(7,iv (↑i:Int)),(8,nilS),(9,iv (0:Int))]) (Hp.mk [(0,O.rows 1 false [[V.lst 6 (bkl m)]]),(1,O.rows 5 true (jtl js))] 2 [])))))) (La 0 [(0:Tmp),(3:Tmp),(5:Tmp),(6:Tmp),(7:Tmp),(8:Tmp),(9:Tmp)] (WY Tryz.prog cfRR 2984 (Env.mk (Bs.mk 0 []) 0 none 94 69 2) (cdAt [1,1,1,0,1,0,0,1,0,0,1,1,0,1,0,0] (bodyOf Tryz.f69))) (Qblk 2 (Qthen (WY Tryz.prog cfRR 2987 (Env.mk (Bs.mk 0 []) 0 none 94 69 1) (cdAt [1,1,1,0,1,0,0,1,0,0,1,1,1] (bodyOf Tryz.f69)) (Qblk 1 (Qthen (WY Tryz.prog cfRR 2991 (Env.mk (Bs.mk 0 []) 0 none 94 69 0) (cdAt [1,1,1,0,1,0,0,1,1] (bodyOf Tryz.f69)) (Qla 0 [(0:Tmp),(3:Tmp),(5:Tmp),(6:Tmp),(7:Tmp)] J (Qblk 0 (Qthen (WY Tryz.prog cfRR 2996 (Env.mk (Bs.mk 0 []) 0 none 94 69 0) (cdAt [1,1,1,1] (bodyOf Tryz.f69)) (QendX Tryz.prog Tryz.f69 fun v h=>R (frzW h v))) (QendX Tryz.prog Tryz.f69 fun v h=>R (frzW h v)))))) (Qla 0 [(0:Tmp),(3:Tmp),(5:Tmp),(6:Tmp),(7:Tmp)] J (Qblk 0 (Qthen (WY Tryz.prog cfRR 2996 (Env.mk (Bs.mk 0 []) 0 none 94 69 0) (cdAt [1,1,1,1] (bodyOf Tryz.f69)) (QendX Tryz.prog Tryz.f69 fun v h=>R (frzW h v))) (QendX Tryz.prog Tryz.f69 fun v h=>R (frzW h v)))))))) (Qblk 1 (Qthen (WY Tryz.prog cfRR 2991 (Env.mk (Bs.mk 0 []) 0 none 94 69 0) (cdAt [1,1,1,0,1,0,0,1,1] (bodyOf Tryz.f69)) (Qla 0 [(0:Tmp),(3:Tmp),(5:Tmp),(6:Tmp),(7:Tmp)] J (Qblk 0 (Qthen (WY Tryz.prog cfRR 2996 (Env.mk (Bs.mk 0 []) 0 none 94 69 0) (cdAt [1,1,1,1] (bodyOf Tryz.f69)) (QendX Tryz.prog Tryz.f69 fun v h=>R (frzW h v))) (QendX Tryz.prog Tryz.f69 fun v h=>R (frzW h v)))))) (Qla 0 [(0:Tmp),(3:Tmp),(5:Tmp),(6:Tmp),(7:Tmp)] J (Qblk 0 (Qthen (WY Tryz.prog cfRR 2996 (Env.mk (Bs.mk 0 []) 0 none 94 69 0) (cdAt [1,1,1,1] (bodyOf Tryz.f69)) (QendX Tryz.prog Tryz.f69 fun v h=>R (frzW h v))) (QendX Tryz.prog Tryz.f69 fun v h=>R (frzW h v))))))))) (St.mk (mkT [(0,V.lst 3 (kdl l)),(3,V.ptr (Id.p 0) 0 0),(5,V.lst s (lkl L)),(6,V.sl (Id.p 1) 0 q),(7,iv (↑i:Int)),(8,nilS),(9,iv (0:Int))]) (Hp.mk [(0,O.rows 1 false [[V.lst 6 (bkl m)]]),(1,O.rows 5 true (jtl js))] 2 [])))) (R (V.lst 5 (sub (jtl js) 0 q)))) (by kernel_rfl) ?_
   rw [lkl_length,← hn]
   refine ifB_mk (fun d=>?_) (fun d=>?_)
   ·have hi:i<n:=by have:=of_decide_eq_true d; omega
    have hs5:=hs5 hi
    have hf' : L[i]? = some (at_ L i):=at_get (by omega)
    refine ifB_mk (fun d0=>?_) (fun d0=>?_)
    ·have i0:0<i:=by have:=of_decide_eq_true d0; omega
     have hp' : L[i - 1]? = some (at_ L (i - 1)):=at_get (by omega)
     have wi:IntKind.i64.wrap ((i:Int) - (1:Int))=((i - 1:Nat):Int):=by rw [wr (by omega) (by omega)]; omega
     refine need_mk ⟨hs5,onSome_mk (lrow hf') (onSome_mk (x:=iv (at_ L i).1) rfl (onIntK_iv (onNat_mk (m:=i - 1) wi (need_mk ⟨hs5,onSome_mk (lrow hp') (onSome_mk (x:=iv (at_ L (i - 1)).1) rfl (onIntK_iv (ifB_mk (fun c1=>?_) (fun c1=>?_))))⟩))))⟩
     ·refine need_mk ⟨hs5,onSome_mk (lrow hf') (onSome_mk (x:=iv (at_ L i).2.1) rfl (onIntK_iv (onNat_mk (m:=i - 1) wi (need_mk ⟨hs5,onSome_mk (lrow hp') (onSome_mk (x:=iv (at_ L (i - 1)).2.1) rfl (onIntK_iv (ifB_mk (fun c2=>?_) (fun c2=>?_))))⟩))))⟩
      ·have hkey:key (at_ L i)=key (at_ L (i - 1)):=key_eq.2 ⟨by simpa using c1,by simpa using c2⟩
       rw [wr1i hi (by omega)]
       exact hJ (true,i+1,q,js) ⟨hi,gq,by simp only; rw [jnS_succ,dc_f (fun q=>q.elim (fun q=>by omega) (fun q=>q hkey.symm)),if_neg (by simp),List.append_nil]; exact gj,gb⟩ (by simp only; omega)
      ·exact see (by kernel_rfl) (loop hi (.inr (fun q=>by have:=key_eq.1 q; simp [this.2] at c2)))
     ·exact see (by kernel_rfl) (loop hi (.inr (fun q=>by have:=key_eq.1 q; simp [this.1] at c1)))
    ·exact see (by kernel_rfl) (loop hi (.inl (by have:=of_decide_eq_false d0; omega)))
   ·have hi:i=n:=by have:=of_decide_eq_false d; omega
    have e:sub (jtl js) 0 q=jtl js:=by rw [gq,← jtl_length,sub,List.drop_zero,List.take_length]
    rw [e,gj,hi]
    exact h
 refine linked67 hl hr hA (fun e=>onLst_nil ?_) (onLst_lst ?_)
 ·exact see (by kernel_rfl) ((hL.trans e) ▸ main 0 (.inr (hL.trans e)))
 ·exact see (by kernel_rfl) (hL ▸ main 5 (.inl rfl))
theorem joints33 {l:List Kd} {m:List Bk} {R:V→Prop} (hl : ∀ q∈l,KdR q) (hll:(l.length:Int)≤1000000) (hml:m.length≤1000000) (hr : ∀ b∈m,BkR b) (h1 : ∀ e,errM l m e→e≠0→R (.tup [nilS,iv e])) (h2:OkM l m→jnt (bods l m)=[]→R (.tup [.lst 0 [],iv 0])) (h3:OkM l m→R (.tup [.lst 5 (jtl (jnt (bods l m))),iv 0])):K0G Tryz.prog glX 33 [.lst 3 (kdl l),.agg [.lst 6 (bkl m)]] R:=by
 refine K0_by hmX hcRR 3000 Tryz.func33 (p:=K0G Tryz.prog glX 66 [V.lst 3 (kdl l),V.agg [V.lst 6 (bkl m)]] fun v=>onIntK IntKind.i64 v fun n=>ifB (n != (0:Int)) (R (V.tup [nilS,iv n])) (K0G Tryz.prog glX 69 [V.lst 3 (kdl l),V.agg [V.lst 6 (bkl m)]] fun v=>onLst v fun s es=>R (V.tup [V.lst s es,iv (0:Int)]))) (by kernel_rfl) ?_
 refine check66 hl hll hml hr (fun e he hne=>onIntK_iv (ifB_t (by simpa using hne) (h1 e he hne))) (fun hA=>onIntK_iv (ifB_f rfl ?_))
 exact jointed69 hl hr hA.ask (fun e=>onLst_nil (h2 hA e)) (onLst_lst (h3 hA))
theorem same34 {a b:List Jt} {R:V→Prop} (hab:b=a) (hl:a.length≤1000000000) (h:R (bv true)):K0G Tryz.prog glX 34 [.lst 5 (jtl a),.lst 5 (jtl b)] R:=by
 refine K0_by hmX hcRR 3000 Tryz.func34 (p:=ifB ((↑(jtl a).length:Int) != (↑(jtl b).length:Int)) (R (bv false)) (La 0 [(0:Tmp),(1:Tmp),(5:Tmp)] (WY Tryz.prog cfRR 2994 (Env.mk (Bs.mk 0 []) 0 none 26 34 0) (cdAt [1,1,0,1,0,0] (bodyOf Tryz.f34))) (Qblk 0 (Qthen (WY Tryz.prog cfRR 2997 (Env.mk (Bs.mk 0 []) 0 none 26 34 0) (cdAt [1,1,1] (bodyOf Tryz.f34)) (QendX Tryz.prog Tryz.f34 fun v h=>R (frzW h v))) (QendX Tryz.prog Tryz.f34 fun v h=>R (frzW h v)))) (St.mk (mkT [(0,V.lst 5 (jtl a)),(1,V.lst 5 (jtl b)),(5,iv (0:Int))]) (Hp.mk [] 0 [])))) (by kernel_rfl) ?_
 rw [jtl_length,jtl_length]
 refine ifB_f (by simp [hab]) ?_
 refine La.of (σ:=Nat) (fun i=>sh34 a b i) (fun i=>i≤a.length) (fun i=>a.length - i) 0 (by kernel_rfl) (by omega) ?_
 rintro i g1 J hJ
 refine see (p:=ifB (decide ((↑i:Int)<(↑(jtl a).length:Int))) (onSome (jtl a)[i]? fun row=>onCons (List.drop 0 row) fun u r=>onIntK IntKind.i64 u fun n=>onCons r fun u r=>onIntK IntKind.i64 u fun n_1=>onCons r fun u r=>onIntK IntKind.i64 u fun n_2=>onCons r fun u r=>onIntK IntKind.u8 u fun n_3=>onCons r fun u r=>onBool u fun b_1=>onSome (jtl b)[i]? fun row=>onCons (List.drop 0 row) fun u r=>onIntK IntKind.i64 u fun n_4=>onCons r fun u r=>onIntK IntKind.i64 u fun n_5=>onCons r fun u r=>onIntK IntKind.i64 u fun n_6=>onCons r fun u r=>onIntK IntKind.u8 u fun n_7=>onCons r fun u r=>onBool u fun b_2=>ifB (!(fun b=>n==n_4&&b) ((fun b=>n_1==n_5&&b) ((fun b=>n_2==n_6&&b) ((fun b=>n_3==n_7&&b) ((fun b=>b_1==b_2&&b) true))))) (R (bv false)) (J (St.mk (mkT [(0,V.lst 5 (jtl a)),(1,V.lst 5 (jtl b)),(5,iv (IntKind.i64.wrap ((↑i:Int)+(1:Int))))]) (Hp.mk [] 0 [])))) (R (bv true))) (by kernel_rfl) ?_
 rw [jtl_length]
 refine ifB_mk (fun d=>?_) (fun d=>h)
 have hi:i<a.length:=by have:=of_decide_eq_true d; omega
 obtain ⟨x,hx⟩:=getI hi
 refine jel hx (jel (hab ▸ hx) (ifB_f (by simp) ?_))
 rw [wr1i hi (by omega)]
 exact hJ (i+1) hi (by omega)
theorem same34n {s t:Nat} {R:V→Prop} (h:R (bv true)):K0G Tryz.prog glX 34 [.lst s [],.lst t []] R:=by
 refine K0_by hmX hcRR 3000 Tryz.func34 (p:=La 0 [(0:Tmp),(1:Tmp),(5:Tmp)] (WY Tryz.prog cfRR 2994 (Env.mk (Bs.mk 0 []) 0 none 26 34 0) (cdAt [1,1,0,1,0,0] (bodyOf Tryz.f34))) (Qblk 0 (Qthen (WY Tryz.prog cfRR 2997 (Env.mk (Bs.mk 0 []) 0 none 26 34 0) (cdAt [1,1,1] (bodyOf Tryz.f34)) (QendX Tryz.prog Tryz.f34 fun v h=>R (frzW h v))) (QendX Tryz.prog Tryz.f34 fun v h=>R (frzW h v)))) (St.mk (mkT [(0,V.lst s []),(1,V.lst t []),(5,iv (0:Int))]) (Hp.mk [] 0 []))) (by kernel_rfl) ?_
 refine La.of (σ:=Unit) (fun _=>(⟨mkT [(0,V.lst s []),(1,V.lst t []),(5,iv 0)],⟨[],0,[]⟩⟩:St)) (fun _=>True) (fun _=>0) () (by kernel_rfl) trivial ?_
 rintro _ _ J hJ
 exact see (p:=R (bv true)) (by kernel_rfl) h
theorem least {p:Nat→Prop} : ∀ n:Nat,(∃ w,w≤n∧p w) → ∃ u,p u ∧ ∀ w,p w→u≤w
 | 0,⟨w,h1,h2⟩=>⟨w,h2,fun x _=>by omega⟩
 | n+1,⟨w,h1,h2⟩=>by
  by_cases h : ∃ w,w≤n∧p w
  ·exact least n h
  ·exact ⟨w,h2,fun x hx=>Nat.le_of_not_lt fun q=>h ⟨x,by omega,hx⟩⟩
noncomputable def ldr (js:List Jt) (v:Nat):Nat:=(least (p:=fun u=>Con js u v) v ⟨v,Nat.le_refl _,.refl v⟩).choose
theorem ldr_con (js:List Jt) (v:Nat):Con js (ldr js v) v:=(least (p:=fun u=>Con js u v) v ⟨v,Nat.le_refl _,.refl v⟩).choose_spec.1
theorem ldr_min {js:List Jt} {v w:Nat} (h:Con js w v):ldr js v≤w:=(least (p:=fun u=>Con js u v) v ⟨v,Nat.le_refl _,.refl v⟩).choose_spec.2 w h
theorem ldr_le (js:List Jt) (v:Nat):ldr js v≤v:=ldr_min (.refl v)
theorem ldr_same {js:List Jt} {v w:Nat} (h:Con js v w):ldr js v=ldr js w:=by
 have h1:=ldr_min ((ldr_con js v).trans h)
 have h2:=ldr_min ((ldr_con js w).trans h.symm)
 omega
structure GI (js:List Jt) (n:Nat) (g:List Int):Prop where
 len:g.length=n
 lea : ∀ v,v<n → ∃ u:Nat,gat g v=(u:Int)∧u≤v∧Con js u v
def Dn (js:List Jt) (n:Nat) (g:List Int) (v:Nat):Prop:=v<n∧gat g v=(ldr js v:Int)
theorem GI.ge {js:List Jt} {n:Nat} {g:List Int} (h:GI js n g) {v:Nat} (hv:v<n):(ldr js v:Int)≤gat g v:=by
 obtain ⟨u,h1,h2,h3⟩:=h.lea v hv
 have:=ldr_min h3
 omega
noncomputable def cnP (p:Nat→Prop) (n:Nat):Nat:=((List.range n).filter fun v=>dc (p v)).length
theorem cnP_succ (p:Nat→Prop) (n:Nat):cnP p (n+1)=cnP p n+if dc (p n)=true then 1 else 0:=by
 unfold cnP
 rw [List.range_succ,List.filter_append,List.length_append]
 by_cases h:dc (p n)=true <;> simp [h]
theorem cnP_le {p q:Nat→Prop} (h : ∀ v,p v→q v) : ∀ n,cnP p n≤cnP q n
 | 0=>by simp [cnP]
 | n+1=>by
  have:=cnP_le h n
  rw [cnP_succ,cnP_succ]
  by_cases g:p n
  ·rw [if_pos (dc_t g),if_pos (dc_t (h n g))]; omega
  ·rw [dc_f g,if_neg (by simp)]; split <;> omega
theorem cnP_lt {p q:Nat→Prop} (h : ∀ v,p v→q v) {b:Nat} (h1 : ¬ p b) (h2:q b) : ∀ n,b<n→cnP p n<cnP q n
 | 0,hb=>by omega
 | n+1,hb=>by
  rw [cnP_succ,cnP_succ]
  rcases Nat.lt_succ_iff_lt_or_eq.1 hb with g | g
  ·have:=cnP_lt h h1 h2 n g
   by_cases e:p n
   ·rw [if_pos (dc_t e),if_pos (dc_t (h n e))]; omega
   ·rw [dc_f e,if_neg (by simp)]; split <;> omega
  ·subst g
   have:=cnP_le h b
   rw [dc_f h1,if_neg (by simp),if_pos (dc_t h2)]
   omega
theorem cnP_all {p:Nat→Prop} : ∀ n,n≤cnP p n → ∀ v,v<n→p v
 | 0,_,v,hv=>by omega
 | n+1,h,v,hv=>by
  rw [cnP_succ] at h
  have hle:cnP p n≤n:=by
   have:=List.length_filter_le (fun v=>dc (p v)) (List.range n)
   unfold cnP
   simpa using this
  by_cases g:p n
  ·rw [if_pos (dc_t g)] at h
   rcases Nat.lt_succ_iff_lt_or_eq.1 hv with e | e
   ·exact cnP_all n (by omega) v e
   ·rw [e]; exact g
  ·rw [dc_f g,if_neg (by simp)] at h
   omega
def mrg (g:List Int) (a b:Nat):List Int:=(g.set a (if gat g b<gat g a then gat g b else gat g a)).set b (if gat g b<gat g a then gat g b else gat g a)
theorem gat_mrg {g:List Int} {a b v:Nat} (ha:a<g.length) (hb:b<g.length):gat (mrg g a b) v=if b=v then (if gat g b<gat g a then gat g b else gat g a) else if a=v then (if gat g b<gat g a then gat g b else gat g a) else gat g v:=by
 unfold mrg
 rw [gat_set (by rw [List.length_set]; exact hb),gat_set ha]
theorem mrg_le {g:List Int} {a b v:Nat} (ha:a<g.length) (hb:b<g.length):gat (mrg g a b) v≤gat g v:=by
 rw [gat_mrg ha hb]
 split
 ·rename_i h; subst h; split <;> omega
 ·split
  ·rename_i h; subst h; split <;> omega
  ·omega
theorem GI.mrg {js:List Jt} {n:Nat} {g:List Int} (h:GI js n g) {a b:Nat} (ha:a<n) (hb:b<n) (hab:Adj js a b):GI js n (mrg g a b):=by
 have ha' : a<g.length:=by rw [h.len]; exact ha
 have hb' : b<g.length:=by rw [h.len]; exact hb
 refine ⟨by unfold Proofs.YtbionhgjgcpogaaGreatDoor.mrg; rw [List.length_set,List.length_set]; exact h.len,fun v hv=>?_⟩
 obtain ⟨u,u1,u2,u3⟩:=h.lea a ha
 obtain ⟨w,w1,w2,w3⟩:=h.lea b hb
 rw [gat_mrg ha' hb']
 by_cases e:b=v
 ·subst e
  rw [if_pos rfl]
  by_cases c:gat g b<gat g a
  ·rw [if_pos c]; exact ⟨w,w1,w2,w3⟩
  ·rw [if_neg c]; exact ⟨u,u1,by omega,u3.step hab⟩
 ·rw [if_neg e]
  by_cases e2:a=v
  ·subst e2
   rw [if_pos rfl]
   by_cases c:gat g b<gat g a
   ·rw [if_pos c]; exact ⟨w,w1,by omega,w3.step hab.symm⟩
   ·rw [if_neg c]; exact ⟨u,u1,u2,u3⟩
  ·rw [if_neg e2]; exact h.lea v hv
theorem Dn.mono {js:List Jt} {n:Nat} {g g' : List Int} {v:Nat} (h:Dn js n g v) (hG:GI js n g') (hle:gat g' v≤gat g v):Dn js n g' v:=by
 have:=hG.ge h.1
 exact ⟨h.1,by have:=h.2; omega⟩
theorem mrg_dn {js:List Jt} {n:Nat} {g:List Int} (h:GI js n g) {a b:Nat} (ha:a<n) (hb:b<n) (hab:Adj js a b) (hd:Dn js n g a∨Dn js n g b):Dn js n (mrg g a b) a∧Dn js n (mrg g a b) b:=by
 have ha' : a<g.length:=by rw [h.len]; exact ha
 have hb' : b<g.length:=by rw [h.len]; exact hb
 have hG:=h.mrg ha hb hab
 have e:=ldr_same ((Con.refl a).step hab)
 have ea:gat (mrg g a b) a=gat (mrg g a b) b:=by
  rw [gat_mrg ha' hb', gat_mrg ha' hb']
  simp
 have la:=mrg_le (v:=a) ha' hb'
 have lb:=mrg_le (v:=b) ha' hb'
 have ga:=hG.ge ha
 have gb:=hG.ge hb
 rcases hd with hd | hd <;> have:=hd.2 <;> exact ⟨⟨ha,by omega⟩,⟨hb,by omega⟩⟩
def rng (n:Nat):List Int:=(List.range n).map fun v:Nat=>(v:Int)
theorem rng_GI (js:List Jt) (n:Nat):GI js n (rng n):=by
 refine ⟨by simp [rng],fun v hv=>⟨v,?_,Nat.le_refl _,.refl v⟩⟩
 unfold gat rng
 rw [List.getD_eq_getElem?_getD]
 simp [hv]
theorem rng_succ (n:Nat):rng (n+1)=rng n++[(n:Int)]:=by simp [rng,List.range_succ]
theorem ngel0 {g:List Int} {n v:Nat} {k:Int→Prop} (h:g.length=n) (hv:v<n) (hk:k (gat g v)):onSome (nl g)[0+v]? fun row=>onSome row[0]? fun v=>onIntK IntKind.i64 v fun n=>k n:=by
 rw [Nat.zero_add]
 exact ngel h hv hk
noncomputable def fGa (m:List Bk) (s:Nat) (L:List Lk) (z:Bool×Nat×Nat×List Int):St:=match z.1 with | false=>gRa m s L z.2.1 | true=>gRaS m s L z.2.2.2 z.2.2.1 z.2.1
set_option maxHeartbeats 2000000 in
theorem grouped71 {l:List Kd} {m:List Bk} {R:V→Prop} (hl : ∀ q∈l,KdR q) (hr : ∀ b∈m,BkR b) (hA:AskM l m) (h0:m=[]→R nilS) (h : ∀ g,GrpP (jnt (bods l m)) m.length g→R (.lst 1 (nl g))):K0G Tryz.prog glX 71 [.lst 3 (kdl l),.agg [.lst 6 (bkl m)]] R:=by
 refine K0_by hmX hcRR 3000 Tryz.func71 (p:=K0G Tryz.prog glX 67 [V.lst 3 (kdl l),V.agg [V.lst 6 (bkl m)]] fun v=>onLst v fun s es=>La 0 [(3:Tmp),(5:Tmp),(6:Tmp),(7:Tmp)] (WY Tryz.prog cfRR 2993 (Env.mk (Bs.mk 0 []) 0 none 72 71 0) (cdAt [1,1,1,0,1,0,0] (bodyOf Tryz.f71))) (Qblk 0 (Qthen (WY Tryz.prog cfRR 2996 (Env.mk (Bs.mk 0 []) 0 none 72 71 0) (cdAt [1,1,1,1] (bodyOf Tryz.f71)) (QendX Tryz.prog Tryz.f71 fun v h=>R (frzW h v))) (QendX Tryz.prog Tryz.f71 fun v h=>R (frzW h v)))) (St.mk (mkT [(3,V.ptr (Id.p 0) 0 0),(5,V.lst s es),(6,nilS),(7,iv (0:Int))]) (Hp.mk [(0,O.rows 1 false [[V.lst 6 (bkl m)]])] 1 []))) (by kernel_rfl) ?_
 obtain ⟨L,hL⟩ : ∃ L,L=lnk (bods l m):=⟨_,rfl⟩
 obtain ⟨js,hjs⟩ : ∃ js,js=jnt (bods l m):=⟨_,rfl⟩
 have hfew:L.length≤1000000000:=hL ▸ lnk_few (bod_ok hl hr hA) (bods60 hl hr hA)
 have hn40:=hA.few
 obtain ⟨n,hn⟩ : ∃ n,n=m.length:=⟨_,rfl⟩
 have hnb:(bods l m).length=n:=by rw [bods_length,hn]
 rw [← hjs,← hn] at h
 have hm0:n=0→m=[]:=fun e=>List.eq_nil_of_length_eq_zero (by omega)
 have main : ∀ s,(s=5∨L=[])→La 0 [(3:Tmp),(5:Tmp),(6:Tmp),(7:Tmp)] (WY Tryz.prog cfRR 2993 (Env.mk (Bs.mk 0 []) 0 none 72 71 0) (cdAt [1,1,1,0,1,0,0] (bodyOf Tryz.f71))) (Qblk 0 (Qthen (WY Tryz.prog cfRR 2996 (Env.mk (Bs.mk 0 []) 0 none 72 71 0) (cdAt [1,1,1,1] (bodyOf Tryz.f71)) (QendX Tryz.prog Tryz.f71 fun v h=>R (frzW h v))) (QendX Tryz.prog Tryz.f71 fun v h=>R (frzW h v)))) (gRa m s L 0):=by
  intro s hs
  refine La.of (σ:=Bool×Nat×Nat×List Int) (fGa m s L) (fun z=>z.2.1≤n∧(z.1=false→z.2.1=0)∧(z.1=true→z.2.2.1=z.2.1∧z.2.2.2=rng z.2.1)) (fun z=>n - z.2.1) (false,0,0,[]) rfl ⟨by simp only; omega,fun _=>rfl,fun h=>by cases h⟩ ?_
  rintro ⟨bo,i,q,g⟩ ⟨g1,g2,g3⟩ J hJ
  simp only at g1 g2 g3
  rcases bo with _ | _
  ·have g2:=g2 rfl
   refine see (p:=ifB (decide ((↑i:Int)<(↑(bkl m).length:Int))) (J (St.mk (mkT [(3,V.ptr (Id.p 0) 0 0),(5,V.lst s (lkl L)),(6,V.sl (Id.p 1) 0 1),(7,iv (IntKind.i64.wrap ((↑i:Int)+(1:Int))))]) (Hp.mk [(0,O.rows 1 false [[V.lst 6 (bkl m)]]),(1,O.rows 1 true [[iv (↑i:Int)]])] 2 []))) (La 0 [(3:Tmp),(5:Tmp),(6:Tmp),(8:Tmp)] (WY Tryz.prog cfRR 2992 (Env.mk (Bs.mk 0 []) 0 none 72 71 2) (cdAt [1,1,1,1,0,1,0,0] (bodyOf Tryz.f71))) (Qblk 2 (Qthen (WY Tryz.prog cfRR 2995 (Env.mk (Bs.mk 0 []) 0 none 72 71 0) (cdAt [1,1,1,1,1] (bodyOf Tryz.f71)) (QendX Tryz.prog Tryz.f71 fun v h=>R (frzW h v))) (QendX Tryz.prog Tryz.f71 fun v h=>R (frzW h v)))) (St.mk (mkT [(3,V.ptr (Id.p 0) 0 0),(5,V.lst s (lkl L)),(6,nilS),(8,iv (0:Int))]) (Hp.mk [(0,O.rows 1 false [[V.lst 6 (bkl m)]])] 1 [])))) (by kernel_rfl) ?_
   rw [bkl_length,← hn]
   refine ifB_mk (fun d=>?_) (fun d=>?_)
   ·have hi:i<n:=by have:=of_decide_eq_true d; omega
    rw [wr1i hi (by omega)]
    exact hJ (true,i+1,1,[(i:Int)]) ⟨hi,(fun h=>by cases h),fun _=>by subst g2; exact ⟨rfl,rfl⟩⟩ (by simp only; omega)
   ·have hi:n=0:=by have:=of_decide_eq_false d; omega
    refine La.of (σ:=Nat) (fun i=>gRb m s L i) (fun i=>i=0) (fun _=>0) 0 (by kernel_rfl) rfl ?_
    clear hJ
    rintro i hi0 J hJ
    refine see (p:=ifB (decide ((↑i:Int)<(↑(bkl m).length:Int))) (La 0 [(3:Tmp),(5:Tmp),(6:Tmp),(8:Tmp),(9:Tmp)] (WY Tryz.prog cfRR 2986 (Env.mk (Bs.mk 0 []) 0 none 72 71 4) (cdAt [1,1,1,1,0,1,0,0,1,0,0,1,0,0] (bodyOf Tryz.f71))) (Qblk 4 (Qblk 3 (Qthen (WY Tryz.prog cfRR 2990 (Env.mk (Bs.mk 0 []) 0 none 72 71 2) (cdAt [1,1,1,1,0,1,0,0,1,1] (bodyOf Tryz.f71)) (Qla 0 [(3:Tmp),(5:Tmp),(6:Tmp),(8:Tmp)] J (Qblk 2 (Qthen (WY Tryz.prog cfRR 2995 (Env.mk (Bs.mk 0 []) 0 none 72 71 0) (cdAt [1,1,1,1,1] (bodyOf Tryz.f71)) (QendX Tryz.prog Tryz.f71 fun v h=>R (frzW h v))) (QendX Tryz.prog Tryz.f71 fun v h=>R (frzW h v)))))) (Qla 0 [(3:Tmp),(5:Tmp),(6:Tmp),(8:Tmp)] J (Qblk 2 (Qthen (WY Tryz.prog cfRR 2995 (Env.mk (Bs.mk 0 []) 0 none 72 71 0) (cdAt [1,1,1,1,1] (bodyOf Tryz.f71)) (QendX Tryz.prog Tryz.f71 fun v h=>R (frzW h v))) (QendX Tryz.prog Tryz.f71 fun v h=>R (frzW h v)))))))) (St.mk (mkT [(3,V.ptr (Id.p 0) 0 0),(5,V.lst s (lkl L)),(6,nilS),(8,iv (↑i:Int)),(9,iv (0:Int))]) (Hp.mk [(0,O.rows 1 false [[V.lst 6 (bkl m)]])] 1 []))) (R nilS)) (by kernel_rfl) ?_
    rw [bkl_length,← hn]
    exact ifB_f (by simp; omega) (h0 (hm0 hi))
  obtain ⟨gq,gg⟩:=g3 rfl
  clear g2 g3
  refine see (p:=ifB (decide ((↑i:Int)<(↑(bkl m).length:Int))) (need ((q+1) * 8≤140737488355328) (J (St.mk (mkT [(3,V.ptr (Id.p 0) 0 0),(5,V.lst s (lkl L)),(6,V.sl (Id.p 1) 0 (q+1)),(7,iv (IntKind.i64.wrap ((↑i:Int)+(1:Int))))]) (Hp.mk [(0,O.rows 1 false [[V.lst 6 (bkl m)]]),(1,O.rows 1 true (List.take q (nl g)++[[iv (↑i:Int)]]))] 2 [])))) (La 0 [(3:Tmp),(5:Tmp),(6:Tmp),(8:Tmp)] (WY Tryz.prog cfRR 2992 (Env.mk (Bs.mk 0 []) 0 none 72 71 2) (cdAt [1,1,1,1,0,1,0,0] (bodyOf Tryz.f71))) (Qblk 2 (Qthen (WY Tryz.prog cfRR 2995 (Env.mk (Bs.mk 0 []) 0 none 72 71 0) (cdAt [1,1,1,1,1] (bodyOf Tryz.f71)) (QendX Tryz.prog Tryz.f71 fun v h=>R (frzW h v))) (QendX Tryz.prog Tryz.f71 fun v h=>R (frzW h v)))) (St.mk (mkT [(3,V.ptr (Id.p 0) 0 0),(5,V.lst s (lkl L)),(6,V.sl (Id.p 1) 0 q),(8,iv (0:Int))]) (Hp.mk [(0,O.rows 1 false [[V.lst 6 (bkl m)]]),(1,O.rows 1 true (nl g))] 2 [])))) (by kernel_rfl) ?_
  rw [bkl_length,← hn]
  have hgl:g.length=i:=by rw [gg]; simp [rng]
  refine ifB_mk (fun d=>?_) (fun d=>?_)
  ·have hi:i<n:=by have:=of_decide_eq_true d; omega
   refine need_mk ⟨by omega,?_⟩
   rw [wr1i hi (by omega)]
   have e:List.take q (nl g)++[[iv (i:Int)]]=nl (rng (i+1)):=by
    rw [List.take_of_length_le (by rw [nl_length,hgl,gq]; exact Nat.le_refl _),rng_succ i,gg]; simp [nl]
   rw [e]
   exact hJ (true,i+1,q+1,rng (i+1)) ⟨hi,(fun h=>by cases h),fun _=>⟨by simp only; omega,rfl⟩⟩ (by simp only; omega)
  have hi:i=n:=by have:=of_decide_eq_false d; omega
  have hqn:q=n:=by omega
  have hg0:GI js n g:=by rw [gg,hi]; exact rng_GI js n
  clear hJ g1 gg hgl gq
  subst hqn
  refine La.of (σ:=Nat×List Int) (fun z=>gRbS m s L z.2 q z.1) (fun z=>z.1≤q∧GI js q z.2∧((∀ v,v<q→Dn js q z.2 v)∨z.1≤cnP (Dn js q z.2) q)) (fun z=>q - z.1) (0,g) (by kernel_rfl) ⟨by simp only; omega,hg0,.inr (Nat.zero_le _)⟩ ?_
  rintro ⟨i,g⟩ ⟨t1,hG,hD⟩ J hJ
  simp only at t1 hG hD
  refine see (p:=ifB (decide ((↑i:Int)<(↑(bkl m).length:Int))) (La 0 [(3:Tmp),(5:Tmp),(6:Tmp),(8:Tmp),(9:Tmp)] (WY Tryz.prog cfRR 2986 (Env.mk (Bs.mk 0 []) 0 none 72 71 4) (cdAt [1,1,1,1,0,1,0,0,1,0,0,1,0,0] (bodyOf Tryz.f71))) (Qblk 4 (Qblk 3 (Qthen (WY Tryz.prog cfRR 2990 (Env.mk (Bs.mk 0 []) 0 none 72 71 2) (cdAt [1,1,1,1,0,1,0,0,1,1] (bodyOf Tryz.f71)) (Qla 0 [(3:Tmp),(5:Tmp),(6:Tmp),(8:Tmp)] J (Qblk 2 (Qthen (WY Tryz.prog cfRR 2995 (Env.mk (Bs.mk 0 []) 0 none 72 71 0) (cdAt [1,1,1,1,1] (bodyOf Tryz.f71)) (QendX Tryz.prog Tryz.f71 fun v h=>R (frzW h v))) (QendX Tryz.prog Tryz.f71 fun v h=>R (frzW h v)))))) (Qla 0 [(3:Tmp),(5:Tmp),(6:Tmp),(8:Tmp)] J (Qblk 2 (Qthen (WY Tryz.prog cfRR 2995 (Env.mk (Bs.mk 0 []) 0 none 72 71 0) (cdAt [1,1,1,1,1] (bodyOf Tryz.f71)) (QendX Tryz.prog Tryz.f71 fun v h=>R (frzW h v))) (QendX Tryz.prog Tryz.f71 fun v h=>R (frzW h v)))))))) (St.mk (mkT [(3,V.ptr (Id.p 0) 0 0),(5,V.lst s (lkl L)),(6,V.sl (Id.p 1) 0 q),(8,iv (↑i:Int)),(9,iv (0:Int))]) (Hp.mk [(0,O.rows 1 false [[V.lst 6 (bkl m)]]),(1,O.rows 1 true (nl g))] 2 []))) (R (V.lst 1 (sub (nl g) 0 q)))) (by kernel_rfl) ?_
  rw [bkl_length,← hn]
  refine ifB_mk (fun d=>?_) (fun d=>?_)
  ·have ht:i<q:=by have:=of_decide_eq_true d; omega
   obtain ⟨c,hc⟩ : ∃ c,c=L.length:=⟨_,rfl⟩
   obtain ⟨g0,hg00⟩ : ∃ g0,g0=g:=⟨_,rfl⟩
   rw [← hg00] at hG hD ⊢
   refine La.of (σ:=Nat×List Int) (fun z=>gRc m s L z.2 q i z.1) (fun z=>z.1≤c∧GI js q z.2∧(∀ v,Dn js q g0 v→Dn js q z.2 v) ∧ ∀ x∈L.take z.1, ∀ a b:Nat,x.1=(a:Int)→x.2.1=(b:Int)→Dn js q g0 a∨Dn js q g0 b→Dn js q z.2 a∧Dn js q z.2 b) (fun z=>c - z.1) (0,g0) (by kernel_rfl) ⟨by simp only; omega,hG,fun v hv=>hv,by simp⟩ ?_
   rintro ⟨k,g⟩ ⟨k1,hG', f3,f4⟩ I hI
   simp only at k1 hG' f3 f4
   refine see (p:=ifB (decide ((↑k:Int)<(↑(lkl L).length:Int))) (need (s=5) (onSome (lkl L)[k]? fun row=>onSome row[0]? fun v=>onIntK IntKind.i64 v fun n=>onNat n fun m_1=>need (m_1<q) (onSome (nl g)[0+m_1]? fun row=>onSome row[0]? fun v=>onIntK IntKind.i64 v fun n=>need (s=5) (onSome (lkl L)[k]? fun row=>onSome row[1]? fun v=>onIntK IntKind.i64 v fun n_1=>onNat n_1 fun m_2=>need (m_2<q) (onSome (nl g)[0+m_2]? fun row=>onSome row[0]? fun v=>onIntK IntKind.i64 v fun n_2=>need (s=5) (onSome (lkl L)[k]? fun row=>onSome row[0]? fun v=>onIntK IntKind.i64 v fun n_3=>onNat n_3 fun m_3=>need (m_3<q) (onSome (nl g)[0+m_3]? fun row=>guardB ((0+1).ble row.length) (need (s=5) (onSome (lkl L)[k]? fun row_1=>onSome row_1[1]? fun v=>onIntK IntKind.i64 v fun n_4=>onNat n_4 fun m_4=>need (m_4<q) (onSome ((nl g).set (0+m_3) (iv (if n_2<n then n_2 else n)::(List.append []) (List.drop 1 row)))[0+m_4]? fun row_2=>guardB ((0+1).ble row_2.length) (I (St.mk (mkT [(3,V.ptr (Id.p 0) 0 0),(5,V.lst s (lkl L)),(6,V.sl (Id.p 1) 0 q),(8,iv (↑i:Int)),(9,iv (IntKind.i64.wrap ((↑k:Int)+(1:Int))))]) (Hp.mk [(0,O.rows 1 false [[V.lst 6 (bkl m)]]),(1,O.rows 1 true (((nl g).set (0+m_3) (iv (if n_2<n then n_2 else n)::(List.append []) (List.drop 1 row))).set (0+m_4) (iv (if n_2<n then n_2 else n)::(List.append []) (List.drop 1 row_2))))] 2 []))))))))))))) (J (St.mk (mkT [(3,V.ptr (Id.p 0) 0 0),(5,V.lst s (lkl L)),(6,V.sl (Id.p 1) 0 q),(8,iv (IntKind.i64.wrap ((↑i:Int)+(1:Int))))]) (Hp.mk [(0,O.rows 1 false [[V.lst 6 (bkl m)]]),(1,O.rows 1 true (nl g))] 2 [])))) (by kernel_rfl) ?_
   rw [lkl_length,← hc]
   refine ifB_mk (fun e=>?_) (fun e=>?_)
   ·have hk:k<c:=by have:=of_decide_eq_true e; omega
    obtain ⟨x,hx⟩:=getI (l:=L) (k:=k) (by omega)
    obtain ⟨a,b,xa,xb,hab,hbn⟩:=lnk_rg (hL ▸ mem_at hx)
    rw [hnb] at hbn
    have hadj:Adj js a b:=by rw [hjs]; exact adj_lnk.2 ⟨x,hL ▸ mem_at hx,.inl ⟨xa,xb⟩⟩
    have hs5:s=5:=by
     rcases hs with hs | hs
     ·exact hs
     ·rw [hs] at hx; simp at hx
    refine need_mk ⟨hs5,onSome_mk (lrow hx) (onSome_mk (x:=iv x.1) rfl (onIntK_iv (onNat_mk (m:=a) xa (need_mk ⟨by omega,ngel0 hG'.len (by omega) ?_⟩))))⟩
    refine need_mk ⟨hs5,onSome_mk (lrow hx) (onSome_mk (x:=iv x.2.1) rfl (onIntK_iv (onNat_mk (m:=b) xb (need_mk ⟨by omega,ngel0 hG'.len (by omega) ?_⟩))))⟩
    refine need_mk ⟨hs5,onSome_mk (lrow hx) (onSome_mk (x:=iv x.1) rfl (onIntK_iv (onNat_mk (m:=a) xa (need_mk ⟨by omega,onSome_mk (nl_get0 (gat_get (v:=a) (by rw [hG'.len]; omega))) (guardB_mk rfl ?_)⟩))))⟩
    rw [nl_set0]
    have hbl:b<(g.set a (if gat g b<gat g a then gat g b else gat g a)).length:=by rw [List.length_set,hG'.len]; exact hbn
    refine need_mk ⟨hs5,onSome_mk (lrow hx) (onSome_mk (x:=iv x.2.1) rfl (onIntK_iv (onNat_mk (m:=b) xb (need_mk ⟨by omega,onSome_mk (nl_get0 (gat_get (v:=b) hbl)) (guardB_mk rfl ?_)⟩))))⟩
    rw [nl_set0,wr1i hk (by omega)]
    have hG2:=hG'.mrg (by omega) hbn hadj
    have hle : ∀ v,gat (mrg g a b) v≤gat g v:=fun v=>mrg_le (by rw [hG'.len]; omega) (by rw [hG'.len]; omega)
    refine hI (k+1,mrg g a b) ⟨hk,hG2,fun v hv=>(f3 v hv).mono hG2 (hle v),?_⟩ (by simp only; omega)
    intro y hy a' b' ya yb hor
    simp only at hy ⊢
    rw [take_succ' hx] at hy
    rcases List.mem_append.1 hy with hy | hy
    ·have:=f4 y hy a' b' ya yb hor
     exact ⟨this.1.mono hG2 (hle _),this.2.mono hG2 (hle _)⟩
    ·rw [List.mem_singleton.1 hy] at ya yb
     have e1:a' = a:=by omega
     have e2:b' = b:=by omega
     rw [e1,e2] at hor ⊢
     exact mrg_dn hG' (by omega) hbn hadj (hor.imp (f3 a) (f3 b))
   ·have hk:c≤k:=by have:=of_decide_eq_false e; omega
    rw [List.take_of_length_le (by omega)] at f4
    rw [wr1i ht (by omega)]
    refine hJ (i+1,g) ⟨ht,hG', ?_⟩ (by simp only; omega)
    simp only
    by_cases hall : ∀ v,v<q→Dn js q g0 v
    ·exact .inl (fun v hv=>f3 v (hall v hv))
    ·refine .inr ?_
     obtain ⟨v,hv⟩:=Classical.not_forall.1 hall
     have hvn:v<q:=Classical.byContradiction fun q=>hv (fun w=>(q w).elim)
     have hvb : ¬ Dn js q g0 v:=fun q=>hv (fun _=>q)
     have hun:ldr js v<q:=by have:=ldr_le js v; omega
     have hu:Dn js q g0 (ldr js v):=by
      refine ⟨hun,?_⟩
      have h1:=hG.ge hun
      have h2:=ldr_same (ldr_con js v)
      obtain ⟨w,w1,w2,w3⟩:=hG.lea _ hun
      omega
     obtain ⟨x,y,h1,h2,h3⟩:=Con.leaves (p:=fun w=>Dn js q g0 w) (ldr_con js v) hu hvb
     rw [hjs] at h1
     obtain ⟨z,hz,hzz⟩:=adj_lnk.1 h1
     rw [← hL] at hz
     have hy:Dn js q g y:=by
      rcases hzz with ⟨z1,z2⟩ | ⟨z1,z2⟩
      ·exact (f4 z hz x y z1 z2 (.inl h2)).2
      ·exact (f4 z hz y x z1 z2 (.inr h2)).1
     have h4:=cnP_lt f3 h3 hy q hy.1
     rcases hD with hD | hD
     ·exact (hall hD).elim
     ·omega
  ·have ht:i=q:=by have:=of_decide_eq_false d; omega
   have all : ∀ v,v<q→Dn js q g v:=by
    rcases hD with hD | hD
    ·exact hD
    ·exact cnP_all q (by omega)
   rw [show sub (nl g) 0 q=nl g from by rw [sub,List.drop_zero,List.take_of_length_le (by rw [nl_length,hG.len]; exact Nat.le_refl _)]]
   exact h g ⟨hG.len,fun v hv=>⟨ldr js v,(all v hv).2,ldr_le js v,ldr_con js v,fun w hw=>ldr_min hw⟩⟩
 refine linked67 hl hr hA (fun e=>onLst_nil ?_) (onLst_lst ?_)
 ·exact see (by kernel_rfl) ((hL.trans e) ▸ main 0 (.inr (hL.trans e)))
 ·exact see (by kernel_rfl) (hL ▸ main 5 (.inl rfl))
theorem groups36 {l:List Kd} {m:List Bk} {R:V→Prop} (hl : ∀ q∈l,KdR q) (hll:(l.length:Int)≤1000000) (hml:m.length≤1000000) (hr : ∀ b∈m,BkR b) (h1 : ∀ e,errM l m e→e≠0→R (.tup [nilS,iv e])) (h2:OkM l m→m=[]→R (.tup [.lst 0 [],iv 0])) (h3:OkM l m → ∀ g,GrpP (jnt (bods l m)) m.length g→R (.tup [.lst 1 (nl g),iv 0])):K0G Tryz.prog glX 36 [.lst 3 (kdl l),.agg [.lst 6 (bkl m)]] R:=by
 refine K0_by hmX hcRR 3000 Tryz.func36 (p:=K0G Tryz.prog glX 66 [V.lst 3 (kdl l),V.agg [V.lst 6 (bkl m)]] fun v=>onIntK IntKind.i64 v fun n=>ifB (n != (0:Int)) (R (V.tup [nilS,iv n])) (K0G Tryz.prog glX 71 [V.lst 3 (kdl l),V.agg [V.lst 6 (bkl m)]] fun v=>onLst v fun s es=>R (V.tup [V.lst s es,iv (0:Int)]))) (by kernel_rfl) ?_
 refine check66 hl hll hml hr (fun e he hne=>onIntK_iv (ifB_t (by simpa using hne) (h1 e he hne))) (fun hA=>onIntK_iv (ifB_f rfl ?_))
 exact grouped71 hl hr hA.ask (fun e=>onLst_nil (h2 hA e)) (fun g hg=>onLst_lst (h3 hA g hg))
end Go.Proofs.YtbionhgjgcpogaaGreatDoor
