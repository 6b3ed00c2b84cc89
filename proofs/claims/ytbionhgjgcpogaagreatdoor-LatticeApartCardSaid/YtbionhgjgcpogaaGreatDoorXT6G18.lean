/- A part of the proof. -/
import Derived.Test.YtbionhgjgcpogaaGreatDoorProg
import Derived.Test.YtbionhgjgcpogaaGreatDoorXT6G10
import Derived.Test.YtbionhgjgcpogaaGreatDoorXT6G11
import Derived.Test.YtbionhgjgcpogaaGreatDoorXT6G12
import Derived.Test.YtbionhgjgcpogaaGreatDoorXT6G14
import Derived.Test.YtbionhgjgcpogaaGreatDoorXT6G15
import Derived.Test.YtbionhgjgcpogaaGreatDoorXT6G16
import Derived.Test.YtbionhgjgcpogaaGreatDoorXT6G17
namespace Go.Proofs.YtbionhgjgcpogaaGreatDoor
open Go Go.Proofs.YtbionhgjgcpogaaGreatDoor.Clean
set_option linter.unusedVariables false
set_option maxRecDepth 100000
theorem tok0:Facts Tryz.prog glX tb0:=trivial
theorem t0:KFX fa0:=k0 tok0
theorem tok1:Facts Tryz.prog glX tb1:=⟨t0,tok0⟩
theorem t1:KFX fa1:=k1 tok1
theorem tok2:Facts Tryz.prog glX tb2:=⟨t1,tok1⟩
theorem t2:KFX fa2:=k2 tok2
theorem tok3:Facts Tryz.prog glX tb3:=⟨t2,tok2⟩
theorem t3:KFX fa3:=k3 tok3
theorem tok4:Facts Tryz.prog glX tb4:=⟨t3,tok3⟩
theorem t4:KFX fa4:=k4 tok4
theorem tok5:Facts Tryz.prog glX tb5:=⟨t4,tok4⟩
theorem t5:KFX fa5:=k5 tok5
theorem tok6:Facts Tryz.prog glX tb6:=⟨t5,tok5⟩
theorem t6:KFX fa6:=k6 tok6
theorem tok7:Facts Tryz.prog glX tb7:=⟨t6,tok6⟩
theorem t7:KFX fa7:=k7 tok7
theorem tok8:Facts Tryz.prog glX tb8:=⟨t7,tok7⟩
theorem t8:KFX fa8:=k8 tok8
theorem tok9:Facts Tryz.prog glX tb9:=⟨t8,tok8⟩
theorem t9:KFX fa9:=k9 tok9
theorem tok10:Facts Tryz.prog glX tb10:=⟨t9,tok9⟩
theorem t10:KFX fa10:=k10 tok10
theorem tok11:Facts Tryz.prog glX tb11:=⟨t10,tok10⟩
theorem t11:KFX fa11:=k11 tok11
theorem tok12:Facts Tryz.prog glX tb12:=⟨t11,tok11⟩
theorem t12:KFX fa12:=k12 tok12
theorem tok13:Facts Tryz.prog glX tb13:=⟨t12,tok12⟩
theorem t13:KFX fa13:=k13 tok13
theorem tok14:Facts Tryz.prog glX tb14:=⟨t13,tok13⟩
theorem t14:KFX fa14:=k14 tok14
theorem tok15:Facts Tryz.prog glX tb15:=⟨t14,tok14⟩
theorem t15:KFX fa15:=k15 tok15
theorem tok16:Facts Tryz.prog glX tb16:=⟨t15,tok15⟩
theorem t16:KFX fa16:=k16 tok16
theorem tok17:Facts Tryz.prog glX tb17:=⟨t16,tok16⟩
theorem t17:KFX fa17:=k17 tok17
theorem tok18:Facts Tryz.prog glX tb18:=⟨t17,tok17⟩
theorem t18:KFX fa18:=k18 tok18
theorem tok19:Facts Tryz.prog glX tb19:=⟨t18,tok18⟩
theorem t19:KFX fa19:=k19 tok19
theorem tok20:Facts Tryz.prog glX tb20:=⟨t19,tok19⟩
theorem t20:KFX fa20:=k20 tok20
theorem tok21:Facts Tryz.prog glX tb21:=⟨t20,tok20⟩
theorem t21:KFX fa21:=k21 tok21
theorem tok22:Facts Tryz.prog glX tb22:=⟨t21,tok21⟩
theorem t22:KFX fa22:=k22 tok22
theorem tok23:Facts Tryz.prog glX tb23:=⟨t22,tok22⟩
theorem t23:KFX fa23:=k23 tok23
theorem tok24:Facts Tryz.prog glX tb24:=⟨t23,tok23⟩
theorem t24:KFX fa24:=k24 tok24
theorem tok25:Facts Tryz.prog glX tb25:=⟨t24,tok24⟩
theorem t25:KFX fa25:=k25 tok25
theorem tok26:Facts Tryz.prog glX tb26:=⟨t25,tok25⟩
theorem t26:KFX fa26:=k26 tok26
theorem tok27:Facts Tryz.prog glX tb27:=⟨t26,tok26⟩
theorem t27:KFX fa27:=k27 tok27
theorem tok28:Facts Tryz.prog glX tb28:=⟨t27,tok27⟩
theorem t28:KFX fa28:=k28 tok28
theorem tok29:Facts Tryz.prog glX tb29:=⟨t28,tok28⟩
theorem t29:KFX fa29:=k29 tok29
theorem tok30:Facts Tryz.prog glX tb30:=⟨t29,tok29⟩
theorem t30:KFX fa30:=k30 tok30
theorem tok31:Facts Tryz.prog glX tb31:=⟨t30,tok30⟩
theorem t31:KFX fa31:=k31 tok31
theorem tok32:Facts Tryz.prog glX tb32:=⟨t31,tok31⟩
theorem t32:KFX fa32:=k32 tok32
theorem tok33:Facts Tryz.prog glX tb33:=⟨t32,tok32⟩
theorem t33:KFX fa33:=k33 tok33
theorem tok34:Facts Tryz.prog glX tb34:=⟨t33,tok33⟩
theorem t34:KFX fa34:=k34 tok34
theorem tok35:Facts Tryz.prog glX tb35:=⟨t34,tok34⟩
theorem t35:KFX fa35:=k35 tok35
theorem tok36:Facts Tryz.prog glX tb36:=⟨t35,tok35⟩
theorem t36:KFX fa36:=k36 tok36
theorem tok37:Facts Tryz.prog glX tb37:=⟨t36,tok36⟩
theorem t37:KFX fa37:=k37 tok37
set_option linter.unusedSimpArgs false
set_option maxRecDepth 10000
theorem askM.uniq {l:List Kd} {m:List Bk} {e f:Int} (h:askM l m e) (g:askM l m f):e=f:=by
 rcases h with ⟨h1,h2⟩ | ⟨h1,h2,h3⟩ | ⟨h1,h2,h3⟩ | ⟨h1,h2,h3,h4⟩ | ⟨h1,h2⟩ <;> rcases g with ⟨g1,g2⟩ | ⟨g1,g2,g3⟩ | ⟨g1,g2,g3⟩ | ⟨g1,g2,g3,g4⟩ | ⟨g1,g2⟩ <;> first | omega | exact (h2 g1).elim | exact (g2 h1).elim | exact (h2 g1.kinds).elim | exact (g2 h1.kinds).elim | exact (h3 g1.all).elim | exact (g3 h1.all).elim | (have:=h1.few; omega) | (have:=g1.few; omega) | (have:=h1.1; omega) | (have:=g1.1; omega) | (have:=h1.kinds.1; omega) | (have:=g1.kinds.1; omega)
theorem errM.uniq {l:List Kd} {m:List Bk} {e f:Int} (h:errM l m e) (g:errM l m f):e=f:=by
 rcases h with ⟨h1,h2⟩ | ⟨h1,h2,h3⟩ <;> rcases g with ⟨g1,g2⟩ | ⟨g1,g2,g3⟩
 ·exact h1.uniq g1
 ·exact (h2 (h1.uniq (.inr (.inr (.inr (.inr ⟨g1,rfl⟩)))))).elim
 ·exact (g2 (g1.uniq (.inr (.inr (.inr (.inr ⟨h1,rfl⟩)))))).elim
 ·omega
theorem errM.no {l:List Kd} {m:List Bk} {e:Int} (h:errM l m e) (g:OkM l m):False:=by
 rcases h with ⟨h1,h2⟩ | ⟨h1,h2,h3⟩
 ·exact h2 (h1.uniq (.inr (.inr (.inr (.inr ⟨g.ask,rfl⟩)))))
 ·exact h2 g.free
theorem greatK {l:List Kd} {m:List Bk} (h : ¬ GreatP l m) (hr : ∀ q∈l, ∀ k∈q.2.1,KnR k):l.length≤20 ∧ ∀ q∈l,KdR q:=by
 refine ⟨Nat.le_of_not_lt fun x=>h (.inl x),fun q hq=>⟨hr q hq,Nat.le_of_not_lt fun x=>h (.inr (.inr ⟨q,hq,.inl x⟩)),Nat.le_of_not_lt fun x=>h (.inr (.inr ⟨q,hq,.inr x⟩))⟩⟩
theorem great45 {l:List Kd} {m:List Bk} (h : ¬ GreatP l m):m.length≤45:=by
 unfold GreatP at h
 rcases Nat.lt_or_ge 45 m.length with g | g
 ·exact (h (.inr (.inl g))).elim
 ·exact g
def kp2 (c:Int×Int):V:=V.agg [iv c.1,iv c.2]
theorem eqC_p (c d:Int×Int) : ∃ b,eqC Tryz.prog 8 100 (kp2 c) (kp2 d)=some b∧(b=true↔c=d):=by
 refine ⟨c.1==d.1&&(c.2==d.2&&true),by kernel_rfl,?_⟩
 obtain ⟨a,b⟩:=c
 obtain ⟨a', b'⟩:=d
 simp
theorem keyP:KeyOK Tryz.prog 100 kp2:=⟨eqC_p,fun c=>by simp [sameC,kp2,sameRs,sameR,iv]⟩
theorem closedP (c:Int×Int):(kp2 c).closed=true:=rfl
theorem stp_opp {d:Int} (h0:0≤d) (h5:d≤5) {c:Cl}:addC (addC c (stp d)) (stp (opp d))=c:=by
 obtain ⟨m,rfl⟩ : ∃ m:Nat,d=(m:Int):=⟨d.toNat,by omega⟩
 have hm:m<6:=by omega
 obtain ⟨x,y,z⟩:=c
 match m,hm with
 | 0,_=>simp [addC,stp,stpL,opp]; omega
 | 1,_=>simp [addC,stp,stpL,opp]; omega
 | 2,_=>simp [addC,stp,stpL,opp]; omega
 | 3,_=>simp [addC,stp,stpL,opp]; omega
 | 4,_=>simp [addC,stp,stpL,opp]; omega
 | 5,_=>simp [addC,stp,stpL,opp]; omega
def kc3 (c:Cl):V:=V.agg (clr c)
theorem keyC3:KeyOK Tryz.prog 28 kc3:=⟨eqC_c,fun c=>by simp [sameC,kc3,clr,sameRs,sameR,iv]⟩
theorem closedC (c:Cl):(kc3 c).closed=true:=rfl
theorem eqC_e (c d:Int×Int) : ∃ b,eqC Tryz.prog 8 96 (kp2 c) (kp2 d)=some b∧(b=true↔c=d):=by
 refine ⟨c.1==d.1&&(c.2==d.2&&true),by kernel_rfl,?_⟩
 obtain ⟨a,b⟩:=c
 obtain ⟨a', b'⟩:=d
 simp
theorem keyE:KeyOK Tryz.prog 96 kp2:=⟨eqC_e,keyP.same⟩
theorem mem_innA {l:List Bdy} {i n:Nat} {p:Nat×Nat}:p∈inn l i n↔p.1=i∧i<p.2∧p.2<n∧Comm l i p.2:=by
 unfold inn
 rw [List.mem_map]
 constructor
 ·rintro ⟨o,ho,rfl⟩
  obtain ⟨h1,h2⟩:=List.mem_filter.1 ho
  rw [Bool.and_eq_true] at h2
  exact ⟨rfl,of_decide_eq_true h2.1,List.mem_range.1 h1,dc_true h2.2⟩
 ·rintro ⟨rfl,h2,h3,h4⟩
  exact ⟨p.2,List.mem_filter.2 ⟨List.mem_range.2 h3,by rw [Bool.and_eq_true]; exact ⟨decide_eq_true h2,dc_t h4⟩⟩,rfl⟩
theorem ovl_none {l:List Bdy}:ovl l l.length=[] ↔ ∀ i o,i<o→o<l.length → ¬ Comm l i o:=by
 unfold ovl
 rw [List.flatMap_eq_nil_iff]
 constructor
 ·intro h i o hio ho hc
  have:=h i (List.mem_range.2 (by omega))
  have hm:(i,o)∈inn l i l.length:=mem_innA.2 ⟨rfl,hio,ho,hc⟩
  rw [this] at hm
  simp at hm
 ·intro h i hi
  refine List.eq_nil_iff_forall_not_mem.2 (fun p hp=>?_)
  obtain ⟨_,h2,h3,h4⟩:=mem_innA.1 hp
  exact h i p.2 h2 h3 h4
theorem cellsAt_get {l:List Bdy} {i:Nat} (h:i<l.length):cellsAt l i=l[i].1:=by
 unfold cellsAt
 rw [List.getElem?_eq_getElem h]
 rfl
theorem cells_nodup {l:List Bdy} (hn : ∀ b∈l,b.1.Nodup):(l.flatMap (·.1)).Nodup↔ovl l l.length=[]:=by
 rw [ovl_none,List.Nodup,List.pairwise_flatMap,List.pairwise_iff_getElem]
 constructor
 ·rintro ⟨_,h2⟩ i o hio ho ⟨c,c1,c2⟩
  rw [cellsAt_get (by omega)] at c1
  rw [cellsAt_get ho] at c2
  exact h2 i o (by omega) ho hio c c1 c c2 rfl
 ·intro h
  refine ⟨hn,fun i j hi hj hij c hc c' hc' e=>?_⟩
  subst e
  exact h i j hij hj ⟨c,by rw [cellsAt_get hi]; exact hc,by rw [cellsAt_get hj]; exact hc'⟩
def ends (L:List Lk):List (Int×Int):=L.flatMap fun x=>[(x.1,x.2.2.1),(x.2.1,x.2.2.2.1)]
theorem ends_succ {L:List Lk} {i:Nat} {x:Lk} (h:L[i]? = some x):ends (L.take (i+1))=(ends (L.take i)++[(x.1,x.2.2.1)])++[(x.2.1,x.2.2.2.1)]:=by
 unfold ends
 rw [take_succ' h,List.flatMap_append]
 simp
theorem opp_inj {a b:Int} (a0:0≤a) (a5:a≤5) (b0:0≤b) (b5:b≤5) (h:opp a=opp b):a=b:=by
 unfold opp at h
 split at h <;> split at h <;> omega
theorem addC_injR {a b c:Cl} (h:addC a c=addC b c):a=b:=by
 unfold addC at h
 simp only [Prod.mk.injEq] at h
 exact cl_ext (by omega) (by omega) (by omega)
theorem comm_of {l:List Bdy} (hB:BodOK l) {a b i j:Nat} {k o:Kn} (h1:(knobsAt l a)[i]? = some k) (h2:(knobsAt l b)[j]? = some o) (e:k.1=o.1):Comm l a b:=by
 obtain ⟨z,hz,hzk⟩:=knobsAt_mem h1
 obtain ⟨y,hy,hyo⟩:=knobsAt_mem h2
 refine ⟨k.1,?_,?_⟩
 ·unfold cellsAt; rw [hz]; exact hB.at_ z (mem_at hz) k (mem_at hzk)
 ·unfold cellsAt; rw [hy,e]; exact hB.at_ y (mem_at hy) o (mem_at hyo)
theorem comm_eq {l:List Bdy} (hov : ∀ i o,i<o→o<l.length → ¬ Comm l i o) {a b:Nat} (ha:a<l.length) (hb:b<l.length) (h:Comm l a b):a=b:=by
 rcases Nat.lt_trichotomy a b with q | q | q
 ·exact (hov a b q hb h).elim
 ·exact q
 ·obtain ⟨c,c1,c2⟩:=h
  exact (hov b a q ha ⟨c,c2,c1⟩).elim
theorem kn_idx {l:List Bdy} (hB:BodOK l) {a i j:Nat} {k o:Kn} (h1:(knobsAt l a)[i]? = some k) (h2:(knobsAt l a)[j]? = some o) (e1:k.1=o.1) (e2:k.2.1=o.2.1):i=j:=by
 obtain ⟨z,hz,hzk⟩:=knobsAt_mem h1
 obtain ⟨y,hy,hyo⟩:=knobsAt_mem h2
 rw [hz] at hy
 cases hy
 have eo:k=o:=hB.fac z (mem_at hz) k (mem_at hzk) o (mem_at hyo) e1 e2
 subst eo
 obtain ⟨a1,a2⟩:=List.getElem?_eq_some_iff.1 hzk
 obtain ⟨b1,b2⟩:=List.getElem?_eq_some_iff.1 hyo
 exact (List.getElem_inj (h₀:=a1) (h₁:=b1) (hB.kn z (mem_at hz))).1 (by rw [a2,b2])
theorem kn_o {l:List Bdy} (hB:BodOK l) {a i:Nat} {k:Kn} (h1:(knobsAt l a)[i]? = some k):KnO k:=by
 obtain ⟨z,hz,hzk⟩:=knobsAt_mem h1
 exact hB.ko z (mem_at hz) k (mem_at hzk)
theorem kn_lt {l:List Bdy} {a i:Nat} {k:Kn} (h1:(knobsAt l a)[i]? = some k):a<l.length:=by
 obtain ⟨z,hz,hzk⟩:=knobsAt_mem h1
 exact (List.getElem?_eq_some_iff.1 hz).1
theorem same_get {l:List Bdy} {a a' i i' : Nat} {k k' : Kn} (h1:(knobsAt l a)[i]? = some k) (h2:(knobsAt l a')[i']? = some k') (e1:a=a') (e2:i=i'):k=k' := by
 subst e1; subst e2
 rw [h1] at h2
 exact Option.some.inj h2
theorem ends_apart {l:List Bdy} (hB:BodOK l) (hov : ∀ i o,i<o→o<l.length → ¬ Comm l i o) {x y:Lk} {a b i j a' b' i' j' : Nat} {k o k' o' : Kn} (h:LkP l x a b i j k o) (h' : LkP l y a' b' i' j' k' o') (hne:x≠y) :
  ¬ (a=a' ∧ i=i') ∧ ¬ (b=b' ∧ j=j') ∧ ¬ (a=b' ∧ i=j') ∧ ¬ (b=a' ∧ j=i'):=by
 obtain ⟨x1,x2,x3,x4,x5,x6⟩:=h
 obtain ⟨y1,y2,y3,y4,y5,y6⟩:=h'
 have ko:=kn_o hB x3
 have ko' := kn_o hB y3
 refine ⟨?_,?_,?_,?_⟩
 ·rintro ⟨e1,e2⟩
  have ek:=same_get x3 y3 e1 e2
  have eo:o.1=o'.1:=by rw [← x5.1,← y5.1,ek]
  have eb:=comm_eq hov (kn_lt x4) (kn_lt y4) (comm_of hB x4 y4 eo)
  subst eb
  have ej:=kn_idx hB x4 y4 eo (by rw [x5.2.1,y5.2.1,ek])
  have eoo:=same_get x4 y4 rfl ej
  exact hne (by rw [x6,y6,e1,e2,ej,ek,eoo])
 ·rintro ⟨e1,e2⟩
  have eo:=same_get x4 y4 e1 e2
  have ed:k.2.1=k'.2.1:=opp_inj ko.1.1 ko.1.2 ko'.1.1 ko'.1.2 (by rw [← x5.2.1,← y5.2.1,eo])
  have ec:k.1=k'.1:=by
   have q1:=x5.1
   have q2:=y5.1
   unfold fc at q1 q2
   rw [← ed] at q2
   exact addC_injR (c:=stp k.2.1) (by rw [q1,q2,← eo])
  have ea:=comm_eq hov (kn_lt x3) (kn_lt y3) (comm_of hB x3 y3 ec)
  subst ea
  have ei:=kn_idx hB x3 y3 ec ed
  have ek:=same_get x3 y3 rfl ei
  exact hne (by rw [x6,y6,e1,e2,ei,ek,eo])
 ·rintro ⟨e1,e2⟩
  have ek:=same_get x3 y4 e1 e2
  have ec:o.1=k'.1:=by
   have q1:=x5.1
   have q2:=y5.1
   unfold fc at q1 q2
   rw [← q1,ek,← q2,y5.2.1]
   exact stp_opp ko'.1.1 ko'.1.2
  have:=comm_eq hov (kn_lt x4) (kn_lt y3) (comm_of hB x4 y3 ec)
  omega
 ·rintro ⟨e1,e2⟩
  have ek:=same_get x4 y3 e1 e2
  have ec:o'.1=k.1:=by
   have q1:=x5.1
   have q2:=y5.1
   unfold fc at q1 q2
   rw [← q2,← ek,← q1,x5.2.1]
   exact stp_opp ko.1.1 ko.1.2
  have:=comm_eq hov (kn_lt y4) (kn_lt x3) (comm_of hB y4 x3 ec)
  omega
theorem ends_nodup {l:List Bdy} (hB:BodOK l) (hov:ovl l l.length=[]):(ends (lnk l)).Nodup:=by
 have hov:=ovl_none.1 hov
 unfold ends
 rw [List.Nodup,List.pairwise_flatMap]
 constructor
 ·intro x hx
  obtain ⟨a,b,i,j,k,o,h⟩:=mem_lnk.1 hx
  rw [h.2.2.2.2.2]
  have:=h.1
  simp
  omega
 ·refine (lnk_pw l).imp_of_mem ?_
  intro x y hx hy hxy
  have hne:x≠y:=fun e=>by rw [e] at hxy; unfold Of2 at hxy; omega
  obtain ⟨a,b,i,j,k,o,h⟩:=mem_lnk.1 hx
  obtain ⟨a', b', i', j', k', o', h'⟩:=mem_lnk.1 hy
  obtain ⟨q1,q2,q3,q4⟩:=ends_apart hB hov h h' hne
  rw [h.2.2.2.2.2,h'.2.2.2.2.2]
  simp only [List.mem_cons,List.not_mem_nil,or_false]
  intro u hu v hv e
  rcases hu with rfl | rfl <;> rcases hv with rfl | rfl <;> (simp only [Prod.mk.injEq] at e)
  ·exact q1 ⟨by omega,by omega⟩
  ·exact q3 ⟨by omega,by omega⟩
  ·exact q4 ⟨by omega,by omega⟩
  ·exact q2 ⟨by omega,by omega⟩
set_option maxRecDepth 100000
def kp6:FuncId→Nat→Option (List Tmp):=slotsOf [(6,0,[0,3,5,6,7,8,39,40,41,3000007]),(6,2,[0,3,5,6,7,8,39,40,41,65,66,67,3000007]),(6,4,[5,16,17,105,106,107,3000017]),(6,6,[5,16,17,133,3000017])]
noncomputable def cf6:Cfg:={ cfgG Tryz.prog glX moZ poP (rtP fN) (inN []) kp6 with clean:=fun g=>true,fz:=fun f t=>f.beq 6&&t.beq 3000137 }
noncomputable def sh6a (l:List Kd) (m:List Bk) (e:Int) (tw:Bool) (ms:List (V×V)) (t i:Nat):St:=⟨mkT [(0,V.lst 3 (kdl l)),(3,V.ptr (Id.p 0) 0 0),(5,bv true),(6,iv e),(7,V.mp (Id.p 1)),(8,bv tw),(39,V.lst 6 (bkl m)),(40,iv (t:Int)),(41,iv (i:Int))],⟨[(0,O.rows 1 false [[V.lst 6 (bkl m)]]),(1,O.mp ms)],2,[]⟩⟩
noncomputable def sh6b (l:List Kd) (m:List Bk) (e:Int) (tw:Bool) (ms:List (V×V)) (t i:Nat) (c:List Cl) (k j:Nat):St:=⟨mkT [(0,V.lst 3 (kdl l)),(3,V.ptr (Id.p 0) 0 0),(5,bv true),(6,iv e),(7,V.mp (Id.p 1)),(8,bv tw),(39,V.lst 6 (bkl m)),(40,iv (t:Int)),(41,iv (i:Int)),(65,V.lst 3 (cll c)),(66,iv (k:Int)),(67,iv (j:Int))],⟨[(0,O.rows 1 false [[V.lst 6 (bkl m)]]),(1,O.mp ms)],2,[]⟩⟩
noncomputable def sh6c (u:Nat) (L:List Lk) (ms:List (V×V)) (t i:Nat):St:=⟨mkT [(5,bv true),(16,iv 0),(17,V.mp (Id.p 0)),(105,V.lst u (lkl L)),(106,iv (t:Int)),(107,iv (i:Int))],⟨[(0,O.mp ms)],1,[]⟩⟩
noncomputable def sh6d (ms:List (V×V)) (t:Nat) (seen:List Nat):St:=⟨mkT [(5,bv true),(16,iv 0),(17,V.mp (Id.p 0)),(133,V.ptr (Id.p 1) 0 0)],⟨[(0,O.mp ms),(1,O.it (V.mp (Id.p 0)) t seen)],2,[]⟩⟩
end Go.Proofs.YtbionhgjgcpogaaGreatDoor
