/- A part of the proof. -/
import Derived.Test.YtbionhgjgcpogaaGreatDoorProg
import Derived.Test.YtbionhgjgcpogaaGreatDoorXP5G10
import Derived.Test.YtbionhgjgcpogaaGreatDoorXP5G11
import Derived.Test.YtbionhgjgcpogaaGreatDoorXP5G12
import Derived.Test.YtbionhgjgcpogaaGreatDoorXP5G13
import Derived.Test.YtbionhgjgcpogaaGreatDoorXP5G15
import Derived.Test.YtbionhgjgcpogaaGreatDoorXP5G17
import Derived.Test.YtbionhgjgcpogaaGreatDoorXP5G18
import Derived.Test.YtbionhgjgcpogaaGreatDoorXP5G19
namespace Go.Proofs.YtbionhgjgcpogaaGreatDoor
open Go Go.Proofs.YtbionhgjgcpogaaGreatDoor.Clean
set_option linter.unusedVariables false
set_option maxRecDepth 100000
theorem tok0:Facts Tryz.prog glX tb0:=trivial
theorem t0:KFX fa0:=k0 tok0
theorem tok1:Facts Tryz.prog glX tb1:=⟨t0,tok0⟩
theorem t1:KFX fa1:=k1 tok1
theorem tok2:Facts Tryz.prog glX tb2:=⟨t1,tok1⟩
theorem t2:KFX fa2:=k2 tok2
theorem tok3:Facts Tryz.prog glX tb3:=⟨t2,tok2⟩
theorem t3:KFX fa3:=k3 tok3
theorem tok4:Facts Tryz.prog glX tb4:=⟨t3,tok3⟩
theorem t4:KFX fa4:=k4 tok4
theorem tok5:Facts Tryz.prog glX tb5:=⟨t4,tok4⟩
theorem t5:KFX fa5:=k5 tok5
theorem tok6:Facts Tryz.prog glX tb6:=⟨t5,tok5⟩
theorem t6:KFX fa6:=k6 tok6
theorem tok7:Facts Tryz.prog glX tb7:=⟨t6,tok6⟩
theorem t7:KFX fa7:=k7 tok7
theorem tok8:Facts Tryz.prog glX tb8:=⟨t7,tok7⟩
theorem t8:KFX fa8:=k8 tok8
theorem tok9:Facts Tryz.prog glX tb9:=⟨t8,tok8⟩
theorem t9:KFX fa9:=k9 tok9
theorem tok10:Facts Tryz.prog glX tb10:=⟨t9,tok9⟩
theorem t10:KFX fa10:=k10 tok10
theorem tok11:Facts Tryz.prog glX tb11:=⟨t10,tok10⟩
theorem t11:KFX fa11:=k11 tok11
theorem tok12:Facts Tryz.prog glX tb12:=⟨t11,tok11⟩
theorem t12:KFX fa12:=k12 tok12
theorem tok13:Facts Tryz.prog glX tb13:=⟨t12,tok12⟩
theorem t13:KFX fa13:=k13 tok13
theorem tok14:Facts Tryz.prog glX tb14:=⟨t13,tok13⟩
theorem t14:KFX fa14:=k14 tok14
theorem tok15:Facts Tryz.prog glX tb15:=⟨t14,tok14⟩
theorem t15:KFX fa15:=k15 tok15
theorem tok16:Facts Tryz.prog glX tb16:=⟨t15,tok15⟩
theorem t16:KFX fa16:=k16 tok16
theorem tok17:Facts Tryz.prog glX tb17:=⟨t16,tok16⟩
theorem t17:KFX fa17:=k17 tok17
theorem tok18:Facts Tryz.prog glX tb18:=⟨t17,tok17⟩
theorem t18:KFX fa18:=k18 tok18
theorem tok19:Facts Tryz.prog glX tb19:=⟨t18,tok18⟩
theorem t19:KFX fa19:=k19 tok19
theorem tok20:Facts Tryz.prog glX tb20:=⟨t19,tok19⟩
theorem t20:KFX fa20:=k20 tok20
theorem tok21:Facts Tryz.prog glX tb21:=⟨t20,tok20⟩
theorem t21:KFX fa21:=k21 tok21
theorem tok22:Facts Tryz.prog glX tb22:=⟨t21,tok21⟩
theorem t22:KFX fa22:=k22 tok22
theorem tok23:Facts Tryz.prog glX tb23:=⟨t22,tok22⟩
theorem t23:KFX fa23:=k23 tok23
theorem tok24:Facts Tryz.prog glX tb24:=⟨t23,tok23⟩
theorem t24:KFX fa24:=k24 tok24
theorem tok25:Facts Tryz.prog glX tb25:=⟨t24,tok24⟩
theorem t25:KFX fa25:=k25 tok25
theorem tok26:Facts Tryz.prog glX tb26:=⟨t25,tok25⟩
theorem t26:KFX fa26:=k26 tok26
theorem tok27:Facts Tryz.prog glX tb27:=⟨t26,tok26⟩
theorem t27:KFX fa27:=k27 tok27
theorem tok28:Facts Tryz.prog glX tb28:=⟨t27,tok27⟩
theorem t28:KFX fa28:=k28 tok28
theorem tok29:Facts Tryz.prog glX tb29:=⟨t28,tok28⟩
theorem t29:KFX fa29:=k29 tok29
theorem tok30:Facts Tryz.prog glX tb30:=⟨t29,tok29⟩
theorem t30:KFX fa30:=k30 tok30
theorem tok31:Facts Tryz.prog glX tb31:=⟨t30,tok30⟩
theorem t31:KFX fa31:=k31 tok31
theorem tok32:Facts Tryz.prog glX tb32:=⟨t31,tok31⟩
theorem t32:KFX fa32:=k32 tok32
theorem tok33:Facts Tryz.prog glX tb33:=⟨t32,tok32⟩
theorem t33:KFX fa33:=k33 tok33
theorem tok34:Facts Tryz.prog glX tb34:=⟨t33,tok33⟩
theorem t34:KFX fa34:=k34 tok34
theorem tok35:Facts Tryz.prog glX tb35:=⟨t34,tok34⟩
theorem t35:KFX fa35:=k35 tok35
theorem tok36:Facts Tryz.prog glX tb36:=⟨t35,tok35⟩
theorem t36:KFX fa36:=k36 tok36
theorem tok37:Facts Tryz.prog glX tb37:=⟨t36,tok36⟩
theorem t37:KFX fa37:=k37 tok37
set_option linter.unusedSimpArgs false
set_option maxRecDepth 10000
theorem askM.uniq {l:List Kd} {m:List Bk} {e f:Int} (h:askM l m e) (g:askM l m f):e=f:=by
 rcases h with ⟨h1,h2⟩ | ⟨h1,h2,h3⟩ | ⟨h1,h2,h3⟩ | ⟨h1,h2,h3,h4⟩ | ⟨h1,h2⟩ <;> rcases g with ⟨g1,g2⟩ | ⟨g1,g2,g3⟩ | ⟨g1,g2,g3⟩ | ⟨g1,g2,g3,g4⟩ | ⟨g1,g2⟩ <;> first | omega | exact (h2 g1).elim | exact (g2 h1).elim | exact (h2 g1.kinds).elim | exact (g2 h1.kinds).elim | exact (h3 g1.all).elim | exact (g3 h1.all).elim | (have:=h1.few; omega) | (have:=g1.few; omega) | (have:=h1.1; omega) | (have:=g1.1; omega) | (have:=h1.kinds.1; omega) | (have:=g1.kinds.1; omega)
theorem errM.no {l:List Kd} {m:List Bk} {e:Int} (h:errM l m e) (g:OkM l m):False:=by
 rcases h with ⟨h1,h2⟩ | ⟨h1,h2,h3⟩
 ·exact h2 (h1.uniq (.inr (.inr (.inr (.inr ⟨g.ask,rfl⟩)))))
 ·exact h2 g.free
theorem GrpP.uniq {js:List Jt} {n:Nat} {g g' : List Int} (h:GrpP js n g) (h' : GrpP js n g'):g=g' := by
 refine List.ext_getElem? (fun v=>?_)
 by_cases hv:v<n
 ·rw [gat_get (by rw [h.len]; exact hv),gat_get (by rw [h'.len]; exact hv)]
  obtain ⟨a,h1,h2,h3,h4⟩:=h.lea v hv
  obtain ⟨b,g1,g2,g3,g4⟩:=h'.lea v hv
  have e1:=h4 b g3
  have e2:=g4 a h3
  rw [h1,g1,show a=b from by omega]
 ·rw [List.getElem?_eq_none (by rw [h.len]; omega),List.getElem?_eq_none (by rw [h'.len]; omega)]
theorem greatK {l:List Kd} {m:List Bk} (h : ¬ GreatP l m) (hr : ∀ q∈l, ∀ k∈q.2.1,KnR k):l.length≤20 ∧ ∀ q∈l,KdR q:=by
 refine ⟨Nat.le_of_not_lt fun x=>h (.inl x),fun q hq=>⟨hr q hq,Nat.le_of_not_lt fun x=>h (.inr (.inr ⟨q,hq,.inl x⟩)),Nat.le_of_not_lt fun x=>h (.inr (.inr ⟨q,hq,.inr x⟩))⟩⟩
theorem great45 {l:List Kd} {m:List Bk} (h : ¬ GreatP l m):m.length≤45:=by
 unfold GreatP at h
 rcases Nat.lt_or_ge 45 m.length with g | g
 ·exact (h (.inr (.inl g))).elim
 ·exact g
set_option maxRecDepth 100000
def kp9:FuncId→Nat→Option (List Tmp):=slotsOf [(9,0,[4,7,11,13,15,17,79,80,81]),(9,2,[7,11,13,15,17,97,98]),(31,0,[0,1,5])]
noncomputable def cf9:Cfg:={ cfgG Tryz.prog glX moZ poP (rtP fN) (inN []) kp9 with clean:=fun g=>true,fz:=fun f t=>inN [9] f&&inN [32] t }
noncomputable def sh31 (a b:List Lk) (i:Nat):St:=⟨mkT [(0,V.lst 5 (lkl a)),(1,V.lst 5 (lkl b)),(5,iv (i:Int))],⟨[],0,[]⟩⟩
set_option maxRecDepth 10000
theorem hc9:cf9.ok Tryz.prog:=by
 have h:(cfgG Tryz.prog glX moZ poP (rtP fN) (inN []) kp9).ok Tryz.prog:=cfgG_ok (rtP_ok fN)
 exact ⟨h.1,h.2⟩
theorem lk_ext {x y:Lk} (h1:x.1=y.1) (h2:x.2.1=y.2.1) (h3:x.2.2.1=y.2.2.1) (h4:x.2.2.2.1=y.2.2.2.1) (h5:x.2.2.2.2=y.2.2.2.2):x=y:=Prod.ext h1 (Prod.ext h2 (Prod.ext h3 (Prod.ext h4 h5)))
theorem same31 {a b:List Lk} {R:V→Prop} (hl:a.length≤1000000000) (h:R (bv (dc (a=b)))):K0G Tryz.prog glX 31 [.lst 5 (lkl a),.lst 5 (lkl b)] R:=by
 refine K0_of_WY0 hmX hc9 3000 Tryz.func31 (see (p:=ifB ((↑(lkl a).length:Int) != (↑(lkl b).length:Int)) (R (bv false)) (La 0 [(0:Tmp),(1:Tmp),(5:Tmp)] (WY Tryz.prog cf9 2994 (Env.mk (Bs.mk 0 []) 0 none 26 31 0) (cdAt [1,1,0,1,0,0] (bodyOf Tryz.f31))) (Qblk 0 (Qthen (WY Tryz.prog cf9 2997 (Env.mk (Bs.mk 0 []) 0 none 26 31 0) (cdAt [1,1,1] (bodyOf Tryz.f31)) (QendX Tryz.prog Tryz.f31 fun v h=>R (frzW h v))) (QendX Tryz.prog Tryz.f31 fun v h=>R (frzW h v)))) (St.mk (mkT [(0,V.lst 5 (lkl a)),(1,V.lst 5 (lkl b)),(5,iv (0:Int))]) (Hp.mk [] 0 [])))) (by kernel_rfl) ?_)
 rw [lkl_length,lkl_length]
 refine ifB_mk (fun c=>rf h (fun e=>by rw [e] at c; simp at c)) (fun c=>?_)
 have hlen:a.length=b.length:=by simp at c; omega
 refine La.of (σ:=Nat) (fun i=>sh31 a b i) (fun i=>i≤a.length∧a.take i=b.take i) (fun i=>a.length - i) 0 (by kernel_rfl) ⟨by omega,by simp⟩ ?_
 rintro i ⟨g1,g2⟩ J hJ
 refine see (p:=ifB (decide ((↑i:Int)<(↑(lkl a).length:Int))) (onSome (lkl a)[i]? fun row=>onCons (List.drop 0 row) fun u r=>onIntK IntKind.i64 u fun n=>onCons r fun u r=>onIntK IntKind.i64 u fun n_1=>onCons r fun u r=>onIntK IntKind.i64 u fun n_2=>onCons r fun u r=>onIntK IntKind.i64 u fun n_3=>onCons r fun u r=>onIntK IntKind.u8 u fun n_4=>onSome (lkl b)[i]? fun row=>onCons (List.drop 0 row) fun u r=>onIntK IntKind.i64 u fun n_5=>onCons r fun u r=>onIntK IntKind.i64 u fun n_6=>onCons r fun u r=>onIntK IntKind.i64 u fun n_7=>onCons r fun u r=>onIntK IntKind.i64 u fun n_8=>onCons r fun u r=>onIntK IntKind.u8 u fun n_9=>ifB (!(fun b=>n==n_5&&b) ((fun b=>n_1==n_6&&b) ((fun b=>n_2==n_7&&b) ((fun b=>n_3==n_8&&b) ((fun b=>n_4==n_9&&b) true))))) (R (bv false)) (J (St.mk (mkT [(0,V.lst 5 (lkl a)),(1,V.lst 5 (lkl b)),(5,iv (IntKind.i64.wrap ((↑i:Int)+(1:Int))))]) (Hp.mk [] 0 [])))) (R (bv true))) (by kernel_rfl) ?_
 rw [lkl_length]
 refine ifB_mk (fun d=>?_) (fun d=>?_)
 ·have hi:i<a.length:=by have:=of_decide_eq_true d; omega
  obtain ⟨x,hx⟩:=getI hi
  obtain ⟨y,hy⟩:=getI (l:=b) (k:=i) (by omega)
  refine lel hx (lel hy (ifB_mk (fun e=>rf h (fun q=>?_)) (fun e=>?_)))
  ·subst q; rw [hx] at hy; cases hy; simp at e
  ·have exy:x=y:=by
    simp only [Bool.not_eq_false', Bool.and_eq_true,beq_iff_eq,Bool.and_true] at e
    exact lk_ext e.1 e.2.1 e.2.2.1 e.2.2.2.1 e.2.2.2.2
   subst exy
   rw [wr1i hi (by omega)]
   exact hJ (i+1) ⟨hi,take_eq g2 hx hy⟩ (by omega)
 ·have hi:a.length≤i:=by have:=of_decide_eq_false d; omega
  rw [List.take_of_length_le hi,List.take_of_length_le (by omega)] at g2
  exact rt h g2
theorem mem_inn {l:List Bdy} {i n:Nat} {p:Nat×Nat}:p∈inn l i n↔p.1=i∧i<p.2∧p.2<n∧Comm l i p.2:=by
 unfold inn
 rw [List.mem_map]
 constructor
 ·rintro ⟨o,ho,rfl⟩
  obtain ⟨h1,h2⟩:=List.mem_filter.1 ho
  rw [Bool.and_eq_true] at h2
  exact ⟨rfl,of_decide_eq_true h2.1,List.mem_range.1 h1,dc_true h2.2⟩
 ·rintro ⟨rfl,h2,h3,h4⟩
  exact ⟨p.2,List.mem_filter.2 ⟨List.mem_range.2 h3,by rw [Bool.and_eq_true]; exact ⟨decide_eq_true h2,dc_t h4⟩⟩,rfl⟩
theorem noOv_iff {l:List Kd} {m:List Bk}:NoOv l m ↔ ∀ i o,i<o→o<m.length → ¬ Comm (bods l m) i o:=by
 unfold NoOv ovl
 rw [List.flatMap_eq_nil_iff,bods_length]
 constructor
 ·intro h i o hio ho hc
  have:=h i (List.mem_range.2 (by omega))
  have hm:(i,o)∈inn (bods l m) i m.length:=mem_inn.2 ⟨rfl,hio,ho,hc⟩
  rw [this] at hm
  simp at hm
 ·intro h i hi
  refine List.eq_nil_iff_forall_not_mem.2 (fun p hp=>?_)
  obtain ⟨_,h2,h3,h4⟩:=mem_inn.1 hp
  exact h i p.2 h2 h3 h4
set_option maxRecDepth 100000
theorem comp_inv : ∀ a,a<24→comp a (inv a)=0∧inv a<24:=by decide +kernel
theorem tn_back {t:Nat} (ht:t<24) (c:Cl):tn (inv t) (tn t c)=c:=by
 rw [← tn_comp ht (comp_inv t ht).2,(comp_inv t ht).1]
 rfl
theorem tn_jn {t:Nat} (ht:t<24) {a b:Cl} (h:tn t a=tn t b):a=b:=by
 rw [← tn_back ht a,h,tn_back ht]
theorem flatMap_same {α β:Type} {l:List α} {f g:α→List β} (h : ∀ a∈l,f a=g a):l.flatMap f=l.flatMap g:=by
 induction l with
 | nil=>rfl
 | cons a l ih=>rw [List.flatMap_cons,List.flatMap_cons,h a (by simp),ih (fun x hx=>h x (by simp [hx]))]
theorem filterMap_same {α β:Type} {l:List α} {f g:α→Option β} (h : ∀ a∈l,f a=g a):l.filterMap f=l.filterMap g:=by
 induction l with
 | nil=>rfl
 | cons a l ih=>rw [List.filterMap_cons,List.filterMap_cons,h a (by simp),ih (fun x hx=>h x (by simp [hx]))]
theorem stp_ptN : ∀ t,t<24 → ∀ d:Nat,d<6→stp (pt t (d:Int))=tn t (stp (d:Int))∧pt t (opp (d:Int))=opp (pt t (d:Int))∧0≤pt t (d:Int)∧pt t (d:Int)≤5∧pt t (2 * ((d:Int) / 2+1) - 2) / 2=pt t (d:Int) / 2:=by decide +kernel
theorem pt_injN : ∀ t,t<24 → ∀ a:Nat,a<6 → ∀ b:Nat,b<6→(pt t (a:Int)=pt t (b:Int)→a=b)∧(pt t (a:Int) / 2=pt t (b:Int) / 2↔(a:Int) / 2=(b:Int) / 2):=by decide +kernel
theorem nat_of {d:Int} (h0:0≤d) (h5:d≤5) : ∃ n:Nat,d=(n:Int)∧n<6:=⟨d.toNat,by omega,by omega⟩
theorem stp_pt {t:Nat} (ht:t<24) {d:Int} (h0:0≤d) (h5:d≤5):stp (pt t d)=tn t (stp d)∧pt t (opp d)=opp (pt t d)∧0≤pt t d∧pt t d≤5∧pt t (2 * (d / 2+1) - 2) / 2=pt t d / 2:=by
 obtain ⟨n,rfl,hn⟩:=nat_of h0 h5
 exact stp_ptN t ht n hn
theorem pt_jn {t:Nat} (ht:t<24) {a b:Int} (a0:0≤a) (a5:a≤5) (b0:0≤b) (b5:b≤5):(pt t a=pt t b→a=b)∧(pt t a / 2=pt t b / 2↔a / 2=b / 2):=by
 obtain ⟨n,rfl,hn⟩:=nat_of a0 a5
 obtain ⟨m,rfl,hm⟩:=nat_of b0 b5
 exact ⟨fun h=>by rw [(pt_injN t ht n hn m hm).1 h],(pt_injN t ht n hn m hm).2⟩
def mvC (t:Nat) (d:Cl) (c:Cl):Cl:=addC (tn t c) d
def mvK (t:Nat) (d:Cl) (k:Kn):Kn:=(mvC t d k.1,pt t k.2.1,k.2.2)
theorem addC_comm (a b:Cl):addC a b=addC b a:=cl_ext (by simp only [addC]; omega) (by simp only [addC]; omega) (by simp only [addC]; omega)
theorem addC_sw (a b c:Cl):addC (addC a b) c=addC (addC a c) b:=by rw [addC_assoc,addC_comm b c,← addC_assoc]
theorem mvC_inj {t:Nat} {d:Cl} (ht:t<24) {a b:Cl} (h:mvC t d a=mvC t d b):a=b:=tn_jn ht (addC_inj h)
theorem mvC_add {t:Nat} {d:Cl} (a b:Cl):mvC t d (addC a b)=addC (mvC t d a) (tn t b):=by
 unfold mvC
 rw [(lin_tn t).1,addC_sw]
theorem place_mv {n t:Nat} {d e c:Cl} (hn:n<24) (ht:t<24):addC (tn (comp n t) c) (addC (tn t e) d)=mvC t d (addC (tn n c) e):=by
 unfold mvC
 rw [tn_comp hn ht,(lin_tn t).1,addC_assoc]
theorem knb_mv {q:Kd} {n t:Nat} {d e:Cl} (hq:PutP q) (hn:n<24) (ht:t<24):knb q (comp n t) (addC (tn t e) d)=(knb q n e).map (mvK t d):=by
 unfold knb
 rw [List.map_map]
 refine List.map_congr_left (fun k hk=>?_)
 obtain ⟨_,h0,h5⟩:=hq.2.2.1 k hk
 simp only [Function.comp]
 unfold mvK
 rw [place_mv hn ht,pt_comp hn ht h0 h5]
theorem mem_plc {q:Kd} {n:Nat} {e c:Cl}:c∈plc q n e ↔ ∃ x∈q.1,addC (tn n x) e=c:=by
 unfold plc
 rw [(sortC_perm _).mem_iff,List.mem_map]
theorem plc_mv {q:Kd} {n t:Nat} {d e c:Cl} (hn:n<24) (ht:t<24):c∈plc q (comp n t) (addC (tn t e) d) ↔ ∃ x∈plc q n e,mvC t d x=c:=by
 rw [mem_plc]
 constructor
 ·rintro ⟨x,hx,rfl⟩
  exact ⟨_,mem_plc.2 ⟨x,hx,rfl⟩,(place_mv hn ht).symm⟩
 ·rintro ⟨y,hy,rfl⟩
  obtain ⟨x,hx,rfl⟩:=mem_plc.1 hy
  exact ⟨x,hx,place_mv hn ht⟩
theorem fc_mv {t:Nat} {d:Cl} (ht:t<24) {k:Kn} (hk:0≤k.2.1∧k.2.1≤5):fc (mvK t d k)=mvC t d (fc k):=by
 unfold fc mvK
 simp only
 rw [(stp_pt ht hk.1 hk.2).1,mvC_add]
theorem meet_mv {t:Nat} {d:Cl} (ht:t<24) {k o:Kn} (hk:0≤k.2.1∧k.2.1≤5) (ho:0≤o.2.1∧o.2.1≤5):MeetP (mvK t d k) (mvK t d o)↔MeetP k o:=by
 unfold MeetP
 rw [fc_mv ht hk]
 have hopp:0≤opp k.2.1∧opp k.2.1≤5:=by unfold opp; split <;> omega
 constructor
 ·rintro ⟨h1,h2,h3⟩
  refine ⟨mvC_inj ht h1,?_,h3⟩
  have h2:pt t o.2.1=opp (pt t k.2.1):=h2
  rw [← (stp_pt ht hk.1 hk.2).2.1] at h2
  exact (pt_jn ht ho.1 ho.2 hopp.1 hopp.2).1 h2
 ·rintro ⟨h1,h2,h3⟩
  refine ⟨by rw [h1]; rfl,?_,h3⟩
  show pt t o.2.1=opp (pt t k.2.1)
  rw [← (stp_pt ht hk.1 hk.2).2.1,h2]
theorem onLine_iff {a f:Kn} (hf:0≤f.2.1∧f.2.1≤5):OnLine a f↔a.2.1 / 2=f.2.1 / 2 ∧ ∃ z:Int,a.1=addC f.1 (smC z (stp f.2.1)):=by
 obtain ⟨⟨a1,a2,a3⟩,d,s⟩:=a
 obtain ⟨⟨f1,f2,f3⟩,e,u⟩:=f
 obtain ⟨n,rfl,hn⟩:=nat_of hf.1 hf.2
 unfold OnLine
 simp only
 refine and_congr_right (fun h=>?_)
 unfold acr
 simp only
 rw [h]
 have:n=0∨n=1∨n=2∨n=3∨n=4∨n=5:=by omega
 rcases this with rfl | rfl | rfl | rfl | rfl | rfl
 ·simp [addC,smC,stp,stpL]
  exact fun _ _=>⟨a1 - f1,by omega⟩
 ·simp [addC,smC,stp,stpL]
  exact fun _ _=>⟨f1 - a1,by omega⟩
 ·simp [addC,smC,stp,stpL]
  exact fun _ _=>⟨a2 - f2,by omega⟩
 ·simp [addC,smC,stp,stpL]
  exact fun _ _=>⟨f2 - a2,by omega⟩
 ·simp [addC,smC,stp,stpL]
  exact fun _ _=>⟨a3 - f3,by omega⟩
 ·simp [addC,smC,stp,stpL]
  exact fun _ _=>⟨f3 - a3,by omega⟩
theorem onLine_mv {t:Nat} {d:Cl} (ht:t<24) {a f:Kn} (ha:0≤a.2.1∧a.2.1≤5) (hf:0≤f.2.1∧f.2.1≤5):OnLine (mvK t d a) (mvK t d f)↔OnLine a f:=by
 have hp:=stp_pt ht hf.1 hf.2
 rw [onLine_iff hf,onLine_iff (a:=mvK t d a) (f:=mvK t d f) ⟨hp.2.2.1,hp.2.2.2.1⟩]
 refine and_congr (pt_jn ht ha.1 ha.2 hf.1 hf.2).2 ?_
 have e : ∀ z:Int,addC (mvC t d f.1) (smC z (stp (pt t f.2.1)))=mvC t d (addC f.1 (smC z (stp f.2.1))):=fun z=>by
  rw [mvC_add,hp.1,(lin_tn t).2]
 constructor
 ·rintro ⟨z,h⟩
  exact ⟨z,mvC_inj ht (h.trans (e z))⟩
 ·rintro ⟨z,h⟩
  exact ⟨z,(by show mvC t d a.1=_; rw [h]; exact (e z).symm)⟩
theorem lko_mv {t:Nat} {d:Cl} (ht:t<24) {k:Kn} {a b i:Int} {y:List Kn} (hk:0≤k.2.1∧k.2.1≤5) (hy : ∀ o∈y,0≤o.2.1∧o.2.1≤5):lko (mvK t d k) a b i (y.map (mvK t d))=lko k a b i y:=by
 unfold lko
 rw [List.zipIdx_map,List.filterMap_map]
 refine filterMap_same (fun o ho=>?_)
 have hm:o.1∈y:=by
  have:=List.mem_zipIdx_iff_getElem?.1 ho
  exact mem_at this
 simp only [Function.comp,Prod.map,id]
 rw [dc_iff (meet_mv ht hk (hy o.1 hm))]
 rfl
structure MvP (l:List Kd) (m:List Bk) (t:Nat) (d:Cl):Prop where
 t24:t<24
 put : ∀ b∈m,PutP (kOf l b)∧b.2.2.1.toNat<24
theorem bod_mv {l:List Kd} {m:List Bk} {t:Nat} {d:Cl} (h:MvP l m t d) {b:Bk} (hb:b∈m):(bod l (mvB t d b)).2=(bod l b).2.map (mvK t d) ∧ ∀ c,c∈(bod l (mvB t d b)).1 ↔ ∃ x∈(bod l b).1,mvC t d x=c:=by
 obtain ⟨h1,h2⟩:=h.put b hb
 have e:(((comp b.2.2.1.toNat t:Nat):Int)).toNat=comp b.2.2.1.toNat t:=Int.toNat_natCast _
 refine ⟨?_,fun c=>?_⟩
 ·show knb (kOf l b) (((comp b.2.2.1.toNat t:Nat):Int)).toNat (addC (tn t b.2.1) d)=_
  rw [e,knb_mv h1 h2 h.t24]
  rfl
 ·show c∈plc (kOf l b) (((comp b.2.2.1.toNat t:Nat):Int)).toNat (addC (tn t b.2.1) d)↔_
  rw [e,plc_mv h2 h.t24]
  rfl
theorem knobs_mv {l:List Kd} {m:List Bk} {t:Nat} {d:Cl} (h:MvP l m t d) (v:Nat):knobsAt (bods l (m.map (mvB t d))) v=(knobsAt (bods l m) v).map (mvK t d):=by
 unfold knobsAt bods
 rw [List.getElem?_map,List.getElem?_map,List.getElem?_map]
 cases hb:m[v]? with
 | none=>rfl
 | some b=>exact (bod_mv h (mem_at hb)).1
theorem cells_mv {l:List Kd} {m:List Bk} {t:Nat} {d:Cl} (h:MvP l m t d) (v:Nat) (c:Cl):c∈cellsAt (bods l (m.map (mvB t d))) v ↔ ∃ x∈cellsAt (bods l m) v,mvC t d x=c:=by
 unfold cellsAt bods
 rw [List.getElem?_map,List.getElem?_map,List.getElem?_map]
 cases hb:m[v]? with
 | none=>simp
 | some b=>exact (bod_mv h (mem_at hb)).2 c
theorem comm_mv {l:List Kd} {m:List Bk} {t:Nat} {d:Cl} (h:MvP l m t d) {i o:Nat} (hc:Comm (bods l (m.map (mvB t d))) i o):Comm (bods l m) i o:=by
 obtain ⟨c,h1,h2⟩:=hc
 obtain ⟨x,hx,rfl⟩:=(cells_mv h i c).1 h1
 obtain ⟨y,hy,e⟩:=(cells_mv h o _).1 h2
 exact ⟨x,hx,mvC_inj h.t24 e ▸ hy⟩
theorem noOv_mv {l:List Kd} {m:List Bk} {t:Nat} {d:Cl} (h:MvP l m t d) (hn:NoOv l m):NoOv l (m.map (mvB t d)):=by
 rw [noOv_iff] at hn ⊢
 intro i o h1 h2 hc
 rw [List.length_map] at h2
 exact hn i o h1 h2 (comm_mv h hc)
theorem lnk_mv {l:List Kd} {m:List Bk} {t:Nat} {d:Cl} (h:MvP l m t d) (hk : ∀ v, ∀ o∈knobsAt (bods l m) v,KnO o):lnk (bods l (m.map (mvB t d)))=lnk (bods l m):=by
 unfold lnk
 rw [bods_length,bods_length,List.length_map]
 refine flatMap_same (fun a ha=>flatMap_same (fun b hb=>?_))
 split
 ·rw [knobs_mv h,knobs_mv h,List.zipIdx_map,List.flatMap_map]
  refine flatMap_same (fun o ho=>?_)
  have hm:o.1∈knobsAt (bods l m) a:=mem_at (List.mem_zipIdx_iff_getElem?.1 ho)
  exact lko_mv h.t24 (hk a o.1 hm).1 (fun y hy=>(hk b y hy).1)
 ·rfl
set_option maxRecDepth 10000
theorem hcJB:cfJB.ok Tryz.prog:=by
 have h:(cfgG Tryz.prog glX moJB poJ9 rtJ9 (inN []) kpJ9).ok Tryz.prog:=cfgG_ok rtJ9_ok
 exact ⟨h.1,h.2⟩
set_option maxHeartbeats 1000000 in
theorem joints68LB {l:List Bdy} {L:List Lk} {R:V→Prop} (hs:L.Pairwise Of2) (hlen:L.length≤1000000000) (hown : ∀ i,i<L.length → ∃ x,(owL L i)[0]? = some x∧OwnOK l (owL L i) x) (h0:jnS (joF l) L L.length=[]→R nilS) (h:R (.lst 5 (jtl (jnS (joF l) L L.length)))):La 0 [(0:Tmp),(3:Tmp),(4:Tmp),(5:Tmp)] (WY Tryz.prog cfJ9 2993 (Env.mk (Bs.mk 0 []) 0 none 58 68 0) (cdAt [1,1,1,0,1,0,0] (bodyOf Tryz.f68))) (Qblk 0 (Qthen (WY Tryz.prog cfJ9 2996 (Env.mk (Bs.mk 0 []) 0 none 58 68 0) (cdAt [1,1,1,1] (bodyOf Tryz.f68)) (QendX Tryz.prog Tryz.f68 fun v h' => dataT 0 (gcH 0 v h') v R)) (QendX Tryz.prog Tryz.f68 fun v h' => dataT 0 (gcH 0 v h') v R))) (sh68a l L 0):=by
 obtain ⟨n,hn⟩ : ∃ n,n=L.length:=⟨_,rfl⟩
 rw [← hn] at h h0 hlen hown
 refine La.of (σ:=Bool×Nat×Nat×List Jt) (fam68a l L) (fun s=>s.2.1≤n∧(s.2.1<n→Hd L s.2.1)∧s.2.2.1=s.2.2.2.length∧s.2.2.2=jnS (joF l) L s.2.1∧(s.1=false→s.2.2.2=[])∧(s.1=true→s.2.2.2≠[])) (fun s=>n - s.2.1) (false,0,0,[]) rfl ⟨by simp only; omega,fun _ => .inl rfl,rfl,rfl,fun _=>rfl,fun h=>by cases h⟩ ?_
 rintro ⟨bb,f,q,js⟩ ⟨g1,hd,gq,gj,gb,gb2⟩ J hJ
 simp only at g1 hd gq gj gb gb2
 have hq:q≤n:=by rw [gq,gj]; exact Nat.le_trans (jnS_len ..) g1
 have loop:f<n→La 0 [(0:Tmp),(3:Tmp),(4:Tmp),(5:Tmp),(6:Tmp)] (WY Tryz.prog cfJ9 2987 (Env.mk (Bs.mk 0 []) 0 none 58 68 2) (cdAt [1,1,1,0,1,0,0,1,0,1,0,0,0] (bodyOf Tryz.f68))) (Qblk 2 (Qthen (WY Tryz.prog cfJ9 2989 (Env.mk (Bs.mk 0 []) 0 none 58 68 1) (cdAt [1,1,1,0,1,0,0,1,0,1,1] (bodyOf Tryz.f68)) (Qblk 1 (Qla 0 [(0:Tmp),(3:Tmp),(4:Tmp),(5:Tmp)] J (Qblk 0 (Qthen (WY Tryz.prog cfJ9 2996 (Env.mk (Bs.mk 0 []) 0 none 58 68 0) (cdAt [1,1,1,1] (bodyOf Tryz.f68)) (QendX Tryz.prog Tryz.f68 fun v h' => dataT 0 (gcH 0 v h') v R)) (QendX Tryz.prog Tryz.f68 fun v h' => dataT 0 (gcH 0 v h') v R)))))) (Qblk 1 (Qla 0 [(0:Tmp),(3:Tmp),(4:Tmp),(5:Tmp)] J (Qblk 0 (Qthen (WY Tryz.prog cfJ9 2996 (Env.mk (Bs.mk 0 []) 0 none 58 68 0) (cdAt [1,1,1,1] (bodyOf Tryz.f68)) (QendX Tryz.prog Tryz.f68 fun v h' => dataT 0 (gcH 0 v h') v R)) (QendX Tryz.prog Tryz.f68 fun v h' => dataT 0 (gcH 0 v h') v R))))))) (fam68b l L f (bb,f+1,q,js)):=by
  intro hf
  have hd:=hd hf
  refine La.of (σ:=Bool×Nat×Nat×List Jt) (fam68b l L f) (fun s=>(f<s.2.1∧s.2.1≤n)∧(∀ i,f≤i→i<s.2.1→key (at_ L i)=key (at_ L f))∧s.2.2.1=s.2.2.2.length∧s.2.2.2=jnS (joF l) L f∧(s.1=false→s.2.2.2=[])∧(s.1=true→s.2.2.2≠[])) (fun s=>n - s.2.1) (bb,f+1,q,js) rfl ⟨⟨by simp only; omega,by simp only; omega⟩,(fun i h1 h2=>by have h2:i<f+1:=h2; rw [show i=f from by omega]),gq,gj,gb,gb2⟩ ?_
  rintro ⟨bb,t,q,js⟩ ⟨⟨t0,t1⟩,tk,gq,gj,gb,gb2⟩ I hI
  simp only at t0 t1 tk gq gj gb gb2
  have hq:q≤n:=by rw [gq,gj]; exact Nat.le_trans (jnS_len ..) g1
  have hstep:(t=n∨key (at_ L t)≠key (at_ L f))→jnS (joF l) L t=jnS (joF l) L f++[joF l (owL L f)]:=fun _=>jnS_run hd t0 tk
  have hbd:(t=n∨key (at_ L t)≠key (at_ L f))→t<n→Hd L t:=fun he ht=>by
   rcases he with he | he
   ·omega
   ·exact .inr (fun e=>he (e.symm.trans (tk (t - 1) (by omega) (by omega))))
  rcases bb with _ | _
  ·refine see (p:=ifB (decide ((↑t:Int)<(↑(lkl L).length:Int))) (onSome (lkl L)[t]? fun row=>onSome row[0]? fun v=>onIntK IntKind.i64 v fun n=>onSome (lkl L)[f]? fun row=>onSome row[0]? fun v=>onIntK IntKind.i64 v fun n_1=>ifB (n==n_1) (onSome (lkl L)[t]? fun row=>onSome row[1]? fun v=>onIntK IntKind.i64 v fun n=>onSome (lkl L)[f]? fun row=>onSome row[1]? fun v=>onIntK IntKind.i64 v fun n_2=>ifB (n==n_2) (I (St.mk (mkT [(0,V.lst 2 (bdl l)),(3,V.lst 5 (lkl L)),(4,nilS),(5,iv (↑f:Int)),(6,iv (IntKind.i64.wrap ((↑t:Int)+(1:Int))))]) (Hp.mk [] 0 []))) (need (t≤(lkl L).length) (need (f≤t) (K0G Tryz.prog glX 118 [V.lst 2 (bdl l),V.lst 5 (sub (lkl L) f (t - f))] fun v=>onAgg v fun cs=>onCons cs fun u r=>onIntK IntKind.i64 u fun n=>onCons r fun u r=>onIntK IntKind.i64 u fun n_3=>onCons r fun u r=>onIntK IntKind.i64 u fun n_4=>onCons r fun u r=>onIntK IntKind.u8 u fun n_5=>onCons r fun u r=>onBool u fun b=>onNil r (J (St.mk (mkT [(0,V.lst 2 (bdl l)),(3,V.lst 5 (lkl L)),(4,V.sl (Id.p 0) 0 1),(5,iv (↑t:Int))]) (Hp.mk [(0,O.rows 5 true [[iv n,iv n_3,iv n_4,V.raw (Value.int IntKind.u8 n_5),bv b]])] 1 []))))))) (need (t≤(lkl L).length) (need (f≤t) (K0G Tryz.prog glX 118 [V.lst 2 (bdl l),V.lst 5 (sub (lkl L) f (t - f))] fun v=>onAgg v fun cs=>onCons cs fun u r=>onIntK IntKind.i64 u fun n=>onCons r fun u r=>onIntK IntKind.i64 u fun n_2=>onCons r fun u r=>onIntK IntKind.i64 u fun n_3=>onCons r fun u r=>onIntK IntKind.u8 u fun n_4=>onCons r fun u r=>onBool u fun b=>onNil r (J (St.mk (mkT [(0,V.lst 2 (bdl l)),(3,V.lst 5 (lkl L)),(4,V.sl (Id.p 0) 0 1),(5,iv (↑t:Int))]) (Hp.mk [(0,O.rows 5 true [[iv n,iv n_2,iv n_3,V.raw (Value.int IntKind.u8 n_4),bv b]])] 1 []))))))) (need (t≤(lkl L).length) (need (f≤t) (K0G Tryz.prog glX 118 [V.lst 2 (bdl l),V.lst 5 (sub (lkl L) f (t - f))] fun v=>onAgg v fun cs=>onCons cs fun u r=>onIntK IntKind.i64 u fun n=>onCons r fun u r=>onIntK IntKind.i64 u fun n_1=>onCons r fun u r=>onIntK IntKind.i64 u fun n_2=>onCons r fun u r=>onIntK IntKind.u8 u fun n_3=>onCons r fun u r=>onBool u fun b=>onNil r (J (St.mk (mkT [(0,V.lst 2 (bdl l)),(3,V.lst 5 (lkl L)),(4,V.sl (Id.p 0) 0 1),(5,iv (↑t:Int))]) (Hp.mk [(0,O.rows 5 true [[iv n,iv n_1,iv n_2,V.raw (Value.int IntKind.u8 n_3),bv b]])] 1 []))))))) (by kernel_rfl) ?_
   have hleaf:(t=n∨key (at_ L t)≠key (at_ L f))→need (t≤(lkl L).length) (need (f≤t) (K0G Tryz.prog glX 118 [V.lst 2 (bdl l),V.lst 5 (sub (lkl L) f (t - f))] fun v=>onAgg v fun cs=>onCons cs fun u r=>onIntK IntKind.i64 u fun n=>onCons r fun u r=>onIntK IntKind.i64 u fun n_3=>onCons r fun u r=>onIntK IntKind.i64 u fun n_4=>onCons r fun u r=>onIntK IntKind.u8 u fun n_5=>onCons r fun u r=>onBool u fun b=>onNil r (J (St.mk (mkT [(0,V.lst 2 (bdl l)),(3,V.lst 5 (lkl L)),(4,V.sl (Id.p 0) 0 1),(5,iv (↑t:Int))]) (Hp.mk [(0,O.rows 5 true ([[iv n,iv n_3,iv n_4,V.raw (Value.int IntKind.u8 n_5),bv b]]))] 1 []))))):=by
    intro hend
    refine need_mk ⟨by rw [lkl_length]; omega,need_mk ⟨by omega,?_⟩⟩
    rw [sub_lkl,run_own hs (by omega) t0 (by omega) hd tk (hn ▸ hend)]
    obtain ⟨x,hx0,hxg⟩:=hown f (by omega)
    refine joint118 (x:=x) hx0 hxg.1 hxg.2.1 hxg.2.2.1 hxg.2.2.2 (by have:=List.length_filter_le (fun x=>decide (key x=key (at_ L f))) L; unfold owL; omega) (onAgg_agg (onCons_cons (onIntK_iv (onCons_cons (onIntK_iv (onCons_cons (onIntK_iv (onCons_cons (onIntK_u8 (onCons_cons (onBool_bv (onNil_nil ?_))))))))))))
    exact hJ (true,t,1,[joF l (owL L f)]) ⟨t1,hbd hend,rfl,by simp only; rw [hstep hend,← gj,gb rfl]; rfl,(fun h=>by cases h),(fun _=>by simp)⟩ (by simp only; omega)
   refine ifB_mk (fun e=>?_) (fun e=>hleaf (.inl (by rw [lkl_length] at e; have:=of_decide_eq_false e; omega)))
   have ht:t<n:=by rw [lkl_length] at e; have:=of_decide_eq_true e; omega
   have ht' : L[t]? = some (at_ L t):=at_get (by omega)
   have hf' : L[f]? = some (at_ L f):=at_get (by omega)
   refine onSome_mk (lrow ht') (onSome_mk (x:=iv (at_ L t).1) rfl (onIntK_iv (onSome_mk (lrow hf') (onSome_mk (x:=iv (at_ L f).1) rfl (onIntK_iv (ifB_mk (fun c=>?_) (fun c=>hleaf (.inr (fun q=>by unfold key at q; rw [(Prod.mk.inj q).1] at c; simp at c)))))))))
   refine onSome_mk (lrow ht') (onSome_mk (x:=iv (at_ L t).2.1) rfl (onIntK_iv (onSome_mk (lrow hf') (onSome_mk (x:=iv (at_ L f).2.1) rfl (onIntK_iv (ifB_mk (fun c2=>?_) (fun c2=>hleaf (.inr (fun q=>by unfold key at q; rw [(Prod.mk.inj q).2] at c2; simp at c2)))))))))
   rw [wr1i ht (by omega)]
   refine hI (false,t+1,q,js) ⟨⟨by simp only; omega,ht⟩,?_,gq,gj,gb,gb2⟩ (by simp only; omega)
   intro i h1 h2
   simp only at h2
   rcases Nat.lt_succ_iff_lt_or_eq.1 h2 with h3 | h3
   ·exact tk i h1 h3
   ·rw [h3]
    unfold key
    rw [show (at_ L t).1=(at_ L f).1 from by simpa using c,show (at_ L t).2.1=(at_ L f).2.1 from by simpa using c2]
  ·refine see (p:=ifB (decide ((↑t:Int)<(↑(lkl L).length:Int))) (onSome (lkl L)[t]? fun row=>onSome row[0]? fun v=>onIntK IntKind.i64 v fun n=>onSome (lkl L)[f]? fun row=>onSome row[0]? fun v=>onIntK IntKind.i64 v fun n_1=>ifB (n==n_1) (onSome (lkl L)[t]? fun row=>onSome row[1]? fun v=>onIntK IntKind.i64 v fun n=>onSome (lkl L)[f]? fun row=>onSome row[1]? fun v=>onIntK IntKind.i64 v fun n_2=>ifB (n==n_2) (I (St.mk (mkT [(0,V.lst 2 (bdl l)),(3,V.lst 5 (lkl L)),(4,V.sl (Id.p 0) 0 q),(5,iv (↑f:Int)),(6,iv (IntKind.i64.wrap ((↑t:Int)+(1:Int))))]) (Hp.mk [(0,O.rows 5 true (jtl js))] 1 []))) (need (t≤(lkl L).length) (need (f≤t) (K0G Tryz.prog glX 118 [V.lst 2 (bdl l),V.lst 5 (sub (lkl L) f (t - f))] fun v=>onAgg v fun cs=>onCons cs fun u r=>onIntK IntKind.i64 u fun n=>onCons r fun u r=>onIntK IntKind.i64 u fun n_3=>onCons r fun u r=>onIntK IntKind.i64 u fun n_4=>onCons r fun u r=>onIntK IntKind.u8 u fun n_5=>onCons r fun u r=>onBool u fun b=>onNil r (need ((q+1) * 32≤140737488355328) (J (St.mk (mkT [(0,V.lst 2 (bdl l)),(3,V.lst 5 (lkl L)),(4,V.sl (Id.p 0) 0 (q+1)),(5,iv (↑t:Int))]) (Hp.mk [(0,O.rows 5 true (List.take q (jtl js)++[[iv n,iv n_3,iv n_4,V.raw (Value.int IntKind.u8 n_5),bv b]]))] 1 [])))))))) (need (t≤(lkl L).length) (need (f≤t) (K0G Tryz.prog glX 118 [V.lst 2 (bdl l),V.lst 5 (sub (lkl L) f (t - f))] fun v=>onAgg v fun cs=>onCons cs fun u r=>onIntK IntKind.i64 u fun n=>onCons r fun u r=>onIntK IntKind.i64 u fun n_2=>onCons r fun u r=>onIntK IntKind.i64 u fun n_3=>onCons r fun u r=>onIntK IntKind.u8 u fun n_4=>onCons r fun u r=>onBool u fun b=>onNil r (need ((q+1) * 32≤140737488355328) (J (St.mk (mkT [(0,V.lst 2 (bdl l)),(3,V.lst 5 (lkl L)),(4,V.sl (Id.p 0) 0 (q+1)),(5,iv (↑t:Int))]) (Hp.mk [(0,O.rows 5 true (List.take q (jtl js)++[[iv n,iv n_2,iv n_3,V.raw (Value.int IntKind.u8 n_4),bv b]]))] 1 [])))))))) (need (t≤(lkl L).length) (need (f≤t) (K0G Tryz.prog glX 118 [V.lst 2 (bdl l),V.lst 5 (sub (lkl L) f (t - f))] fun v=>onAgg v fun cs=>onCons cs fun u r=>onIntK IntKind.i64 u fun n=>onCons r fun u r=>onIntK IntKind.i64 u fun n_1=>onCons r fun u r=>onIntK IntKind.i64 u fun n_2=>onCons r fun u r=>onIntK IntKind.u8 u fun n_3=>onCons r fun u r=>onBool u fun b=>onNil r (need ((q+1) * 32≤140737488355328) (J (St.mk (mkT [(0,V.lst 2 (bdl l)),(3,V.lst 5 (lkl L)),(4,V.sl (Id.p 0) 0 (q+1)),(5,iv (↑t:Int))]) (Hp.mk [(0,O.rows 5 true (List.take q (jtl js)++[[iv n,iv n_1,iv n_2,V.raw (Value.int IntKind.u8 n_3),bv b]]))] 1 [])))))))) (by kernel_rfl) ?_
   have hleaf:(t=n∨key (at_ L t)≠key (at_ L f))→need (t≤(lkl L).length) (need (f≤t) (K0G Tryz.prog glX 118 [V.lst 2 (bdl l),V.lst 5 (sub (lkl L) f (t - f))] fun v=>onAgg v fun cs=>onCons cs fun u r=>onIntK IntKind.i64 u fun n=>onCons r fun u r=>onIntK IntKind.i64 u fun n_3=>onCons r fun u r=>onIntK IntKind.i64 u fun n_4=>onCons r fun u r=>onIntK IntKind.u8 u fun n_5=>onCons r fun u r=>onBool u fun b=>onNil r (need ((q+1) * 32≤140737488355328) (J (St.mk (mkT [(0,V.lst 2 (bdl l)),(3,V.lst 5 (lkl L)),(4,V.sl (Id.p 0) 0 (q+1)),(5,iv (↑t:Int))]) (Hp.mk [(0,O.rows 5 true (List.take q (jtl js)++[[iv n,iv n_3,iv n_4,V.raw (Value.int IntKind.u8 n_5),bv b]]))] 1 [])))))):=by
    intro hend
    refine need_mk ⟨by rw [lkl_length]; omega,need_mk ⟨by omega,?_⟩⟩
    rw [sub_lkl,run_own hs (by omega) t0 (by omega) hd tk (hn ▸ hend)]
    obtain ⟨x,hx0,hxg⟩:=hown f (by omega)
    refine joint118 (x:=x) hx0 hxg.1 hxg.2.1 hxg.2.2.1 hxg.2.2.2 (by have:=List.length_filter_le (fun x=>decide (key x=key (at_ L f))) L; unfold owL; omega) (onAgg_agg (onCons_cons (onIntK_iv (onCons_cons (onIntK_iv (onCons_cons (onIntK_iv (onCons_cons (onIntK_u8 (onCons_cons (onBool_bv (onNil_nil ?_))))))))))))
    refine need_mk ⟨by omega,?_⟩
    have e:List.take q (jtl js)++[jtr (joF l (owL L f))]=jtl (js++[joF l (owL L f)]):=by
     rw [gq,← jtl_length,List.take_length]; simp [jtl]
    refine (congrArg J ?_).mp (hJ (true,t,q+1,js++[joF l (owL L f)]) ⟨t1,hbd hend,by simp [gq],by simp only; rw [hstep hend,gj],(fun h=>by cases h),(fun _=>by simp)⟩ (by simp only; omega))
    show sh68aS l L (js++[joF l (owL L f)]) (q+1) t=_
    unfold sh68aS
    rw [← e]
    rfl
   refine ifB_mk (fun e=>?_) (fun e=>hleaf (.inl (by rw [lkl_length] at e; have:=of_decide_eq_false e; omega)))
   have ht:t<n:=by rw [lkl_length] at e; have:=of_decide_eq_true e; omega
   have ht' : L[t]? = some (at_ L t):=at_get (by omega)
   have hf' : L[f]? = some (at_ L f):=at_get (by omega)
   refine onSome_mk (lrow ht') (onSome_mk (x:=iv (at_ L t).1) rfl (onIntK_iv (onSome_mk (lrow hf') (onSome_mk (x:=iv (at_ L f).1) rfl (onIntK_iv (ifB_mk (fun c=>?_) (fun c=>hleaf (.inr (fun q=>by unfold key at q; rw [(Prod.mk.inj q).1] at c; simp at c)))))))))
   refine onSome_mk (lrow ht') (onSome_mk (x:=iv (at_ L t).2.1) rfl (onIntK_iv (onSome_mk (lrow hf') (onSome_mk (x:=iv (at_ L f).2.1) rfl (onIntK_iv (ifB_mk (fun c2=>?_) (fun c2=>hleaf (.inr (fun q=>by unfold key at q; rw [(Prod.mk.inj q).2] at c2; simp at c2)))))))))
   rw [wr1i ht (by omega)]
   refine hI (true,t+1,q,js) ⟨⟨by simp only; omega,ht⟩,?_,gq,gj,gb,gb2⟩ (by simp only; omega)
   intro i h1 h2
   simp only at h2
   rcases Nat.lt_succ_iff_lt_or_eq.1 h2 with h3 | h3
   ·exact tk i h1 h3
   ·rw [h3]
    unfold key
    rw [show (at_ L t).1=(at_ L f).1 from by simpa using c,show (at_ L t).2.1=(at_ L f).2.1 from by simpa using c2]
 rcases bb with _ | _
 ·refine see (p:=ifB (decide ((↑f:Int)<(↑(lkl L).length:Int))) (La 0 [(0:Tmp),(3:Tmp),(4:Tmp),(5:Tmp),(6:Tmp)] (WY Tryz.prog cfJ9 2987 (Env.mk (Bs.mk 0 []) 0 none 58 68 2) (cdAt [1,1,1,0,1,0,0,1,0,1,0,0,0] (bodyOf Tryz.f68))) (Qblk 2 (Qthen (WY Tryz.prog cfJ9 2989 (Env.mk (Bs.mk 0 []) 0 none 58 68 1) (cdAt [1,1,1,0,1,0,0,1,0,1,1] (bodyOf Tryz.f68)) (Qblk 1 (Qla 0 [(0:Tmp),(3:Tmp),(4:Tmp),(5:Tmp)] J (Qblk 0 (Qthen (WY Tryz.prog cfJ9 2996 (Env.mk (Bs.mk 0 []) 0 none 58 68 0) (cdAt [1,1,1,1] (bodyOf Tryz.f68)) (QendX Tryz.prog Tryz.f68 fun v h' => dataT 0 (gcH 0 v h') v R)) (QendX Tryz.prog Tryz.f68 fun v h' => dataT 0 (gcH 0 v h') v R)))))) (Qblk 1 (Qla 0 [(0:Tmp),(3:Tmp),(4:Tmp),(5:Tmp)] J (Qblk 0 (Qthen (WY Tryz.prog cfJ9 2996 (Env.mk (Bs.mk 0 []) 0 none 58 68 0) (cdAt [1,1,1,1] (bodyOf Tryz.f68)) (QendX Tryz.prog Tryz.f68 fun v h' => dataT 0 (gcH 0 v h') v R)) (QendX Tryz.prog Tryz.f68 fun v h' => dataT 0 (gcH 0 v h') v R))))))) (St.mk (mkT [(0,V.lst 2 (bdl l)),(3,V.lst 5 (lkl L)),(4,nilS),(5,iv (↑f:Int)),(6,iv (IntKind.i64.wrap ((↑f:Int)+(1:Int))))]) (Hp.mk [] 0 []))) (R nilS)) (by kernel_rfl) ?_
  refine ifB_mk (fun d=>?_) (fun d=>?_)
  ·have hf:f<n:=by rw [lkl_length] at d; have:=of_decide_eq_true d; omega
   rw [wr1i hf (by omega)]
   exact see (by kernel_rfl) (loop hf)
  ·have hf:f=n:=by rw [lkl_length] at d; have:=of_decide_eq_false d; omega
   exact h0 (by rw [← hf,← gj]; exact gb rfl)
 ·refine see (p:=ifB (decide ((↑f:Int)<(↑(lkl L).length:Int))) (La 0 [(0:Tmp),(3:Tmp),(4:Tmp),(5:Tmp),(6:Tmp)] (WY Tryz.prog cfJ9 2987 (Env.mk (Bs.mk 0 []) 0 none 58 68 2) (cdAt [1,1,1,0,1,0,0,1,0,1,0,0,0] (bodyOf Tryz.f68))) (Qblk 2 (Qthen (WY Tryz.prog cfJ9 2989 (Env.mk (Bs.mk 0 []) 0 none 58 68 1) (cdAt [1,1,1,0,1,0,0,1,0,1,1] (bodyOf Tryz.f68)) (Qblk 1 (Qla 0 [(0:Tmp),(3:Tmp),(4:Tmp),(5:Tmp)] J (Qblk 0 (Qthen (WY Tryz.prog cfJ9 2996 (Env.mk (Bs.mk 0 []) 0 none 58 68 0) (cdAt [1,1,1,1] (bodyOf Tryz.f68)) (QendX Tryz.prog Tryz.f68 fun v h' => dataT 0 (gcH 0 v h') v R)) (QendX Tryz.prog Tryz.f68 fun v h' => dataT 0 (gcH 0 v h') v R)))))) (Qblk 1 (Qla 0 [(0:Tmp),(3:Tmp),(4:Tmp),(5:Tmp)] J (Qblk 0 (Qthen (WY Tryz.prog cfJ9 2996 (Env.mk (Bs.mk 0 []) 0 none 58 68 0) (cdAt [1,1,1,1] (bodyOf Tryz.f68)) (QendX Tryz.prog Tryz.f68 fun v h' => dataT 0 (gcH 0 v h') v R)) (QendX Tryz.prog Tryz.f68 fun v h' => dataT 0 (gcH 0 v h') v R))))))) (St.mk (mkT [(0,V.lst 2 (bdl l)),(3,V.lst 5 (lkl L)),(4,V.sl (Id.p 0) 0 q),(5,iv (↑f:Int)),(6,iv (IntKind.i64.wrap ((↑f:Int)+(1:Int))))]) (Hp.mk [(0,O.rows 5 true (jtl js))] 1 []))) (R (V.lst 5 (sub (jtl js) 0 q)))) (by kernel_rfl) ?_
  refine ifB_mk (fun d=>?_) (fun d=>?_)
  ·have hf:f<n:=by rw [lkl_length] at d; have:=of_decide_eq_true d; omega
   rw [wr1i hf (by omega)]
   exact see (by kernel_rfl) (loop hf)
  ·have hf:f=n:=by rw [lkl_length] at d; have:=of_decide_eq_false d; omega
   have e:sub (jtl js) 0 q=jtl js:=by rw [gq,← jtl_length,sub,List.drop_zero,List.take_length]
   rw [e,gj,hf]
   exact h
theorem joints_nilB {l:List Bdy} {R:V→Prop} (h:R nilS):La 0 [(0:Tmp),(3:Tmp),(4:Tmp),(5:Tmp)] (WY Tryz.prog cfJ9 2993 (Env.mk (Bs.mk 0 []) 0 none 58 68 0) (cdAt [1,1,1,0,1,0,0] (bodyOf Tryz.f68))) (Qblk 0 (Qthen (WY Tryz.prog cfJ9 2996 (Env.mk (Bs.mk 0 []) 0 none 58 68 0) (cdAt [1,1,1,1] (bodyOf Tryz.f68)) (QendX Tryz.prog Tryz.f68 fun v h' => dataT 0 (gcH 0 v h') v R)) (QendX Tryz.prog Tryz.f68 fun v h' => dataT 0 (gcH 0 v h') v R))) (sh68n l):=by
 refine La.of (σ:=Unit) (fun _=>sh68n l) (fun _=>True) (fun _=>0) () rfl trivial ?_
 rintro _ _ J hJ
 exact see (p:=R nilS) (by kernel_rfl) h
theorem joints68B {l:List Bdy} {R:V→Prop} (hB:BodOK l) (hlen:(lnk l).length≤1000000000) (h0:jnt l=[]→R nilS) (h:R (.lst 5 (jtl (jnt l)))):KB Tryz.prog glX 68 [.lst 2 (bdl l)] ⟨[],0,[]⟩ R:=by
 refine KB_of_WYB hmX hcJ9 3000 Tryz.func68 rfl (see (p:=K0G Tryz.prog glX 65 [V.lst 2 (bdl l)] fun v=>onLst v fun s es=>La 0 [(0:Tmp),(3:Tmp),(4:Tmp),(5:Tmp)] (WY Tryz.prog cfJ9 2993 (Env.mk (Bs.mk 0 []) 0 none 58 68 0) (cdAt [1,1,1,0,1,0,0] (bodyOf Tryz.f68))) (Qblk 0 (Qthen (WY Tryz.prog cfJ9 2996 (Env.mk (Bs.mk 0 []) 0 none 58 68 0) (cdAt [1,1,1,1] (bodyOf Tryz.f68)) (QendX Tryz.prog Tryz.f68 fun v h' => dataT 0 (gcH 0 v h') v R)) (QendX Tryz.prog Tryz.f68 fun v h' => dataT 0 (gcH 0 v h') v R))) (St.mk (mkT [(0,V.lst 2 (bdl l)),(3,V.lst s es),(4,nilS),(5,iv (0:Int))]) (Hp.mk [] 0 []))) (by kernel_rfl) ?_)
 refine links65 hB (fun e=>onLst_nil ?_) (onLst_lst ?_)
 ·exact see (by kernel_rfl) (joints_nilB (l:=l) (R:=R) (h0 (by unfold jnt; rw [e]; rfl)))
 ·exact see (by kernel_rfl) (joints68LB (L:=lnk l) (R:=R) (lnk_pw l) hlen (own_ok hB) h0 h)
theorem joints32B {l:List Kd} {m:List Bk} {R:V→Prop} (hl : ∀ q∈l,KdR q) (hll:(l.length:Int)≤1000000) (hml:m.length≤1000000) (hr : ∀ b∈m,BkR b) (h1 : ∀ e,errM l m e→e≠0→R (.tup [nilS,iv e])) (h2:OkM l m→R (.tup [.lst 5 (jtl (jnt (bods l m))),iv 0])):KB Tryz.prog glX 32 [.lst 3 (kdl l),.agg [.lst 6 (bkl m)]] ⟨[],0,[]⟩ R:=by
 refine KB_of_WYB hmX hcJB 3000 Tryz.func32 rfl (see (p:=K0G Tryz.prog glX 64 [V.lst 3 (kdl l),V.agg [V.lst 6 (bkl m)]] fun v=>onTup v fun vs=>onCons vs fun u r=>onLst u fun s es=>onCons r fun u r=>onIntK IntKind.i64 u fun n=>onNil r (ifB (n != (0:Int)) (R (V.tup [nilS,iv n])) (KB Tryz.prog glX 68 [V.lst s es] (Hp.mk [] 0 []) fun v=>onLst v fun s es=>guardB (s.beq 5 || s.beq 0) (R (V.tup [V.lst 5 (sub es 0 es.length),iv (0:Int)]))))) (by kernel_rfl) ?_)
 refine valid64 hl hll hml hr (fun e he hne=>⟨onTup_tup (onCons_cons (onLst_nil (onCons_cons (onIntK_iv (onNil_nil (ifB_t (by simpa using hne) (h1 e he hne))))))),onTup_tup (onCons_cons (onLst_lst (onCons_cons (onIntK_iv (onNil_nil (ifB_t (by simpa using hne) (h1 e he hne)))))))⟩) (fun hA=>?_)
 refine onTup_tup (onCons_cons (onLst_lst (onCons_cons (onIntK_iv (onNil_nil (ifB_f rfl ?_))))))
 refine joints68B (bod_ok hl hr hA.ask) (lnk_few (bod_ok hl hr hA.ask) (bods60 hl hr hA.ask)) (fun e=>onLst_nil (guardB_mk rfl ?_)) (onLst_lst (guardB_mk rfl ?_))
 ·have:=h2 hA
  rw [e] at this
  exact this
 ·rw [show sub (jtl (jnt (bods l m))) 0 (jtl (jnt (bods l m))).length=jtl (jnt (bods l m)) from by rw [sub,List.drop_zero,List.take_length]]
  exact h2 hA
def mvX (t:Nat) (x:Int):Int:=if x=0 then 0 else pt t (2 * x - 2) / 2+1
def mvJ (t:Nat) (j:Jt):Jt:=(j.1,j.2.1,j.2.2.1,mvX t j.2.2.2.1,j.2.2.2.2)
theorem kAt_mv {y:List Kn} {t:Nat} {d:Cl} {z:Lk} (h:z.2.2.1.toNat<y.length):kAt (y.map (mvK t d)) z=mvK t d (kAt y z)∧kAt y z∈y:=by
 obtain ⟨k,hk⟩:=getI h
 unfold kAt
 rw [List.getElem?_map,hk]
 exact ⟨rfl,mem_at hk⟩
theorem axO_cons (y:List Kn) (x:Lk) (L:List Lk):axO y (x::L)=if dc (∀ z∈x::L,OnLine (kAt y z) (kAt y x))=true then (kAt y x).2.1 / 2+1 else 0:=rfl
theorem axO_mv {y:List Kn} {L:List Lk} {t:Nat} {d:Cl} (ht:t<24) (hy : ∀ o∈y,0≤o.2.1∧o.2.1≤5) (hL : ∀ z∈L,z.2.2.1.toNat<y.length):axO (y.map (mvK t d)) L=mvX t (axO y L):=by
 cases L with
 | nil=>rfl
 | cons x L =>
  have hx:=kAt_mv (t:=t) (d:=d) (hL x (by simp))
  have hd:=hy _ hx.2
  have e:dc (∀ z∈x::L,OnLine (kAt (y.map (mvK t d)) z) (kAt (y.map (mvK t d)) x))=dc (∀ z∈x::L,OnLine (kAt y z) (kAt y x)):=dc_iff (by
   refine forall_congr' (fun z=>imp_congr_right (fun hz=>?_))
   have h1:=kAt_mv (t:=t) (d:=d) (hL z hz)
   rw [h1.1,hx.1]
   exact onLine_mv ht (hy _ h1.2) hd)
  rw [axO_cons,axO_cons,e]
  by_cases h:dc (∀ z∈x::L,OnLine (kAt y z) (kAt y x))=true
  ·rw [if_pos h,if_pos h,hx.1]
   unfold mvX
   rw [if_neg (by omega),(stp_pt ht hd.1 hd.2).2.2.2.2]
   rfl
  ·rw [if_neg h,if_neg h]
   rfl
theorem mvX_ne {t:Nat} (ht:t<24) {y:List Kn} {L:List Lk} (hy : ∀ o∈y,0≤o.2.1∧o.2.1≤5) (hL : ∀ z∈L,z.2.2.1.toNat<y.length):(axO y L=0∧mvX t (axO y L)=0)∨(1≤axO y L∧axO y L≤3∧1≤mvX t (axO y L)∧mvX t (axO y L)≤3∧pt t (2 * axO y L - 2) / 2=mvX t (axO y L) - 1):=by
 cases L with
 | nil=>exact .inl ⟨rfl,rfl⟩
 | cons x L =>
  have hx:=kAt_mv (t:=t) (d:=(0,0,0)) (hL x (by simp))
  have hd:=hy _ hx.2
  rw [axO_cons]
  by_cases h:dc (∀ z∈x::L,OnLine (kAt y z) (kAt y x))=true
  ·rw [if_pos h]
   have h1:=stp_pt ht hd.1 hd.2
   have h2:mvX t ((kAt y x).2.1 / 2+1)=pt t (kAt y x).2.1 / 2+1:=by
    unfold mvX
    rw [if_neg (by omega),h1.2.2.2.2]
   rw [h2,h1.2.2.2.2]
   exact .inr (by omega)
  ·rw [if_neg h]
   exact .inl ⟨rfl,rfl⟩
theorem jnS_mv {g g' : List Lk→Jt} {f:Jt→Jt} {L:List Lk} : ∀ {n:Nat},(∀ i,i<n→g' (owL L i)=f (g (owL L i)))→jnS g' L n=(jnS g L n).map f
 | 0,_=>rfl
 | n+1,h=>by
  rw [jnS_succ,jnS_succ,jnS_mv (fun i hi=>h i (by omega)),List.map_append,h n (by omega)]
  congr 1
  split <;> rfl
def AxP (t:Nat) (j:Jt):Prop:=(j.2.2.2.1=0∧mvX t j.2.2.2.1=0)∨(1≤j.2.2.2.1∧j.2.2.2.1≤3∧1≤mvX t j.2.2.2.1∧mvX t j.2.2.2.1≤3∧pt t (2 * j.2.2.2.1 - 2) / 2=mvX t j.2.2.2.1 - 1)
theorem jnt_mv {l:List Kd} {m:List Bk} {t:Nat} {d:Cl} (h:MvP l m t d) (hB:BodOK (bods l m)):jnt (bods l (m.map (mvB t d)))=(jnt (bods l m)).map (mvJ t) ∧ ∀ j∈jnt (bods l m),AxP t j:=by
 have hk : ∀ v, ∀ o∈knobsAt (bods l m) v,KnO o:=fun v o ho=>by
  obtain ⟨j,hj⟩:=List.mem_iff_getElem?.1 ho
  obtain ⟨y,hy,hyk⟩:=knobsAt_mem hj
  exact hB.ko y (mem_at hy) o (mem_at hyk)
 have hl:=lnk_mv h hk
 have each : ∀ i,i<(lnk (bods l m)).length → ∃ x,(owL (lnk (bods l m)) i).headD lk0=x∧(∀ o∈knobsAt (bods l m) x.1.toNat,0≤o.2.1∧o.2.1≤5) ∧ ∀ z∈owL (lnk (bods l m)) i,z.2.2.1.toNat<(knobsAt (bods l m) x.1.toNat).length:=fun i hi=>by
  obtain ⟨x,hx,ho⟩:=own_ok hB i hi
  refine ⟨x,?_,fun o ho' => (hk _ o ho').1,fun z hz=>(ho.2.2.2 z hz).2⟩
  cases hw:owL (lnk (bods l m)) i with
  | nil=>rw [hw] at hx; simp at hx
  | cons a L=>rw [hw] at hx; simp at hx; subst hx; rfl
 constructor
 ·unfold jnt
  rw [hl]
  refine jnS_mv (fun i hi=>?_)
  obtain ⟨x,hx,h1,h2⟩:=each i hi
  have e:=axO_mv (d:=d) h.t24 h1 h2
  have hz:=mvX_ne h.t24 h1 h2
  unfold joF mvJ
  rw [hx,knobs_mv h,e]
  refine congrArg _ (congrArg _ (congrArg _ (congrArg _ (dc_iff ?_))))
  refine and_congr_left (fun _=>?_)
  omega
 ·intro j hj
  unfold jnt jnS at hj
  obtain ⟨i,hi,hj⟩:=List.mem_flatMap.1 hj
  split at hj
  ·rw [List.mem_singleton.1 hj]
   obtain ⟨x,hx,h1,h2⟩:=each i (List.mem_range.1 hi)
   have hz:=mvX_ne h.t24 h1 h2
   unfold AxP joF
   rw [hx]
   exact hz
  ·simp at hj
theorem adj_mv {js:List Jt} {t a b:Nat}:Adj (js.map (mvJ t)) a b↔Adj js a b:=by
 constructor
 ·rintro ⟨j,hj,h⟩
  obtain ⟨i,hi,rfl⟩:=List.mem_map.1 hj
  exact ⟨i,hi,h⟩
 ·rintro ⟨j,hj,h⟩
  exact ⟨mvJ t j,List.mem_map.2 ⟨j,hj,rfl⟩,h⟩
theorem Con.of {js js' : List Jt} (h : ∀ a b,Adj js a b→Adj js' a b) {a b:Nat} (hc:Con js a b):Con js' a b:=by
 induction hc with
 | refl=>exact .refl _
 | step _ e ih=>exact ih.step (h _ _ e)
theorem GrpP.mv {js:List Jt} {t n:Nat} {g:List Int} (h:GrpP (js.map (mvJ t)) n g):GrpP js n g:=by
 refine ⟨h.len,fun v hv=>?_⟩
 obtain ⟨u,h1,h2,h3,h4⟩:=h.lea v hv
 exact ⟨u,h1,h2,h3.of (fun a b=>adj_mv.1),fun w hw=>h4 w (hw.of (fun a b=>adj_mv.2))⟩
theorem turn41A {k:Int} {x:Cl} {t:Nat} {R:V→Prop} (hch:K0G Tryz.prog glX 82 [iv (t:Int)] fun v=>v=(chA k)) (hcell : ∀ {c:Cl} {R:V→Prop},Bd 3000 c→R (.agg (clr (tn t c)))→K0G Tryz.prog glX 85 [(chA k),.agg (clr c)] R) (ht:t<24) (hx:Bd 2000 x) (h:R (.tup [.agg (clr (tn t x)),iv 0])):K0G Tryz.prog glX 41 [.agg (clr x),iv (t:Int)] R:=by
 refine K0_by hmX (hcM (chA k)) 3000 Tryz.func41 (p:=K0G Tryz.prog glX 77 [iv (↑t:Int)] fun v=>onBool v fun b=>ifB (!b) (R (V.tup [V.agg [iv (0:Int),iv (0:Int),iv (0:Int)],iv (2:Int)])) (K0G Tryz.prog glX 84 [V.agg [iv x.1,iv x.2.1,iv x.2.2],iv (-2000:Int),iv (2000:Int)] fun v=>onBool v fun b=>ifB (!b) (R (V.tup [V.agg [iv (0:Int),iv (0:Int),iv (0:Int)],iv (2:Int)])) (KM Tryz.prog glX 82 [iv (↑t:Int)] (Hp.mk [] 0 []) (poP 82 [iv (↑t:Int)]) fun v us=>v=V.agg [V.fn (Fn.func (124:FuncId)) [] [],iv k,V.raw Value.nilFunc,iv (0:Int),V.raw Value.nilFunc,iv (0:Int)]∧K0G Tryz.prog glX 85 [V.agg [V.fn (Fn.func (124:FuncId)) [] [],iv k,V.raw Value.nilFunc,iv (0:Int),V.raw Value.nilFunc,iv (0:Int)],V.agg [iv x.1,iv x.2.1,iv x.2.2]] fun v=>onAgg v fun cs=>onCons cs fun u r=>onIntK IntKind.i64 u fun n=>onCons r fun u r=>onIntK IntKind.i64 u fun n_1=>onCons r fun u r=>onIntK IntKind.i64 u fun n_2=>onNil r (R (V.tup [V.agg [iv n,iv n_1,iv n_2],iv (0:Int)]))))) (by kernel_rfl) ?_
 refine turn77 (onBool_bv (ifB_f (by rw [dc_t (by omega)]; rfl) (near84 (onBool_bv (ifB_f (by rw [dc_t (show Nr (-2000) 2000 x from hx)]; rfl) ?_)))))
 refine KM_of_K0 rfl rfl (hch.mono' fun v e=>⟨e,?_⟩)
 exact hcell (c:=x) (hx.mono (by omega)) (onAgg_agg (onCons_cons (onIntK_iv (onCons_cons (onIntK_iv (onCons_cons (onIntK_iv (onNil_nil h))))))))
theorem direction40A {k:Int} {d:Nat} {t:Nat} {R:V→Prop} (hch:K0G Tryz.prog glX 82 [iv (t:Int)] fun v=>v=(chA k)) (hdir : ∀ {d:Nat} {R:V→Prop},d<6→R (iv (pt t (d:Int)))→K0G Tryz.prog glX 83 [(chA k),iv (d:Int)] R) (ht:t<24) (hd:d<6) (h:R (.tup [iv (pt t (d:Int)),iv 0])):K0G Tryz.prog glX 40 [iv (d:Int),iv (t:Int)] R:=by
 refine K0_by hmX (hcM (chA k)) 3000 Tryz.func40 (p:=K0G Tryz.prog glX 81 [iv (↑d:Int)] fun v=>onBool v fun b=>ifB (!b) (R (V.tup [iv (0:Int),iv (2:Int)])) (K0G Tryz.prog glX 77 [iv (↑t:Int)] fun v=>onBool v fun b=>ifB (!b) (R (V.tup [iv (0:Int),iv (2:Int)])) (KM Tryz.prog glX 82 [iv (↑t:Int)] (Hp.mk [] 0 []) (poP 82 [iv (↑t:Int)]) fun v us=>v=V.agg [V.fn (Fn.func (124:FuncId)) [] [],iv k,V.raw Value.nilFunc,iv (0:Int),V.raw Value.nilFunc,iv (0:Int)]∧K0G Tryz.prog glX 83 [V.agg [V.fn (Fn.func (124:FuncId)) [] [],iv k,V.raw Value.nilFunc,iv (0:Int),V.raw Value.nilFunc,iv (0:Int)],iv (↑d:Int)] fun v=>onIntK IntKind.i64 v fun n=>R (V.tup [iv n,iv (0:Int)])))) (by kernel_rfl) ?_
 refine dir81 (onBool_bv (ifB_f (by rw [dc_t (by omega)]; rfl) (turn77 (onBool_bv (ifB_f (by rw [dc_t (by omega)]; rfl) ?_)))))
 refine KM_of_K0 rfl rfl (hch.mono' fun v e=>⟨e,?_⟩)
 exact hdir hd (onIntK_iv h)
theorem turn41B {k s:Int} {x:Cl} {t:Nat} {R:V→Prop} (hch:K0G Tryz.prog glX 82 [iv (t:Int)] fun v=>v=(chB k s)) (hcell : ∀ {c:Cl} {R:V→Prop},Bd 3000 c→R (.agg (clr (tn t c)))→K0G Tryz.prog glX 85 [(chB k s),.agg (clr c)] R) (ht:t<24) (hx:Bd 2000 x) (h:R (.tup [.agg (clr (tn t x)),iv 0])):K0G Tryz.prog glX 41 [.agg (clr x),iv (t:Int)] R:=by
 refine K0_by hmX (hcM (chB k s)) 3000 Tryz.func41 (p:=K0G Tryz.prog glX 77 [iv (↑t:Int)] fun v=>onBool v fun b=>ifB (!b) (R (V.tup [V.agg [iv (0:Int),iv (0:Int),iv (0:Int)],iv (2:Int)])) (K0G Tryz.prog glX 84 [V.agg [iv x.1,iv x.2.1,iv x.2.2],iv (-2000:Int),iv (2000:Int)] fun v=>onBool v fun b=>ifB (!b) (R (V.tup [V.agg [iv (0:Int),iv (0:Int),iv (0:Int)],iv (2:Int)])) (KM Tryz.prog glX 82 [iv (↑t:Int)] (Hp.mk [] 0 []) (poP 82 [iv (↑t:Int)]) fun v us=>v=V.agg [V.fn (Fn.func (124:FuncId)) [] [],iv k,V.fn (Fn.func (123:FuncId)) [] [],iv s,V.raw Value.nilFunc,iv (0:Int)]∧K0G Tryz.prog glX 85 [V.agg [V.fn (Fn.func (124:FuncId)) [] [],iv k,V.fn (Fn.func (123:FuncId)) [] [],iv s,V.raw Value.nilFunc,iv (0:Int)],V.agg [iv x.1,iv x.2.1,iv x.2.2]] fun v=>onAgg v fun cs=>onCons cs fun u r=>onIntK IntKind.i64 u fun n=>onCons r fun u r=>onIntK IntKind.i64 u fun n_1=>onCons r fun u r=>onIntK IntKind.i64 u fun n_2=>onNil r (R (V.tup [V.agg [iv n,iv n_1,iv n_2],iv (0:Int)]))))) (by kernel_rfl) ?_
 refine turn77 (onBool_bv (ifB_f (by rw [dc_t (by omega)]; rfl) (near84 (onBool_bv (ifB_f (by rw [dc_t (show Nr (-2000) 2000 x from hx)]; rfl) ?_)))))
 refine KM_of_K0 rfl rfl (hch.mono' fun v e=>⟨e,?_⟩)
 exact hcell (c:=x) (hx.mono (by omega)) (onAgg_agg (onCons_cons (onIntK_iv (onCons_cons (onIntK_iv (onCons_cons (onIntK_iv (onNil_nil h))))))))
theorem direction40B {k s:Int} {d:Nat} {t:Nat} {R:V→Prop} (hch:K0G Tryz.prog glX 82 [iv (t:Int)] fun v=>v=(chB k s)) (hdir : ∀ {d:Nat} {R:V→Prop},d<6→R (iv (pt t (d:Int)))→K0G Tryz.prog glX 83 [(chB k s),iv (d:Int)] R) (ht:t<24) (hd:d<6) (h:R (.tup [iv (pt t (d:Int)),iv 0])):K0G Tryz.prog glX 40 [iv (d:Int),iv (t:Int)] R:=by
 refine K0_by hmX (hcM (chB k s)) 3000 Tryz.func40 (p:=K0G Tryz.prog glX 81 [iv (↑d:Int)] fun v=>onBool v fun b=>ifB (!b) (R (V.tup [iv (0:Int),iv (2:Int)])) (K0G Tryz.prog glX 77 [iv (↑t:Int)] fun v=>onBool v fun b=>ifB (!b) (R (V.tup [iv (0:Int),iv (2:Int)])) (KM Tryz.prog glX 82 [iv (↑t:Int)] (Hp.mk [] 0 []) (poP 82 [iv (↑t:Int)]) fun v us=>v=V.agg [V.fn (Fn.func (124:FuncId)) [] [],iv k,V.fn (Fn.func (123:FuncId)) [] [],iv s,V.raw Value.nilFunc,iv (0:Int)]∧K0G Tryz.prog glX 83 [V.agg [V.fn (Fn.func (124:FuncId)) [] [],iv k,V.fn (Fn.func (123:FuncId)) [] [],iv s,V.raw Value.nilFunc,iv (0:Int)],iv (↑d:Int)] fun v=>onIntK IntKind.i64 v fun n=>R (V.tup [iv n,iv (0:Int)])))) (by kernel_rfl) ?_
 refine dir81 (onBool_bv (ifB_f (by rw [dc_t (by omega)]; rfl) (turn77 (onBool_bv (ifB_f (by rw [dc_t (by omega)]; rfl) ?_)))))
 refine KM_of_K0 rfl rfl (hch.mono' fun v e=>⟨e,?_⟩)
 exact hdir hd (onIntK_iv h)
theorem turn41C {k j:Int} {x:Cl} {t:Nat} {R:V→Prop} (hch:K0G Tryz.prog glX 82 [iv (t:Int)] fun v=>v=(chC k j)) (hcell : ∀ {c:Cl} {R:V→Prop},Bd 3000 c→R (.agg (clr (tn t c)))→K0G Tryz.prog glX 85 [(chC k j),.agg (clr c)] R) (ht:t<24) (hx:Bd 2000 x) (h:R (.tup [.agg (clr (tn t x)),iv 0])):K0G Tryz.prog glX 41 [.agg (clr x),iv (t:Int)] R:=by
 refine K0_by hmX (hcM (chC k j)) 3000 Tryz.func41 (p:=K0G Tryz.prog glX 77 [iv (↑t:Int)] fun v=>onBool v fun b=>ifB (!b) (R (V.tup [V.agg [iv (0:Int),iv (0:Int),iv (0:Int)],iv (2:Int)])) (K0G Tryz.prog glX 84 [V.agg [iv x.1,iv x.2.1,iv x.2.2],iv (-2000:Int),iv (2000:Int)] fun v=>onBool v fun b=>ifB (!b) (R (V.tup [V.agg [iv (0:Int),iv (0:Int),iv (0:Int)],iv (2:Int)])) (KM Tryz.prog glX 82 [iv (↑t:Int)] (Hp.mk [] 0 []) (poP 82 [iv (↑t:Int)]) fun v us=>v=V.agg [V.fn (Fn.func (124:FuncId)) [] [],iv k,V.fn (Fn.func (123:FuncId)) [] [],iv (1:Int),V.fn (Fn.func (124:FuncId)) [] [],iv j]∧K0G Tryz.prog glX 85 [V.agg [V.fn (Fn.func (124:FuncId)) [] [],iv k,V.fn (Fn.func (123:FuncId)) [] [],iv (1:Int),V.fn (Fn.func (124:FuncId)) [] [],iv j],V.agg [iv x.1,iv x.2.1,iv x.2.2]] fun v=>onAgg v fun cs=>onCons cs fun u r=>onIntK IntKind.i64 u fun n=>onCons r fun u r=>onIntK IntKind.i64 u fun n_1=>onCons r fun u r=>onIntK IntKind.i64 u fun n_2=>onNil r (R (V.tup [V.agg [iv n,iv n_1,iv n_2],iv (0:Int)]))))) (by kernel_rfl) ?_
 refine turn77 (onBool_bv (ifB_f (by rw [dc_t (by omega)]; rfl) (near84 (onBool_bv (ifB_f (by rw [dc_t (show Nr (-2000) 2000 x from hx)]; rfl) ?_)))))
 refine KM_of_K0 rfl rfl (hch.mono' fun v e=>⟨e,?_⟩)
 exact hcell (c:=x) (hx.mono (by omega)) (onAgg_agg (onCons_cons (onIntK_iv (onCons_cons (onIntK_iv (onCons_cons (onIntK_iv (onNil_nil h))))))))
theorem direction40C {k j:Int} {d:Nat} {t:Nat} {R:V→Prop} (hch:K0G Tryz.prog glX 82 [iv (t:Int)] fun v=>v=(chC k j)) (hdir : ∀ {d:Nat} {R:V→Prop},d<6→R (iv (pt t (d:Int)))→K0G Tryz.prog glX 83 [(chC k j),iv (d:Int)] R) (ht:t<24) (hd:d<6) (h:R (.tup [iv (pt t (d:Int)),iv 0])):K0G Tryz.prog glX 40 [iv (d:Int),iv (t:Int)] R:=by
 refine K0_by hmX (hcM (chC k j)) 3000 Tryz.func40 (p:=K0G Tryz.prog glX 81 [iv (↑d:Int)] fun v=>onBool v fun b=>ifB (!b) (R (V.tup [iv (0:Int),iv (2:Int)])) (K0G Tryz.prog glX 77 [iv (↑t:Int)] fun v=>onBool v fun b=>ifB (!b) (R (V.tup [iv (0:Int),iv (2:Int)])) (KM Tryz.prog glX 82 [iv (↑t:Int)] (Hp.mk [] 0 []) (poP 82 [iv (↑t:Int)]) fun v us=>v=V.agg [V.fn (Fn.func (124:FuncId)) [] [],iv k,V.fn (Fn.func (123:FuncId)) [] [],iv (1:Int),V.fn (Fn.func (124:FuncId)) [] [],iv j]∧K0G Tryz.prog glX 83 [V.agg [V.fn (Fn.func (124:FuncId)) [] [],iv k,V.fn (Fn.func (123:FuncId)) [] [],iv (1:Int),V.fn (Fn.func (124:FuncId)) [] [],iv j],iv (↑d:Int)] fun v=>onIntK IntKind.i64 v fun n=>R (V.tup [iv n,iv (0:Int)])))) (by kernel_rfl) ?_
 refine dir81 (onBool_bv (ifB_f (by rw [dc_t (by omega)]; rfl) (turn77 (onBool_bv (ifB_f (by rw [dc_t (by omega)]; rfl) ?_)))))
 refine KM_of_K0 rfl rfl (hch.mono' fun v e=>⟨e,?_⟩)
 exact hdir hd (onIntK_iv h)
theorem turn41 {x:Cl} {t:Nat} {R:V→Prop} (ht:t<24) (hx:Bd 2000 x) (h:R (.tup [.agg (clr (tn t x)),iv 0])):K0G Tryz.prog glX 41 [.agg (clr x),iv (t:Int)] R:=by
 have c1:K0G Tryz.prog glX 82 [iv (t:Int)] fun v=>v=ch t:=chain82 t ht rfl
 have c2 : ∀ {c:Cl} {R:V→Prop},Bd 3000 c→R (.agg (clr (tn t c)))→K0G Tryz.prog glX 85 [ch t,.agg (clr c)] R:=fun hb h=>cell85 hb t ht h
 have c3 : ∀ {d:Nat} {R:V→Prop},d<6→R (iv (pt t (d:Int)))→K0G Tryz.prog glX 83 [ch t,iv (d:Int)] R:=fun hd h=>dir83 hd t ht h
 unfold ch at c1 c2 c3
 by_cases h1:t / 4<1
 ·rw [if_pos h1] at c1 c2 c3
  exact turn41A c1 c2 ht hx h
 ·rw [if_neg h1] at c1 c2 c3
  by_cases h2:t / 4<4
  ·rw [if_pos h2] at c1 c2 c3
   exact turn41B c1 c2 ht hx h
  ·rw [if_neg h2] at c1 c2 c3
   exact turn41C c1 c2 ht hx h
theorem direction40 {d t:Nat} {R:V→Prop} (ht:t<24) (hd:d<6) (h:R (.tup [iv (pt t (d:Int)),iv 0])):K0G Tryz.prog glX 40 [iv (d:Int),iv (t:Int)] R:=by
 have c1:K0G Tryz.prog glX 82 [iv (t:Int)] fun v=>v=ch t:=chain82 t ht rfl
 have c2 : ∀ {c:Cl} {R:V→Prop},Bd 3000 c→R (.agg (clr (tn t c)))→K0G Tryz.prog glX 85 [ch t,.agg (clr c)] R:=fun hb h=>cell85 hb t ht h
 have c3 : ∀ {d:Nat} {R:V→Prop},d<6→R (iv (pt t (d:Int)))→K0G Tryz.prog glX 83 [ch t,iv (d:Int)] R:=fun hd h=>dir83 hd t ht h
 unfold ch at c1 c2 c3
 by_cases h1:t / 4<1
 ·rw [if_pos h1] at c1 c2 c3
  exact direction40A c1 c3 ht hd h
 ·rw [if_neg h1] at c1 c2 c3
  by_cases h2:t / 4<4
  ·rw [if_pos h2] at c1 c2 c3
   exact direction40B c1 c3 ht hd h
  ·rw [if_neg h2] at c1 c2 c3
   exact direction40C c1 c3 ht hd h
set_option maxRecDepth 100000
def kpR:FuncId→Nat→Option (List Tmp):=slotsOf [(114,0,[0,3,6]),(115,0,[0,3,5,6]),(115,2,[0,3,5,6,7]),(137,0,[0,1,5]),(67,0,[0,3,5,6]),(67,2,[0,3,5,6,7]),(67,4,[0,3,5,6,7,8,9,10]),(67,6,[0,3,5,6,7,8,9,10,11]),(69,0,[0,3,5,6,7]),(69,2,[0,3,5,6,7,8,9]),(119,0,[0,2,4,6,7,8,9,10]),(71,0,[3,5,6,7]),(71,2,[3,5,6,8]),(71,4,[3,5,6,8,9]),(34,0,[0,1,5])]
noncomputable def cfRR:Cfg:={ cfgG Tryz.prog glX moZ poP (rtP fN) (inN [117]) kpR with clean:=fun g=>true }
noncomputable def sh34 (a b:List Jt) (i:Nat):St:=⟨mkT [(0,V.lst 5 (jtl a)),(1,V.lst 5 (jtl b)),(5,iv (i:Int))],⟨[],0,[]⟩⟩
set_option maxRecDepth 10000
theorem hcRR:cfRR.ok Tryz.prog:=by
 have h:(cfgG Tryz.prog glX moZ poP (rtP fN) (inN [117]) kpR).ok Tryz.prog:=cfgG_ok (rtP_ok fN)
 exact ⟨h.1,h.2⟩
theorem same34 {a b:List Jt} {R:V→Prop} (hab:b=a) (hl:a.length≤1000000000) (h:R (bv true)):K0G Tryz.prog glX 34 [.lst 5 (jtl a),.lst 5 (jtl b)] R:=by
 refine K0_by hmX hcRR 3000 Tryz.func34 (p:=ifB ((↑(jtl a).length:Int) != (↑(jtl b).length:Int)) (R (bv false)) (La 0 [(0:Tmp),(1:Tmp),(5:Tmp)] (WY Tryz.prog cfRR 2994 (Env.mk (Bs.mk 0 []) 0 none 26 34 0) (cdAt [1,1,0,1,0,0] (bodyOf Tryz.f34))) (Qblk 0 (Qthen (WY Tryz.prog cfRR 2997 (Env.mk (Bs.mk 0 []) 0 none 26 34 0) (cdAt [1,1,1] (bodyOf Tryz.f34)) (QendX Tryz.prog Tryz.f34 fun v h=>R (frzW h v))) (QendX Tryz.prog Tryz.f34 fun v h=>R (frzW h v)))) (St.mk (mkT [(0,V.lst 5 (jtl a)),(1,V.lst 5 (jtl b)),(5,iv (0:Int))]) (Hp.mk [] 0 [])))) (by kernel_rfl) ?_
 rw [jtl_length,jtl_length]
 refine ifB_f (by simp [hab]) ?_
 refine La.of (σ:=Nat) (fun i=>sh34 a b i) (fun i=>i≤a.length) (fun i=>a.length - i) 0 (by kernel_rfl) (by omega) ?_
 rintro i g1 J hJ
 refine see (p:=ifB (decide ((↑i:Int)<(↑(jtl a).length:Int))) (onSome (jtl a)[i]? fun row=>onCons (List.drop 0 row) fun u r=>onIntK IntKind.i64 u fun n=>onCons r fun u r=>onIntK IntKind.i64 u fun n_1=>onCons r fun u r=>onIntK IntKind.i64 u fun n_2=>onCons r fun u r=>onIntK IntKind.u8 u fun n_3=>onCons r fun u r=>onBool u fun b_1=>onSome (jtl b)[i]? fun row=>onCons (List.drop 0 row) fun u r=>onIntK IntKind.i64 u fun n_4=>onCons r fun u r=>onIntK IntKind.i64 u fun n_5=>onCons r fun u r=>onIntK IntKind.i64 u fun n_6=>onCons r fun u r=>onIntK IntKind.u8 u fun n_7=>onCons r fun u r=>onBool u fun b_2=>ifB (!(fun b=>n==n_4&&b) ((fun b=>n_1==n_5&&b) ((fun b=>n_2==n_6&&b) ((fun b=>n_3==n_7&&b) ((fun b=>b_1==b_2&&b) true))))) (R (bv false)) (J (St.mk (mkT [(0,V.lst 5 (jtl a)),(1,V.lst 5 (jtl b)),(5,iv (IntKind.i64.wrap ((↑i:Int)+(1:Int))))]) (Hp.mk [] 0 [])))) (R (bv true))) (by kernel_rfl) ?_
 rw [jtl_length]
 refine ifB_mk (fun d=>?_) (fun d=>h)
 have hi:i<a.length:=by have:=of_decide_eq_true d; omega
 obtain ⟨x,hx⟩:=getI hi
 refine jel hx (jel (hab ▸ hx) (ifB_f (by simp) ?_))
 rw [wr1i hi (by omega)]
 exact hJ (i+1) hi (by omega)
structure GI (js:List Jt) (n:Nat) (g:List Int):Prop where
 len:g.length=n
 lea : ∀ v,v<n → ∃ u:Nat,gat g v=(u:Int)∧u≤v∧Con js u v
theorem same31m {s t:Nat} {R:V→Prop} (h:R (bv true)):K0G Tryz.prog glX 31 [.lst s [],.lst t []] R :=
 K0_args (same31 (a:=[]) (b:=[]) (by simp) (by rw [dc_t rfl]; exact h)) (fun F w xs hx=>by
  simpa [riL,ri,riRows,lkl] using hx)
set_option maxRecDepth 100000
set_option maxRecDepth 10000
theorem PutB.same {l:List Kd} {b:Bk} {q q' : Kd} {n n' : Nat} (h:PutB l b q n) (h' : PutB l b q' n'):q=q' ∧ n=n' := by
 have e:=h.at_
 rw [h'.at_] at e
 have t:=h.turn
 rw [h'.turn] at t
 exact ⟨by cases e; rfl,by omega⟩
set_option maxRecDepth 100000
def mo5 (f:FuncId):Nat:=bif inN [32,21] f then 1 else 0
def kp5:FuncId→Nat→Option (List Tmp):=slotsOf [(5,0,[0,2,5,7,9,10,12,14,16,18,20,22,139,140]),(5,2,[0,2,5,7,9,10,12,14,16,18,20,22,200,201]),(5,4,[0,2,5,7,9,10,12,14,16,18,20,22,30,200,201,237,238,239])]
noncomputable def cf5:Cfg:={ cfgG Tryz.prog glX mo5 poP (rtP fN) (inN []) kp5 with clean:=fun g=>true,fz:=fun f t=>inN [5] f&&inN [28,30] t }
noncomputable def sh5a (l:List Kd) (m:List Bk) (n:Int) (d:Cl) (x:List Bk) (s1:Nat) (L1:List Lk) (s2:Nat) (L2:List Lk) (js ks:List Jt) (p q:Nat) (g g' : List Int) (c i:Nat):St:=⟨mkT [(0,V.lst 3 (kdl l)),(2,iv n),(5,V.ptr (Id.p 0) 0 0),(7,V.ptr (Id.p 1) 0 0),(9,bv true),(10,V.ptr (Id.p 2) 0 0),(12,V.lst s1 (lkl L1)),(14,V.lst s2 (lkl L2)),(16,V.sl (Id.p 3) 0 p),(18,V.sl (Id.p 4) 0 q),(20,V.lst 1 (nl g)),(22,V.lst 1 (nl g')),(139,iv (c:Int)),(140,iv (i:Int))],⟨[(0,O.rows 1 false [[V.lst 6 (bkl m)]]),(1,O.rows 3 false [clr d]),(2,O.rows 1 false [[V.lst 6 (bkl x)]]),(3,O.rows 5 true (jtl js)),(4,O.rows 5 true (jtl ks))],5,[]⟩⟩
noncomputable def sh5b (l:List Kd) (m:List Bk) (n:Int) (d:Cl) (x:List Bk) (s1:Nat) (L1:List Lk) (s2:Nat) (L2:List Lk) (js ks:List Jt) (p q:Nat) (g g' : List Int) (c i:Nat):St:=⟨mkT [(0,V.lst 3 (kdl l)),(2,iv n),(5,V.ptr (Id.p 0) 0 0),(7,V.ptr (Id.p 1) 0 0),(9,bv true),(10,V.ptr (Id.p 2) 0 0),(12,V.lst s1 (lkl L1)),(14,V.lst s2 (lkl L2)),(16,V.sl (Id.p 3) 0 p),(18,V.sl (Id.p 4) 0 q),(20,V.lst 1 (nl g)),(22,V.lst 1 (nl g')),(200,iv (c:Int)),(201,iv (i:Int))],⟨[(0,O.rows 1 false [[V.lst 6 (bkl m)]]),(1,O.rows 3 false [clr d]),(2,O.rows 1 false [[V.lst 6 (bkl x)]]),(3,O.rows 5 true (jtl js)),(4,O.rows 5 true (jtl ks))],5,[]⟩⟩
noncomputable def sh5c (l:List Kd) (m:List Bk) (n:Int) (d:Cl) (x:List Bk) (s1:Nat) (L1:List Lk) (s2:Nat) (L2:List Lk) (js ks:List Jt) (p q:Nat) (g g' : List Int) (c i:Nat) (dd cc:List Cl) (e k:Nat):St:=⟨mkT [(0,V.lst 3 (kdl l)),(2,iv n),(5,V.ptr (Id.p 0) 0 0),(7,V.ptr (Id.p 1) 0 0),(9,bv true),(10,V.ptr (Id.p 2) 0 0),(12,V.lst s1 (lkl L1)),(14,V.lst s2 (lkl L2)),(16,V.sl (Id.p 3) 0 p),(18,V.sl (Id.p 4) 0 q),(20,V.lst 1 (nl g)),(22,V.lst 1 (nl g')),(30,V.lst 3 (cll dd)),(200,iv (c:Int)),(201,iv (i:Int)),(237,V.lst 3 (cll cc)),(238,iv (e:Int)),(239,iv (k:Int))],⟨[(0,O.rows 1 false [[V.lst 6 (bkl m)]]),(1,O.rows 3 false [clr d]),(2,O.rows 1 false [[V.lst 6 (bkl x)]]),(3,O.rows 5 true (jtl js)),(4,O.rows 5 true (jtl ks))],5,[]⟩⟩
end Go.Proofs.YtbionhgjgcpogaaGreatDoor
