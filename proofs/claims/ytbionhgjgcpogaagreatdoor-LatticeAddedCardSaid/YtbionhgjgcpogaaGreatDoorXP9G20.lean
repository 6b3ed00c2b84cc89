/- A part of the proof. -/
import Derived.Test.YtbionhgjgcpogaaGreatDoorProg
import Derived.ProofKit
import Derived.Deep.Slices
import Derived.Carry
import Derived.OpenShut
import Derived.MakeChecks
import Derived.FnData
import Derived.Deep.Strs
import Derived.Test.YtbionhgjgcpogaaGreatDoorXP9G7
import Derived.Test.YtbionhgjgcpogaaGreatDoorXP9G10
import Derived.Test.YtbionhgjgcpogaaGreatDoorXP9G11
import Derived.Test.YtbionhgjgcpogaaGreatDoorXP9G12
import Derived.Test.YtbionhgjgcpogaaGreatDoorXP9G15
import Derived.Test.YtbionhgjgcpogaaGreatDoorXP9G17
import Derived.Test.YtbionhgjgcpogaaGreatDoorXP9G18
import Derived.Test.YtbionhgjgcpogaaGreatDoorXP9G19
namespace Go.Proofs.YtbionhgjgcpogaaGreatDoor
open Go Go.Proofs.YtbionhgjgcpogaaGreatDoor.Clean
set_option linter.unusedVariables false
set_option maxRecDepth 100000
theorem tok0:Facts Tryz.prog glX tb0:=trivial
theorem t0:KFX fa0:=k0 tok0
theorem tok1:Facts Tryz.prog glX tb1:=⟨t0,tok0⟩
theorem t1:KFX fa1:=k1 tok1
theorem tok2:Facts Tryz.prog glX tb2:=⟨t1,tok1⟩
theorem t2:KFX fa2:=k2 tok2
theorem tok3:Facts Tryz.prog glX tb3:=⟨t2,tok2⟩
theorem t3:KFX fa3:=k3 tok3
theorem tok4:Facts Tryz.prog glX tb4:=⟨t3,tok3⟩
theorem t4:KFX fa4:=k4 tok4
theorem tok5:Facts Tryz.prog glX tb5:=⟨t4,tok4⟩
theorem t5:KFX fa5:=k5 tok5
theorem tok6:Facts Tryz.prog glX tb6:=⟨t5,tok5⟩
theorem t6:KFX fa6:=k6 tok6
theorem tok7:Facts Tryz.prog glX tb7:=⟨t6,tok6⟩
theorem t7:KFX fa7:=k7 tok7
theorem tok8:Facts Tryz.prog glX tb8:=⟨t7,tok7⟩
theorem t8:KFX fa8:=k8 tok8
theorem tok9:Facts Tryz.prog glX tb9:=⟨t8,tok8⟩
theorem t9:KFX fa9:=k9 tok9
theorem tok10:Facts Tryz.prog glX tb10:=⟨t9,tok9⟩
theorem t10:KFX fa10:=k10 tok10
theorem tok11:Facts Tryz.prog glX tb11:=⟨t10,tok10⟩
theorem t11:KFX fa11:=k11 tok11
theorem tok12:Facts Tryz.prog glX tb12:=⟨t11,tok11⟩
theorem t12:KFX fa12:=k12 tok12
theorem tok13:Facts Tryz.prog glX tb13:=⟨t12,tok12⟩
theorem t13:KFX fa13:=k13 tok13
theorem tok14:Facts Tryz.prog glX tb14:=⟨t13,tok13⟩
theorem t14:KFX fa14:=k14 tok14
theorem tok15:Facts Tryz.prog glX tb15:=⟨t14,tok14⟩
theorem t15:KFX fa15:=k15 tok15
theorem tok16:Facts Tryz.prog glX tb16:=⟨t15,tok15⟩
theorem t16:KFX fa16:=k16 tok16
theorem tok17:Facts Tryz.prog glX tb17:=⟨t16,tok16⟩
theorem t17:KFX fa17:=k17 tok17
theorem tok18:Facts Tryz.prog glX tb18:=⟨t17,tok17⟩
theorem t18:KFX fa18:=k18 tok18
theorem tok19:Facts Tryz.prog glX tb19:=⟨t18,tok18⟩
theorem t19:KFX fa19:=k19 tok19
theorem tok20:Facts Tryz.prog glX tb20:=⟨t19,tok19⟩
theorem t20:KFX fa20:=k20 tok20
theorem tok21:Facts Tryz.prog glX tb21:=⟨t20,tok20⟩
theorem t21:KFX fa21:=k21 tok21
theorem tok22:Facts Tryz.prog glX tb22:=⟨t21,tok21⟩
theorem t22:KFX fa22:=k22 tok22
theorem tok23:Facts Tryz.prog glX tb23:=⟨t22,tok22⟩
theorem t23:KFX fa23:=k23 tok23
theorem tok24:Facts Tryz.prog glX tb24:=⟨t23,tok23⟩
theorem t24:KFX fa24:=k24 tok24
theorem tok25:Facts Tryz.prog glX tb25:=⟨t24,tok24⟩
theorem t25:KFX fa25:=k25 tok25
theorem tok26:Facts Tryz.prog glX tb26:=⟨t25,tok25⟩
theorem t26:KFX fa26:=k26 tok26
theorem tok27:Facts Tryz.prog glX tb27:=⟨t26,tok26⟩
theorem t27:KFX fa27:=k27 tok27
theorem tok28:Facts Tryz.prog glX tb28:=⟨t27,tok27⟩
theorem t28:KFX fa28:=k28 tok28
theorem tok29:Facts Tryz.prog glX tb29:=⟨t28,tok28⟩
theorem t29:KFX fa29:=k29 tok29
theorem tok30:Facts Tryz.prog glX tb30:=⟨t29,tok29⟩
theorem t30:KFX fa30:=k30 tok30
theorem tok31:Facts Tryz.prog glX tb31:=⟨t30,tok30⟩
theorem t31:KFX fa31:=k31 tok31
theorem tok32:Facts Tryz.prog glX tb32:=⟨t31,tok31⟩
theorem t32:KFX fa32:=k32 tok32
theorem tok33:Facts Tryz.prog glX tb33:=⟨t32,tok32⟩
theorem t33:KFX fa33:=k33 tok33
theorem tok34:Facts Tryz.prog glX tb34:=⟨t33,tok33⟩
theorem t34:KFX fa34:=k34 tok34
theorem tok35:Facts Tryz.prog glX tb35:=⟨t34,tok34⟩
theorem t35:KFX fa35:=k35 tok35
theorem tok36:Facts Tryz.prog glX tb36:=⟨t35,tok35⟩
theorem t36:KFX fa36:=k36 tok36
theorem tok37:Facts Tryz.prog glX tb37:=⟨t36,tok36⟩
theorem t37:KFX fa37:=k37 tok37
theorem tok38:Facts Tryz.prog glX tb38:=⟨t37,tok37⟩
theorem t38:KFX fa38:=k38 tok38
theorem tok39:Facts Tryz.prog glX tb39:=⟨t38,tok38⟩
theorem t39:KFX fa39:=k39 tok39
end Go.Proofs.YtbionhgjgcpogaaGreatDoor
namespace Go.Proofs.YtbionhgjgcpogaaGreatDoor
open Go Go.Proofs.YtbionhgjgcpogaaGreatDoor.Clean
set_option linter.unusedVariables false
set_option linter.unusedSimpArgs false
set_option maxRecDepth 10000
theorem askM.uniq {l:List Kd} {m:List Bk} {e f:Int} (h:askM l m e) (g:askM l m f):e=f:=by
  rcases h with ⟨h1,h2⟩ | ⟨h1,h2,h3⟩ | ⟨h1,h2,h3⟩ | ⟨h1,h2,h3,h4⟩ | ⟨h1,h2⟩ <;> rcases g with ⟨g1,g2⟩ | ⟨g1,g2,g3⟩ | ⟨g1,g2,g3⟩ | ⟨g1,g2,g3,g4⟩ | ⟨g1,g2⟩ <;> first | omega | exact (h2 g1).elim | exact (g2 h1).elim | exact (h2 g1.kinds).elim | exact (g2 h1.kinds).elim | exact (h3 g1.all).elim | exact (g3 h1.all).elim | (have:=h1.few; omega) | (have:=g1.few; omega) | (have:=h1.1; omega) | (have:=g1.1; omega) | (have:=h1.kinds.1; omega) | (have:=g1.kinds.1; omega)
theorem errM.uniq {l:List Kd} {m:List Bk} {e f:Int} (h:errM l m e) (g:errM l m f):e=f:=by
  rcases h with ⟨h1,h2⟩ | ⟨h1,h2,h3⟩ <;> rcases g with ⟨g1,g2⟩ | ⟨g1,g2,g3⟩
  · exact h1.uniq g1
  · exact (h2 (h1.uniq (.inr (.inr (.inr (.inr ⟨g1,rfl⟩)))))).elim
  · exact (g2 (g1.uniq (.inr (.inr (.inr (.inr ⟨h1,rfl⟩)))))).elim
  · omega
theorem errM.no {l:List Kd} {m:List Bk} {e:Int} (h:errM l m e) (g:OkM l m):False:=by
  rcases h with ⟨h1,h2⟩ | ⟨h1,h2,h3⟩
  · exact h2 (h1.uniq (.inr (.inr (.inr (.inr ⟨g.ask,rfl⟩)))))
  · exact h2 g.free
theorem hd_of {L:List Lk} : ∀ p:Nat, ∃ i,i≤p∧key (at_ L i)=key (at_ L p)∧Hd L i
  | 0=>⟨0,Nat.le_refl _,rfl,.inl rfl⟩
  | p+1=>by
    by_cases h:Hd L (p+1)
    · exact ⟨p+1,Nat.le_refl _,rfl,h⟩
    · obtain ⟨i,h1,h2,h3⟩:=hd_of (L:=L) p
      have:key (at_ L p)=key (at_ L (p+1)):=by
        refine Classical.byContradiction fun hn=>h (.inr ?_)
        rw [Nat.add_sub_cancel]
        exact hn
      exact ⟨i,by omega,h2.trans this,h3⟩
theorem own_hd {L:List Lk} {i:Nat} (hi:i<L.length):(owL L i).headD lk0∈owL L i:=by
  have hm:at_ L i∈owL L i:=List.mem_filter.2 ⟨mem_at (at_get hi),by simp⟩
  cases ho:owL L i with
  | nil=>rw [ho] at hm; simp at hm
  | cons x L=>simp
theorem jnt_of {l:List Bdy} {x:Lk} (h:x∈lnk l) : ∃ j∈jnt l,j.1=x.1∧j.2.1=x.2.1:=by
  obtain ⟨p,hp⟩:=List.mem_iff_getElem?.1 h
  have hpl:=(List.getElem?_eq_some_iff.1 hp).1
  have hx:x=at_ (lnk l) p:=by rw [at_get hpl] at hp; exact (Option.some.inj hp).symm
  obtain ⟨i,h1,h2,h3⟩:=hd_of (L:=lnk l) p
  have hi:i<(lnk l).length:=by omega
  have hh:=(List.mem_filter.1 (own_hd hi)).2
  have hk:key ((owL (lnk l) i).headD lk0)=key (at_ (lnk l) i):=by simpa using hh
  have hk2:=key_eq.1 (hk.trans (h2.trans (congrArg key hx.symm)))
  refine ⟨joF l (owL (lnk l) i),?_,hk2.1,hk2.2⟩
  unfold jnt jnS
  refine List.mem_flatMap.2 ⟨i,List.mem_range.2 hi,?_⟩
  rw [dc_t h3,if_pos rfl]
  simp
theorem jnt_has {l:List Bdy} {j:Jt} (h:j∈jnt l) : ∃ x∈lnk l,x.1=j.1∧x.2.1=j.2.1:=by
  unfold jnt jnS at h
  obtain ⟨i,hi,hj⟩:=List.mem_flatMap.1 h
  split at hj
  · rw [List.mem_singleton.1 hj]
    exact ⟨_,(List.mem_filter.1 (own_hd (List.mem_range.1 hi))).1,rfl,rfl⟩
  · simp at hj
theorem adj_lnk {l:List Bdy} {a b:Nat}:Adj (jnt l) a b ↔ ∃ x∈lnk l,(x.1=(a:Int)∧x.2.1=(b:Int))∨(x.1=(b:Int)∧x.2.1=(a:Int)):=by
  constructor
  · rintro ⟨j,hj,h⟩
    obtain ⟨x,hx,h1,h2⟩:=jnt_has hj
    exact ⟨x,hx,by rw [h1,h2]; exact h⟩
  · rintro ⟨x,hx,h⟩
    obtain ⟨j,hj,h1,h2⟩:=jnt_of hx
    exact ⟨j,hj,by rw [h1,h2]; exact h⟩
theorem GrpP.same {js:List Jt} {n:Nat} {g:List Int} (h:GrpP js n g) {v w:Nat} (hv:v<n) (hw:w<n) (hc:Con js v w):gat g v=gat g w:=by
  obtain ⟨a,h1,h2,h3,h4⟩:=h.lea v hv
  obtain ⟨b,g1,g2,g3,g4⟩:=h.lea w hw
  have e1:=h4 b (g3.trans hc.symm)
  have e2:=g4 a (h3.trans hc)
  rw [h1,g1]
  omega
theorem GrpP.con {js:List Jt} {n:Nat} {g:List Int} (h:GrpP js n g) {v w:Nat} (hv:v<n) (hw:w<n) (he:gat g v=gat g w):Con js v w:=by
  obtain ⟨a,h1,h2,h3,h4⟩:=h.lea v hv
  obtain ⟨b,g1,g2,g3,g4⟩:=h.lea w hw
  have:a=b:=by omega
  subst this
  exact h3.symm.trans g3
theorem GrpP.uniq {js:List Jt} {n:Nat} {g g' : List Int} (h:GrpP js n g) (h' : GrpP js n g'):g=g' := by
  refine List.ext_getElem? (fun v=>?_)
  by_cases hv:v<n
  · rw [gat_get (by rw [h.len]; exact hv),gat_get (by rw [h'.len]; exact hv)]
    obtain ⟨a,h1,h2,h3,h4⟩:=h.lea v hv
    obtain ⟨b,g1,g2,g3,g4⟩:=h'.lea v hv
    have e1:=h4 b g3
    have e2:=g4 a h3
    rw [h1,g1,show a=b from by omega]
  · rw [List.getElem?_eq_none (by rw [h.len]; omega),List.getElem?_eq_none (by rw [h'.len]; omega)]
theorem ngel {g:List Int} {n v:Nat} {k:Int→Prop} (h:g.length=n) (hv:v<n) (hk:k (gat g v)):onSome (nl g)[v]? fun row=>onSome row[0]? fun v=>onIntK IntKind.i64 v fun n=>k n:=iel (gat_get (by omega)) hk
theorem greatK {l:List Kd} {m:List Bk} (h : ¬ GreatP l m) (hr : ∀ q∈l, ∀ k∈q.2.1,KnR k):l.length≤20 ∧ ∀ q∈l,KdR q:=by
  refine ⟨Nat.le_of_not_lt fun x=>h (.inl x),fun q hq=>⟨hr q hq,Nat.le_of_not_lt fun x=>h (.inr (.inr ⟨q,hq,.inl x⟩)),Nat.le_of_not_lt fun x=>h (.inr (.inr ⟨q,hq,.inr x⟩))⟩⟩
theorem great45 {l:List Kd} {m:List Bk} (h : ¬ GreatP l m):m.length≤45:=by
  unfold GreatP at h
  rcases Nat.lt_or_ge 45 m.length with g | g
  · exact (h (.inr (.inl g))).elim
  · exact g
end Go.Proofs.YtbionhgjgcpogaaGreatDoor
namespace Go.Proofs.YtbionhgjgcpogaaGreatDoor
open Go Go.Proofs.YtbionhgjgcpogaaGreatDoor.Clean
set_option linter.unusedVariables false
set_option maxRecDepth 100000
def kp9:FuncId→Nat→Option (List Tmp):=slotsOf [(9,0,[4,7,11,13,15,17,79,80,81]),(9,2,[7,11,13,15,17,97,98]),(31,0,[0,1,5])]
noncomputable def cf9:Cfg:={ cfgG Tryz.prog glX moZ poP (rtP fN) (inN []) kp9 with clean:=fun g=>true,fz:=fun f t=>inN [9] f&&inN [32] t }
noncomputable def sh31 (a b:List Lk) (i:Nat):St:=⟨mkT [(0,V.lst 5 (lkl a)),(1,V.lst 5 (lkl b)),(5,iv (i:Int))],⟨[],0,[]⟩⟩
noncomputable def sh9a (m:List Bk) (s:Nat) (es:List (List V)) (g g' : List Int) (u:Nat) (L:List Lk) (t i:Nat):St:=⟨mkT [(4,V.ptr (Id.p 0) 0 0),(7,bv true),(11,V.lst s es),(13,V.lst 1 (nl g)),(15,V.lst 1 (nl g')),(17,nilS),(79,V.lst u (lkl L)),(80,iv (t:Int)),(81,iv (i:Int))],⟨[(0,O.rows 1 false [[V.lst 6 (bkl m)]])],1,[]⟩⟩
noncomputable def sh9aS (m:List Bk) (s:Nat) (es:List (List V)) (g g' : List Int) (u:Nat) (L:List Lk) (t i:Nat) (K:List Lk) (q:Nat):St:=⟨mkT [(4,V.ptr (Id.p 0) 0 0),(7,bv true),(11,V.lst s es),(13,V.lst 1 (nl g)),(15,V.lst 1 (nl g')),(17,V.sl (Id.p 1) 0 q),(79,V.lst u (lkl L)),(80,iv (t:Int)),(81,iv (i:Int))],⟨[(0,O.rows 1 false [[V.lst 6 (bkl m)]]),(1,O.rows 5 true (lkl K))],2,[]⟩⟩
noncomputable def sh9b (s:Nat) (es:List (List V)) (g g' : List Int) (n i:Nat):St:=⟨mkT [(7,bv true),(11,V.lst s es),(13,V.lst 1 (nl g)),(15,V.lst 1 (nl g')),(17,nilS),(97,iv (n:Int)),(98,iv (i:Int))],⟨[],0,[]⟩⟩
noncomputable def sh9bS (s:Nat) (es:List (List V)) (g g' : List Int) (n i:Nat) (K:List Lk) (q:Nat):St:=⟨mkT [(7,bv true),(11,V.lst s es),(13,V.lst 1 (nl g)),(15,V.lst 1 (nl g')),(17,V.sl (Id.p 0) 0 q),(97,iv (n:Int)),(98,iv (i:Int))],⟨[(0,O.rows 5 true (lkl K))],1,[]⟩⟩
end Go.Proofs.YtbionhgjgcpogaaGreatDoor
namespace Go.Proofs.YtbionhgjgcpogaaGreatDoor
open Go Go.Proofs.YtbionhgjgcpogaaGreatDoor.Clean
set_option linter.unusedVariables false
set_option linter.unusedSimpArgs false
set_option maxRecDepth 10000
theorem hc9:cf9.ok Tryz.prog:=by
  have h:(cfgG Tryz.prog glX moZ poP (rtP fN) (inN []) kp9).ok Tryz.prog:=cfgG_ok (rtP_ok fN)
  exact ⟨h.1,h.2⟩
theorem lk_ext {x y:Lk} (h1:x.1=y.1) (h2:x.2.1=y.2.1) (h3:x.2.2.1=y.2.2.1) (h4:x.2.2.2.1=y.2.2.2.1) (h5:x.2.2.2.2=y.2.2.2.2):x=y:=Prod.ext h1 (Prod.ext h2 (Prod.ext h3 (Prod.ext h4 h5)))
theorem same31 {a b:List Lk} {R:V→Prop} (hl:a.length≤1000000000) (h:R (bv (dc (a=b)))):K0G Tryz.prog glX 31 [.lst 5 (lkl a),.lst 5 (lkl b)] R:=by
  refine K0_of_WY0 hmX hc9 3000 Tryz.func31 (see (p:=ifB ((↑(lkl a).length:Int) != (↑(lkl b).length:Int)) (R (bv false)) (La 0 [(0:Tmp),(1:Tmp),(5:Tmp)] (WY Tryz.prog cf9 2994 (Env.mk (Bs.mk 0 []) 0 none 26 31 0) (cdAt [1,1,0,1,0,0] (bodyOf Tryz.f31))) (Qblk 0 (Qthen (WY Tryz.prog cf9 2997 (Env.mk (Bs.mk 0 []) 0 none 26 31 0) (cdAt [1,1,1] (bodyOf Tryz.f31)) (QendX Tryz.prog Tryz.f31 fun v h=>R (frzW h v))) (QendX Tryz.prog Tryz.f31 fun v h=>R (frzW h v)))) (St.mk (mkT [(0,V.lst 5 (lkl a)),(1,V.lst 5 (lkl b)),(5,iv (0:Int))]) (Hp.mk [] 0 [])))) (by kernel_rfl) ?_)
  rw [lkl_length,lkl_length]
  refine ifB_mk (fun c=>rf h (fun e=>by rw [e] at c; simp at c)) (fun c=>?_)
  have hlen:a.length=b.length:=by simp at c; omega
  refine La.of (σ:=Nat) (fun i=>sh31 a b i) (fun i=>i≤a.length∧a.take i=b.take i) (fun i=>a.length - i) 0 (by kernel_rfl) ⟨by omega,by simp⟩ ?_
  rintro i ⟨g1,g2⟩ J hJ
  refine see (p:=ifB (decide ((↑i:Int)<(↑(lkl a).length:Int))) (onSome (lkl a)[i]? fun row=>onCons (List.drop 0 row) fun u r=>onIntK IntKind.i64 u fun n=>onCons r fun u r=>onIntK IntKind.i64 u fun n_1=>onCons r fun u r=>onIntK IntKind.i64 u fun n_2=>onCons r fun u r=>onIntK IntKind.i64 u fun n_3=>onCons r fun u r=>onIntK IntKind.u8 u fun n_4=>onSome (lkl b)[i]? fun row=>onCons (List.drop 0 row) fun u r=>onIntK IntKind.i64 u fun n_5=>onCons r fun u r=>onIntK IntKind.i64 u fun n_6=>onCons r fun u r=>onIntK IntKind.i64 u fun n_7=>onCons r fun u r=>onIntK IntKind.i64 u fun n_8=>onCons r fun u r=>onIntK IntKind.u8 u fun n_9=>ifB (!(fun b=>n==n_5&&b) ((fun b=>n_1==n_6&&b) ((fun b=>n_2==n_7&&b) ((fun b=>n_3==n_8&&b) ((fun b=>n_4==n_9&&b) true))))) (R (bv false)) (J (St.mk (mkT [(0,V.lst 5 (lkl a)),(1,V.lst 5 (lkl b)),(5,iv (IntKind.i64.wrap ((↑i:Int)+(1:Int))))]) (Hp.mk [] 0 [])))) (R (bv true))) (by kernel_rfl) ?_
  rw [lkl_length]
  refine ifB_mk (fun d=>?_) (fun d=>?_)
  · have hi:i<a.length:=by have:=of_decide_eq_true d; omega
    obtain ⟨x,hx⟩:=getI hi
    obtain ⟨y,hy⟩:=getI (l:=b) (k:=i) (by omega)
    refine lel hx (lel hy (ifB_mk (fun e=>rf h (fun q=>?_)) (fun e=>?_)))
    · subst q; rw [hx] at hy; cases hy; simp at e
    · have exy:x=y:=by
        simp only [Bool.not_eq_false', Bool.and_eq_true,beq_iff_eq,Bool.and_true] at e
        exact lk_ext e.1 e.2.1 e.2.2.1 e.2.2.2.1 e.2.2.2.2
      subst exy
      rw [wr1i hi (by omega)]
      exact hJ (i+1) ⟨hi,take_eq g2 hx hy⟩ (by omega)
  · have hi:a.length≤i:=by have:=of_decide_eq_false d; omega
    rw [List.take_of_length_le hi,List.take_of_length_le (by omega)] at g2
    exact rt h g2
theorem same31n {s:Nat} {R:V→Prop} (h:R (bv true)):K0G Tryz.prog glX 31 [nilS,.lst s (lkl [])] R:=by
  refine K0_by hmX hc9 3000 Tryz.func31 (p:=La 0 [(0:Tmp),(1:Tmp),(5:Tmp)] (WY Tryz.prog cf9 2994 (Env.mk (Bs.mk 0 []) 0 none 26 31 0) (cdAt [1,1,0,1,0,0] (bodyOf Tryz.f31))) (Qblk 0 (Qthen (WY Tryz.prog cf9 2997 (Env.mk (Bs.mk 0 []) 0 none 26 31 0) (cdAt [1,1,1] (bodyOf Tryz.f31)) (QendX Tryz.prog Tryz.f31 fun v h=>R (frzW h v))) (QendX Tryz.prog Tryz.f31 fun v h=>R (frzW h v)))) (St.mk (mkT [(0,nilS),(1,V.lst s []),(5,iv (0:Int))]) (Hp.mk [] 0 []))) (by kernel_rfl) ?_
  refine La.of (σ:=Unit) (fun _=>(⟨mkT [(0,nilS),(1,V.lst s []),(5,iv 0)],⟨[],0,[]⟩⟩:St)) (fun _=>True) (fun _=>0) () (by kernel_rfl) trivial ?_
  rintro _ _ J hJ
  exact see (p:=R (bv true)) (by kernel_rfl) h
theorem mem_inn {l:List Bdy} {i n:Nat} {p:Nat×Nat}:p∈inn l i n↔p.1=i∧i<p.2∧p.2<n∧Comm l i p.2:=by
  unfold inn
  rw [List.mem_map]
  constructor
  · rintro ⟨o,ho,rfl⟩
    obtain ⟨h1,h2⟩:=List.mem_filter.1 ho
    rw [Bool.and_eq_true] at h2
    exact ⟨rfl,of_decide_eq_true h2.1,List.mem_range.1 h1,dc_true h2.2⟩
  · rintro ⟨rfl,h2,h3,h4⟩
    exact ⟨p.2,List.mem_filter.2 ⟨List.mem_range.2 h3,by rw [Bool.and_eq_true]; exact ⟨decide_eq_true h2,dc_t h4⟩⟩,rfl⟩
theorem noOv_iff {l:List Kd} {m:List Bk}:NoOv l m ↔ ∀ i o,i<o→o<m.length → ¬ Comm (bods l m) i o:=by
  unfold NoOv ovl
  rw [List.flatMap_eq_nil_iff,bods_length]
  constructor
  · intro h i o hio ho hc
    have:=h i (List.mem_range.2 (by omega))
    have hm:(i,o)∈inn (bods l m) i m.length:=mem_inn.2 ⟨rfl,hio,ho,hc⟩
    rw [this] at hm
    simp at hm
  · intro h i hi
    refine List.eq_nil_iff_forall_not_mem.2 (fun p hp=>?_)
    obtain ⟨_,h2,h3,h4⟩:=mem_inn.1 hp
    exact h i p.2 h2 h3 h4
theorem bods_app (l:List Kd) (m:List Bk) (b:Bk):bods l (m++[b])=bods l m++[bod l b]:=by simp [bods]
theorem cellsAt_app {A B:List Bdy} {i:Nat} (h:i<A.length):cellsAt (A++B) i=cellsAt A i:=by
  unfold cellsAt
  rw [List.getElem?_append_left h]
theorem knobsAt_app {A B:List Bdy} {i:Nat} (h:i<A.length):knobsAt (A++B) i=knobsAt A i:=by
  unfold knobsAt
  rw [List.getElem?_append_left h]
theorem OkM.sub {l:List Kd} {m:List Bk} {b:Bk} (h:OkM l (m++[b])):OkM l m:=by
  refine ⟨⟨h.ask.kinds,?_,fun c hc=>h.ask.all c (by simp [hc])⟩,noOv_iff.2 (fun i o hio ho hc=>?_)⟩
  · have:=h.ask.few
    rw [List.length_append] at this
    omega
  · refine (noOv_iff.1 h.free) i o hio (by rw [List.length_append]; omega) ?_
    obtain ⟨c,h1,h2⟩:=hc
    refine ⟨c,?_,?_⟩
    · rw [bods_app,cellsAt_app (by rw [bods_length]; omega)]; exact h1
    · rw [bods_app,cellsAt_app (by rw [bods_length]; omega)]; exact h2
theorem lk_more {A:List Bdy} {x:Bdy} {z:Lk}:(z∈lnk (A++[x])∧z.2.1<(A.length:Int))↔z∈lnk A:=by
  rw [mem_lnk,mem_lnk]
  constructor
  · rintro ⟨⟨a,b,i,j,k,o,h1,h2,h3,h4,h5,h6⟩,h7⟩
    rw [h6] at h7
    have hb:b<A.length:=by simp only at h7; omega
    rw [knobsAt_app (by omega)] at h3
    rw [knobsAt_app hb] at h4
    exact ⟨a,b,i,j,k,o,h1,hb,h3,h4,h5,h6⟩
  · rintro ⟨a,b,i,j,k,o,h1,h2,h3,h4,h5,h6⟩
    exact ⟨⟨a,b,i,j,k,o,h1,by rw [List.length_append]; omega,by rw [knobsAt_app (by omega)]; exact h3,by rw [knobsAt_app h2]; exact h4,h5,h6⟩,by rw [h6]; simp only; omega⟩
theorem lnk_more (A:List Bdy) (x:Bdy):(lnk (A++[x])).filter (fun z=>decide (z.2.1<(A.length:Int)))=lnk A:=by
  have hp:((lnk (A++[x])).filter (fun z=>decide (z.2.1<(A.length:Int)))).Pairwise Of2:=(lnk_pw _).filter _
  refine List.Perm.eq_of_pairwise (le:=Of2) (fun a b _ _ h1 h2=>by unfold Of2 at h1 h2; omega) hp (lnk_pw A) ?_
  rw [List.perm_ext_iff_of_nodup (Of2.nodup hp) (Of2.nodup (lnk_pw A))]
  intro z
  rw [List.mem_filter,← lk_more (A:=A) (x:=x)]
  simp
theorem lnk_more' {l:List Kd} {m:List Bk} {b:Bk} {n:Nat} (hn:n=m.length):(lnk (bods l (m++[b]))).filter (fun z=>decide (z.2.1<(n:Int)))=lnk (bods l m):=by
  rw [bods_app,hn,← bods_length l m]
  exact lnk_more _ _
theorem con_more {l:List Kd} {m:List Bk} {b:Bk} {u v:Nat} (h:Con (jnt (bods l m)) u v):Con (jnt (bods l (m++[b]))) u v:=by
  induction h with
  | refl=>exact .refl _
  | step _ e ih =>
    refine ih.step ?_
    obtain ⟨z,hz,hzz⟩:=adj_lnk.1 e
    refine adj_lnk.2 ⟨z,?_,hzz⟩
    rw [bods_app]
    exact (lk_more.2 hz).1
noncomputable def fam9 (m:List Bk) (s:Nat) (es:List (List V)) (g g' : List Int) (u:Nat) (L:List Lk) (t:Nat) (z:Bool×Nat×Nat×List Lk):St:=match z.1 with | false=>sh9a m s es g g' u L t z.2.1 | true=>sh9aS m s es g g' u L t z.2.1 z.2.2.2 z.2.2.1
set_option maxHeartbeats 2000000 in
theorem law9_main {l:List Kd} {m:List Bk} {b:Bk} {R:V→Prop} {g g' : List Int} {L:List Lk} {s u n t:Nat} {es:List (List V)} (hl : ∀ q∈l,KdR q) (hr : ∀ b∈m,BkR b) (hA:OkM l m) (hA' : OkM l (m++[b])) (hlen:L.length≤1000000000) (hn:n=m.length) (hG:GrpP (jnt (bods l m)) n g) (hG' : GrpP (jnt (bods l (m++[b]))) (n+1) g') (hL:L=lnk (bods l (m++[b]))) (hu:u=5∨L=[]) (ht:t=L.length) (hs:s=5∨lnk (bods l m)=[]) (hes:es=lkl (lnk (bods l m))) (h:R (bv true)):La 0 [(4:Tmp),(7:Tmp),(11:Tmp),(13:Tmp),(15:Tmp),(17:Tmp),(79:Tmp),(80:Tmp),(81:Tmp)] (WY Tryz.prog cf9 2985 (Env.mk (Bs.mk 0 []) 0 none 120 9 0) (cdAt [1,1,1,1,1,1,1,1,1,1,1,0,1,0,0] (bodyOf Tryz.f9))) (Qblk 0 (Qthen (WY Tryz.prog cf9 2988 (Env.mk (Bs.mk 0 []) 0 none 120 9 0) (cdAt [1,1,1,1,1,1,1,1,1,1,1,1] (bodyOf Tryz.f9)) (QendX Tryz.prog Tryz.f9 fun v h=>R (frzW h v))) (QendX Tryz.prog Tryz.f9 fun v h=>R (frzW h v)))) (sh9a m s es g g' u L t 0):=by
  have hB:=bod_ok hl hr hA.ask
  have hn40:=hA.ask.few
  refine La.of (σ:=Bool×Nat×Nat×List Lk) (fam9 m s es g g' u L t) (fun z=>z.2.1≤t∧z.2.2.1=z.2.2.2.length∧z.2.2.2=(L.take z.2.1).filter (fun z=>decide (z.2.1<(n:Int)))∧(z.1=false→z.2.2.2=[])∧(z.1=true→z.2.2.2≠[])) (fun z=>t - z.2.1) (false,0,0,[]) rfl ⟨by simp only; omega,rfl,by simp,fun _=>rfl,fun h=>by cases h⟩ ?_
  rintro ⟨bb,i,q,K⟩ ⟨g1,gq,gK,gb,gb2⟩ J hJ
  simp only at g1 gq gK gb gb2
  have hq:q≤1000000000:=by
    rw [gq,gK]
    have h1:=List.length_filter_le (fun z:Lk=>decide (z.2.1<(n:Int))) (L.take i)
    rw [List.length_take] at h1
    omega
  rcases bb with _ | _
  · refine see (p:=ifB (decide ((↑i:Int)<(↑t:Int))) (need (u=5) (onSome (lkl L)[i]? fun row=>onCons (List.drop 0 row) fun u_1 r=>onIntK IntKind.i64 u_1 fun n=>onCons r fun u_2 r=>onIntK IntKind.i64 u_2 fun n_1=>onCons r fun u_3 r=>onIntK IntKind.i64 u_3 fun n_2=>onCons r fun u_4 r=>onIntK IntKind.i64 u_4 fun n_3=>onCons r fun u_5 r=>onIntK IntKind.u8 u_5 fun n_4=>ifB (decide (n_1<(↑(bkl m).length:Int))) (J (St.mk (mkT [(4,V.ptr (Id.p 0) 0 0),(7,bv true),(11,V.lst s es),(13,V.lst 1 (nl g)),(15,V.lst 1 (nl g')),(17,V.sl (Id.p 1) 0 1),(79,V.lst u (lkl L)),(80,iv (↑t:Int)),(81,iv (IntKind.i64.wrap ((↑i:Int)+(1:Int))))]) (Hp.mk [(0,O.rows 1 false [[V.lst 6 (bkl m)]]),(1,O.rows 5 true [[iv n,iv n_1,iv n_2,iv n_3,V.raw (Value.int IntKind.u8 n_4)]])] 2 []))) (J (St.mk (mkT [(4,V.ptr (Id.p 0) 0 0),(7,bv true),(11,V.lst s es),(13,V.lst 1 (nl g)),(15,V.lst 1 (nl g')),(17,nilS),(79,V.lst u (lkl L)),(80,iv (↑t:Int)),(81,iv (IntKind.i64.wrap ((↑i:Int)+(1:Int))))]) (Hp.mk [(0,O.rows 1 false [[V.lst 6 (bkl m)]])] 1 []))))) (La 0 [(7:Tmp),(11:Tmp),(13:Tmp),(15:Tmp),(17:Tmp),(97:Tmp),(98:Tmp)] (WY Tryz.prog cf9 2984 (Env.mk (Bs.mk 0 []) 0 none 120 9 2) (cdAt [1,1,1,1,1,1,1,1,1,1,1,1,0,1,0,0] (bodyOf Tryz.f9))) (Qblk 2 (Qthen (WY Tryz.prog cf9 2987 (Env.mk (Bs.mk 0 []) 0 none 120 9 0) (cdAt [1,1,1,1,1,1,1,1,1,1,1,1,1] (bodyOf Tryz.f9)) (QendX Tryz.prog Tryz.f9 fun v h=>R (frzW h v))) (QendX Tryz.prog Tryz.f9 fun v h=>R (frzW h v)))) (St.mk (mkT [(7,bv true),(11,V.lst s es),(13,V.lst 1 (nl g)),(15,V.lst 1 (nl g')),(17,nilS),(97,iv (↑(nl g).length:Int)),(98,iv (0:Int))]) (Hp.mk [] 0 [])))) (by kernel_rfl) ?_
    refine ifB_mk (fun d=>?_) (fun d=>?_)
    · have hi:i<t:=by have:=of_decide_eq_true d; omega
      obtain ⟨x,hx⟩:=getI (l:=L) (k:=i) (by omega)
      have hu5:u=5:=by
        rcases hu with hu | hu
        · exact hu
        · rw [hu] at hx; simp at hx
      have hstep:(L.take (i+1)).filter (fun z=>decide (z.2.1<(n:Int)))=(L.take i).filter (fun z=>decide (z.2.1<(n:Int)))++if x.2.1<(n:Int) then [x] else []:=by
        rw [take_succ' hx,List.filter_append]
        by_cases hd:x.2.1<(n:Int) <;> simp [hd]
      refine need_mk ⟨hu5,lel hx ?_⟩
      rw [bkl_length,← hn]
      refine ifB_mk (fun c=>?_) (fun c=>?_)
      · have c:=of_decide_eq_true c
        rw [if_pos c] at hstep
        rw [wr1i hi (by omega)]
        exact hJ (true,i+1,1,[x]) ⟨hi,rfl,by simp only; rw [hstep,← gK,gb rfl]; rfl,(fun h=>by cases h),(fun _=>by simp)⟩ (by simp only; omega)
      · have c:=of_decide_eq_false c
        rw [if_neg c,List.append_nil] at hstep
        rw [wr1i hi (by omega)]
        exact hJ (false,i+1,q,K) ⟨hi,gq,by simp only; rw [hstep]; exact gK,gb,gb2⟩ (by simp only; omega)
    · have hi:i=t:=by have:=of_decide_eq_false d; omega
      have hK:K=lnk (bods l m):=by
        rw [gK,hi,ht,List.take_length,hL]
        exact lnk_more' hn
      rw [nl_length,hG.len]
      refine La.of (σ:=Nat) (fun i=>sh9b s es g g' n i) (fun i=>i≤n) (fun i=>n - i) 0 (by kernel_rfl) (by omega) ?_
      clear hi d hJ gK g1
      rintro i g1 I hI
      refine see (p:=ifB (decide ((↑i:Int)<(↑n:Int))) (onSome (nl g')[i]? fun row=>onSome row[0]? fun v=>onIntK IntKind.i64 v fun n_1=>onSome (nl g)[i]? fun row=>onSome row[0]? fun v=>onIntK IntKind.i64 v fun n_2=>onNat n_2 fun m=>onSome (nl g')[m]? fun row=>onSome row[0]? fun v=>onIntK IntKind.i64 v fun n_3=>ifB (n_1 != n_3) (R (bv false)) (I (St.mk (mkT [(7,bv true),(11,V.lst s es),(13,V.lst 1 (nl g)),(15,V.lst 1 (nl g')),(17,nilS),(97,iv (↑n:Int)),(98,iv (IntKind.i64.wrap ((↑i:Int)+(1:Int))))]) (Hp.mk [] 0 [])))) (K0G Tryz.prog glX 31 [nilS,V.lst s es] fun v=>onBool v fun b=>R (bv b))) (by kernel_rfl) ?_
      refine ifB_mk (fun d=>?_) (fun d=>?_)
      · have hi:i<n:=by have:=of_decide_eq_true d; omega
        obtain ⟨u,u1,u2,u3,u4⟩:=hG.lea i hi
        have hs:=hG'.same (v:=u) (w:=i) (by omega) (by omega) (con_more u3)
        refine ngel hG'.len (by omega) (ngel hG.len hi (onNat_mk (m:=u) u1 (ngel hG'.len (by omega) (ifB_f (by rw [hs]; simp) ?_))))
        rw [wr1i hi (by omega)]
        exact hI (i+1) hi (by omega)
      · have e0:lnk (bods l m)=[]:=hK ▸ gb rfl
        rw [hes,e0]
        exact same31n (onBool_bv h)
  · refine see (p:=ifB (decide ((↑i:Int)<(↑t:Int))) (need (u=5) (onSome (lkl L)[i]? fun row=>onCons (List.drop 0 row) fun u_1 r=>onIntK IntKind.i64 u_1 fun n=>onCons r fun u_2 r=>onIntK IntKind.i64 u_2 fun n_1=>onCons r fun u_3 r=>onIntK IntKind.i64 u_3 fun n_2=>onCons r fun u_4 r=>onIntK IntKind.i64 u_4 fun n_3=>onCons r fun u_5 r=>onIntK IntKind.u8 u_5 fun n_4=>ifB (decide (n_1<(↑(bkl m).length:Int))) (need ((q+1) * 40≤140737488355328) (J (St.mk (mkT [(4,V.ptr (Id.p 0) 0 0),(7,bv true),(11,V.lst s es),(13,V.lst 1 (nl g)),(15,V.lst 1 (nl g')),(17,V.sl (Id.p 1) 0 (q+1)),(79,V.lst u (lkl L)),(80,iv (↑t:Int)),(81,iv (IntKind.i64.wrap ((↑i:Int)+(1:Int))))]) (Hp.mk [(0,O.rows 1 false [[V.lst 6 (bkl m)]]),(1,O.rows 5 true (List.take q (lkl K)++[[iv n,iv n_1,iv n_2,iv n_3,V.raw (Value.int IntKind.u8 n_4)]]))] 2 [])))) (J (St.mk (mkT [(4,V.ptr (Id.p 0) 0 0),(7,bv true),(11,V.lst s es),(13,V.lst 1 (nl g)),(15,V.lst 1 (nl g')),(17,V.sl (Id.p 1) 0 q),(79,V.lst u (lkl L)),(80,iv (↑t:Int)),(81,iv (IntKind.i64.wrap ((↑i:Int)+(1:Int))))]) (Hp.mk [(0,O.rows 1 false [[V.lst 6 (bkl m)]]),(1,O.rows 5 true (lkl K))] 2 []))))) (La 0 [(7:Tmp),(11:Tmp),(13:Tmp),(15:Tmp),(17:Tmp),(97:Tmp),(98:Tmp)] (WY Tryz.prog cf9 2984 (Env.mk (Bs.mk 0 []) 0 none 120 9 2) (cdAt [1,1,1,1,1,1,1,1,1,1,1,1,0,1,0,0] (bodyOf Tryz.f9))) (Qblk 2 (Qthen (WY Tryz.prog cf9 2987 (Env.mk (Bs.mk 0 []) 0 none 120 9 0) (cdAt [1,1,1,1,1,1,1,1,1,1,1,1,1] (bodyOf Tryz.f9)) (QendX Tryz.prog Tryz.f9 fun v h=>R (frzW h v))) (QendX Tryz.prog Tryz.f9 fun v h=>R (frzW h v)))) (St.mk (mkT [(7,bv true),(11,V.lst s es),(13,V.lst 1 (nl g)),(15,V.lst 1 (nl g')),(17,V.sl (Id.p 0) 0 q),(97,iv (↑(nl g).length:Int)),(98,iv (0:Int))]) (Hp.mk [(0,O.rows 5 true (lkl K))] 1 [])))) (by kernel_rfl) ?_
    refine ifB_mk (fun d=>?_) (fun d=>?_)
    · have hi:i<t:=by have:=of_decide_eq_true d; omega
      obtain ⟨x,hx⟩:=getI (l:=L) (k:=i) (by omega)
      have hu5:u=5:=by
        rcases hu with hu | hu
        · exact hu
        · rw [hu] at hx; simp at hx
      have hstep:(L.take (i+1)).filter (fun z=>decide (z.2.1<(n:Int)))=(L.take i).filter (fun z=>decide (z.2.1<(n:Int)))++if x.2.1<(n:Int) then [x] else []:=by
        rw [take_succ' hx,List.filter_append]
        by_cases hd:x.2.1<(n:Int) <;> simp [hd]
      refine need_mk ⟨hu5,lel hx ?_⟩
      rw [bkl_length,← hn]
      refine ifB_mk (fun c=>?_) (fun c=>?_)
      · have c:=of_decide_eq_true c
        rw [if_pos c] at hstep
        refine need_mk ⟨by omega,?_⟩
        rw [wr1i hi (by omega)]
        have e:List.take q (lkl K)++[[iv x.1,iv x.2.1,iv x.2.2.1,iv x.2.2.2.1,V.raw (Value.int IntKind.u8 x.2.2.2.2)]]=lkl (K++[x]):=by
          rw [gq,← lkl_length,List.take_length]; simp [lkl,lkr,u8]
        rw [e]
        exact hJ (true,i+1,q+1,K++[x]) ⟨hi,by simp [gq],by simp only; rw [hstep,gK],(fun h=>by cases h),(fun _=>by simp)⟩ (by simp only; omega)
      · have c:=of_decide_eq_false c
        rw [if_neg c,List.append_nil] at hstep
        rw [wr1i hi (by omega)]
        exact hJ (true,i+1,q,K) ⟨hi,gq,by simp only; rw [hstep]; exact gK,gb,gb2⟩ (by simp only; omega)
    · have hi:i=t:=by have:=of_decide_eq_false d; omega
      have hK:K=lnk (bods l m):=by
        rw [gK,hi,ht,List.take_length,hL]
        exact lnk_more' hn
      rw [nl_length,hG.len]
      refine La.of (σ:=Nat) (fun i=>sh9bS s es g g' n i K q) (fun i=>i≤n) (fun i=>n - i) 0 (by kernel_rfl) (by omega) ?_
      clear hi d hJ gK g1
      rintro i g1 I hI
      refine see (p:=ifB (decide ((↑i:Int)<(↑n:Int))) (onSome (nl g')[i]? fun row=>onSome row[0]? fun v=>onIntK IntKind.i64 v fun n_1=>onSome (nl g)[i]? fun row=>onSome row[0]? fun v=>onIntK IntKind.i64 v fun n_2=>onNat n_2 fun m=>onSome (nl g')[m]? fun row=>onSome row[0]? fun v=>onIntK IntKind.i64 v fun n_3=>ifB (n_1 != n_3) (R (bv false)) (I (St.mk (mkT [(7,bv true),(11,V.lst s es),(13,V.lst 1 (nl g)),(15,V.lst 1 (nl g')),(17,V.sl (Id.p 0) 0 q),(97,iv (↑n:Int)),(98,iv (IntKind.i64.wrap ((↑i:Int)+(1:Int))))]) (Hp.mk [(0,O.rows 5 true (lkl K))] 1 [])))) (K0G Tryz.prog glX 31 [V.lst 5 (sub (lkl K) 0 q),V.lst s es] fun v=>onBool v fun b=>R (bv b))) (by kernel_rfl) ?_
      refine ifB_mk (fun d=>?_) (fun d=>?_)
      · have hi:i<n:=by have:=of_decide_eq_true d; omega
        obtain ⟨u,u1,u2,u3,u4⟩:=hG.lea i hi
        have hs:=hG'.same (v:=u) (w:=i) (by omega) (by omega) (con_more u3)
        refine ngel hG'.len (by omega) (ngel hG.len hi (onNat_mk (m:=u) u1 (ngel hG'.len (by omega) (ifB_f (by rw [hs]; simp) ?_))))
        rw [wr1i hi (by omega)]
        exact hI (i+1) hi (by omega)
      · have e:sub (lkl K) 0 q=lkl K:=by rw [gq,← lkl_length,sub,List.drop_zero,List.take_length]
        have hs5:s=5:=hs.resolve_right (fun e=>gb2 rfl (hK.trans e))
        rw [e,hes,hs5,hK]
        refine same31 (lnk_few hB (bods60 hl hr hA.ask)) (onBool_bv ?_)
        rw [dc_t rfl]
        exact h
theorem more_eq (m:List Bk) (b:Bk):sub (List.take (0+(bkl m).length) ([]++bkl m)++[[iv b.1,iv b.2.1.1,iv b.2.1.2.1,iv b.2.1.2.2,V.raw (Value.int IntKind.u8 b.2.2.1),V.raw (Value.int IntKind.u8 b.2.2.2)]]) 0 (0+(bkl m).length+1)=bkl (m++[b]):=by
  rw [Nat.zero_add,List.nil_append,List.take_length]
  have:bkl m++[[iv b.1,iv b.2.1.1,iv b.2.1.2.1,iv b.2.1.2.2,V.raw (Value.int IntKind.u8 b.2.2.1),V.raw (Value.int IntKind.u8 b.2.2.2)]]=bkl (m++[b]):=by simp [bkl,bkr,u8]
  rw [this,sub,List.drop_zero,List.take_of_length_le (by simp [bkl])]
set_option maxHeartbeats 1000000 in
theorem law9 {l:List Kd} {m:List Bk} {b:Bk} {R:V→Prop} (hlk : ∀ q∈l, ∀ x∈q.2.1,KnR x) (hr : ∀ b∈m,BkR b) (hb:BkR b) (h:R (bv true)):K0G Tryz.prog glX 9 [.lst 3 (kdl l),.agg [.lst 6 (bkl m)],.agg (bkr b)] R:=by
  refine K0_by hmX hc9 3000 Tryz.func9 (p:=K0G Tryz.prog glX 37 [] fun v=>onBool v fun b_1=>K0G Tryz.prog glX 12 [V.lst 3 (kdl l),V.agg [V.lst 6 (bkl m)]] fun v=>onBool v fun b_2=>ifB b_2 (R (bv b_1)) (need ((0+(bkl m).length) * 40≤140737488355328) (need ((0+(bkl m).length+1) * 40≤140737488355328) (K0G Tryz.prog glX 29 [V.lst 3 (kdl l),V.agg [V.lst 6 (sub (List.take (0+(bkl m).length) ([]++bkl m)++[[iv b.1,iv b.2.1.1,iv b.2.1.2.1,iv b.2.1.2.2,V.raw (Value.int IntKind.u8 b.2.2.1),V.raw (Value.int IntKind.u8 b.2.2.2)]]) 0 (0+(bkl m).length+1))]] fun v=>onTup v fun vs=>onCons vs fun u r=>onLst u fun s es=>onCons r fun u r=>onIntK IntKind.i64 u fun n=>onNil r (ifB (n != (0:Int)) (R (bv b_1)) (K0G Tryz.prog glX 29 [V.lst 3 (kdl l),V.agg [V.lst 6 (bkl m)]] fun v=>onTup v fun vs=>onCons vs fun u r=>onLst u fun s_1 es_1=>onCons r fun u r=>onIntK IntKind.i64 u fun n=>onNil r (K0G Tryz.prog glX 35 [V.lst 3 (kdl l),V.agg [V.lst 6 (bkl m)]] fun v=>onTup v fun vs=>onCons vs fun u r=>onLst u fun s_2 es_2=>onCons r fun u r=>onIntK IntKind.i64 u fun n_1=>onNil r (K0G Tryz.prog glX 35 [V.lst 3 (kdl l),V.agg [V.lst 6 (sub (List.take (0+(bkl m).length) ([]++bkl m)++[[iv b.1,iv b.2.1.1,iv b.2.1.2.1,iv b.2.1.2.2,V.raw (Value.int IntKind.u8 b.2.2.1),V.raw (Value.int IntKind.u8 b.2.2.2)]]) 0 (0+(bkl m).length+1))]] fun v=>onTup v fun vs=>onCons vs fun u r=>onLst u fun s_3 es_3=>onCons r fun u r=>onIntK IntKind.i64 u fun n_2=>onNil r (ifB (n != (0:Int)) (R (bv false)) (ifB (n_1 != (0:Int)) (R (bv false)) (ifB (n_2 != (0:Int)) (R (bv false)) (ifB ((↑es_3.length:Int) != IntKind.i64.wrap ((↑es_2.length:Int)+(1:Int))) (R (bv false)) (La 0 [(4:Tmp),(7:Tmp),(11:Tmp),(13:Tmp),(15:Tmp),(17:Tmp),(79:Tmp),(80:Tmp),(81:Tmp)] (WY Tryz.prog cf9 2985 (Env.mk (Bs.mk 0 []) 0 none 120 9 0) (cdAt [1,1,1,1,1,1,1,1,1,1,1,0,1,0,0] (bodyOf Tryz.f9))) (Qblk 0 (Qthen (WY Tryz.prog cf9 2988 (Env.mk (Bs.mk 0 []) 0 none 120 9 0) (cdAt [1,1,1,1,1,1,1,1,1,1,1,1] (bodyOf Tryz.f9)) (QendX Tryz.prog Tryz.f9 fun v h=>R (frzW h v))) (QendX Tryz.prog Tryz.f9 fun v h=>R (frzW h v)))) (St.mk (mkT [(4,V.ptr (Id.p 0) 0 0),(7,bv b_1),(11,V.lst s_1 es_1),(13,V.lst s_2 es_2),(15,V.lst s_3 es_3),(17,nilS),(79,V.lst s es),(80,iv (↑es.length:Int)),(81,iv (0:Int))]) (Hp.mk [(0,O.rows 1 false [[V.lst 6 (bkl m)]])] 1 []))))))))))))))) (by kernel_rfl) ?_
  refine K0G.mono (show K0G Tryz.prog glX 37 [] fun v=>v=bv true from t37) (fun v hv=>?_)
  subst hv
  refine onBool_bv (great12 (onBool_bv (ifB_mk (fun _=>h) (fun c1=>?_))))
  obtain ⟨hl20,hl⟩:=greatK (dc_false c1) hlk
  have hm45:=great45 (dc_false c1)
  have hll:(l.length:Int)≤1000000:=by omega
  have hml:m.length≤1000000:=by omega
  have hr' : ∀ c∈m++[b],BkR c:=fun c hc=>by
    rcases List.mem_append.1 hc with hc | hc
    · exact hr c hc
    · rw [List.mem_singleton.1 hc]; exact hb
  have hml' : (m++[b]).length≤1000000:=by rw [List.length_append]; simp; omega
  refine need_mk ⟨by rw [bkl_length]; omega,need_mk ⟨by rw [bkl_length]; omega,?_⟩⟩
  rw [more_eq]
  obtain ⟨L,hL⟩ : ∃ L,L=lnk (bods l (m++[b])):=⟨_,rfl⟩
  have key:OkM l (m++[b]) → ∀ u:Nat,(u=5∨L=[])→(∀ s:Nat,(s=5∨lnk (bods l m)=[]) → ∀ g g' : List Int,GrpP (jnt (bods l m)) m.length g→GrpP (jnt (bods l (m++[b]))) (m.length+1) g' → La 0 [(4:Tmp),(7:Tmp),(11:Tmp),(13:Tmp),(15:Tmp),(17:Tmp),(79:Tmp),(80:Tmp),(81:Tmp)] (WY Tryz.prog cf9 2985 (Env.mk (Bs.mk 0 []) 0 none 120 9 0) (cdAt [1,1,1,1,1,1,1,1,1,1,1,0,1,0,0] (bodyOf Tryz.f9))) (Qblk 0 (Qthen (WY Tryz.prog cf9 2988 (Env.mk (Bs.mk 0 []) 0 none 120 9 0) (cdAt [1,1,1,1,1,1,1,1,1,1,1,1] (bodyOf Tryz.f9)) (QendX Tryz.prog Tryz.f9 fun v h=>R (frzW h v))) (QendX Tryz.prog Tryz.f9 fun v h=>R (frzW h v)))) (sh9a m s (lkl (lnk (bods l m))) g g' u L (lkl L).length 0)):=by
    intro hA' u hu s hs g g' hG hG'
    exact law9_main hl hr hA'.sub hA' (by rw [hL]; exact lnk_few (bod_ok hl hr' hA'.ask) (bods60 hl hr' hA'.ask)) rfl hG hG' hL hu (lkl_length L) hs rfl h
  refine links29 hl hll hml' hr' (fun e he hne=>onTup_tup (onCons_cons (onLst_nil (onCons_cons (onIntK_iv (onNil_nil (ifB_t (by simpa using hne) h))))))) (fun hA' he=>?_) (fun hA' => ?_)
  · refine ⟨onTup_tup (onCons_cons (onLst_nil (onCons_cons (onIntK_iv (onNil_nil (ifB_f rfl ?_)))))),onTup_tup (onCons_cons (onLst_lst (onCons_cons (onIntK_iv (onNil_nil (ifB_f rfl ?_))))))⟩
    · refine links29 hl hll hml hr (fun e' he' hne' => (he'.no hA'.sub).elim) (fun hA he2=>⟨onTup_tup (onCons_cons (onLst_nil (onCons_cons (onIntK_iv (onNil_nil ?_))))),onTup_tup (onCons_cons (onLst_lst (onCons_cons (onIntK_iv (onNil_nil ?_)))))⟩) (fun hA=>onTup_tup (onCons_cons (onLst_lst (onCons_cons (onIntK_iv (onNil_nil ?_))))))
      · refine groups35 hl hll hml hr (fun e' he' hne' => (he'.no hA'.sub).elim) (fun _ g hG=>onTup_tup (onCons_cons (onLst_lst (onCons_cons (onIntK_iv (onNil_nil ?_))))))
        refine groups35 hl hll hml' hr' (fun e' he' hne' => (he'.no hA').elim) (fun _ g' hG' => onTup_tup (onCons_cons (onLst_lst (onCons_cons (onIntK_iv (onNil_nil ?_))))))
        rw [List.length_append,List.length_singleton] at hG'
        refine ifB_f rfl (ifB_f rfl (ifB_f rfl (ifB_f (by rw [nl_length,nl_length,hG.len,hG'.len,wr (by omega) (by omega)]; simp) ?_)))
        have:=key hA' 0 (.inr (hL.trans he)) 0 (.inr he2) g g' hG hG'
        rw [hL,he,he2] at this
        exact see (by kernel_rfl) this
      · refine groups35 hl hll hml hr (fun e' he' hne' => (he'.no hA'.sub).elim) (fun _ g hG=>onTup_tup (onCons_cons (onLst_lst (onCons_cons (onIntK_iv (onNil_nil ?_))))))
        refine groups35 hl hll hml' hr' (fun e' he' hne' => (he'.no hA').elim) (fun _ g' hG' => onTup_tup (onCons_cons (onLst_lst (onCons_cons (onIntK_iv (onNil_nil ?_))))))
        rw [List.length_append,List.length_singleton] at hG'
        refine ifB_f rfl (ifB_f rfl (ifB_f rfl (ifB_f (by rw [nl_length,nl_length,hG.len,hG'.len,wr (by omega) (by omega)]; simp) ?_)))
        have:=key hA' 0 (.inr (hL.trans he)) 0 (.inr he2) g g' hG hG'
        rw [hL,he,he2] at this
        exact see (by kernel_rfl) this
      · refine groups35 hl hll hml hr (fun e' he' hne' => (he'.no hA'.sub).elim) (fun _ g hG=>onTup_tup (onCons_cons (onLst_lst (onCons_cons (onIntK_iv (onNil_nil ?_))))))
        refine groups35 hl hll hml' hr' (fun e' he' hne' => (he'.no hA').elim) (fun _ g' hG' => onTup_tup (onCons_cons (onLst_lst (onCons_cons (onIntK_iv (onNil_nil ?_))))))
        rw [List.length_append,List.length_singleton] at hG'
        refine ifB_f rfl (ifB_f rfl (ifB_f rfl (ifB_f (by rw [nl_length,nl_length,hG.len,hG'.len,wr (by omega) (by omega)]; simp) ?_)))
        have:=key hA' 0 (.inr (hL.trans he)) 5 (.inl rfl) g g' hG hG'
        rw [hL,he] at this
        exact see (by kernel_rfl) this
    · refine links29 hl hll hml hr (fun e' he' hne' => (he'.no hA'.sub).elim) (fun hA he2=>⟨onTup_tup (onCons_cons (onLst_nil (onCons_cons (onIntK_iv (onNil_nil ?_))))),onTup_tup (onCons_cons (onLst_lst (onCons_cons (onIntK_iv (onNil_nil ?_)))))⟩) (fun hA=>onTup_tup (onCons_cons (onLst_lst (onCons_cons (onIntK_iv (onNil_nil ?_))))))
      · refine groups35 hl hll hml hr (fun e' he' hne' => (he'.no hA'.sub).elim) (fun _ g hG=>onTup_tup (onCons_cons (onLst_lst (onCons_cons (onIntK_iv (onNil_nil ?_))))))
        refine groups35 hl hll hml' hr' (fun e' he' hne' => (he'.no hA').elim) (fun _ g' hG' => onTup_tup (onCons_cons (onLst_lst (onCons_cons (onIntK_iv (onNil_nil ?_))))))
        rw [List.length_append,List.length_singleton] at hG'
        refine ifB_f rfl (ifB_f rfl (ifB_f rfl (ifB_f (by rw [nl_length,nl_length,hG.len,hG'.len,wr (by omega) (by omega)]; simp) ?_)))
        have:=key hA' 0 (.inr (hL.trans he)) 0 (.inr he2) g g' hG hG'
        rw [hL,he,he2] at this
        exact see (by kernel_rfl) this
      · refine groups35 hl hll hml hr (fun e' he' hne' => (he'.no hA'.sub).elim) (fun _ g hG=>onTup_tup (onCons_cons (onLst_lst (onCons_cons (onIntK_iv (onNil_nil ?_))))))
        refine groups35 hl hll hml' hr' (fun e' he' hne' => (he'.no hA').elim) (fun _ g' hG' => onTup_tup (onCons_cons (onLst_lst (onCons_cons (onIntK_iv (onNil_nil ?_))))))
        rw [List.length_append,List.length_singleton] at hG'
        refine ifB_f rfl (ifB_f rfl (ifB_f rfl (ifB_f (by rw [nl_length,nl_length,hG.len,hG'.len,wr (by omega) (by omega)]; simp) ?_)))
        have:=key hA' 0 (.inr (hL.trans he)) 0 (.inr he2) g g' hG hG'
        rw [hL,he,he2] at this
        exact see (by kernel_rfl) this
      · refine groups35 hl hll hml hr (fun e' he' hne' => (he'.no hA'.sub).elim) (fun _ g hG=>onTup_tup (onCons_cons (onLst_lst (onCons_cons (onIntK_iv (onNil_nil ?_))))))
        refine groups35 hl hll hml' hr' (fun e' he' hne' => (he'.no hA').elim) (fun _ g' hG' => onTup_tup (onCons_cons (onLst_lst (onCons_cons (onIntK_iv (onNil_nil ?_))))))
        rw [List.length_append,List.length_singleton] at hG'
        refine ifB_f rfl (ifB_f rfl (ifB_f rfl (ifB_f (by rw [nl_length,nl_length,hG.len,hG'.len,wr (by omega) (by omega)]; simp) ?_)))
        have:=key hA' 0 (.inr (hL.trans he)) 5 (.inl rfl) g g' hG hG'
        rw [hL,he] at this
        exact see (by kernel_rfl) this
  · refine onTup_tup (onCons_cons (onLst_lst (onCons_cons (onIntK_iv (onNil_nil (ifB_f rfl ?_))))))
    refine links29 hl hll hml hr (fun e' he' hne' => (he'.no hA'.sub).elim) (fun hA he2=>⟨onTup_tup (onCons_cons (onLst_nil (onCons_cons (onIntK_iv (onNil_nil ?_))))),onTup_tup (onCons_cons (onLst_lst (onCons_cons (onIntK_iv (onNil_nil ?_)))))⟩) (fun hA=>onTup_tup (onCons_cons (onLst_lst (onCons_cons (onIntK_iv (onNil_nil ?_))))))
    · refine groups35 hl hll hml hr (fun e' he' hne' => (he'.no hA'.sub).elim) (fun _ g hG=>onTup_tup (onCons_cons (onLst_lst (onCons_cons (onIntK_iv (onNil_nil ?_))))))
      refine groups35 hl hll hml' hr' (fun e' he' hne' => (he'.no hA').elim) (fun _ g' hG' => onTup_tup (onCons_cons (onLst_lst (onCons_cons (onIntK_iv (onNil_nil ?_))))))
      rw [List.length_append,List.length_singleton] at hG'
      refine ifB_f rfl (ifB_f rfl (ifB_f rfl (ifB_f (by rw [nl_length,nl_length,hG.len,hG'.len,wr (by omega) (by omega)]; simp) ?_)))
      have:=key hA' 5 (.inl rfl) 0 (.inr he2) g g' hG hG'
      rw [hL,he2] at this
      exact see (by kernel_rfl) this
    · refine groups35 hl hll hml hr (fun e' he' hne' => (he'.no hA'.sub).elim) (fun _ g hG=>onTup_tup (onCons_cons (onLst_lst (onCons_cons (onIntK_iv (onNil_nil ?_))))))
      refine groups35 hl hll hml' hr' (fun e' he' hne' => (he'.no hA').elim) (fun _ g' hG' => onTup_tup (onCons_cons (onLst_lst (onCons_cons (onIntK_iv (onNil_nil ?_))))))
      rw [List.length_append,List.length_singleton] at hG'
      refine ifB_f rfl (ifB_f rfl (ifB_f rfl (ifB_f (by rw [nl_length,nl_length,hG.len,hG'.len,wr (by omega) (by omega)]; simp) ?_)))
      have:=key hA' 5 (.inl rfl) 0 (.inr he2) g g' hG hG'
      rw [hL,he2] at this
      exact see (by kernel_rfl) this
    · refine groups35 hl hll hml hr (fun e' he' hne' => (he'.no hA'.sub).elim) (fun _ g hG=>onTup_tup (onCons_cons (onLst_lst (onCons_cons (onIntK_iv (onNil_nil ?_))))))
      refine groups35 hl hll hml' hr' (fun e' he' hne' => (he'.no hA').elim) (fun _ g' hG' => onTup_tup (onCons_cons (onLst_lst (onCons_cons (onIntK_iv (onNil_nil ?_))))))
      rw [List.length_append,List.length_singleton] at hG'
      refine ifB_f rfl (ifB_f rfl (ifB_f rfl (ifB_f (by rw [nl_length,nl_length,hG.len,hG'.len,wr (by omega) (by omega)]; simp) ?_)))
      have:=key hA' 5 (.inl rfl) 5 (.inl rfl) g g' hG hG'
      rw [hL] at this
      exact see (by kernel_rfl) this
end Go.Proofs.YtbionhgjgcpogaaGreatDoor
namespace Go.Proofs.YtbionhgjgcpogaaGreatDoor.Clean
open Go.Deep
set_option linter.unusedSimpArgs false
set_option linter.unusedVariables false
section
variable {H:Type} (enc:TypeId×Value→H) (P:Program) (w:World)
def FW (r:Nat):Prop:=r<w.heap.size
def Opens (t:TypeId) {α:Type} (f:α→List V) (ok:α→Prop):Prop :=
  ∀ fuel cs x,DataW.trod enc P w 0 (fun _=>true) true fuel t cs=some x → ∃ a,riL (FW w) w (f a) cs∧ok a ∧ ∀ u∈cs,u.oneCell' = true
def OpensF (total:Nat) (off:Nat) (fs:List Field) {α:Type} (f:α→List V) (ok:α→Prop):Prop :=
  ∀ n (cs:List Value),cs.length=total→(∀ fd∈fs, ∃ x,DataW.trod enc P w 0 (fun _=>true) true n fd.type ((cs.drop fd.offset).take (P.cellsOf fd.type))=some x) →
    ∃ a,riL (FW w) w (f a) (cs.drop off)∧ok a ∧ ∀ u∈cs.drop off,u.oneCell' = true
end
section
variable {H:Type} {enc:TypeId×Value→H} {P:Program} {w:World}
theorem riL_append : ∀ {vs us:List V} {xs ys:List Value},riL (FW w) w vs xs→riL (FW w) w us ys→riL (FW w) w (vs++us) (xs++ys)
  | [],us,xs,ys,h,k=>by simp only [riL] at h; subst h; simpa using k
  | v::vs,us,xs,ys,h,k=>by
    simp only [riL] at h
    obtain ⟨x,zs,rfl,h2,h3⟩:=h
    simp only [List.cons_append,riL]
    exact ⟨x,zs++ys,rfl,h2,riL_append h3 k⟩
theorem riL_one {v:V} {x:Value} (h:ri (FW w) w v x):riL (FW w) w [v] [x]:=by simp only [riL]; exact ⟨x,[],rfl,h,rfl⟩
theorem riL_get : ∀ {vs:List V} {xs:List Value},riL (FW w) w vs xs → ∀ (i:Nat) v,vs[i]? = some v → ∃ x,xs[i]? = some x∧ri (FW w) w v x
  | [],xs,h,i,v,hi=>by simp at hi
  | u::vs,xs,h,i,v,hi=>by
    simp only [riL] at h
    obtain ⟨x,ys,rfl,h2,h3⟩:=h
    cases i with
    | zero=>simp at hi; subst hi; exact ⟨x,rfl,h2⟩
    | succ i=>simp at hi; simpa using riL_get h3 i v hi
theorem riL_length : ∀ {vs:List V} {xs:List Value},riL (FW w) w vs xs→xs.length=vs.length
  | [],xs,h=>by simp only [riL] at h; simp [h]
  | v::vs,xs,h=>by simp only [riL] at h; obtain ⟨x,ys,rfl,_,h3⟩:=h; simp [riL_length h3]
theorem opens_int {t:TypeId} {k:IntKind} (ht:P.underlying t=some (.int k)):Opens enc P w t (fun n:Int=>[.raw (.int k n)]) (fun n=>(Lit.int k n).wf=true):=by
  intro fuel cs x h
  obtain ⟨n,rfl,_,hw⟩:=DataW.trod_int ht h
  exact ⟨n,riL_one (by simp [ri]),hw,by simp [Value.oneCell']⟩
theorem opens_slice {t e:TypeId} {s:Nat} {α:Type} {f:α→List V} {ok:α→Prop} (ht:P.underlying t=some (.slice e)) (hs:P.cellsOf e=s) (hpos:s≠0) (ho:Opens enc P w e f ok) :
    Opens enc P w t (fun l:List α=>[.lst s (l.map f)]) (fun l=>l.length≤maxLen ∧ ∀ a∈l,ok a):=by
  intro fuel cs x h
  rcases open_slice ht h with ⟨rfl,_⟩ | ⟨a,len,cap,m,n,D,Pl,rfl,_,hl,hm,hmm,_,hx⟩
  · exact ⟨[],riL_one (by simp [ri]),by simp,by simp [Value.oneCell']⟩
  · simp only [if_true] at hmm
    subst hmm
    rw [hs] at hx
    have each : ∀ i,i<len → ∃ q:α,(∃ cs', w.cells? 0 (a.add (i * s)) s=some cs' ∧ riL (FW w) w (f q) cs' ∧ ∀ u∈cs', u.oneCell' = true)∧ok q:=by
      intro i hi
      obtain ⟨cs', h1,h2⟩:=hx i (by omega)
      obtain ⟨q,h3,h4,h5⟩:=ho _ _ _ h2
      exact ⟨q,⟨cs', h1,h3,h5⟩,h4⟩
    obtain ⟨q,hq⟩ : ∃ q:Nat→Option α, ∀ i,i<len → ∃ y,q i=some y∧(∃ cs', w.cells? 0 (a.add (i * s)) s=some cs' ∧ riL (FW w) w (f y) cs' ∧ ∀ u∈cs', u.oneCell' = true)∧ok y:=by
      refine Classical.axiomOfChoice (r:=fun i (o:Option α)=>i<len → ∃ y,o=some y∧(∃ cs', w.cells? 0 (a.add (i * s)) s=some cs' ∧ riL (FW w) w (f y) cs' ∧ ∀ u∈cs', u.oneCell' = true)∧ok y) ?_
      intro i
      by_cases hi:i<len
      · obtain ⟨y,hy⟩:=each i hi
        exact ⟨some y,fun _=>⟨y,rfl,hy⟩⟩
      · exact ⟨none,fun h=>(hi h).elim⟩
    let l:List α:=(List.range len).filterMap q
    have hl' : l.length=len ∧ ∀ i,i<len→l[i]? = q i:=by
      have key : ∀ k,k≤len→((List.range k).filterMap q).length=k ∧ ∀ i,i<k→((List.range k).filterMap q)[i]? = q i:=by
        intro k
        induction k with
        | zero=>intro _; simp
        | succ k ih =>
          intro hk
          obtain ⟨h1,h2⟩:=ih (by omega)
          obtain ⟨y,hy,_⟩:=hq k (by omega)
          have:(List.range (k+1)).filterMap q=(List.range k).filterMap q++[y]:=by rw [List.range_succ,List.filterMap_append]; simp [hy]
          rw [this]
          refine ⟨by simp [h1],fun i hi=>?_⟩
          by_cases hik:i<k
          · rw [List.getElem?_append_left (by omega)]; exact h2 i hik
          · have:i=k:=by omega
            subst this
            rw [List.getElem?_append_right (by omega),h1,hy]; simp
      exact key len (Nat.le_refl _)
    refine ⟨l,riL_one ?_,⟨by omega,fun b hb=>?_⟩,by simp [Value.oneCell']⟩
    · simp only [ri]
      refine .inr ⟨a,m,by simp [hl'.1]; exact hl,by simp [hl'.1],?_⟩
      by_cases h0:len=0
      · left
        have:l=[]:=List.eq_nil_of_length_eq_zero (by omega)
        simp [this]
      · right
        have cell : ∀ (i:Nat) (cs' : List Value),i<len→w.cells? 0 (a.add (i * s)) s=some cs' → ∀ j,j<s→w.cell? (a.add (i * s+j))=cs'[j]? ∧ cs'.length=s:=by
          intro i cs' hi hc j hj
          obtain ⟨_,hlen,hcc⟩:=World.cells?_some hc
          have:=hcc j hj
          rw [add_add] at this
          exact ⟨this,hlen⟩
        obtain ⟨y0,hy0,⟨cs0,c1,_,_⟩,_⟩:=hq 0 (by omega)
        have hc0:=(cell 0 cs0 (by omega) c1 0 (by omega))
        have hsome : ∃ u,w.cell? a=some u:=by
          have h1:=hc0.1
          rw [Nat.zero_mul,Nat.zero_add] at h1
          have:a.add 0=a:=by simp [Addr.add]
          rw [this] at h1
          rw [h1]
          exact ⟨cs0[0]'(by omega),List.getElem?_eq_getElem (by omega)⟩
        obtain ⟨u0,hu0⟩:=hsome
        have hspot:a.spot=none:=by
          unfold World.cell? at hu0
          split at hu0
          · split at hu0
            · cases hu0
            · rename_i h; simpa using h
          · cases hu0
        obtain ⟨ab,ao,asp⟩:=a
        simp only at hspot
        subst hspot
        refine ⟨rfl,World.block_lt_of_cell? w _ hu0,?_⟩
        rw [riRows_iff]
        intro i row hrow
        rw [List.getElem?_map,Option.map_eq_some_iff] at hrow
        obtain ⟨b,hb,rfl⟩:=hrow
        have hi:i<len:=by have:=(List.getElem?_eq_some_iff.1 hb).1; omega
        obtain ⟨y,hy,⟨cs', g1,g2,g3⟩,_⟩:=hq i hi
        rw [hl'.2 i hi,hy] at hb
        simp at hb
        subst hb
        have hlen' := riL_length g2
        obtain ⟨_,hclen,_⟩:=World.cells?_some g1
        refine ⟨by omega,fun j v hj=>?_⟩
        obtain ⟨z,z1,z2⟩:=riL_get g2 j v hj
        have hjs:j<s:=by have:=(List.getElem?_eq_some_iff.1 z1).1; omega
        refine ⟨z,?_,g3 z (List.mem_of_getElem? z1),z2⟩
        have:=(cell i cs' hi g1 j hjs).1
        rw [add_lit,← Nat.add_assoc] at this
        rw [this]; exact z1
    · obtain ⟨i,hi⟩:=List.mem_iff_getElem?.1 hb
      have hil:i<len:=by have:=(List.getElem?_eq_some_iff.1 hi).1; omega
      obtain ⟨y,hy,_,hok⟩:=hq i hil
      rw [hl'.2 i hil,hy] at hi
      simp at hi
      exact hi ▸ hok
theorem opensF_nil {total:Nat}:OpensF enc P w total total [] (fun _:Unit=>[]) (fun _=>True):=by
  intro n cs hl _
  rw [List.drop_of_length_le (by omega)]
  exact ⟨(),by simp [riL],trivial,by simp⟩
theorem opensF_cons {total off k:Nat} {fd:Field} {fs:List Field} {α β:Type} {f:α→List V} {g:β→List V} {ok:α→Prop} {ok' : β→Prop} (ho:fd.offset=off) (hk:P.cellsOf fd.type=k)
    (h1:Opens enc P w fd.type f ok) (h2:OpensF enc P w total (off+k) fs g ok'):OpensF enc P w total off (fd::fs) (fun x:α×β=>f x.1++g x.2) (fun x=>ok x.1∧ok' x.2):=by
  intro n cs hl hf
  obtain ⟨x,hx⟩:=hf fd (by simp)
  rw [ho,hk] at hx
  obtain ⟨a,a1,a2,a3⟩:=h1 _ _ _ hx
  obtain ⟨b,b1,b2,b3⟩:=h2 n cs hl (fun fd' h' => hf fd' (by simp [h']))
  have hsplit:cs.drop off=(cs.drop off).take k++cs.drop (off+k):=by rw [← List.drop_drop,List.take_append_drop]
  refine ⟨(a,b),?_,⟨a2,b2⟩,?_⟩
  · rw [hsplit]; exact riL_append a1 b1
  · rw [hsplit]
    intro u hu
    rcases List.mem_append.1 hu with hu | hu
    · exact a3 u hu
    · exact b3 u hu
theorem opens_struct {t:TypeId} {fs:Array Field} {total:Nat} {α:Type} {f:α→List V} {ok:α→Prop} (ht:P.underlying t=some (.struct fs)) (hc:P.cellsOf t=total) (h:OpensF enc P w total 0 fs.toList f ok):Opens enc P w t f ok:=by
  intro fuel cs x hx
  obtain ⟨xs,n,_,_,hl,hxl,hf⟩:=DataW.trod_struct ht hx
  have:=h n cs (by omega) (fun fd hfd=>by
    obtain ⟨i,hi⟩:=List.mem_iff_getElem?.1 hfd
    have hi' : fs[i]? = some fd:=by simpa using hi
    have:=hf i fd hi'
    have hil:i<xs.length:=by rw [hxl]; exact lt_of_some hi'
    rw [List.getElem?_eq_getElem hil] at this
    exact ⟨_,this⟩)
  simpa using this
theorem arg_slice {t e:TypeId} {v:Value} {d:DataW H} {p:List MemPlace} {r:Reach} {b0:Nat} {α:Type} {f:α→V} {ok:α→Prop} (ht:P.underlying t=some (.slice e)) (hval:Value.okWide P w r b0 t v) (h:DataW.Trod enc P w 0 (fun _=>true) true t v d p)
    (ho:Opens enc P w t (fun a=>[f a]) ok) : ∃ a,ri (FW w) w (f a) v∧ok a:=by
  obtain ⟨a,len,cap,rfl⟩:=WideShapes.okWide_slice ht hval
  obtain ⟨fuel,hf⟩:=h
  obtain ⟨y,h1,h2,_⟩:=ho _ _ _ hf
  simp only [Value.cells,riL] at h1
  obtain ⟨x,xs,hx,h3,_⟩:=h1
  simp at hx
  exact ⟨y,by rw [hx.1]; exact h3,h2⟩
theorem arg_struct {t:TypeId} {fs:Array Field} {v:Value} {d:DataW H} {p:List MemPlace} {r:Reach} {b0:Nat} {α:Type} {f:α→List V} {ok:α→Prop} (ht:P.underlying t=some (.struct fs)) (hval:Value.okWide P w r b0 t v) (h:DataW.Trod enc P w 0 (fun _=>true) true t v d p)
    (ho:Opens enc P w t f ok) : ∃ a,ri (FW w) w (.agg (f a)) v∧ok a:=by
  obtain ⟨cs,rfl,_⟩:=WideShapes.okWide_struct ht hval
  obtain ⟨fuel,hf⟩:=h
  obtain ⟨y,h1,h2,_⟩:=ho _ _ _ hf
  exact ⟨y,by simp only [ri]; exact ⟨cs,rfl,h1⟩,h2⟩
end
end Go.Proofs.YtbionhgjgcpogaaGreatDoor.Clean
namespace Go.Proofs.YtbionhgjgcpogaaGreatDoor.Clean
set_option linter.unusedVariables false
set_option linter.unusedSimpArgs false
mutual
def litC {H:Type} (P:Program):Nat→TypeId→DataW H→Option (List V)
  | 0,_,_=>none
  | f+1,t,d=>match P.underlying t with
    | some (.int k)=>match d with
      | .lit (.int k' n)=>some [.raw (.int k n)]
      | _=>none
    | some (.struct fs)=>match d with
      | .agg xs=>litF P f (P.cellsOf t) fs.toList xs 0
      | _=>none
    | some (.array n e)=>match d with
      | .agg xs=>if P.cellsOf t=n * P.cellsOf e then litA P f e xs else none
      | _=>none
    | _=>none
def litF {H:Type} (P:Program):Nat→Nat→List Field→List (DataW H)→Nat→Option (List V)
  | 0,_,_,_,_=>none
  | _+1,n,[],[],o=>if n=o then some [] else none
  | f+1,n,fd::fs,x::xs,o=>if fd.offset=o then (litC P f fd.type x).bind fun a=>(litF P f n fs xs (o+P.cellsOf fd.type)).bind fun b=>if a.length=P.cellsOf fd.type then some (a++b) else none else none
  | _,_,_,_,_=>none
def litA {H:Type} (P:Program):Nat→TypeId→List (DataW H)→Option (List V)
  | 0,_,_=>none
  | _+1,_,[]=>some []
  | f+1,e,x::xs=>(litC P f e x).bind fun a=>(litA P f e xs).bind fun b=>if a.length=P.cellsOf e then some (a++b) else none
end
section
variable {H:Type} {enc:TypeId×Value→H} {P:Program} {w:World} {b0:Nat} {sp:Nat→Bool} {held:Bool}
def CellsOK (w:World) (vs:List V) (cs:List Value):Prop:=cs.length=vs.length ∧ ∀ (i:Nat) v x,vs[i]? = some v→cs[i]? = some x→x.oneCell' = true∧ri (FW w) w v x
theorem CellsOK.append {vs us:List V} {cs ds:List Value} (h:CellsOK w vs cs) (k:CellsOK w us ds):CellsOK w (vs++us) (cs++ds):=by
  refine ⟨by simp [h.1,k.1],fun i v x hv hx=>?_⟩
  by_cases hi:i<vs.length
  · rw [List.getElem?_append_left hi] at hv
    rw [List.getElem?_append_left (by rw [h.1]; exact hi)] at hx
    exact h.2 i v x hv hx
  · rw [List.getElem?_append_right (by omega)] at hv
    rw [List.getElem?_append_right (by rw [h.1]; omega),h.1] at hx
    exact k.2 _ v x hv hx
theorem take_split (cs:List Value) (o n:Nat):cs.drop o=(cs.drop o).take n++cs.drop (o+n):=by rw [← List.drop_drop,List.take_append_drop]
theorem lit_ok (f:Nat) :
    (∀ (t:TypeId) (d:DataW H) (vs:List V),litC P f t d=some vs → ∀ fuel cs x,DataW.trod enc P w b0 sp held fuel t cs=some x→x.1=d→CellsOK w vs cs) ∧
    (∀ (fs:List Field) (xs:List (DataW H)) (o:Nat) (vs:List V) (cs:List Value),litF P f cs.length fs xs o=some vs → ∀ m (ys:List (DataW H×List MemPlace)),ys.map (·.1)=xs→(∀ (i:Nat) fd,fs[i]? = some fd→DataW.trod enc P w b0 sp held m fd.type ((cs.drop fd.offset).take (P.cellsOf fd.type))=ys[i]?)→CellsOK w vs (cs.drop o)) ∧
    (∀ (e:TypeId) (xs:List (DataW H)) (o:Nat) (vs:List V) (cs:List Value),litA P f e xs=some vs→cs.length=o+xs.length * P.cellsOf e → ∀ m (ys:List (DataW H×List MemPlace)),ys.map (·.1)=xs→(∀ (i:Nat),i<xs.length→DataW.trod enc P w b0 sp held m e ((cs.drop (o+i * P.cellsOf e)).take (P.cellsOf e))=ys[i]?)→CellsOK w vs (cs.drop o)):=by
  induction f with
  | zero=>exact ⟨fun t d vs h=>by simp [litC] at h,fun fs xs o vs cs h=>by simp [litF] at h,fun e xs o vs cs h=>by simp [litA] at h⟩
  | succ f ih =>
    obtain ⟨ihC,ihF,ihA⟩:=ih
    refine ⟨fun t d vs h fuel cs x hx hd=>?_,fun fs xs o vs cs h m ys hys hf=>?_,fun e xs o vs cs h hl m ys hys hf=>?_⟩
    · simp only [litC] at h
      split at h
      · rename_i k hk
        split at h
        · rename_i k' n
          cases h
          obtain ⟨m,rfl,h2,_⟩:=DataW.trod_int hk hx
          have hxd:x.1 = .lit (.int k m):=by rw [h2]
          rw [hd] at hxd
          simp only [DataW.lit.injEq,Lit.int.injEq] at hxd
          obtain ⟨_,rfl⟩:=hxd
          refine ⟨rfl,fun i v x hv hx=>?_⟩
          cases i with
          | zero=>simp at hv hx; subst hv; subst hx; exact ⟨rfl,by simp [ri]⟩
          | succ i=>simp at hv
        · cases h
      · rename_i fs hs
        split at h
        · rename_i xs
          obtain ⟨ys,n,_,hy,hl,hyl,hf⟩:=DataW.trod_struct hs hx
          have hxs:ys.map (·.1)=xs:=by
            have:=hd
            rw [hy] at this
            simpa using this
          rw [← hl] at h
          have:=ihF fs.toList xs 0 vs cs h n ys hxs (fun i fd hi=>hf i fd (by simpa using hi))
          simpa using this
        · cases h
      · rename_i n e ha
        split at h
        · rename_i xs
          split at h
          · rename_i hn
            obtain ⟨ys,m,_,hy,hl,hyl,hf⟩:=DataW.trod_array ha hx
            have hxs:ys.map (·.1)=xs:=by
              have:=hd
              rw [hy] at this
              simpa using this
            have hxl:xs.length=n:=by rw [← hxs]; simpa using hyl
            have:=ihA e xs 0 vs cs h (by rw [hl,hn,hxl]; omega) m ys hxs (fun i hi=>by rw [Nat.zero_add]; exact hf i (by omega))
            simpa using this
          · cases h
        · cases h
      · cases h
    · cases fs with
      | nil =>
        cases xs with
        | nil =>
          simp only [litF] at h
          split at h
          · rename_i hn
            cases h
            subst hn
            refine ⟨by simp,fun i v x hv hx=>by simp at hv⟩
          · cases h
        | cons x xs=>simp [litF] at h
      | cons fd fs =>
        cases xs with
        | nil=>simp [litF] at h
        | cons x xs =>
          simp only [litF] at h
          split at h
          · rename_i ho
            cases ha:litC P f fd.type x with
            | none=>rw [ha] at h; cases h
            | some a =>
              cases hb:litF P f cs.length fs xs (o+P.cellsOf fd.type) with
              | none=>rw [ha,hb] at h; cases h
              | some b =>
                rw [ha,hb] at h
                simp only [Option.bind_some] at h
                split at h
                · rename_i hal
                  cases h
                  cases ys with
                  | nil=>simp at hys
                  | cons y ys =>
                    simp only [List.map_cons,List.cons.injEq] at hys
                    have h0:=hf 0 fd rfl
                    rw [ho] at h0
                    rw [take_split cs o (P.cellsOf fd.type)]
                    exact (ihC _ _ _ ha _ _ _ h0 hys.1).append (ihF fs xs _ b cs hb m ys hys.2 (fun i fd' hi=>hf (i+1) fd' (by simpa using hi)))
                · cases h
          · cases h
    · cases xs with
      | nil =>
        simp only [litA,Option.some.injEq] at h
        subst h
        refine ⟨by simp at hl ⊢; omega,fun i v x hv hx=>by simp at hv⟩
      | cons x xs =>
        simp only [litA] at h
        cases ha:litC P f e x with
        | none=>rw [ha] at h; cases h
        | some a =>
          cases hb:litA P f e xs with
          | none=>rw [ha,hb] at h; cases h
          | some b =>
            rw [ha,hb] at h
            simp only [Option.bind_some] at h
            split at h
            · rename_i hal
              cases h
              cases ys with
              | nil=>simp at hys
              | cons y ys =>
                simp only [List.map_cons,List.cons.injEq] at hys
                have h0:=hf 0 (by simp)
                rw [Nat.zero_mul,Nat.add_zero] at h0
                rw [take_split cs o (P.cellsOf e)]
                refine (ihC _ _ _ ha _ _ _ h0 hys.1).append (ihA e xs _ b cs hb (by rw [hl,List.length_cons,Nat.add_mul]; omega) m ys hys.2 (fun i hi=>?_))
                have:=hf (i+1) (by simpa using hi)
                rw [Nat.add_mul,Nat.one_mul] at this
                rw [show o+P.cellsOf e+i * P.cellsOf e=o+(i * P.cellsOf e+P.cellsOf e) by omega]
                simpa using this
            · cases h
end
structure LaidOne (P:Program) (g:Nat) (n:String) (d:DataW Unit) (vs:List V):Prop where
  name:P.globalNamed n=some g
  cells:(((P.globals[g]?).map (·.type)).bind fun t=>litC P 64 t d)=some vs
theorem riCells_of {F:Nat→Prop} {w:World} {b:Nat} : ∀ (vs:List V) (o:Nat),(∀ i v,vs[i]? = some v → ∃ x,w.cell? ⟨b,o+i,none⟩=some x∧x.oneCell' = true∧ri F w v x)→riCells F w b vs o
  | [],o,_=>by simp only [riCells]
  | v::vs,o,h=>by
    simp only [riCells]
    refine ⟨by simpa using h 0 v rfl,riCells_of vs (o+1) fun i v hi=>?_⟩
    have:=h (i+1) v (by simpa using hi)
    rwa [show o+(i+1)=o+1+i by omega] at this
theorem laid_adr {P:Program} {w:World} {laid:List (String×DataW Unit)} (hp:(laid.all fun x=>x.2.handleName?.isNone)=true) (h:laidMetH P laid w) {g:Nat} {n:String} {d:DataW Unit} {vs:List V} (hm:(n,d)∈laid) (ho:LaidOne P g n d vs) (hne:vs≠[]) :
    ri (FW w) w (.adr vs 0) (.pointer (some ⟨g,0,none⟩)):=by
  rw [MakeChecks.laidMetH_plain _ _ _ hp] at h
  obtain ⟨ps,hl,_⟩:=h
  have key : ∀ (l:List (String×DataW Unit)) (ps:List MemPlace),DataW.LaidVars P w l ps→(n,d)∈l → ∃ t cs fuel p,(P.globals[g]?).map (·.type)=some t∧w.var? P n=some cs∧DataW.trod (fun _=>()) P w 0 (fun _=>true) false fuel t cs.toList=some (d,p):=by
    intro l
    induction l with
    | nil=>intro ps _ hm; cases hm
    | cons a r ih =>
      obtain ⟨n', d'⟩:=a
      intro ps hl hm
      obtain ⟨g', t,cs,fuel,p,q,h1,h2,h3,h4,h5,_⟩:=hl
      rcases List.mem_cons.1 hm with he | he
      · cases he
        obtain rfl:=Option.some.inj (ho.name.symm.trans h1)
        exact ⟨t,cs,fuel,p,h2,h3,h4⟩
      · exact ih q h5 he
  obtain ⟨t,cs,fuel,p,h1,h2,h3⟩:=key laid ps hl hm
  have k2:=ho.cells
  rw [h1,Option.bind_some] at k2
  have hc:=(lit_ok 64).1 _ _ _ k2 _ _ _ h3 rfl
  have hv:=World.var?_cell ho.name h2
  simp only [ri]
  have cell : ∀ i v,vs[i]? = some v → ∃ x,w.cell? ⟨g,0+i,none⟩=some x∧x.oneCell' = true∧ri (FW w) w v x:=by
    intro i v hi
    have hlt:i<vs.length:=(List.getElem?_eq_some_iff.1 hi).1
    have hlt' : i<cs.toList.length:=by rw [hc.1]; exact hlt
    obtain ⟨q1,q2⟩:=hc.2 i v _ hi (List.getElem?_eq_getElem hlt')
    refine ⟨cs.toList[i],?_,q1,q2⟩
    rw [Nat.zero_add,hv i]
    simp at hlt' ⊢
  refine ⟨g,0,by simp,?_,riCells_of vs 0 cell⟩
  obtain ⟨v,r,rfl⟩:=List.exists_cons_of_ne_nil hne
  obtain ⟨x,hx,_⟩:=cell 0 v rfl
  show g<w.heap.size
  simp only [World.cell?] at hx
  cases hh:w.heap[0+g]? with
  | none=>rw [Nat.zero_add] at hh; rw [hh] at hx; simp at hx
  | some o=>rw [Nat.zero_add] at hh; exact lt_of_some hh
end Go.Proofs.YtbionhgjgcpogaaGreatDoor.Clean
