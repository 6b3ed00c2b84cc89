/- A part of the proof. -/
import Derived.Test.YtbionhgjgcpogaaGreatDoorProg
import Derived.ProofKit
import Derived.Deep.Slices
import Derived.Carry
import Derived.OpenShut
import Derived.MakeChecks
import Derived.FnData
import Derived.Deep.Strs
import Derived.Test.YtbionhgjgcpogaaGreatDoorXT7G7
import Derived.Test.YtbionhgjgcpogaaGreatDoorXT7G10
import Derived.Test.YtbionhgjgcpogaaGreatDoorXT7G11
import Derived.Test.YtbionhgjgcpogaaGreatDoorXT7G12
import Derived.Test.YtbionhgjgcpogaaGreatDoorXT7G14
import Derived.Test.YtbionhgjgcpogaaGreatDoorXT7G15
import Derived.Test.YtbionhgjgcpogaaGreatDoorXT7G16
import Derived.Test.YtbionhgjgcpogaaGreatDoorXT7G17
namespace Go.Proofs.YtbionhgjgcpogaaGreatDoor
open Go Go.Proofs.YtbionhgjgcpogaaGreatDoor.Clean
set_option linter.unusedVariables false
set_option maxRecDepth 100000
theorem tok0:Facts Tryz.prog glX tb0:=trivial
theorem t0:KFX fa0:=k0 tok0
theorem tok1:Facts Tryz.prog glX tb1:=⟨t0,tok0⟩
theorem t1:KFX fa1:=k1 tok1
theorem tok2:Facts Tryz.prog glX tb2:=⟨t1,tok1⟩
theorem t2:KFX fa2:=k2 tok2
theorem tok3:Facts Tryz.prog glX tb3:=⟨t2,tok2⟩
theorem t3:KFX fa3:=k3 tok3
theorem tok4:Facts Tryz.prog glX tb4:=⟨t3,tok3⟩
theorem t4:KFX fa4:=k4 tok4
theorem tok5:Facts Tryz.prog glX tb5:=⟨t4,tok4⟩
theorem t5:KFX fa5:=k5 tok5
theorem tok6:Facts Tryz.prog glX tb6:=⟨t5,tok5⟩
theorem t6:KFX fa6:=k6 tok6
theorem tok7:Facts Tryz.prog glX tb7:=⟨t6,tok6⟩
theorem t7:KFX fa7:=k7 tok7
theorem tok8:Facts Tryz.prog glX tb8:=⟨t7,tok7⟩
theorem t8:KFX fa8:=k8 tok8
theorem tok9:Facts Tryz.prog glX tb9:=⟨t8,tok8⟩
theorem t9:KFX fa9:=k9 tok9
theorem tok10:Facts Tryz.prog glX tb10:=⟨t9,tok9⟩
theorem t10:KFX fa10:=k10 tok10
theorem tok11:Facts Tryz.prog glX tb11:=⟨t10,tok10⟩
theorem t11:KFX fa11:=k11 tok11
theorem tok12:Facts Tryz.prog glX tb12:=⟨t11,tok11⟩
theorem t12:KFX fa12:=k12 tok12
theorem tok13:Facts Tryz.prog glX tb13:=⟨t12,tok12⟩
theorem t13:KFX fa13:=k13 tok13
theorem tok14:Facts Tryz.prog glX tb14:=⟨t13,tok13⟩
theorem t14:KFX fa14:=k14 tok14
theorem tok15:Facts Tryz.prog glX tb15:=⟨t14,tok14⟩
theorem t15:KFX fa15:=k15 tok15
theorem tok16:Facts Tryz.prog glX tb16:=⟨t15,tok15⟩
theorem t16:KFX fa16:=k16 tok16
theorem tok17:Facts Tryz.prog glX tb17:=⟨t16,tok16⟩
theorem t17:KFX fa17:=k17 tok17
theorem tok18:Facts Tryz.prog glX tb18:=⟨t17,tok17⟩
theorem t18:KFX fa18:=k18 tok18
theorem tok19:Facts Tryz.prog glX tb19:=⟨t18,tok18⟩
theorem t19:KFX fa19:=k19 tok19
theorem tok20:Facts Tryz.prog glX tb20:=⟨t19,tok19⟩
theorem t20:KFX fa20:=k20 tok20
theorem tok21:Facts Tryz.prog glX tb21:=⟨t20,tok20⟩
theorem t21:KFX fa21:=k21 tok21
theorem tok22:Facts Tryz.prog glX tb22:=⟨t21,tok21⟩
theorem t22:KFX fa22:=k22 tok22
theorem tok23:Facts Tryz.prog glX tb23:=⟨t22,tok22⟩
theorem t23:KFX fa23:=k23 tok23
theorem tok24:Facts Tryz.prog glX tb24:=⟨t23,tok23⟩
theorem t24:KFX fa24:=k24 tok24
theorem tok25:Facts Tryz.prog glX tb25:=⟨t24,tok24⟩
theorem t25:KFX fa25:=k25 tok25
theorem tok26:Facts Tryz.prog glX tb26:=⟨t25,tok25⟩
theorem t26:KFX fa26:=k26 tok26
theorem tok27:Facts Tryz.prog glX tb27:=⟨t26,tok26⟩
theorem t27:KFX fa27:=k27 tok27
theorem tok28:Facts Tryz.prog glX tb28:=⟨t27,tok27⟩
theorem t28:KFX fa28:=k28 tok28
theorem tok29:Facts Tryz.prog glX tb29:=⟨t28,tok28⟩
theorem t29:KFX fa29:=k29 tok29
theorem tok30:Facts Tryz.prog glX tb30:=⟨t29,tok29⟩
theorem t30:KFX fa30:=k30 tok30
theorem tok31:Facts Tryz.prog glX tb31:=⟨t30,tok30⟩
theorem t31:KFX fa31:=k31 tok31
theorem tok32:Facts Tryz.prog glX tb32:=⟨t31,tok31⟩
theorem t32:KFX fa32:=k32 tok32
theorem tok33:Facts Tryz.prog glX tb33:=⟨t32,tok32⟩
theorem t33:KFX fa33:=k33 tok33
theorem tok34:Facts Tryz.prog glX tb34:=⟨t33,tok33⟩
theorem t34:KFX fa34:=k34 tok34
theorem tok35:Facts Tryz.prog glX tb35:=⟨t34,tok34⟩
theorem t35:KFX fa35:=k35 tok35
theorem tok36:Facts Tryz.prog glX tb36:=⟨t35,tok35⟩
theorem t36:KFX fa36:=k36 tok36
theorem tok37:Facts Tryz.prog glX tb37:=⟨t36,tok36⟩
theorem t37:KFX fa37:=k37 tok37
set_option linter.unusedSimpArgs false
set_option maxRecDepth 10000
theorem askM.uniq {l:List Kd} {m:List Bk} {e f:Int} (h:askM l m e) (g:askM l m f):e=f:=by
 rcases h with ⟨h1,h2⟩ | ⟨h1,h2,h3⟩ | ⟨h1,h2,h3⟩ | ⟨h1,h2,h3,h4⟩ | ⟨h1,h2⟩ <;> rcases g with ⟨g1,g2⟩ | ⟨g1,g2,g3⟩ | ⟨g1,g2,g3⟩ | ⟨g1,g2,g3,g4⟩ | ⟨g1,g2⟩ <;> first | omega | exact (h2 g1).elim | exact (g2 h1).elim | exact (h2 g1.kinds).elim | exact (g2 h1.kinds).elim | exact (h3 g1.all).elim | exact (g3 h1.all).elim | (have:=h1.few; omega) | (have:=g1.few; omega) | (have:=h1.1; omega) | (have:=g1.1; omega) | (have:=h1.kinds.1; omega) | (have:=g1.kinds.1; omega)
theorem errM.uniq {l:List Kd} {m:List Bk} {e f:Int} (h:errM l m e) (g:errM l m f):e=f:=by
 rcases h with ⟨h1,h2⟩ | ⟨h1,h2,h3⟩ <;> rcases g with ⟨g1,g2⟩ | ⟨g1,g2,g3⟩
 ·exact h1.uniq g1
 ·exact (h2 (h1.uniq (.inr (.inr (.inr (.inr ⟨g1,rfl⟩)))))).elim
 ·exact (g2 (g1.uniq (.inr (.inr (.inr (.inr ⟨h1,rfl⟩)))))).elim
 ·omega
theorem errM.no {l:List Kd} {m:List Bk} {e:Int} (h:errM l m e) (g:OkM l m):False:=by
 rcases h with ⟨h1,h2⟩ | ⟨h1,h2,h3⟩
 ·exact h2 (h1.uniq (.inr (.inr (.inr (.inr ⟨g.ask,rfl⟩)))))
 ·exact h2 g.free
theorem own_hd {L:List Lk} {i:Nat} (hi:i<L.length):(owL L i).headD lk0∈owL L i:=by
 have hm:at_ L i∈owL L i:=List.mem_filter.2 ⟨mem_at (at_get hi),by simp⟩
 cases ho:owL L i with
 | nil=>rw [ho] at hm; simp at hm
 | cons x L=>simp
theorem greatK {l:List Kd} {m:List Bk} (h : ¬ GreatP l m) (hr : ∀ q∈l, ∀ k∈q.2.1,KnR k):l.length≤20 ∧ ∀ q∈l,KdR q:=by
 refine ⟨Nat.le_of_not_lt fun x=>h (.inl x),fun q hq=>⟨hr q hq,Nat.le_of_not_lt fun x=>h (.inr (.inr ⟨q,hq,.inl x⟩)),Nat.le_of_not_lt fun x=>h (.inr (.inr ⟨q,hq,.inr x⟩))⟩⟩
theorem great45 {l:List Kd} {m:List Bk} (h : ¬ GreatP l m):m.length≤45:=by
 unfold GreatP at h
 rcases Nat.lt_or_ge 45 m.length with g | g
 ·exact (h (.inr (.inl g))).elim
 ·exact g
def kp2 (c:Int×Int):V:=V.agg [iv c.1,iv c.2]
theorem eqC_p (c d:Int×Int) : ∃ b,eqC Tryz.prog 8 100 (kp2 c) (kp2 d)=some b∧(b=true↔c=d):=by
 refine ⟨c.1==d.1&&(c.2==d.2&&true),by kernel_rfl,?_⟩
 obtain ⟨a,b⟩:=c
 obtain ⟨a', b'⟩:=d
 simp
theorem keyP:KeyOK Tryz.prog 100 kp2:=⟨eqC_p,fun c=>by simp [sameC,kp2,sameRs,sameR,iv]⟩
theorem closedP (c:Int×Int):(kp2 c).closed=true:=rfl
def sumT (L:List Lk) (n:Nat):List ((Int×Int)×Int):=(L.take n).foldl (fun T x=>upd T (key x) (strS x.2.2.2.2)) []
theorem sumT_succ {L:List Lk} {n:Nat} {x:Lk} (h:L[n]? = some x):sumT L (n+1)=upd (sumT L n) (key x) (strS x.2.2.2.2):=by
 unfold sumT
 rw [take_succ' h,List.foldl_append]
 rfl
theorem sumT_ok (L:List Lk) : ∀ n,n≤L.length→((sumT L n).map (·.1)).Nodup∧(∀ c,getv (sumT L n) c=(((L.take n).filter fun x=>decide (key x=c)).map fun x=>strS x.2.2.2.2).sum) ∧ ∀ c,c∈(sumT L n).map (·.1) ↔ ∃ x∈L.take n,key x=c
 | 0,_=>by simp [sumT,getv]
 | n+1,h=>by
  obtain ⟨x,hx⟩:=getI (l:=L) (k:=n) (by omega)
  obtain ⟨h1,h2,h3⟩:=sumT_ok L n (by omega)
  rw [sumT_succ hx]
  refine ⟨upd_nodup h1 _ _,fun c=>?_,fun c=>?_⟩
  ·rw [getv_upd,h2,take_succ' hx,List.filter_append,List.map_append,List.sum_append]
   by_cases e:key x=c
   ·rw [if_pos e]; simp [e]
   ·rw [if_neg e]; simp [e]
  ·rw [upd_keys,take_succ' hx]
   split
   ·rename_i hm
    rw [h3]
    constructor
    ·rintro ⟨y,hy,hk⟩; exact ⟨y,List.mem_append_left _ hy,hk⟩
    ·rintro ⟨y,hy,hk⟩
     rcases List.mem_append.1 hy with hy | hy
     ·exact ⟨y,hy,hk⟩
     ·rw [List.mem_singleton.1 hy] at hk
      rw [hk] at hm
      exact (h3 c).1 hm
   ·rw [List.mem_append,h3]
    simp only [List.mem_append,List.mem_singleton]
    constructor
    ·rintro (⟨y,hy,hk⟩ | h)
     ·exact ⟨y,.inl hy,hk⟩
     ·exact ⟨x,.inr rfl,h.symm⟩
    ·rintro ⟨y,hy | hy,hk⟩
     ·exact .inl ⟨y,hy,hk⟩
     ·exact .inr (by rw [← hk,hy])
theorem sumT_bd (L:List Lk) {n:Nat} (h:n≤L.length) (c:Int×Int):0≤getv (sumT L n) c∧getv (sumT L n) c≤5 * (n:Int):=by
 rw [(sumT_ok L n h).2.1 c]
 have h1:=sum_bd ((L.take n).filter fun x=>decide (key x=c))
 have h2:=List.length_filter_le (fun x=>decide (key x=c)) (L.take n)
 rw [List.length_take] at h2
 omega
def KL (a b:Int×Int):Prop:=a.1<b.1∨a.1=b.1∧a.2<b.2
theorem at_lt {L:List Lk} (hs:L.Pairwise Of2) {p q:Nat} (hpq:p<q) (hq:q<L.length):Of2 (at_ L p) (at_ L q):=by
 have h:=List.pairwise_iff_getElem.1 hs p q (by omega) hq hpq
 have e1:=at_get (L:=L) (i:=p) (by omega)
 have e2:=at_get (L:=L) (i:=q) hq
 rw [List.getElem?_eq_getElem (by omega),Option.some.injEq] at e1 e2
 rw [e1,e2] at h
 exact h
theorem key_lt {L:List Lk} (hs:L.Pairwise Of2) {p q:Nat} (hpq:p<q) (hq:q<L.length) (hd:Hd L q):KL (key (at_ L p)) (key (at_ L q)):=by
 unfold Hd at hd
 have h1:Of2 (at_ L (q - 1)) (at_ L q):=at_lt hs (by omega) hq
 have hd' : key (at_ L (q - 1))≠key (at_ L q):=hd.resolve_left (by omega)
 rw [Ne,key_eq] at hd'
 unfold KL key
 simp only
 unfold Of2 at h1
 rcases Nat.lt_or_ge p (q - 1) with h | h
 ·have h2:Of2 (at_ L p) (at_ L (q - 1)):=at_lt hs h (by omega)
  unfold Of2 at h2
  omega
 ·have:p=q - 1:=by omega
  subst this
  omega
theorem joF_key {l:List Bdy} {L:List Lk} {i:Nat} (hi:i<L.length):((joF l (owL L i)).1,(joF l (owL L i)).2.1)=key (at_ L i):=by
 have h:=(List.mem_filter.1 (own_hd hi)).2
 have h:key ((owL L i).headD lk0)=key (at_ L i):=by simpa using h
 rw [← h]
 rfl
theorem keys_jn {l:List Bdy} {L:List Lk} (hs:L.Pairwise Of2) : ∀ n,n≤L.length→(sumT L n).map (·.1)=(jnS (joF l) L n).map fun j=>(j.1,j.2.1)
 | 0,_=>by simp [sumT,jnS]
 | n+1,h=>by
  have hx:=at_get (L:=L) (i:=n) (by omega)
  have ih:=keys_jn (l:=l) hs n (by omega)
  have h3:=(sumT_ok L n (by omega)).2.2
  rw [sumT_succ hx,upd_keys,jnS_succ,List.map_append,← ih]
  cases hd:dc (Hd L n) with
  | true =>
   have hd:=dc_true hd
   rw [if_neg,if_pos rfl,List.map_cons,joF_key (by omega),List.map_nil]
   rw [h3]
   rintro ⟨y,hy,hk⟩
   obtain ⟨p,hp⟩:=List.mem_iff_getElem?.1 hy
   rw [List.getElem?_take] at hp
   split at hp
   ·rename_i hpn
    rw [at_get (by omega)] at hp
    have hp:=Option.some.inj hp
    have:=key_lt hs hpn (by omega) hd
    rw [hp,hk] at this
    unfold KL at this
    omega
   ·cases hp
  | false =>
   have hd:=dc_false hd
   rw [if_pos,if_neg (by simp),List.map_nil,List.append_nil]
   rw [h3]
   unfold Hd at hd
   rw [not_or] at hd
   refine ⟨at_ L (n - 1),?_,Classical.not_not.1 hd.2⟩
   refine List.mem_iff_getElem?.2 ⟨n - 1,?_⟩
   rw [List.getElem?_take,if_pos (by omega),at_get (by omega)]
theorem jnS_map (g:List Lk→Jt) (L:List Lk) : ∀ n,jnS g L n=((List.range n).filter fun i=>dc (Hd L i)).map fun i=>g (owL L i)
 | 0=>rfl
 | n+1=>by
  rw [jnS_succ,jnS_map g L n,List.range_succ,List.filter_append,List.map_append]
  cases hd:dc (Hd L n) <;> simp [hd]
theorem jnS_pw {l:List Bdy} {L:List Lk} (hs:L.Pairwise Of2):(jnS (joF l) L L.length).Pairwise fun a b=>KL (a.1,a.2.1) (b.1,b.2.1):=by
 rw [jnS_map,List.pairwise_map]
 have h1:((List.range L.length).filter fun i=>dc (Hd L i)).Pairwise (· < ·):=(List.pairwise_lt_range).filter _
 refine h1.imp_of_mem ?_
 intro a b ha hb hab
 obtain ⟨ha1,ha2⟩:=List.mem_filter.1 ha
 obtain ⟨hb1,hb2⟩:=List.mem_filter.1 hb
 rw [joF_key (List.mem_range.1 ha1),joF_key (List.mem_range.1 hb1)]
 exact key_lt hs hab (List.mem_range.1 hb1) (dc_true hb2)
theorem jnS_at {l:List Bdy} {L:List Lk} {j:Jt} (h:j∈jnS (joF l) L L.length) : ∃ p,p<L.length∧j=joF l (owL L p):=by
 rw [jnS_map] at h
 obtain ⟨p,hp,rfl⟩:=List.mem_map.1 h
 exact ⟨p,List.mem_range.1 (List.mem_filter.1 hp).1,rfl⟩
theorem sort_odd {a b:Int} (a1:1≤a) (a6:a≤6) (b1:1≤b) (b6:b≤6) (h:FitS a b):(mn b a=1∨mn b a=3∨mn b a=5)∧mn b a=(if b<a then b else a)∧(if b > a then b else a)=mn b a+1:=by
 unfold FitS at h
 unfold mn
 split <;> split <;> omega
theorem pw_prev {α:Type} {R:α→α→Prop} {l:List α} (h:l.Pairwise R) {i:Nat} {x:α} (hi:0<i) (hx:l[i]? = some x) : ∃ y,l[i - 1]? = some y∧R y x:=by
 obtain ⟨hl,e⟩:=List.getElem?_eq_some_iff.1 hx
 refine ⟨l[i - 1],by rw [List.getElem?_eq_getElem],?_⟩
 rw [← e]
 exact List.pairwise_iff_getElem.1 h (i - 1) i (by omega) hl (by omega)
theorem lnk_lt {l:List Bdy} (hB:BodOK l) {i:Nat} {x:Lk} (hi:0<i) (hx:(lnk l)[i]? = some x) : ∃ y,(lnk l)[i - 1]? = some y∧BefL y x:=by
 obtain ⟨y,hy,ho⟩:=pw_prev (lnk_pw l) hi hx
 refine ⟨y,hy,?_⟩
 obtain ⟨a,b,i1,j,k,o,h1⟩:=mem_lnk.1 (mem_at hx)
 obtain ⟨a', b', i1', j', k', o', h2⟩:=mem_lnk.1 (mem_at hy)
 have hne:y≠x:=fun e=>by rw [e] at ho; unfold Of2 at ho; omega
 have hm:=fun e1 e2 e3=>hne (meet_one hB h2 h1 e1 e2 e3)
 unfold Of2 at ho
 unfold BefL
 by_cases e1:y.1=x.1
 ·by_cases e2:y.2.1=x.2.1
  ·by_cases e3:y.2.2.1=x.2.2.1
   ·exact (hm e1 e2 e3).elim
   ·omega
  ·omega
 ·omega
theorem jnt_ax {l:List Bdy} (hB:BodOK l) {p:Nat} (hp:p<(lnk l).length):0≤(joF l (owL (lnk l) p)).2.2.2.1∧(joF l (owL (lnk l) p)).2.2.2.1≤3∧((joF l (owL (lnk l) p)).2.2.2.2=true→(joF l (owL (lnk l) p)).2.2.2.1≠0)∧0<(joF l (owL (lnk l) p)).2.2.1:=by
 obtain ⟨x,hx,o1,o2,o3,o4⟩:=own_ok hB p hp
 have hhd:(owL (lnk l) p).headD lk0=x:=by
  cases hL:owL (lnk l) p with
  | nil=>rw [hL] at hx; cases hx
  | cons a L=>rw [hL] at hx; simpa using hx
 have hax:0≤axO (knobsAt l x.1.toNat) (owL (lnk l) p)∧axO (knobsAt l x.1.toNat) (owL (lnk l) p)≤3:=by
  cases hL:owL (lnk l) p with
  | nil=>simp [axO]
  | cons a L =>
   rw [hL] at hx o4
   simp only [List.getElem?_cons_zero,Option.some.injEq] at hx
   subst hx
   unfold axO
   simp only
   split
   ·have ha:=o4 a (by simp)
    obtain ⟨k,hk⟩:=getI ha.2
    have e:kAt (knobsAt l a.1.toNat) a=k:=by unfold kAt; rw [hk]; rfl
    rw [e]
    have:=(o3 k (mem_at hk)).1
    omega
   ·omega
 have hpos:0<((owL (lnk l) p).map fun x=>strS x.2.2.2.2).sum:=by
  have key : ∀ L:List Lk,x∈L→0<strS x.2.2.2.2→0<(L.map fun x=>strS x.2.2.2.2).sum:=by
   intro L hm h0
   induction L with
   | nil=>cases hm
   | cons y L ih =>
    have h1:=sum_bd L
    have h2:=strS_bd y.2.2.2.2
    simp only [List.map_cons,List.sum_cons]
    rcases List.mem_cons.1 hm with e | hm
    ·rw [← e]; omega
    ·have:=ih hm; omega
  refine key _ (mem_at hx) ?_
  obtain ⟨a,b,i,j,k,o,q1,q2,q3,q4,q5,e⟩:=mem_lnk.1 (List.mem_filter.1 (mem_at hx)).1
  obtain ⟨y,hy,hyk⟩:=knobsAt_mem q3
  obtain ⟨z,hz,hzk⟩:=knobsAt_mem q4
  have k1:=(hB.ko y (mem_at hy) k (mem_at hyk)).2.1
  have k2:=(hB.ko z (mem_at hz) o (mem_at hzk)).2.1
  have:=(sort_odd k1.1 k1.2 k2.1 k2.2 q5.2.2).1
  rw [e]
  simp only
  unfold strS
  rcases this with h | h | h <;> rw [h] <;> decide
 unfold joF
 simp only
 rw [hhd]
 exact ⟨hax.1,hax.2,fun h=>(dc_true h).1,hpos⟩
theorem jnt_str {l:List Bdy} {p:Nat} (hp:p<(lnk l).length):getv (sumT (lnk l) (lnk l).length) (key (at_ (lnk l) p))=(joF l (owL (lnk l) p)).2.2.1:=by
 rw [(sumT_ok _ _ (Nat.le_refl _)).2.1,List.take_length]
 rfl
theorem stp_opp {d:Int} (h0:0≤d) (h5:d≤5) {c:Cl}:addC (addC c (stp d)) (stp (opp d))=c:=by
 obtain ⟨m,rfl⟩ : ∃ m:Nat,d=(m:Int):=⟨d.toNat,by omega⟩
 have hm:m<6:=by omega
 obtain ⟨x,y,z⟩:=c
 match m,hm with
 | 0,_=>simp [addC,stp,stpL,opp]; omega
 | 1,_=>simp [addC,stp,stpL,opp]; omega
 | 2,_=>simp [addC,stp,stpL,opp]; omega
 | 3,_=>simp [addC,stp,stpL,opp]; omega
 | 4,_=>simp [addC,stp,stpL,opp]; omega
 | 5,_=>simp [addC,stp,stpL,opp]; omega
theorem stp_bdT (d:Int):Bd 1000000 (stp d):=by
 unfold stp
 generalize d.toNat=m
 match m with
 | 0=>unfold Bd Nr; decide
 | 1=>unfold Bd Nr; decide
 | 2=>unfold Bd Nr; decide
 | 3=>unfold Bd Nr; decide
 | 4=>unfold Bd Nr; decide
 | 5=>unfold Bd Nr; decide
 | n+6=>simp only [stpL,List.getD_cons_succ,List.getD_nil]; unfold Bd Nr; decide
set_option maxRecDepth 100000
def kp7:FuncId→Nat→Option (List Tmp):=slotsOf [(7,0,[0,3,5,6,8,10,51,52,53,3000010]),(7,2,[5,8,10,218,219,220,3000010])]
noncomputable def cf7:Cfg:={ cfgG Tryz.prog glX moZ poP (rtP fN) (inN []) kp7 with clean:=fun g=>true }
noncomputable def sh7a (l:List Kd) (m:List Bk) (u:Nat) (L:List Lk) (s:Nat) (js:List Jt) (ms:List (V×V)) (t i:Nat):St:=⟨mkT [(0,V.lst 3 (kdl l)),(3,V.ptr (Id.p 0) 0 0),(5,bv true),(6,V.lst u (lkl L)),(8,V.lst s (jtl js)),(10,V.mp (Id.p 1)),(51,V.lst u (lkl L)),(52,iv (t:Int)),(53,iv (i:Int))],⟨[(0,O.rows 1 false [[V.lst 6 (bkl m)]]),(1,O.mp ms)],2,[]⟩⟩
noncomputable def sh7b (s:Nat) (js:List Jt) (ms:List (V×V)) (t i:Nat):St:=⟨mkT [(5,bv true),(8,V.lst s (jtl js)),(10,V.mp (Id.p 0)),(218,V.lst s (jtl js)),(219,iv (t:Int)),(220,iv (i:Int))],⟨[(0,O.mp ms)],1,[]⟩⟩
set_option maxRecDepth 10000
theorem hc7:cf7.ok Tryz.prog:=by
 have h:(cfgG Tryz.prog glX moZ poP (rtP fN) (inN []) kp7).ok Tryz.prog:=cfgG_ok (rtP_ok fN)
 exact ⟨h.1,h.2⟩
theorem less44 {a b:Lk} {R:V→Prop} (hb:BefL a b) (h:R (bv true)):K0G Tryz.prog glX 44 [.agg (lkr a),.agg (lkr b)] R:=by
  refine K0_by hmX hc7 3000 Tryz.func44 (p:=ifB (a.1 != b.1) (R (bv (decide (a.1<b.1)))) (ifB (decide (a.2.1<b.2.1)) (R (bv true)) (ifB (a.2.1==b.2.1) (R (bv (decide (a.2.2.1<b.2.2.1)))) (R (bv false))))) (by kernel_rfl) ?_
  unfold BefL at hb
  refine ifB_mk (fun c=>?_) (fun c=>?_)
  · rw [decide_eq_true (by have : a.1 ≠ b.1 := by simpa using c
                           omega)]
    exact h
  · have e:a.1=b.1:=by simpa using c
    refine ifB_mk (fun d=>h) (fun d=>?_)
    have d:=of_decide_eq_false d
    refine ifB_t (by simp; omega) ?_
    rw [decide_eq_true (by omega)]
    exact h
theorem plus43T {a b:Cl} {R:V→Prop} (ha:Bd 1000000 a) (hb:Bd 1000000 b) (h:R (.agg (clr (addC a b)))):K0G Tryz.prog glX 43 [.agg (clr a),.agg (clr b)] R:=by
 refine K0_by hmX hc7 3000 Tryz.func43 (p:=R (V.agg [iv (IntKind.i64.wrap (a.1+b.1)),iv (IntKind.i64.wrap (a.2.1+b.2.1)),iv (IntKind.i64.wrap (a.2.2+b.2.2))])) (by kernel_rfl) ?_
 unfold Bd Nr at ha hb
 rw [wr (n:=a.1+b.1) (by omega) (by omega),wr (n:=a.2.1+b.2.1) (by omega) (by omega),wr (n:=a.2.2+b.2.2) (by omega) (by omega)]
 exact h
theorem know24 {l:List Kd} {m:List Bk} {b:Bk} {R:V→Prop} (hl : ∀ q∈l,KdR q) (hll:(l.length:Int)≤1000000) (hr:BkR b) (hA:AskM l m) (hb:b∈m) (h:R (.tup [.lst 5 (knl (bod l b).2),iv 0])):K0G Tryz.prog glX 24 [.lst 3 (kdl l),.agg (bkr b)] R:=by
 have hB:=hA.all b hb
 obtain ⟨hP,_⟩:=putK hA.kinds hl hB hr
 refine K0_by hmX hc7 3000 Tryz.func24 (p:=K0G Tryz.prog glX 57 [V.lst 3 (kdl l),V.agg [iv b.1,iv b.2.1.1,iv b.2.1.2.1,iv b.2.1.2.2,V.raw (Value.int IntKind.u8 b.2.2.1),V.raw (Value.int IntKind.u8 b.2.2.2)]] fun v=>onTup v fun vs=>onCons vs fun u r=>onAgg u fun cs=>onCons cs fun u r_1=>onLst u fun s es=>onCons r_1 fun u r_2=>onLst u fun s es=>onNil r_2 (onCons r fun u r=>onIntK IntKind.i64 u fun n=>onNil r (R (V.tup [V.lst s es,iv n])))) (by kernel_rfl) ?_
 refine body57 hl hll hr (fun e he hne=>?_) (fun h0 q n hq _ _=>?_)
 ·rcases he with he | he | he | he
  ·have:=hA.kinds.1; omega
  ·exact (he.2.1 hA.kinds).elim
  ·exact (he.2.1 hB).elim
  ·exact (hne he.2.2).elim
 ·have e1:q=kOf l b:=by have:=hq.at_; rw [hP.at_] at this; exact (Option.some.inj this).symm
  have e2:n=b.2.2.1.toNat:=by have:=hq.turn; omega
  subst e1; subst e2
  exact onTup_tup (onCons_cons (onAgg_agg (onCons_cons (onLst_lst (onCons_cons (onLst_lst (onNil_nil (onCons_cons (onIntK_iv (onNil_nil h))))))))))
set_option maxHeartbeats 4000000 in
theorem law7 {l:List Kd} {m:List Bk} {R:V→Prop} (hlk : ∀ q∈l, ∀ x∈q.2.1,KnR x) (hr : ∀ b∈m,BkR b) (h:R (bv true)):K0G Tryz.prog glX 7 [.lst 3 (kdl l),.agg [.lst 6 (bkl m)]] R:=by
 refine K0_by hmX hc7 3000 Tryz.func7 (p:=K0G Tryz.prog glX 37 [] fun v=>onBool v fun b=>K0G Tryz.prog glX 12 [V.lst 3 (kdl l),V.agg [V.lst 6 (bkl m)]] fun v=>onBool v fun b_1=>ifB b_1 (R (bv b)) (K0G Tryz.prog glX 29 [V.lst 3 (kdl l),V.agg [V.lst 6 (bkl m)]] fun v=>onTup v fun vs=>onCons vs fun u r=>onLst u fun s es=>onCons r fun u r=>onIntK IntKind.i64 u fun n=>onNil r (K0G Tryz.prog glX 32 [V.lst 3 (kdl l),V.agg [V.lst 6 (bkl m)]] fun v=>onTup v fun vs=>onCons vs fun u r=>onLst u fun s_1 es_1=>onCons r fun u r=>onIntK IntKind.i64 u fun n_1=>onNil r (ifB (n != (0:Int)) (ifB b (R (bv (n==n_1))) (R (bv false))) (ifB (n_1 != (0:Int)) (ifB b (R (bv (n==n_1))) (R (bv false))) (La 0 [(0:Tmp),(3:Tmp),(5:Tmp),(6:Tmp),(8:Tmp),(10:Tmp),(51:Tmp),(52:Tmp),(53:Tmp),(3000010:Tmp)] (WY Tryz.prog cf7 2989 (Env.mk (Bs.mk 0 []) 0 none 300 7 0) (cdAt [1,1,1,1,1,1,1,0,1,0,0] (bodyOf Tryz.f7))) (Qblk 0 (Qthen (WY Tryz.prog cf7 2992 (Env.mk (Bs.mk 0 []) 0 none 300 7 0) (cdAt [1,1,1,1,1,1,1,1] (bodyOf Tryz.f7)) (QendX Tryz.prog Tryz.f7 fun v h=>R (frzW h v))) (QendX Tryz.prog Tryz.f7 fun v h=>R (frzW h v)))) (St.mk (mkT [(0,V.lst 3 (kdl l)),(3,V.ptr (Id.p 0) 0 0),(5,bv b),(6,V.lst s es),(8,V.lst s_1 es_1),(10,V.mp (Id.p 1)),(51,V.lst s es),(52,iv (↑es.length:Int)),(53,iv (0:Int))]) (Hp.mk [(0,O.rows 1 false [[V.lst 6 (bkl m)]]),(1,O.mp [])] 2 [])))))))) (by kernel_rfl) ?_
 refine K0G.mono (show K0G Tryz.prog glX 37 [] fun v=>v=bv true from t37) (fun v hv=>?_)
 subst hv
 refine onBool_bv (great12 (onBool_bv (ifB_mk (fun _=>h) (fun c1=>?_))))
 obtain ⟨hl20,hl⟩:=greatK (dc_false c1) hlk
 have hm45:=great45 (dc_false c1)
 have hll:(l.length:Int)≤1000000:=by omega
 have hml:m.length≤1000000:=by omega
 have main : ∀ (hA:OkM l m) (L:List Lk) (js:List Jt) (u s:Nat),L=lnk (bods l m)→js=jnt (bods l m)→(u=5∨L=[])→(s=5∨js=[]) → ∀ t,t=(lkl L).length→La 0 [(0:Tmp),(3:Tmp),(5:Tmp),(6:Tmp),(8:Tmp),(10:Tmp),(51:Tmp),(52:Tmp),(53:Tmp),(3000010:Tmp)] (WY Tryz.prog cf7 2989 (Env.mk (Bs.mk 0 []) 0 none 300 7 0) (cdAt [1,1,1,1,1,1,1,0,1,0,0] (bodyOf Tryz.f7))) (Qblk 0 (Qthen (WY Tryz.prog cf7 2992 (Env.mk (Bs.mk 0 []) 0 none 300 7 0) (cdAt [1,1,1,1,1,1,1,1] (bodyOf Tryz.f7)) (QendX Tryz.prog Tryz.f7 fun v h=>R (frzW h v))) (QendX Tryz.prog Tryz.f7 fun v h=>R (frzW h v)))) (sh7a l m u L s js [] t 0):=by
  intro hA L js u s hL hjs hu hs t ht
  rw [lkl_length] at ht
  have hB:=bod_ok hl hr hA.ask
  have hbl:(bods l m).length=m.length:=bods_length l m
  have hfew:L.length≤1000000000:=by rw [hL]; exact lnk_few hB (bods60 hl hr hA.ask)
  refine La.of (σ:=Nat) (fun i=>sh7a l m u L s js ((sumT L i).map (entG kp2)) t i) (fun i=>i≤t) (fun i=>t - i) 0 (by kernel_rfl) (by omega) ?_
  rintro i g1 J hJ
  obtain ⟨ms,hms⟩ : ∃ ms,ms=(sumT L i).map (entG kp2):=⟨_,rfl⟩
  rw [← hms]
  refine see (p:=ifB (decide ((↑i:Int)<(↑t:Int))) (need (u=5) (onSome (lkl L)[i]? fun row=>onCons (List.drop 0 row) fun u_1 r=>onIntK IntKind.i64 u_1 fun n=>onCons r fun u_2 r=>onIntK IntKind.i64 u_2 fun n_1=>onCons r fun u_3 r=>onIntK IntKind.i64 u_3 fun n_2=>onCons r fun u_4 r=>onIntK IntKind.i64 u_4 fun n_3=>onCons r fun u_5 r=>onIntK IntKind.u8 u_5 fun n_4=>ifB (decide (n<(0:Int))) (R (bv false)) (ifB (decide (n ≥ n_1)) (R (bv false)) (ifB (decide (n_1 ≥ (↑(bkl m).length:Int))) (R (bv false)) (ifB (decide ((↑i:Int) > (0:Int))) (onNat (IntKind.i64.wrap ((↑i:Int) - (1:Int))) fun m_1=>need (u=5) (onSome (lkl L)[m_1]? fun row=>onCons (List.drop 0 row) fun u_6 r=>onIntK IntKind.i64 u_6 fun n_5=>onCons r fun u_7 r=>onIntK IntKind.i64 u_7 fun n_6=>onCons r fun u_8 r=>onIntK IntKind.i64 u_8 fun n_7=>onCons r fun u_9 r=>onIntK IntKind.i64 u_9 fun n_8=>onCons r fun u_10 r=>onIntK IntKind.u8 u_10 fun n_9=>K0G Tryz.prog glX 44 [V.agg [iv n_5,iv n_6,iv n_7,iv n_8,V.raw (Value.int IntKind.u8 n_9)],V.agg [iv n,iv n_1,iv n_2,iv n_3,V.raw (Value.int IntKind.u8 n_4)]] fun v=>onBool v fun b=>ifB (!b) (R (bv false)) (onNat n fun m_2=>onSome (bkl m)[m_2]? fun row=>onCons (List.drop 0 row) fun u_11 r=>onIntK IntKind.i64 u_11 fun n_10=>onCons r fun u_12 r=>onIntK IntKind.i64 u_12 fun n_11=>onCons r fun u_13 r=>onIntK IntKind.i64 u_13 fun n_12=>onCons r fun u_14 r=>onIntK IntKind.i64 u_14 fun n_13=>onCons r fun u_15 r=>onIntK IntKind.u8 u_15 fun n_14=>onCons r fun u_16 r=>onIntK IntKind.u8 u_16 fun n_15=>K0G Tryz.prog glX 24 [V.lst 3 (kdl l),V.agg [iv n_10,iv n_11,iv n_12,iv n_13,V.raw (Value.int IntKind.u8 n_14),V.raw (Value.int IntKind.u8 n_15)]] fun v=>onTup v fun vs=>onCons vs fun u_17 r=>onLst u_17 fun s_1 es=>onCons r fun u_18 r=>onIntK IntKind.i64 u_18 fun n_16=>onNil r (onNat n_1 fun m_3=>onSome (bkl m)[m_3]? fun row=>onCons (List.drop 0 row) fun u_19 r=>onIntK IntKind.i64 u_19 fun n_17=>onCons r fun u_20 r=>onIntK IntKind.i64 u_20 fun n_18=>onCons r fun u_21 r=>onIntK IntKind.i64 u_21 fun n_19=>onCons r fun u_22 r=>onIntK IntKind.i64 u_22 fun n_20=>onCons r fun u_23 r=>onIntK IntKind.u8 u_23 fun n_21=>onCons r fun u_24 r=>onIntK IntKind.u8 u_24 fun n_22=>K0G Tryz.prog glX 24 [V.lst 3 (kdl l),V.agg [iv n_17,iv n_18,iv n_19,iv n_20,V.raw (Value.int IntKind.u8 n_21),V.raw (Value.int IntKind.u8 n_22)]] fun v=>onTup v fun vs=>onCons vs fun u_25 r=>onLst u_25 fun s_2 es_1=>onCons r fun u_26 r=>onIntK IntKind.i64 u_26 fun n_23=>onNil r (ifB (n_16 != (0:Int)) (R (bv false)) (ifB (n_23 != (0:Int)) (R (bv false)) (ifB (decide (n_2<(0:Int))) (R (bv false)) (ifB (decide (n_2 ≥ (↑es.length:Int))) (R (bv false)) (ifB (decide (n_3<(0:Int))) (R (bv false)) (ifB (decide (n_3 ≥ (↑es_1.length:Int))) (R (bv false)) (onNat n_2 fun m_4=>need (s_1=5) (onSome es[m_4]? fun row=>onCons (List.drop 0 row) fun u_27 r=>onIntK IntKind.i64 u_27 fun n_24=>onCons r fun u_28 r=>onIntK IntKind.i64 u_28 fun n_25=>onCons r fun u_29 r=>onIntK IntKind.i64 u_29 fun n_26=>onCons r fun u_30 r=>onIntK IntKind.u8 u_30 fun n_27=>onCons r fun u_31 r=>onIntK IntKind.u8 u_31 fun n_28=>onNat n_3 fun m_5=>need (s_2=5) (onSome es_1[m_5]? fun row=>onCons (List.drop 0 row) fun u_32 r=>onIntK IntKind.i64 u_32 fun n_29=>onCons r fun u_33 r=>onIntK IntKind.i64 u_33 fun n_30=>onCons r fun u_34 r=>onIntK IntKind.i64 u_34 fun n_31=>onCons r fun u_35 r=>onIntK IntKind.u8 u_35 fun n_32=>onCons r fun u_36 r=>onIntK IntKind.u8 u_36 fun n_33=>K0G Tryz.prog glX 45 [iv (IntKind.i64.wrap n_27)] fun v=>onAgg v fun cs=>onCons cs fun u_37 r=>onIntK IntKind.i64 u_37 fun n_34=>onCons r fun u_38 r=>onIntK IntKind.i64 u_38 fun n_35=>onCons r fun u_39 r=>onIntK IntKind.i64 u_39 fun n_36=>onNil r (K0G Tryz.prog glX 43 [V.agg [iv n_24,iv n_25,iv n_26],V.agg [iv n_34,iv n_35,iv n_36]] fun v=>onAgg v fun cs=>onCons cs fun u_40 r=>onIntK IntKind.i64 u_40 fun n_37=>onCons r fun u_41 r=>onIntK IntKind.i64 u_41 fun n_38=>onCons r fun u_42 r=>onIntK IntKind.i64 u_42 fun n_39=>onNil r (ifB (!(fun b=>n_37==n_29&&b) ((fun b=>n_38==n_30&&b) ((fun b=>n_39==n_31&&b) true))) (R (bv false)) (K0G Tryz.prog glX 45 [iv (IntKind.i64.wrap n_32)] fun v=>onAgg v fun cs=>onCons cs fun u_43 r=>onIntK IntKind.i64 u_43 fun n_40=>onCons r fun u_44 r=>onIntK IntKind.i64 u_44 fun n_41=>onCons r fun u_45 r=>onIntK IntKind.i64 u_45 fun n_42=>onNil r (K0G Tryz.prog glX 43 [V.agg [iv n_29,iv n_30,iv n_31],V.agg [iv n_40,iv n_41,iv n_42]] fun v=>onAgg v fun cs=>onCons cs fun u_46 r=>onIntK IntKind.i64 u_46 fun n_43=>onCons r fun u_47 r=>onIntK IntKind.i64 u_47 fun n_44=>onCons r fun u_48 r=>onIntK IntKind.i64 u_48 fun n_45=>onNil r (ifB (!(fun b=>n_43==n_24&&b) ((fun b=>n_44==n_25&&b) ((fun b=>n_45==n_26&&b) true))) (R (bv false)) (ifB ((if n_33<n_28 then n_33 else n_28) != n_4) (R (bv false)) (ifB ((if n_33 > n_28 then n_33 else n_28) != IntKind.u8.wrap (n_4+(1:Int))) (R (bv false)) (ifB (n_4.tmod (2:Int) != (1:Int)) (R (bv false)) (onFind (findK Tryz.prog 100 (V.agg [iv n,iv n_1]) ms 0) (fun i_1 kv vv=>onIntK IntKind.i64 vv fun n_46=>onNat (IntKind.u8.wrap (n_4.tdiv (2:Int))) fun m_6=>need (m_6<3) (onSome [[iv (2:Int)],[iv (3:Int)],[iv (5:Int)]][0+m_6]? fun row=>onSome row[0]? fun v=>onIntK IntKind.i64 v fun n_47=>onFind (findK Tryz.prog 100 (V.agg [iv n,iv n_1]) ms 0) (fun i_2 kv vv=>guardB (sameC kv (V.agg [iv n,iv n_1])) (onIntK IntKind.i64 vv fun n_48=>onFind (findK Tryz.prog 100 (V.agg [iv n,iv n_1]) (ms.set i_2 (V.agg [iv n,iv n_1],iv n_48)) 0) (fun i_3 kv vv=>onIntK IntKind.i64 vv fun n_49=>need (n_46=n_49) (onSome (ms.set i_2 (V.agg [iv n,iv n_1],iv n_48))[i_2]? fun kv=>guardB (((ms.set i_2 (V.agg [iv n,iv n_1],iv n_48)).set i_2 (kv.1,iv (IntKind.i64.wrap (n_46+n_47)))).all closedE) (J (St.mk (mkT [(0,V.lst 3 (kdl l)),(3,V.ptr (Id.p 0) 0 0),(5,bv true),(6,V.lst u (lkl L)),(8,V.lst s (jtl js)),(10,V.mp (Id.p 1)),(51,V.lst u (lkl L)),(52,iv (↑t:Int)),(53,iv (IntKind.i64.wrap ((↑i:Int)+(1:Int))))]) (Hp.mk [(0,O.rows 1 false [[V.lst 6 (bkl m)]]),(1,O.mp ((ms.set i_2 (V.agg [iv n,iv n_1],iv n_48)).set i_2 (kv.1,iv (IntKind.i64.wrap (n_46+n_47)))))] 2 []))))) (need (n_46=(0:Int)) (onSome (ms.set i_2 (V.agg [iv n,iv n_1],iv n_48))[i_2]? fun kv=>guardB (((ms.set i_2 (V.agg [iv n,iv n_1],iv n_48)).set i_2 (kv.1,iv (IntKind.i64.wrap (n_46+n_47)))).all closedE) (J (St.mk (mkT [(0,V.lst 3 (kdl l)),(3,V.ptr (Id.p 0) 0 0),(5,bv true),(6,V.lst u (lkl L)),(8,V.lst s (jtl js)),(10,V.mp (Id.p 1)),(51,V.lst u (lkl L)),(52,iv (↑t:Int)),(53,iv (IntKind.i64.wrap ((↑i:Int)+(1:Int))))]) (Hp.mk [(0,O.rows 1 false [[V.lst 6 (bkl m)]]),(1,O.mp ((ms.set i_2 (V.agg [iv n,iv n_1],iv n_48)).set i_2 (kv.1,iv (IntKind.i64.wrap (n_46+n_47)))))] 2 []))))))) (onFind (findK Tryz.prog 100 (V.agg [iv n,iv n_1]) (ms++[(V.agg [iv n,iv n_1],iv (0:Int))]) 0) (fun i_2 kv vv=>onIntK IntKind.i64 vv fun n_48=>need (n_46=n_48) (onSome (ms++[(V.agg [iv n,iv n_1],iv (0:Int))])[ms.length]? fun kv=>guardB (((ms++[(V.agg [iv n,iv n_1],iv (0:Int))]).set ms.length (kv.1,iv (IntKind.i64.wrap (n_46+n_47)))).all closedE) (J (St.mk (mkT [(0,V.lst 3 (kdl l)),(3,V.ptr (Id.p 0) 0 0),(5,bv true),(6,V.lst u (lkl L)),(8,V.lst s (jtl js)),(10,V.mp (Id.p 1)),(51,V.lst u (lkl L)),(52,iv (↑t:Int)),(53,iv (IntKind.i64.wrap ((↑i:Int)+(1:Int))))]) (Hp.mk [(0,O.rows 1 false [[V.lst 6 (bkl m)]]),(1,O.mp ((ms++[(V.agg [iv n,iv n_1],iv (0:Int))]).set ms.length (kv.1,iv (IntKind.i64.wrap (n_46+n_47)))))] 2 []))))) (need (n_46=(0:Int)) (onSome (ms++[(V.agg [iv n,iv n_1],iv (0:Int))])[ms.length]? fun kv=>guardB (((ms++[(V.agg [iv n,iv n_1],iv (0:Int))]).set ms.length (kv.1,iv (IntKind.i64.wrap (n_46+n_47)))).all closedE) (J (St.mk (mkT [(0,V.lst 3 (kdl l)),(3,V.ptr (Id.p 0) 0 0),(5,bv true),(6,V.lst u (lkl L)),(8,V.lst s (jtl js)),(10,V.mp (Id.p 1)),(51,V.lst u (lkl L)),(52,iv (↑t:Int)),(53,iv (IntKind.i64.wrap ((↑i:Int)+(1:Int))))]) (Hp.mk [(0,O.rows 1 false [[V.lst 6 (bkl m)]]),(1,O.mp ((ms++[(V.agg [iv n,iv n_1],iv (0:Int))]).set ms.length (kv.1,iv (IntKind.i64.wrap (n_46+n_47)))))] 2 [])))))))) (onNat (IntKind.u8.wrap (n_4.tdiv (2:Int))) fun m_6=>need (m_6<3) (onSome [[iv (2:Int)],[iv (3:Int)],[iv (5:Int)]][0+m_6]? fun row=>onSome row[0]? fun v=>onIntK IntKind.i64 v fun n_46=>onFind (findK Tryz.prog 100 (V.agg [iv n,iv n_1]) ms 0) (fun i_1 kv vv=>guardB (sameC kv (V.agg [iv n,iv n_1])) (onIntK IntKind.i64 vv fun n_47=>onFind (findK Tryz.prog 100 (V.agg [iv n,iv n_1]) (ms.set i_1 (V.agg [iv n,iv n_1],iv n_47)) 0) (fun i_2 kv vv=>onIntK IntKind.i64 vv fun n_48=>need ((0:Int)=n_48) (onSome (ms.set i_1 (V.agg [iv n,iv n_1],iv n_47))[i_1]? fun kv=>guardB (((ms.set i_1 (V.agg [iv n,iv n_1],iv n_47)).set i_1 (kv.1,iv (IntKind.i64.wrap ((0:Int)+n_46)))).all closedE) (J (St.mk (mkT [(0,V.lst 3 (kdl l)),(3,V.ptr (Id.p 0) 0 0),(5,bv true),(6,V.lst u (lkl L)),(8,V.lst s (jtl js)),(10,V.mp (Id.p 1)),(51,V.lst u (lkl L)),(52,iv (↑t:Int)),(53,iv (IntKind.i64.wrap ((↑i:Int)+(1:Int))))]) (Hp.mk [(0,O.rows 1 false [[V.lst 6 (bkl m)]]),(1,O.mp ((ms.set i_1 (V.agg [iv n,iv n_1],iv n_47)).set i_1 (kv.1,iv (IntKind.i64.wrap ((0:Int)+n_46)))))] 2 []))))) (onSome (ms.set i_1 (V.agg [iv n,iv n_1],iv n_47))[i_1]? fun kv=>guardB (((ms.set i_1 (V.agg [iv n,iv n_1],iv n_47)).set i_1 (kv.1,iv (IntKind.i64.wrap ((0:Int)+n_46)))).all closedE) (J (St.mk (mkT [(0,V.lst 3 (kdl l)),(3,V.ptr (Id.p 0) 0 0),(5,bv true),(6,V.lst u (lkl L)),(8,V.lst s (jtl js)),(10,V.mp (Id.p 1)),(51,V.lst u (lkl L)),(52,iv (↑t:Int)),(53,iv (IntKind.i64.wrap ((↑i:Int)+(1:Int))))]) (Hp.mk [(0,O.rows 1 false [[V.lst 6 (bkl m)]]),(1,O.mp ((ms.set i_1 (V.agg [iv n,iv n_1],iv n_47)).set i_1 (kv.1,iv (IntKind.i64.wrap ((0:Int)+n_46)))))] 2 [])))))) (onFind (findK Tryz.prog 100 (V.agg [iv n,iv n_1]) (ms++[(V.agg [iv n,iv n_1],iv (0:Int))]) 0) (fun i_1 kv vv=>onIntK IntKind.i64 vv fun n_47=>need ((0:Int)=n_47) (onSome (ms++[(V.agg [iv n,iv n_1],iv (0:Int))])[ms.length]? fun kv=>guardB (((ms++[(V.agg [iv n,iv n_1],iv (0:Int))]).set ms.length (kv.1,iv (IntKind.i64.wrap ((0:Int)+n_46)))).all closedE) (J (St.mk (mkT [(0,V.lst 3 (kdl l)),(3,V.ptr (Id.p 0) 0 0),(5,bv true),(6,V.lst u (lkl L)),(8,V.lst s (jtl js)),(10,V.mp (Id.p 1)),(51,V.lst u (lkl L)),(52,iv (↑t:Int)),(53,iv (IntKind.i64.wrap ((↑i:Int)+(1:Int))))]) (Hp.mk [(0,O.rows 1 false [[V.lst 6 (bkl m)]]),(1,O.mp ((ms++[(V.agg [iv n,iv n_1],iv (0:Int))]).set ms.length (kv.1,iv (IntKind.i64.wrap ((0:Int)+n_46)))))] 2 []))))) (onSome (ms++[(V.agg [iv n,iv n_1],iv (0:Int))])[ms.length]? fun kv=>guardB (((ms++[(V.agg [iv n,iv n_1],iv (0:Int))]).set ms.length (kv.1,iv (IntKind.i64.wrap ((0:Int)+n_46)))).all closedE) (J (St.mk (mkT [(0,V.lst 3 (kdl l)),(3,V.ptr (Id.p 0) 0 0),(5,bv true),(6,V.lst u (lkl L)),(8,V.lst s (jtl js)),(10,V.mp (Id.p 1)),(51,V.lst u (lkl L)),(52,iv (↑t:Int)),(53,iv (IntKind.i64.wrap ((↑i:Int)+(1:Int))))]) (Hp.mk [(0,O.rows 1 false [[V.lst 6 (bkl m)]]),(1,O.mp ((ms++[(V.agg [iv n,iv n_1],iv (0:Int))]).set ms.length (kv.1,iv (IntKind.i64.wrap ((0:Int)+n_46)))))] 2 []))))))))))))))))))))))))))))) (onNat n fun m_1=>onSome (bkl m)[m_1]? fun row=>onCons (List.drop 0 row) fun u_6 r=>onIntK IntKind.i64 u_6 fun n_5=>onCons r fun u_7 r=>onIntK IntKind.i64 u_7 fun n_6=>onCons r fun u_8 r=>onIntK IntKind.i64 u_8 fun n_7=>onCons r fun u_9 r=>onIntK IntKind.i64 u_9 fun n_8=>onCons r fun u_10 r=>onIntK IntKind.u8 u_10 fun n_9=>onCons r fun u_11 r=>onIntK IntKind.u8 u_11 fun n_10=>K0G Tryz.prog glX 24 [V.lst 3 (kdl l),V.agg [iv n_5,iv n_6,iv n_7,iv n_8,V.raw (Value.int IntKind.u8 n_9),V.raw (Value.int IntKind.u8 n_10)]] fun v=>onTup v fun vs=>onCons vs fun u_12 r=>onLst u_12 fun s_1 es=>onCons r fun u_13 r=>onIntK IntKind.i64 u_13 fun n_11=>onNil r (onNat n_1 fun m_2=>onSome (bkl m)[m_2]? fun row=>onCons (List.drop 0 row) fun u_14 r=>onIntK IntKind.i64 u_14 fun n_12=>onCons r fun u_15 r=>onIntK IntKind.i64 u_15 fun n_13=>onCons r fun u_16 r=>onIntK IntKind.i64 u_16 fun n_14=>onCons r fun u_17 r=>onIntK IntKind.i64 u_17 fun n_15=>onCons r fun u_18 r=>onIntK IntKind.u8 u_18 fun n_16=>onCons r fun u_19 r=>onIntK IntKind.u8 u_19 fun n_17=>K0G Tryz.prog glX 24 [V.lst 3 (kdl l),V.agg [iv n_12,iv n_13,iv n_14,iv n_15,V.raw (Value.int IntKind.u8 n_16),V.raw (Value.int IntKind.u8 n_17)]] fun v=>onTup v fun vs=>onCons vs fun u_20 r=>onLst u_20 fun s_2 es_1=>onCons r fun u_21 r=>onIntK IntKind.i64 u_21 fun n_18=>onNil r (ifB (n_11 != (0:Int)) (R (bv false)) (ifB (n_18 != (0:Int)) (R (bv false)) (ifB (decide (n_2<(0:Int))) (R (bv false)) (ifB (decide (n_2 ≥ (↑es.length:Int))) (R (bv false)) (ifB (decide (n_3<(0:Int))) (R (bv false)) (ifB (decide (n_3 ≥ (↑es_1.length:Int))) (R (bv false)) (onNat n_2 fun m_3=>need (s_1=5) (onSome es[m_3]? fun row=>onCons (List.drop 0 row) fun u_22 r=>onIntK IntKind.i64 u_22 fun n_19=>onCons r fun u_23 r=>onIntK IntKind.i64 u_23 fun n_20=>onCons r fun u_24 r=>onIntK IntKind.i64 u_24 fun n_21=>onCons r fun u_25 r=>onIntK IntKind.u8 u_25 fun n_22=>onCons r fun u_26 r=>onIntK IntKind.u8 u_26 fun n_23=>onNat n_3 fun m_4=>need (s_2=5) (onSome es_1[m_4]? fun row=>onCons (List.drop 0 row) fun u_27 r=>onIntK IntKind.i64 u_27 fun n_24=>onCons r fun u_28 r=>onIntK IntKind.i64 u_28 fun n_25=>onCons r fun u_29 r=>onIntK IntKind.i64 u_29 fun n_26=>onCons r fun u_30 r=>onIntK IntKind.u8 u_30 fun n_27=>onCons r fun u_31 r=>onIntK IntKind.u8 u_31 fun n_28=>K0G Tryz.prog glX 45 [iv (IntKind.i64.wrap n_22)] fun v=>onAgg v fun cs=>onCons cs fun u_32 r=>onIntK IntKind.i64 u_32 fun n_29=>onCons r fun u_33 r=>onIntK IntKind.i64 u_33 fun n_30=>onCons r fun u_34 r=>onIntK IntKind.i64 u_34 fun n_31=>onNil r (K0G Tryz.prog glX 43 [V.agg [iv n_19,iv n_20,iv n_21],V.agg [iv n_29,iv n_30,iv n_31]] fun v=>onAgg v fun cs=>onCons cs fun u_35 r=>onIntK IntKind.i64 u_35 fun n_32=>onCons r fun u_36 r=>onIntK IntKind.i64 u_36 fun n_33=>onCons r fun u_37 r=>onIntK IntKind.i64 u_37 fun n_34=>onNil r (ifB (!(fun b=>n_32==n_24&&b) ((fun b=>n_33==n_25&&b) ((fun b=>n_34==n_26&&b) true))) (R (bv false)) (K0G Tryz.prog glX 45 [iv (IntKind.i64.wrap n_27)] fun v=>onAgg v fun cs=>onCons cs fun u_38 r=>onIntK IntKind.i64 u_38 fun n_35=>onCons r fun u_39 r=>onIntK IntKind.i64 u_39 fun n_36=>onCons r fun u_40 r=>onIntK IntKind.i64 u_40 fun n_37=>onNil r (K0G Tryz.prog glX 43 [V.agg [iv n_24,iv n_25,iv n_26],V.agg [iv n_35,iv n_36,iv n_37]] fun v=>onAgg v fun cs=>onCons cs fun u_41 r=>onIntK IntKind.i64 u_41 fun n_38=>onCons r fun u_42 r=>onIntK IntKind.i64 u_42 fun n_39=>onCons r fun u_43 r=>onIntK IntKind.i64 u_43 fun n_40=>onNil r (ifB (!(fun b=>n_38==n_19&&b) ((fun b=>n_39==n_20&&b) ((fun b=>n_40==n_21&&b) true))) (R (bv false)) (ifB ((if n_28<n_23 then n_28 else n_23) != n_4) (R (bv false)) (ifB ((if n_28 > n_23 then n_28 else n_23) != IntKind.u8.wrap (n_4+(1:Int))) (R (bv false)) (ifB (n_4.tmod (2:Int) != (1:Int)) (R (bv false)) (onFind (findK Tryz.prog 100 (V.agg [iv n,iv n_1]) ms 0) (fun i_1 kv vv=>onIntK IntKind.i64 vv fun n_41=>onNat (IntKind.u8.wrap (n_4.tdiv (2:Int))) fun m_5=>need (m_5<3) (onSome [[iv (2:Int)],[iv (3:Int)],[iv (5:Int)]][0+m_5]? fun row=>onSome row[0]? fun v=>onIntK IntKind.i64 v fun n_42=>onFind (findK Tryz.prog 100 (V.agg [iv n,iv n_1]) ms 0) (fun i_2 kv vv=>guardB (sameC kv (V.agg [iv n,iv n_1])) (onIntK IntKind.i64 vv fun n_43=>onFind (findK Tryz.prog 100 (V.agg [iv n,iv n_1]) (ms.set i_2 (V.agg [iv n,iv n_1],iv n_43)) 0) (fun i_3 kv vv=>onIntK IntKind.i64 vv fun n_44=>need (n_41=n_44) (onSome (ms.set i_2 (V.agg [iv n,iv n_1],iv n_43))[i_2]? fun kv=>guardB (((ms.set i_2 (V.agg [iv n,iv n_1],iv n_43)).set i_2 (kv.1,iv (IntKind.i64.wrap (n_41+n_42)))).all closedE) (J (St.mk (mkT [(0,V.lst 3 (kdl l)),(3,V.ptr (Id.p 0) 0 0),(5,bv true),(6,V.lst u (lkl L)),(8,V.lst s (jtl js)),(10,V.mp (Id.p 1)),(51,V.lst u (lkl L)),(52,iv (↑t:Int)),(53,iv (IntKind.i64.wrap ((↑i:Int)+(1:Int))))]) (Hp.mk [(0,O.rows 1 false [[V.lst 6 (bkl m)]]),(1,O.mp ((ms.set i_2 (V.agg [iv n,iv n_1],iv n_43)).set i_2 (kv.1,iv (IntKind.i64.wrap (n_41+n_42)))))] 2 []))))) (need (n_41=(0:Int)) (onSome (ms.set i_2 (V.agg [iv n,iv n_1],iv n_43))[i_2]? fun kv=>guardB (((ms.set i_2 (V.agg [iv n,iv n_1],iv n_43)).set i_2 (kv.1,iv (IntKind.i64.wrap (n_41+n_42)))).all closedE) (J (St.mk (mkT [(0,V.lst 3 (kdl l)),(3,V.ptr (Id.p 0) 0 0),(5,bv true),(6,V.lst u (lkl L)),(8,V.lst s (jtl js)),(10,V.mp (Id.p 1)),(51,V.lst u (lkl L)),(52,iv (↑t:Int)),(53,iv (IntKind.i64.wrap ((↑i:Int)+(1:Int))))]) (Hp.mk [(0,O.rows 1 false [[V.lst 6 (bkl m)]]),(1,O.mp ((ms.set i_2 (V.agg [iv n,iv n_1],iv n_43)).set i_2 (kv.1,iv (IntKind.i64.wrap (n_41+n_42)))))] 2 []))))))) (onFind (findK Tryz.prog 100 (V.agg [iv n,iv n_1]) (ms++[(V.agg [iv n,iv n_1],iv (0:Int))]) 0) (fun i_2 kv vv=>onIntK IntKind.i64 vv fun n_43=>need (n_41=n_43) (onSome (ms++[(V.agg [iv n,iv n_1],iv (0:Int))])[ms.length]? fun kv=>guardB (((ms++[(V.agg [iv n,iv n_1],iv (0:Int))]).set ms.length (kv.1,iv (IntKind.i64.wrap (n_41+n_42)))).all closedE) (J (St.mk (mkT [(0,V.lst 3 (kdl l)),(3,V.ptr (Id.p 0) 0 0),(5,bv true),(6,V.lst u (lkl L)),(8,V.lst s (jtl js)),(10,V.mp (Id.p 1)),(51,V.lst u (lkl L)),(52,iv (↑t:Int)),(53,iv (IntKind.i64.wrap ((↑i:Int)+(1:Int))))]) (Hp.mk [(0,O.rows 1 false [[V.lst 6 (bkl m)]]),(1,O.mp ((ms++[(V.agg [iv n,iv n_1],iv (0:Int))]).set ms.length (kv.1,iv (IntKind.i64.wrap (n_41+n_42)))))] 2 []))))) (need (n_41=(0:Int)) (onSome (ms++[(V.agg [iv n,iv n_1],iv (0:Int))])[ms.length]? fun kv=>guardB (((ms++[(V.agg [iv n,iv n_1],iv (0:Int))]).set ms.length (kv.1,iv (IntKind.i64.wrap (n_41+n_42)))).all closedE) (J (St.mk (mkT [(0,V.lst 3 (kdl l)),(3,V.ptr (Id.p 0) 0 0),(5,bv true),(6,V.lst u (lkl L)),(8,V.lst s (jtl js)),(10,V.mp (Id.p 1)),(51,V.lst u (lkl L)),(52,iv (↑t:Int)),(53,iv (IntKind.i64.wrap ((↑i:Int)+(1:Int))))]) (Hp.mk [(0,O.rows 1 false [[V.lst 6 (bkl m)]]),(1,O.mp ((ms++[(V.agg [iv n,iv n_1],iv (0:Int))]).set ms.length (kv.1,iv (IntKind.i64.wrap (n_41+n_42)))))] 2 [])))))))) (onNat (IntKind.u8.wrap (n_4.tdiv (2:Int))) fun m_5=>need (m_5<3) (onSome [[iv (2:Int)],[iv (3:Int)],[iv (5:Int)]][0+m_5]? fun row=>onSome row[0]? fun v=>onIntK IntKind.i64 v fun n_41=>onFind (findK Tryz.prog 100 (V.agg [iv n,iv n_1]) ms 0) (fun i_1 kv vv=>guardB (sameC kv (V.agg [iv n,iv n_1])) (onIntK IntKind.i64 vv fun n_42=>onFind (findK Tryz.prog 100 (V.agg [iv n,iv n_1]) (ms.set i_1 (V.agg [iv n,iv n_1],iv n_42)) 0) (fun i_2 kv vv=>onIntK IntKind.i64 vv fun n_43=>need ((0:Int)=n_43) (onSome (ms.set i_1 (V.agg [iv n,iv n_1],iv n_42))[i_1]? fun kv=>guardB (((ms.set i_1 (V.agg [iv n,iv n_1],iv n_42)).set i_1 (kv.1,iv (IntKind.i64.wrap ((0:Int)+n_41)))).all closedE) (J (St.mk (mkT [(0,V.lst 3 (kdl l)),(3,V.ptr (Id.p 0) 0 0),(5,bv true),(6,V.lst u (lkl L)),(8,V.lst s (jtl js)),(10,V.mp (Id.p 1)),(51,V.lst u (lkl L)),(52,iv (↑t:Int)),(53,iv (IntKind.i64.wrap ((↑i:Int)+(1:Int))))]) (Hp.mk [(0,O.rows 1 false [[V.lst 6 (bkl m)]]),(1,O.mp ((ms.set i_1 (V.agg [iv n,iv n_1],iv n_42)).set i_1 (kv.1,iv (IntKind.i64.wrap ((0:Int)+n_41)))))] 2 []))))) (onSome (ms.set i_1 (V.agg [iv n,iv n_1],iv n_42))[i_1]? fun kv=>guardB (((ms.set i_1 (V.agg [iv n,iv n_1],iv n_42)).set i_1 (kv.1,iv (IntKind.i64.wrap ((0:Int)+n_41)))).all closedE) (J (St.mk (mkT [(0,V.lst 3 (kdl l)),(3,V.ptr (Id.p 0) 0 0),(5,bv true),(6,V.lst u (lkl L)),(8,V.lst s (jtl js)),(10,V.mp (Id.p 1)),(51,V.lst u (lkl L)),(52,iv (↑t:Int)),(53,iv (IntKind.i64.wrap ((↑i:Int)+(1:Int))))]) (Hp.mk [(0,O.rows 1 false [[V.lst 6 (bkl m)]]),(1,O.mp ((ms.set i_1 (V.agg [iv n,iv n_1],iv n_42)).set i_1 (kv.1,iv (IntKind.i64.wrap ((0:Int)+n_41)))))] 2 [])))))) (onFind (findK Tryz.prog 100 (V.agg [iv n,iv n_1]) (ms++[(V.agg [iv n,iv n_1],iv (0:Int))]) 0) (fun i_1 kv vv=>onIntK IntKind.i64 vv fun n_42=>need ((0:Int)=n_42) (onSome (ms++[(V.agg [iv n,iv n_1],iv (0:Int))])[ms.length]? fun kv=>guardB (((ms++[(V.agg [iv n,iv n_1],iv (0:Int))]).set ms.length (kv.1,iv (IntKind.i64.wrap ((0:Int)+n_41)))).all closedE) (J (St.mk (mkT [(0,V.lst 3 (kdl l)),(3,V.ptr (Id.p 0) 0 0),(5,bv true),(6,V.lst u (lkl L)),(8,V.lst s (jtl js)),(10,V.mp (Id.p 1)),(51,V.lst u (lkl L)),(52,iv (↑t:Int)),(53,iv (IntKind.i64.wrap ((↑i:Int)+(1:Int))))]) (Hp.mk [(0,O.rows 1 false [[V.lst 6 (bkl m)]]),(1,O.mp ((ms++[(V.agg [iv n,iv n_1],iv (0:Int))]).set ms.length (kv.1,iv (IntKind.i64.wrap ((0:Int)+n_41)))))] 2 []))))) (onSome (ms++[(V.agg [iv n,iv n_1],iv (0:Int))])[ms.length]? fun kv=>guardB (((ms++[(V.agg [iv n,iv n_1],iv (0:Int))]).set ms.length (kv.1,iv (IntKind.i64.wrap ((0:Int)+n_41)))).all closedE) (J (St.mk (mkT [(0,V.lst 3 (kdl l)),(3,V.ptr (Id.p 0) 0 0),(5,bv true),(6,V.lst u (lkl L)),(8,V.lst s (jtl js)),(10,V.mp (Id.p 1)),(51,V.lst u (lkl L)),(52,iv (↑t:Int)),(53,iv (IntKind.i64.wrap ((↑i:Int)+(1:Int))))]) (Hp.mk [(0,O.rows 1 false [[V.lst 6 (bkl m)]]),(1,O.mp ((ms++[(V.agg [iv n,iv n_1],iv (0:Int))]).set ms.length (kv.1,iv (IntKind.i64.wrap ((0:Int)+n_41)))))] 2 [])))))))))))))))))))))))))))))))) (guardB (ms.all closedE) (La 0 [(5:Tmp),(8:Tmp),(10:Tmp),(218:Tmp),(219:Tmp),(220:Tmp),(3000010:Tmp)] (WY Tryz.prog cf7 2988 (Env.mk (Bs.mk 0 []) 0 none 300 7 2) (cdAt [1,1,1,1,1,1,1,1,0,1,0,0] (bodyOf Tryz.f7))) (Qblk 2 (Qthen (WY Tryz.prog cf7 2991 (Env.mk (Bs.mk 0 []) 0 none 300 7 0) (cdAt [1,1,1,1,1,1,1,1,1] (bodyOf Tryz.f7)) (QendX Tryz.prog Tryz.f7 fun v h=>R (frzW h v))) (QendX Tryz.prog Tryz.f7 fun v h=>R (frzW h v)))) (St.mk (mkT [(5,bv true),(8,V.lst s (jtl js)),(10,V.mp (Id.p 0)),(218,V.lst s (jtl js)),(219,iv (↑(jtl js).length:Int)),(220,iv (0:Int))]) (Hp.mk [(0,O.mp ms)] 1 []))))) (by kernel_rfl) ?_
  refine ifB_mk (fun d=>?_) (fun d=>?_)
  ·have hi:i<t:=by have:=of_decide_eq_true d; omega
   obtain ⟨⟨n,n_1,n_2,n_3,n_4⟩,hx⟩:=getI (l:=L) (k:=i) (by omega)
   have hu5:u=5:=by
    rcases hu with hu | hu
    ·exact hu
    ·rw [hu] at hx; simp at hx
   have hxm:(n,n_1,n_2,n_3,n_4)∈lnk (bods l m):=hL ▸ mem_at hx
   obtain ⟨a,b,i', j', k,o,q1,q2,q3,q4,q5,q6⟩:=mem_lnk.1 hxm
   simp only [Prod.mk.injEq] at q6
   obtain ⟨en,en1,en2,en3,en4⟩:=q6
   obtain ⟨ba,hba⟩:=getI (l:=m) (k:=a) (by omega)
   obtain ⟨bb,hbb⟩:=getI (l:=m) (k:=b) (by omega)
   have ka:knobsAt (bods l m) a=(bod l ba).2:=by unfold knobsAt bods; rw [List.getElem?_map,hba]; rfl
   have kb:knobsAt (bods l m) b=(bod l bb).2:=by unfold knobsAt bods; rw [List.getElem?_map,hbb]; rfl
   obtain ⟨ya,hya,hyk⟩:=knobsAt_mem q3
   obtain ⟨yb,hyb,hyo⟩:=knobsAt_mem q4
   have ko:=hB.ko ya (mem_at hya) k (mem_at hyk)
   have oo:=hB.ko yb (mem_at hyb) o (mem_at hyo)
   rw [ka] at q3
   rw [kb] at q4
   have li:=(List.getElem?_eq_some_iff.1 q3).1
   have lj:=(List.getElem?_eq_some_iff.1 q4).1
   obtain ⟨so1,so2,so3⟩:=sort_odd ko.2.1.1 ko.2.1.2 oo.2.1.1 oo.2.1.2 q5.2.2
   rw [← en4] at so1 so2 so3
   have e1:addC k.1 (stp k.2.1)=o.1:=q5.1
   have e2:addC o.1 (stp o.2.1)=k.1:=by rw [← e1,q5.2.1]; exact stp_opp ko.1.1 ko.1.2
   have hT:=(sumT_ok L i (by omega)).1
   have hbd:=sumT_bd L (n:=i) (by omega) (n,n_1)
   have hsb:=strS_bd n_4
   have tail:onNat n fun m_2=>onSome (bkl m)[m_2]? fun row=>onCons (List.drop 0 row) fun u_11 r=>onIntK IntKind.i64 u_11 fun n_10=>onCons r fun u_12 r=>onIntK IntKind.i64 u_12 fun n_11=>onCons r fun u_13 r=>onIntK IntKind.i64 u_13 fun n_12=>onCons r fun u_14 r=>onIntK IntKind.i64 u_14 fun n_13=>onCons r fun u_15 r=>onIntK IntKind.u8 u_15 fun n_14=>onCons r fun u_16 r=>onIntK IntKind.u8 u_16 fun n_15=>K0G Tryz.prog glX 24 [V.lst 3 (kdl l),V.agg [iv n_10,iv n_11,iv n_12,iv n_13,V.raw (Value.int IntKind.u8 n_14),V.raw (Value.int IntKind.u8 n_15)]] fun v=>onTup v fun vs=>onCons vs fun u_17 r=>onLst u_17 fun s_1 es=>onCons r fun u_18 r=>onIntK IntKind.i64 u_18 fun n_16=>onNil r (onNat n_1 fun m_3=>onSome (bkl m)[m_3]? fun row=>onCons (List.drop 0 row) fun u_19 r=>onIntK IntKind.i64 u_19 fun n_17=>onCons r fun u_20 r=>onIntK IntKind.i64 u_20 fun n_18=>onCons r fun u_21 r=>onIntK IntKind.i64 u_21 fun n_19=>onCons r fun u_22 r=>onIntK IntKind.i64 u_22 fun n_20=>onCons r fun u_23 r=>onIntK IntKind.u8 u_23 fun n_21=>onCons r fun u_24 r=>onIntK IntKind.u8 u_24 fun n_22=>K0G Tryz.prog glX 24 [V.lst 3 (kdl l),V.agg [iv n_17,iv n_18,iv n_19,iv n_20,V.raw (Value.int IntKind.u8 n_21),V.raw (Value.int IntKind.u8 n_22)]] fun v=>onTup v fun vs=>onCons vs fun u_25 r=>onLst u_25 fun s_2 es_1=>onCons r fun u_26 r=>onIntK IntKind.i64 u_26 fun n_23=>onNil r (ifB (n_16 != (0:Int)) (R (bv false)) (ifB (n_23 != (0:Int)) (R (bv false)) (ifB (decide (n_2<(0:Int))) (R (bv false)) (ifB (decide (n_2 ≥ (↑es.length:Int))) (R (bv false)) (ifB (decide (n_3<(0:Int))) (R (bv false)) (ifB (decide (n_3 ≥ (↑es_1.length:Int))) (R (bv false)) (onNat n_2 fun m_4=>need (s_1=5) (onSome es[m_4]? fun row=>onCons (List.drop 0 row) fun u_27 r=>onIntK IntKind.i64 u_27 fun n_24=>onCons r fun u_28 r=>onIntK IntKind.i64 u_28 fun n_25=>onCons r fun u_29 r=>onIntK IntKind.i64 u_29 fun n_26=>onCons r fun u_30 r=>onIntK IntKind.u8 u_30 fun n_27=>onCons r fun u_31 r=>onIntK IntKind.u8 u_31 fun n_28=>onNat n_3 fun m_5=>need (s_2=5) (onSome es_1[m_5]? fun row=>onCons (List.drop 0 row) fun u_32 r=>onIntK IntKind.i64 u_32 fun n_29=>onCons r fun u_33 r=>onIntK IntKind.i64 u_33 fun n_30=>onCons r fun u_34 r=>onIntK IntKind.i64 u_34 fun n_31=>onCons r fun u_35 r=>onIntK IntKind.u8 u_35 fun n_32=>onCons r fun u_36 r=>onIntK IntKind.u8 u_36 fun n_33=>K0G Tryz.prog glX 45 [iv (IntKind.i64.wrap n_27)] fun v=>onAgg v fun cs=>onCons cs fun u_37 r=>onIntK IntKind.i64 u_37 fun n_34=>onCons r fun u_38 r=>onIntK IntKind.i64 u_38 fun n_35=>onCons r fun u_39 r=>onIntK IntKind.i64 u_39 fun n_36=>onNil r (K0G Tryz.prog glX 43 [V.agg [iv n_24,iv n_25,iv n_26],V.agg [iv n_34,iv n_35,iv n_36]] fun v=>onAgg v fun cs=>onCons cs fun u_40 r=>onIntK IntKind.i64 u_40 fun n_37=>onCons r fun u_41 r=>onIntK IntKind.i64 u_41 fun n_38=>onCons r fun u_42 r=>onIntK IntKind.i64 u_42 fun n_39=>onNil r (ifB (!(fun b=>n_37==n_29&&b) ((fun b=>n_38==n_30&&b) ((fun b=>n_39==n_31&&b) true))) (R (bv false)) (K0G Tryz.prog glX 45 [iv (IntKind.i64.wrap n_32)] fun v=>onAgg v fun cs=>onCons cs fun u_43 r=>onIntK IntKind.i64 u_43 fun n_40=>onCons r fun u_44 r=>onIntK IntKind.i64 u_44 fun n_41=>onCons r fun u_45 r=>onIntK IntKind.i64 u_45 fun n_42=>onNil r (K0G Tryz.prog glX 43 [V.agg [iv n_29,iv n_30,iv n_31],V.agg [iv n_40,iv n_41,iv n_42]] fun v=>onAgg v fun cs=>onCons cs fun u_46 r=>onIntK IntKind.i64 u_46 fun n_43=>onCons r fun u_47 r=>onIntK IntKind.i64 u_47 fun n_44=>onCons r fun u_48 r=>onIntK IntKind.i64 u_48 fun n_45=>onNil r (ifB (!(fun b=>n_43==n_24&&b) ((fun b=>n_44==n_25&&b) ((fun b=>n_45==n_26&&b) true))) (R (bv false)) (ifB ((if n_33<n_28 then n_33 else n_28) != n_4) (R (bv false)) (ifB ((if n_33 > n_28 then n_33 else n_28) != IntKind.u8.wrap (n_4+(1:Int))) (R (bv false)) (ifB (n_4.tmod (2:Int) != (1:Int)) (R (bv false)) (onFind (findK Tryz.prog 100 (V.agg [iv n,iv n_1]) ms 0) (fun i_1 kv vv=>onIntK IntKind.i64 vv fun n_46=>onNat (IntKind.u8.wrap (n_4.tdiv (2:Int))) fun m_6=>need (m_6<3) (onSome [[iv (2:Int)],[iv (3:Int)],[iv (5:Int)]][0+m_6]? fun row=>onSome row[0]? fun v=>onIntK IntKind.i64 v fun n_47=>onFind (findK Tryz.prog 100 (V.agg [iv n,iv n_1]) ms 0) (fun i_2 kv vv=>guardB (sameC kv (V.agg [iv n,iv n_1])) (onIntK IntKind.i64 vv fun n_48=>onFind (findK Tryz.prog 100 (V.agg [iv n,iv n_1]) (ms.set i_2 (V.agg [iv n,iv n_1],iv n_48)) 0) (fun i_3 kv vv=>onIntK IntKind.i64 vv fun n_49=>need (n_46=n_49) (onSome (ms.set i_2 (V.agg [iv n,iv n_1],iv n_48))[i_2]? fun kv=>guardB (((ms.set i_2 (V.agg [iv n,iv n_1],iv n_48)).set i_2 (kv.1,iv (IntKind.i64.wrap (n_46+n_47)))).all closedE) (J (St.mk (mkT [(0,V.lst 3 (kdl l)),(3,V.ptr (Id.p 0) 0 0),(5,bv true),(6,V.lst u (lkl L)),(8,V.lst s (jtl js)),(10,V.mp (Id.p 1)),(51,V.lst u (lkl L)),(52,iv (↑t:Int)),(53,iv (IntKind.i64.wrap ((↑i:Int)+(1:Int))))]) (Hp.mk [(0,O.rows 1 false [[V.lst 6 (bkl m)]]),(1,O.mp ((ms.set i_2 (V.agg [iv n,iv n_1],iv n_48)).set i_2 (kv.1,iv (IntKind.i64.wrap (n_46+n_47)))))] 2 []))))) (need (n_46=(0:Int)) (onSome (ms.set i_2 (V.agg [iv n,iv n_1],iv n_48))[i_2]? fun kv=>guardB (((ms.set i_2 (V.agg [iv n,iv n_1],iv n_48)).set i_2 (kv.1,iv (IntKind.i64.wrap (n_46+n_47)))).all closedE) (J (St.mk (mkT [(0,V.lst 3 (kdl l)),(3,V.ptr (Id.p 0) 0 0),(5,bv true),(6,V.lst u (lkl L)),(8,V.lst s (jtl js)),(10,V.mp (Id.p 1)),(51,V.lst u (lkl L)),(52,iv (↑t:Int)),(53,iv (IntKind.i64.wrap ((↑i:Int)+(1:Int))))]) (Hp.mk [(0,O.rows 1 false [[V.lst 6 (bkl m)]]),(1,O.mp ((ms.set i_2 (V.agg [iv n,iv n_1],iv n_48)).set i_2 (kv.1,iv (IntKind.i64.wrap (n_46+n_47)))))] 2 []))))))) (onFind (findK Tryz.prog 100 (V.agg [iv n,iv n_1]) (ms++[(V.agg [iv n,iv n_1],iv (0:Int))]) 0) (fun i_2 kv vv=>onIntK IntKind.i64 vv fun n_48=>need (n_46=n_48) (onSome (ms++[(V.agg [iv n,iv n_1],iv (0:Int))])[ms.length]? fun kv=>guardB (((ms++[(V.agg [iv n,iv n_1],iv (0:Int))]).set ms.length (kv.1,iv (IntKind.i64.wrap (n_46+n_47)))).all closedE) (J (St.mk (mkT [(0,V.lst 3 (kdl l)),(3,V.ptr (Id.p 0) 0 0),(5,bv true),(6,V.lst u (lkl L)),(8,V.lst s (jtl js)),(10,V.mp (Id.p 1)),(51,V.lst u (lkl L)),(52,iv (↑t:Int)),(53,iv (IntKind.i64.wrap ((↑i:Int)+(1:Int))))]) (Hp.mk [(0,O.rows 1 false [[V.lst 6 (bkl m)]]),(1,O.mp ((ms++[(V.agg [iv n,iv n_1],iv (0:Int))]).set ms.length (kv.1,iv (IntKind.i64.wrap (n_46+n_47)))))] 2 []))))) (need (n_46=(0:Int)) (onSome (ms++[(V.agg [iv n,iv n_1],iv (0:Int))])[ms.length]? fun kv=>guardB (((ms++[(V.agg [iv n,iv n_1],iv (0:Int))]).set ms.length (kv.1,iv (IntKind.i64.wrap (n_46+n_47)))).all closedE) (J (St.mk (mkT [(0,V.lst 3 (kdl l)),(3,V.ptr (Id.p 0) 0 0),(5,bv true),(6,V.lst u (lkl L)),(8,V.lst s (jtl js)),(10,V.mp (Id.p 1)),(51,V.lst u (lkl L)),(52,iv (↑t:Int)),(53,iv (IntKind.i64.wrap ((↑i:Int)+(1:Int))))]) (Hp.mk [(0,O.rows 1 false [[V.lst 6 (bkl m)]]),(1,O.mp ((ms++[(V.agg [iv n,iv n_1],iv (0:Int))]).set ms.length (kv.1,iv (IntKind.i64.wrap (n_46+n_47)))))] 2 [])))))))) (onNat (IntKind.u8.wrap (n_4.tdiv (2:Int))) fun m_6=>need (m_6<3) (onSome [[iv (2:Int)],[iv (3:Int)],[iv (5:Int)]][0+m_6]? fun row=>onSome row[0]? fun v=>onIntK IntKind.i64 v fun n_46=>onFind (findK Tryz.prog 100 (V.agg [iv n,iv n_1]) ms 0) (fun i_1 kv vv=>guardB (sameC kv (V.agg [iv n,iv n_1])) (onIntK IntKind.i64 vv fun n_47=>onFind (findK Tryz.prog 100 (V.agg [iv n,iv n_1]) (ms.set i_1 (V.agg [iv n,iv n_1],iv n_47)) 0) (fun i_2 kv vv=>onIntK IntKind.i64 vv fun n_48=>need ((0:Int)=n_48) (onSome (ms.set i_1 (V.agg [iv n,iv n_1],iv n_47))[i_1]? fun kv=>guardB (((ms.set i_1 (V.agg [iv n,iv n_1],iv n_47)).set i_1 (kv.1,iv (IntKind.i64.wrap ((0:Int)+n_46)))).all closedE) (J (St.mk (mkT [(0,V.lst 3 (kdl l)),(3,V.ptr (Id.p 0) 0 0),(5,bv true),(6,V.lst u (lkl L)),(8,V.lst s (jtl js)),(10,V.mp (Id.p 1)),(51,V.lst u (lkl L)),(52,iv (↑t:Int)),(53,iv (IntKind.i64.wrap ((↑i:Int)+(1:Int))))]) (Hp.mk [(0,O.rows 1 false [[V.lst 6 (bkl m)]]),(1,O.mp ((ms.set i_1 (V.agg [iv n,iv n_1],iv n_47)).set i_1 (kv.1,iv (IntKind.i64.wrap ((0:Int)+n_46)))))] 2 []))))) (onSome (ms.set i_1 (V.agg [iv n,iv n_1],iv n_47))[i_1]? fun kv=>guardB (((ms.set i_1 (V.agg [iv n,iv n_1],iv n_47)).set i_1 (kv.1,iv (IntKind.i64.wrap ((0:Int)+n_46)))).all closedE) (J (St.mk (mkT [(0,V.lst 3 (kdl l)),(3,V.ptr (Id.p 0) 0 0),(5,bv true),(6,V.lst u (lkl L)),(8,V.lst s (jtl js)),(10,V.mp (Id.p 1)),(51,V.lst u (lkl L)),(52,iv (↑t:Int)),(53,iv (IntKind.i64.wrap ((↑i:Int)+(1:Int))))]) (Hp.mk [(0,O.rows 1 false [[V.lst 6 (bkl m)]]),(1,O.mp ((ms.set i_1 (V.agg [iv n,iv n_1],iv n_47)).set i_1 (kv.1,iv (IntKind.i64.wrap ((0:Int)+n_46)))))] 2 [])))))) (onFind (findK Tryz.prog 100 (V.agg [iv n,iv n_1]) (ms++[(V.agg [iv n,iv n_1],iv (0:Int))]) 0) (fun i_1 kv vv=>onIntK IntKind.i64 vv fun n_47=>need ((0:Int)=n_47) (onSome (ms++[(V.agg [iv n,iv n_1],iv (0:Int))])[ms.length]? fun kv=>guardB (((ms++[(V.agg [iv n,iv n_1],iv (0:Int))]).set ms.length (kv.1,iv (IntKind.i64.wrap ((0:Int)+n_46)))).all closedE) (J (St.mk (mkT [(0,V.lst 3 (kdl l)),(3,V.ptr (Id.p 0) 0 0),(5,bv true),(6,V.lst u (lkl L)),(8,V.lst s (jtl js)),(10,V.mp (Id.p 1)),(51,V.lst u (lkl L)),(52,iv (↑t:Int)),(53,iv (IntKind.i64.wrap ((↑i:Int)+(1:Int))))]) (Hp.mk [(0,O.rows 1 false [[V.lst 6 (bkl m)]]),(1,O.mp ((ms++[(V.agg [iv n,iv n_1],iv (0:Int))]).set ms.length (kv.1,iv (IntKind.i64.wrap ((0:Int)+n_46)))))] 2 []))))) (onSome (ms++[(V.agg [iv n,iv n_1],iv (0:Int))])[ms.length]? fun kv=>guardB (((ms++[(V.agg [iv n,iv n_1],iv (0:Int))]).set ms.length (kv.1,iv (IntKind.i64.wrap ((0:Int)+n_46)))).all closedE) (J (St.mk (mkT [(0,V.lst 3 (kdl l)),(3,V.ptr (Id.p 0) 0 0),(5,bv true),(6,V.lst u (lkl L)),(8,V.lst s (jtl js)),(10,V.mp (Id.p 1)),(51,V.lst u (lkl L)),(52,iv (↑t:Int)),(53,iv (IntKind.i64.wrap ((↑i:Int)+(1:Int))))]) (Hp.mk [(0,O.rows 1 false [[V.lst 6 (bkl m)]]),(1,O.mp ((ms++[(V.agg [iv n,iv n_1],iv (0:Int))]).set ms.length (kv.1,iv (IntKind.i64.wrap ((0:Int)+n_46)))))] 2 [])))))))))))))))))))))))))):=by
    refine onNat_mk (m:=a) en (bel hba (know24 hl hll (hr ba (mem_at hba)) hA.ask (mem_at hba) (onTup_tup (onCons_cons (onLst_lst (onCons_cons (onIntK_iv (onNil_nil ?_))))))))
    refine onNat_mk (m:=b) en1 (bel hbb (know24 hl hll (hr bb (mem_at hbb)) hA.ask (mem_at hbb) (onTup_tup (onCons_cons (onLst_lst (onCons_cons (onIntK_iv (onNil_nil ?_))))))))
    rw [knl_length,knl_length]
    refine ifB_f rfl (ifB_f rfl (ifB_f (decide_eq_false (by (try simp only); omega)) (ifB_f (decide_eq_false (by (try simp only); omega)) (ifB_f (decide_eq_false (by (try simp only); omega)) (ifB_f (decide_eq_false (by (try simp only); omega)) ?_)))))
    refine onNat_mk (m:=i') en2 (need_mk ⟨rfl,kel q3 ?_⟩)
    refine onNat_mk (m:=j') en3 (need_mk ⟨rfl,kel q4 ?_⟩)
    rw [wr (n:=k.2.1) (by have:=ko.1; omega) (by have:=ko.1; omega)]
    refine step45 ko.1.1 ko.1.2 (onC ?_)
    refine plus43T (a:=k.1) (b:=stp k.2.1) ko.2.2 (stp_bdT _) (onC ?_)
    rw [e1]
    refine ifB_f (by simp) ?_
    rw [wr (n:=o.2.1) (by have:=oo.1; omega) (by have:=oo.1; omega)]
    refine step45 oo.1.1 oo.1.2 (onC ?_)
    refine plus43T (a:=o.1) (b:=stp o.2.1) oo.2.2 (stp_bdT _) (onC ?_)
    rw [e2]
    refine ifB_f (by simp) ?_
    rw [u8w (n:=n_4+1) (by omega) (by omega)]
    refine ifB_f (by rw [← so2]; simp) (ifB_f (by rw [so3]; simp) (ifB_f (by rcases so1 with e | e | e <;> rw [e] <;> decide) ?_))
    rw [wr1i hi (by omega),hms]
    refine see (p:=_) (by kernel_rfl) (cnt_add keyP hT (c:=(n,n_1)) (y:=strS n_4) (M:=fun k=>onNat (IntKind.u8.wrap (n_4.tdiv (2:Int))) fun m=>need (m<3) (onSome [[iv (2:Int)],[iv (3:Int)],[iv (5:Int)]][0+m]? fun row=>onSome row[0]? fun v=>onIntK IntKind.i64 v fun n=>k n)) (F:=fun es=>guardB (es.all closedE) (J (sh7a l m u L s js es t (i+1)))) ?_ (wr (by omega) (by omega)) ?_)
    ·intro K hK
     rcases so1 with e | e | e
     ·rw [e] at hK ⊢
      exact onNat_mk (m:=0) (by decide) (need_mk ⟨by omega,onSome_mk (x:=[iv 2]) rfl (onSome_mk (x:=iv 2) rfl (onIntK_iv hK))⟩)
     ·rw [e] at hK ⊢
      exact onNat_mk (m:=1) (by decide) (need_mk ⟨by omega,onSome_mk (x:=[iv 3]) rfl (onSome_mk (x:=iv 3) rfl (onIntK_iv hK))⟩)
     ·rw [e] at hK ⊢
      exact onNat_mk (m:=2) (by decide) (need_mk ⟨by omega,onSome_mk (x:=[iv 5]) rfl (onSome_mk (x:=iv 5) rfl (onIntK_iv hK))⟩)
    ·refine guardB_mk (closed_ent closedP _) ?_
     have:=hJ (i+1) hi (by omega)
     rw [sumT_succ hx] at this
     exact this
   refine need_mk ⟨hu5,lel hx ?_⟩
   rw [bkl_length]
   refine ifB_f (decide_eq_false (by (try simp only); omega)) (ifB_f (decide_eq_false (by (try simp only); omega)) (ifB_f (decide_eq_false (by (try simp only); omega)) (ifB_mk (fun d2=>?_) (fun d2=>?_))))
   ·have hi0:0<i:=by have:=of_decide_eq_true d2; omega
    obtain ⟨y,hy,hbf⟩:=lnk_lt hB hi0 (hL ▸ hx)
    rw [← hL] at hy
    refine onNat_mk (m:=i - 1) (by rw [wr (by omega) (by omega)]; omega) (need_mk ⟨hu5,lel hy (less44 (a:=y) (b:=(n,n_1,n_2,n_3,n_4)) hbf (onBool_bv (ifB_f rfl ?_)))⟩)
    exact see (by kernel_rfl) tail
   ·exact see (by kernel_rfl) tail
  ·have hi:i=t:=by have:=of_decide_eq_false d; omega
   rw [hms]
   refine guardB_mk (closed_ent closedP _) ?_
   have hsorted:L.Pairwise Of2:=by rw [hL]; exact lnk_pw _
   have hT:=(sumT_ok L i (by omega)).1
   have hit:i=L.length:=by omega
   obtain ⟨T,hTe⟩ : ∃ T,T=sumT L i:=⟨_,rfl⟩
   rw [← hTe] at hT ⊢
   have hlenT:T.length=js.length:=by
    have:=congrArg List.length (keys_jn (l:=bods l m) hsorted i (by omega))
    rw [List.length_map,List.length_map,hit] at this
    rw [hTe,hjs,hit,this,hL]
    rfl
   obtain ⟨t,ht2⟩ : ∃ t,t=(jtl js).length:=⟨_,rfl⟩
   rw [← ht2]
   rw [jtl_length] at ht2
   have hj10:js.length≤1000000000:=by rw [hjs]; exact jnt_few (hL ▸ hfew)
   clear hJ
   refine La.of (σ:=Nat) (fun i=>sh7b s js (T.map (entG kp2)) t i) (fun i=>i≤t) (fun i=>t - i) 0 (by kernel_rfl) (by omega) ?_
   rintro i g2 I hI
   obtain ⟨ms,hms⟩ : ∃ ms,ms=T.map (entG kp2):=⟨_,rfl⟩
   rw [← hms]
   refine see (p:=ifB (decide ((↑i:Int)<(↑t:Int))) (need (s=5) (onSome (jtl js)[i]? fun row=>onCons (List.drop 0 row) fun u r=>onIntK IntKind.i64 u fun n=>onCons r fun u r=>onIntK IntKind.i64 u fun n_1=>onCons r fun u r=>onIntK IntKind.i64 u fun n_2=>onCons r fun u r=>onIntK IntKind.u8 u fun n_3=>onCons r fun u r=>onBool u fun b=>onFind (findK Tryz.prog 100 (V.agg [iv n,iv n_1]) ms 0) (fun i_1 kv vv=>onIntK IntKind.i64 vv fun n_4=>ifB (n_4 != n_2) (R (bv false)) (ifB (n_2==(0:Int)) (R (bv false)) (ifB (decide ((↑i:Int) > (0:Int))) (onNat (IntKind.i64.wrap ((↑i:Int) - (1:Int))) fun m=>need (s=5) (onSome (jtl js)[m]? fun row=>onSome row[0]? fun v=>onIntK IntKind.i64 v fun n_5=>ifB (decide (n<n_5)) (R (bv false)) (onNat (IntKind.i64.wrap ((↑i:Int) - (1:Int))) fun m=>need (s=5) (onSome (jtl js)[m]? fun row=>onSome row[0]? fun v=>onIntK IntKind.i64 v fun n_6=>ifB (n==n_6) (onNat (IntKind.i64.wrap ((↑i:Int) - (1:Int))) fun m=>need (s=5) (onSome (jtl js)[m]? fun row=>onSome row[1]? fun v=>onIntK IntKind.i64 v fun n=>ifB (decide (n_1≤n)) (R (bv false)) (ifB b (ifB (n_3==(0:Int)) (R (bv false)) (ifB (decide (n_3 > (3:Int))) (R (bv false)) (guardB (ms.all closedE) (I (St.mk (mkT [(5,bv true),(8,V.lst s (jtl js)),(10,V.mp (Id.p 0)),(218,V.lst s (jtl js)),(219,iv (↑t:Int)),(220,iv (IntKind.i64.wrap ((↑i:Int)+(1:Int))))]) (Hp.mk [(0,O.mp ms)] 1 [])))))) (ifB (decide (n_3 > (3:Int))) (R (bv false)) (guardB (ms.all closedE) (I (St.mk (mkT [(5,bv true),(8,V.lst s (jtl js)),(10,V.mp (Id.p 0)),(218,V.lst s (jtl js)),(219,iv (↑t:Int)),(220,iv (IntKind.i64.wrap ((↑i:Int)+(1:Int))))]) (Hp.mk [(0,O.mp ms)] 1 [])))))))) (ifB b (ifB (n_3==(0:Int)) (R (bv false)) (ifB (decide (n_3 > (3:Int))) (R (bv false)) (guardB (ms.all closedE) (I (St.mk (mkT [(5,bv true),(8,V.lst s (jtl js)),(10,V.mp (Id.p 0)),(218,V.lst s (jtl js)),(219,iv (↑t:Int)),(220,iv (IntKind.i64.wrap ((↑i:Int)+(1:Int))))]) (Hp.mk [(0,O.mp ms)] 1 [])))))) (ifB (decide (n_3 > (3:Int))) (R (bv false)) (guardB (ms.all closedE) (I (St.mk (mkT [(5,bv true),(8,V.lst s (jtl js)),(10,V.mp (Id.p 0)),(218,V.lst s (jtl js)),(219,iv (↑t:Int)),(220,iv (IntKind.i64.wrap ((↑i:Int)+(1:Int))))]) (Hp.mk [(0,O.mp ms)] 1 [])))))))))) (ifB b (ifB (n_3==(0:Int)) (R (bv false)) (ifB (decide (n_3 > (3:Int))) (R (bv false)) (guardB (ms.all closedE) (I (St.mk (mkT [(5,bv true),(8,V.lst s (jtl js)),(10,V.mp (Id.p 0)),(218,V.lst s (jtl js)),(219,iv (↑t:Int)),(220,iv (IntKind.i64.wrap ((↑i:Int)+(1:Int))))]) (Hp.mk [(0,O.mp ms)] 1 [])))))) (ifB (decide (n_3 > (3:Int))) (R (bv false)) (guardB (ms.all closedE) (I (St.mk (mkT [(5,bv true),(8,V.lst s (jtl js)),(10,V.mp (Id.p 0)),(218,V.lst s (jtl js)),(219,iv (↑t:Int)),(220,iv (IntKind.i64.wrap ((↑i:Int)+(1:Int))))]) (Hp.mk [(0,O.mp ms)] 1 []))))))))) (ifB ((0:Int) != n_2) (R (bv false)) (ifB (n_2==(0:Int)) (R (bv false)) (ifB (decide ((↑i:Int) > (0:Int))) (onNat (IntKind.i64.wrap ((↑i:Int) - (1:Int))) fun m=>need (s=5) (onSome (jtl js)[m]? fun row=>onSome row[0]? fun v=>onIntK IntKind.i64 v fun n_4=>ifB (decide (n<n_4)) (R (bv false)) (onNat (IntKind.i64.wrap ((↑i:Int) - (1:Int))) fun m=>need (s=5) (onSome (jtl js)[m]? fun row=>onSome row[0]? fun v=>onIntK IntKind.i64 v fun n_5=>ifB (n==n_5) (onNat (IntKind.i64.wrap ((↑i:Int) - (1:Int))) fun m=>need (s=5) (onSome (jtl js)[m]? fun row=>onSome row[1]? fun v=>onIntK IntKind.i64 v fun n=>ifB (decide (n_1≤n)) (R (bv false)) (ifB b (ifB (n_3==(0:Int)) (R (bv false)) (ifB (decide (n_3 > (3:Int))) (R (bv false)) (guardB (ms.all closedE) (I (St.mk (mkT [(5,bv true),(8,V.lst s (jtl js)),(10,V.mp (Id.p 0)),(218,V.lst s (jtl js)),(219,iv (↑t:Int)),(220,iv (IntKind.i64.wrap ((↑i:Int)+(1:Int))))]) (Hp.mk [(0,O.mp ms)] 1 [])))))) (ifB (decide (n_3 > (3:Int))) (R (bv false)) (guardB (ms.all closedE) (I (St.mk (mkT [(5,bv true),(8,V.lst s (jtl js)),(10,V.mp (Id.p 0)),(218,V.lst s (jtl js)),(219,iv (↑t:Int)),(220,iv (IntKind.i64.wrap ((↑i:Int)+(1:Int))))]) (Hp.mk [(0,O.mp ms)] 1 [])))))))) (ifB b (ifB (n_3==(0:Int)) (R (bv false)) (ifB (decide (n_3 > (3:Int))) (R (bv false)) (guardB (ms.all closedE) (I (St.mk (mkT [(5,bv true),(8,V.lst s (jtl js)),(10,V.mp (Id.p 0)),(218,V.lst s (jtl js)),(219,iv (↑t:Int)),(220,iv (IntKind.i64.wrap ((↑i:Int)+(1:Int))))]) (Hp.mk [(0,O.mp ms)] 1 [])))))) (ifB (decide (n_3 > (3:Int))) (R (bv false)) (guardB (ms.all closedE) (I (St.mk (mkT [(5,bv true),(8,V.lst s (jtl js)),(10,V.mp (Id.p 0)),(218,V.lst s (jtl js)),(219,iv (↑t:Int)),(220,iv (IntKind.i64.wrap ((↑i:Int)+(1:Int))))]) (Hp.mk [(0,O.mp ms)] 1 [])))))))))) (ifB b (ifB (n_3==(0:Int)) (R (bv false)) (ifB (decide (n_3 > (3:Int))) (R (bv false)) (guardB (ms.all closedE) (I (St.mk (mkT [(5,bv true),(8,V.lst s (jtl js)),(10,V.mp (Id.p 0)),(218,V.lst s (jtl js)),(219,iv (↑t:Int)),(220,iv (IntKind.i64.wrap ((↑i:Int)+(1:Int))))]) (Hp.mk [(0,O.mp ms)] 1 [])))))) (ifB (decide (n_3 > (3:Int))) (R (bv false)) (guardB (ms.all closedE) (I (St.mk (mkT [(5,bv true),(8,V.lst s (jtl js)),(10,V.mp (Id.p 0)),(218,V.lst s (jtl js)),(219,iv (↑t:Int)),(220,iv (IntKind.i64.wrap ((↑i:Int)+(1:Int))))]) (Hp.mk [(0,O.mp ms)] 1 []))))))))))) (R (bv ((↑(jtl js).length:Int)==(↑ms.length:Int))))) (by kernel_rfl) ?_
   refine ifB_mk (fun d=>?_) (fun d=>?_)
   ·have hi:i<t:=by have:=of_decide_eq_true d; omega
    obtain ⟨⟨n,n_1,n_2,n_3,b⟩,hx⟩:=getI (l:=js) (k:=i) (by omega)
    have hs5:s=5:=by
     rcases hs with hs | hs
     ·exact hs
     ·rw [hs] at hx; simp at hx
    have hpw:js.Pairwise fun a b=>KL (a.1,a.2.1) (b.1,b.2.1):=by rw [hjs]; unfold jnt; exact jnS_pw (lnk_pw _)
    obtain ⟨p,hp,hje⟩:=jnS_at (l:=bods l m) (L:=L) (j:=(n,n_1,n_2,n_3,b)) (by have:=mem_at hx; rw [hjs,jnt,← hL] at this; exact this)
    have hkey:=joF_key (l:=bods l m) hp
    rw [hL] at hp hje
    obtain ⟨x1,x2,x3,x4⟩:=jnt_ax hB hp
    have hstr:=jnt_str hp
    rw [← hL] at hp hje x1 x2 x3 x4 hstr
    rw [← hje] at hkey x1 x2 x3 x4 hstr
    simp only at hkey x1 x2 x3 x4 hstr
    rw [← hkey,← hit,← hTe] at hstr
    have tail:ifB b (ifB (n_3==(0:Int)) (R (bv false)) (ifB (decide (n_3 > (3:Int))) (R (bv false)) (guardB (ms.all closedE) (I (St.mk (mkT [(5,bv true),(8,V.lst s (jtl js)),(10,V.mp (Id.p 0)),(218,V.lst s (jtl js)),(219,iv (↑t:Int)),(220,iv (IntKind.i64.wrap ((↑i:Int)+(1:Int))))]) (Hp.mk [(0,O.mp ms)] 1 [])))))) (ifB (decide (n_3 > (3:Int))) (R (bv false)) (guardB (ms.all closedE) (I (St.mk (mkT [(5,bv true),(8,V.lst s (jtl js)),(10,V.mp (Id.p 0)),(218,V.lst s (jtl js)),(219,iv (↑t:Int)),(220,iv (IntKind.i64.wrap ((↑i:Int)+(1:Int))))]) (Hp.mk [(0,O.mp ms)] 1 []))))):=by
     rw [hms,wr1i hi (by omega)]
     refine ifB_mk (fun d3=>ifB_f (by have:=x3 d3; simpa using this) (ifB_f (decide_eq_false (by (try simp only); omega)) (guardB_mk (closed_ent closedP _) (hI (i+1) hi (by omega))))) (fun d3=>ifB_f (decide_eq_false (by (try simp only); omega)) (guardB_mk (closed_ent closedP _) (hI (i+1) hi (by omega))))
    refine need_mk ⟨hs5,jel hx ?_⟩
    rw [hms] at tail ⊢
    refine onFind_look keyP hT (c:=(n,n_1)) ?_
    rw [hstr]
    refine ifB_f (by simp) (ifB_f (by simp; omega) (ifB_mk (fun d2=>?_) (fun d2=>see (by kernel_rfl) tail)))
    have hi0:0<i:=by have:=of_decide_eq_true d2; omega
    obtain ⟨y,hy,hyk⟩:=pw_prev hpw hi0 hx
    unfold KL at hyk
    simp only at hyk
    have hrow:(jtl js)[i - 1]? = some (jtr y):=by unfold jtl; rw [List.getElem?_map,hy]; rfl
    have ei:IntKind.i64.wrap ((i:Int) - (1:Int))=((i - 1:Nat):Int):=by rw [wr (by omega) (by omega)]; omega
    refine onNat_mk (m:=i - 1) ei (need_mk ⟨hs5,onSome_mk (x:=jtr y) hrow (onSome_mk (x:=iv y.1) rfl (onIntK_iv (ifB_f (decide_eq_false (by (try simp only); omega)) ?_)))⟩)
    refine onNat_mk (m:=i - 1) ei (need_mk ⟨hs5,onSome_mk (x:=jtr y) hrow (onSome_mk (x:=iv y.1) rfl (onIntK_iv (ifB_mk (fun d4=>?_) (fun d4=>see (by kernel_rfl) tail))))⟩)
    have d4:n=y.1:=by simpa using d4
    refine onNat_mk (m:=i - 1) ei (need_mk ⟨hs5,onSome_mk (x:=jtr y) hrow (onSome_mk (x:=iv y.2.1) rfl (onIntK_iv (ifB_f (decide_eq_false (by (try simp only); omega)) (see (by kernel_rfl) tail))))⟩)
   ·rw [hms,List.length_map,jtl_length,hlenT]
    simpa using h
 refine links29 hl hll hml hr (fun e he hne=>onTup_tup (onCons_cons (onLst_nil (onCons_cons (onIntK_iv (onNil_nil ?_)))))) (fun hA hn=>⟨onTup_tup (onCons_cons (onLst_nil (onCons_cons (onIntK_iv (onNil_nil ?_))))),onTup_tup (onCons_cons (onLst_lst (onCons_cons (onIntK_iv (onNil_nil ?_)))))⟩) (fun hA=>onTup_tup (onCons_cons (onLst_lst (onCons_cons (onIntK_iv (onNil_nil ?_))))))
 ·refine joints32 hl hll hml hr (fun e' he' hne' => onTup_tup (onCons_cons (onLst_nil (onCons_cons (onIntK_iv (onNil_nil (ifB_t (by simpa using hne) (ifB_t rfl ?_)))))))) (fun hA=>(he.no hA).elim) (fun hA=>(he.no hA).elim)
  rw [he.uniq he']
  simpa using h
 ·refine joints32 hl hll hml hr (fun e' he' hne' => (he'.no hA).elim) (fun _ hn' => onTup_tup (onCons_cons (onLst_lst (onCons_cons (onIntK_iv (onNil_nil (ifB_f rfl (ifB_f rfl ?_)))))))) (fun _=>onTup_tup (onCons_cons (onLst_lst (onCons_cons (onIntK_iv (onNil_nil (ifB_f rfl (ifB_f rfl ?_))))))))
  ·have:=main hA [] [] 0 0 hn.symm hn'.symm (.inr rfl) (.inr rfl) _ rfl
   exact see (by kernel_rfl) this
  ·have:=main hA [] _ 0 5 hn.symm rfl (.inr rfl) (.inl rfl) _ rfl
   exact see (by kernel_rfl) this
 ·refine joints32 hl hll hml hr (fun e' he' hne' => (he'.no hA).elim) (fun _ hn' => onTup_tup (onCons_cons (onLst_lst (onCons_cons (onIntK_iv (onNil_nil (ifB_f rfl (ifB_f rfl ?_)))))))) (fun _=>onTup_tup (onCons_cons (onLst_lst (onCons_cons (onIntK_iv (onNil_nil (ifB_f rfl (ifB_f rfl ?_))))))))
  ·have:=main hA [] [] 0 0 hn.symm hn'.symm (.inr rfl) (.inr rfl) _ rfl
   exact see (by kernel_rfl) this
  ·have:=main hA [] _ 0 5 hn.symm rfl (.inr rfl) (.inl rfl) _ rfl
   exact see (by kernel_rfl) this
 ·refine joints32 hl hll hml hr (fun e' he' hne' => (he'.no hA).elim) (fun _ hn' => onTup_tup (onCons_cons (onLst_lst (onCons_cons (onIntK_iv (onNil_nil (ifB_f rfl (ifB_f rfl ?_)))))))) (fun _=>onTup_tup (onCons_cons (onLst_lst (onCons_cons (onIntK_iv (onNil_nil (ifB_f rfl (ifB_f rfl ?_))))))))
  ·have:=main hA _ [] 5 0 rfl hn'.symm (.inl rfl) (.inr rfl) _ rfl
   exact see (by kernel_rfl) this
  ·exact main hA _ _ 5 5 rfl rfl (.inl rfl) (.inl rfl) _ rfl
end Go.Proofs.YtbionhgjgcpogaaGreatDoor
namespace Go.Proofs.YtbionhgjgcpogaaGreatDoor.Clean
open Go.Deep
set_option linter.unusedSimpArgs false
set_option linter.unusedVariables false
section
variable {H:Type} (enc:TypeId×Value→H) (P:Program) (w:World)
def FW (r:Nat):Prop:=r<w.heap.size
def Opens (t:TypeId) {α:Type} (f:α→List V) (ok:α→Prop):Prop :=
 ∀ fuel cs x,DataW.trod enc P w 0 (fun _=>true) true fuel t cs=some x → ∃ a,riL (FW w) w (f a) cs∧ok a ∧ ∀ u∈cs,u.oneCell' = true
def OpensF (total:Nat) (off:Nat) (fs:List Field) {α:Type} (f:α→List V) (ok:α→Prop):Prop :=
 ∀ n (cs:List Value),cs.length=total→(∀ fd∈fs, ∃ x,DataW.trod enc P w 0 (fun _=>true) true n fd.type ((cs.drop fd.offset).take (P.cellsOf fd.type))=some x) →
  ∃ a,riL (FW w) w (f a) (cs.drop off)∧ok a ∧ ∀ u∈cs.drop off,u.oneCell' = true
end
section
variable {H:Type} {enc:TypeId×Value→H} {P:Program} {w:World}
theorem riL_append : ∀ {vs us:List V} {xs ys:List Value},riL (FW w) w vs xs→riL (FW w) w us ys→riL (FW w) w (vs++us) (xs++ys)
 | [],us,xs,ys,h,k=>by simp only [riL] at h; subst h; simpa using k
 | v::vs,us,xs,ys,h,k=>by
  simp only [riL] at h
  obtain ⟨x,zs,rfl,h2,h3⟩:=h
  simp only [List.cons_append,riL]
  exact ⟨x,zs++ys,rfl,h2,riL_append h3 k⟩
theorem riL_one {v:V} {x:Value} (h:ri (FW w) w v x):riL (FW w) w [v] [x]:=by simp only [riL]; exact ⟨x,[],rfl,h,rfl⟩
theorem riL_get : ∀ {vs:List V} {xs:List Value},riL (FW w) w vs xs → ∀ (i:Nat) v,vs[i]? = some v → ∃ x,xs[i]? = some x∧ri (FW w) w v x
 | [],xs,h,i,v,hi=>by simp at hi
 | u::vs,xs,h,i,v,hi=>by
  simp only [riL] at h
  obtain ⟨x,ys,rfl,h2,h3⟩:=h
  cases i with
  | zero=>simp at hi; subst hi; exact ⟨x,rfl,h2⟩
  | succ i=>simp at hi; simpa using riL_get h3 i v hi
theorem riL_length : ∀ {vs:List V} {xs:List Value},riL (FW w) w vs xs→xs.length=vs.length
 | [],xs,h=>by simp only [riL] at h; simp [h]
 | v::vs,xs,h=>by simp only [riL] at h; obtain ⟨x,ys,rfl,_,h3⟩:=h; simp [riL_length h3]
theorem opens_int {t:TypeId} {k:IntKind} (ht:P.underlying t=some (.int k)):Opens enc P w t (fun n:Int=>[.raw (.int k n)]) (fun n=>(Lit.int k n).wf=true):=by
 intro fuel cs x h
 obtain ⟨n,rfl,_,hw⟩:=DataW.trod_int ht h
 exact ⟨n,riL_one (by simp [ri]),hw,by simp [Value.oneCell']⟩
theorem opens_slice {t e:TypeId} {s:Nat} {α:Type} {f:α→List V} {ok:α→Prop} (ht:P.underlying t=some (.slice e)) (hs:P.cellsOf e=s) (hpos:s≠0) (ho:Opens enc P w e f ok) :
  Opens enc P w t (fun l:List α=>[.lst s (l.map f)]) (fun l=>l.length≤maxLen ∧ ∀ a∈l,ok a):=by
 intro fuel cs x h
 rcases open_slice ht h with ⟨rfl,_⟩ | ⟨a,len,cap,m,n,D,Pl,rfl,_,hl,hm,hmm,_,hx⟩
 ·exact ⟨[],riL_one (by simp [ri]),by simp,by simp [Value.oneCell']⟩
 ·simp only [if_true] at hmm
  subst hmm
  rw [hs] at hx
  have each : ∀ i,i<len → ∃ q:α,(∃ cs', w.cells? 0 (a.add (i * s)) s=some cs' ∧ riL (FW w) w (f q) cs' ∧ ∀ u∈cs', u.oneCell' = true)∧ok q:=by
   intro i hi
   obtain ⟨cs', h1,h2⟩:=hx i (by omega)
   obtain ⟨q,h3,h4,h5⟩:=ho _ _ _ h2
   exact ⟨q,⟨cs', h1,h3,h5⟩,h4⟩
  obtain ⟨q,hq⟩ : ∃ q:Nat→Option α, ∀ i,i<len → ∃ y,q i=some y∧(∃ cs', w.cells? 0 (a.add (i * s)) s=some cs' ∧ riL (FW w) w (f y) cs' ∧ ∀ u∈cs', u.oneCell' = true)∧ok y:=by
   refine Classical.axiomOfChoice (r:=fun i (o:Option α)=>i<len → ∃ y,o=some y∧(∃ cs', w.cells? 0 (a.add (i * s)) s=some cs' ∧ riL (FW w) w (f y) cs' ∧ ∀ u∈cs', u.oneCell' = true)∧ok y) ?_
   intro i
   by_cases hi:i<len
   ·obtain ⟨y,hy⟩:=each i hi
    exact ⟨some y,fun _=>⟨y,rfl,hy⟩⟩
   ·exact ⟨none,fun h=>(hi h).elim⟩
  let l:List α:=(List.range len).filterMap q
  have hl' : l.length=len ∧ ∀ i,i<len→l[i]? = q i:=by
   have key : ∀ k,k≤len→((List.range k).filterMap q).length=k ∧ ∀ i,i<k→((List.range k).filterMap q)[i]? = q i:=by
    intro k
    induction k with
    | zero=>intro _; simp
    | succ k ih =>
     intro hk
     obtain ⟨h1,h2⟩:=ih (by omega)
     obtain ⟨y,hy,_⟩:=hq k (by omega)
     have:(List.range (k+1)).filterMap q=(List.range k).filterMap q++[y]:=by rw [List.range_succ,List.filterMap_append]; simp [hy]
     rw [this]
     refine ⟨by simp [h1],fun i hi=>?_⟩
     by_cases hik:i<k
     ·rw [List.getElem?_append_left (by omega)]; exact h2 i hik
     ·have:i=k:=by omega
      subst this
      rw [List.getElem?_append_right (by omega),h1,hy]; simp
   exact key len (Nat.le_refl _)
  refine ⟨l,riL_one ?_,⟨by omega,fun b hb=>?_⟩,by simp [Value.oneCell']⟩
  ·simp only [ri]
   refine .inr ⟨a,m,by simp [hl'.1]; exact hl,by simp [hl'.1],?_⟩
   by_cases h0:len=0
   ·left
    have:l=[]:=List.eq_nil_of_length_eq_zero (by omega)
    simp [this]
   ·right
    have cell : ∀ (i:Nat) (cs' : List Value),i<len→w.cells? 0 (a.add (i * s)) s=some cs' → ∀ j,j<s→w.cell? (a.add (i * s+j))=cs'[j]? ∧ cs'.length=s:=by
     intro i cs' hi hc j hj
     obtain ⟨_,hlen,hcc⟩:=World.cells?_some hc
     have:=hcc j hj
     rw [add_add] at this
     exact ⟨this,hlen⟩
    obtain ⟨y0,hy0,⟨cs0,c1,_,_⟩,_⟩:=hq 0 (by omega)
    have hc0:=(cell 0 cs0 (by omega) c1 0 (by omega))
    have hsome : ∃ u,w.cell? a=some u:=by
     have h1:=hc0.1
     rw [Nat.zero_mul,Nat.zero_add] at h1
     have:a.add 0=a:=by simp [Addr.add]
     rw [this] at h1
     rw [h1]
     exact ⟨cs0[0]'(by omega),List.getElem?_eq_getElem (by omega)⟩
    obtain ⟨u0,hu0⟩:=hsome
    have hspot:a.spot=none:=by
     unfold World.cell? at hu0
     split at hu0
     ·split at hu0
      ·cases hu0
      ·rename_i h; simpa using h
     ·cases hu0
    obtain ⟨ab,ao,asp⟩:=a
    simp only at hspot
    subst hspot
    refine ⟨rfl,World.block_lt_of_cell? w _ hu0,?_⟩
    rw [riRows_iff]
    intro i row hrow
    rw [List.getElem?_map,Option.map_eq_some_iff] at hrow
    obtain ⟨b,hb,rfl⟩:=hrow
    have hi:i<len:=by have:=(List.getElem?_eq_some_iff.1 hb).1; omega
    obtain ⟨y,hy,⟨cs', g1,g2,g3⟩,_⟩:=hq i hi
    rw [hl'.2 i hi,hy] at hb
    simp at hb
    subst hb
    have hlen' := riL_length g2
    obtain ⟨_,hclen,_⟩:=World.cells?_some g1
    refine ⟨by omega,fun j v hj=>?_⟩
    obtain ⟨z,z1,z2⟩:=riL_get g2 j v hj
    have hjs:j<s:=by have:=(List.getElem?_eq_some_iff.1 z1).1; omega
    refine ⟨z,?_,g3 z (List.mem_of_getElem? z1),z2⟩
    have:=(cell i cs' hi g1 j hjs).1
    rw [add_lit,← Nat.add_assoc] at this
    rw [this]; exact z1
  ·obtain ⟨i,hi⟩:=List.mem_iff_getElem?.1 hb
   have hil:i<len:=by have:=(List.getElem?_eq_some_iff.1 hi).1; omega
   obtain ⟨y,hy,_,hok⟩:=hq i hil
   rw [hl'.2 i hil,hy] at hi
   simp at hi
   exact hi ▸ hok
theorem opensF_nil {total:Nat}:OpensF enc P w total total [] (fun _:Unit=>[]) (fun _=>True):=by
 intro n cs hl _
 rw [List.drop_of_length_le (by omega)]
 exact ⟨(),by simp [riL],trivial,by simp⟩
theorem opensF_cons {total off k:Nat} {fd:Field} {fs:List Field} {α β:Type} {f:α→List V} {g:β→List V} {ok:α→Prop} {ok' : β→Prop} (ho:fd.offset=off) (hk:P.cellsOf fd.type=k)
  (h1:Opens enc P w fd.type f ok) (h2:OpensF enc P w total (off+k) fs g ok'):OpensF enc P w total off (fd::fs) (fun x:α×β=>f x.1++g x.2) (fun x=>ok x.1∧ok' x.2):=by
 intro n cs hl hf
 obtain ⟨x,hx⟩:=hf fd (by simp)
 rw [ho,hk] at hx
 obtain ⟨a,a1,a2,a3⟩:=h1 _ _ _ hx
 obtain ⟨b,b1,b2,b3⟩:=h2 n cs hl (fun fd' h' => hf fd' (by simp [h']))
 have hsplit:cs.drop off=(cs.drop off).take k++cs.drop (off+k):=by rw [← List.drop_drop,List.take_append_drop]
 refine ⟨(a,b),?_,⟨a2,b2⟩,?_⟩
 ·rw [hsplit]; exact riL_append a1 b1
 ·rw [hsplit]
  intro u hu
  rcases List.mem_append.1 hu with hu | hu
  ·exact a3 u hu
  ·exact b3 u hu
theorem opens_struct {t:TypeId} {fs:Array Field} {total:Nat} {α:Type} {f:α→List V} {ok:α→Prop} (ht:P.underlying t=some (.struct fs)) (hc:P.cellsOf t=total) (h:OpensF enc P w total 0 fs.toList f ok):Opens enc P w t f ok:=by
 intro fuel cs x hx
 obtain ⟨xs,n,_,_,hl,hxl,hf⟩:=DataW.trod_struct ht hx
 have:=h n cs (by omega) (fun fd hfd=>by
  obtain ⟨i,hi⟩:=List.mem_iff_getElem?.1 hfd
  have hi' : fs[i]? = some fd:=by simpa using hi
  have:=hf i fd hi'
  have hil:i<xs.length:=by rw [hxl]; exact lt_of_some hi'
  rw [List.getElem?_eq_getElem hil] at this
  exact ⟨_,this⟩)
 simpa using this
theorem arg_slice {t e:TypeId} {v:Value} {d:DataW H} {p:List MemPlace} {r:Reach} {b0:Nat} {α:Type} {f:α→V} {ok:α→Prop} (ht:P.underlying t=some (.slice e)) (hval:Value.okWide P w r b0 t v) (h:DataW.Trod enc P w 0 (fun _=>true) true t v d p)
  (ho:Opens enc P w t (fun a=>[f a]) ok) : ∃ a,ri (FW w) w (f a) v∧ok a:=by
 obtain ⟨a,len,cap,rfl⟩:=WideShapes.okWide_slice ht hval
 obtain ⟨fuel,hf⟩:=h
 obtain ⟨y,h1,h2,_⟩:=ho _ _ _ hf
 simp only [Value.cells,riL] at h1
 obtain ⟨x,xs,hx,h3,_⟩:=h1
 simp at hx
 exact ⟨y,by rw [hx.1]; exact h3,h2⟩
theorem arg_struct {t:TypeId} {fs:Array Field} {v:Value} {d:DataW H} {p:List MemPlace} {r:Reach} {b0:Nat} {α:Type} {f:α→List V} {ok:α→Prop} (ht:P.underlying t=some (.struct fs)) (hval:Value.okWide P w r b0 t v) (h:DataW.Trod enc P w 0 (fun _=>true) true t v d p)
  (ho:Opens enc P w t f ok) : ∃ a,ri (FW w) w (.agg (f a)) v∧ok a:=by
 obtain ⟨cs,rfl,_⟩:=WideShapes.okWide_struct ht hval
 obtain ⟨fuel,hf⟩:=h
 obtain ⟨y,h1,h2,_⟩:=ho _ _ _ hf
 exact ⟨y,by simp only [ri]; exact ⟨cs,rfl,h1⟩,h2⟩
end
end Go.Proofs.YtbionhgjgcpogaaGreatDoor.Clean
namespace Go.Proofs.YtbionhgjgcpogaaGreatDoor.Clean
set_option linter.unusedVariables false
set_option linter.unusedSimpArgs false
mutual
def litC {H:Type} (P:Program):Nat→TypeId→DataW H→Option (List V)
 | 0,_,_=>none
 | f+1,t,d=>match P.underlying t with
  | some (.int k)=>match d with
   | .lit (.int k' n)=>some [.raw (.int k n)]
   | _=>none
  | some (.struct fs)=>match d with
   | .agg xs=>litF P f (P.cellsOf t) fs.toList xs 0
   | _=>none
  | some (.array n e)=>match d with
   | .agg xs=>if P.cellsOf t=n * P.cellsOf e then litA P f e xs else none
   | _=>none
  | _=>none
def litF {H:Type} (P:Program):Nat→Nat→List Field→List (DataW H)→Nat→Option (List V)
 | 0,_,_,_,_=>none
 | _+1,n,[],[],o=>if n=o then some [] else none
 | f+1,n,fd::fs,x::xs,o=>if fd.offset=o then (litC P f fd.type x).bind fun a=>(litF P f n fs xs (o+P.cellsOf fd.type)).bind fun b=>if a.length=P.cellsOf fd.type then some (a++b) else none else none
 | _,_,_,_,_=>none
def litA {H:Type} (P:Program):Nat→TypeId→List (DataW H)→Option (List V)
 | 0,_,_=>none
 | _+1,_,[]=>some []
 | f+1,e,x::xs=>(litC P f e x).bind fun a=>(litA P f e xs).bind fun b=>if a.length=P.cellsOf e then some (a++b) else none
end
section
variable {H:Type} {enc:TypeId×Value→H} {P:Program} {w:World} {b0:Nat} {sp:Nat→Bool} {held:Bool}
def CellsOK (w:World) (vs:List V) (cs:List Value):Prop:=cs.length=vs.length ∧ ∀ (i:Nat) v x,vs[i]? = some v→cs[i]? = some x→x.oneCell' = true∧ri (FW w) w v x
theorem CellsOK.append {vs us:List V} {cs ds:List Value} (h:CellsOK w vs cs) (k:CellsOK w us ds):CellsOK w (vs++us) (cs++ds):=by
 refine ⟨by simp [h.1,k.1],fun i v x hv hx=>?_⟩
 by_cases hi:i<vs.length
 ·rw [List.getElem?_append_left hi] at hv
  rw [List.getElem?_append_left (by rw [h.1]; exact hi)] at hx
  exact h.2 i v x hv hx
 ·rw [List.getElem?_append_right (by omega)] at hv
  rw [List.getElem?_append_right (by rw [h.1]; omega),h.1] at hx
  exact k.2 _ v x hv hx
theorem take_split (cs:List Value) (o n:Nat):cs.drop o=(cs.drop o).take n++cs.drop (o+n):=by rw [← List.drop_drop,List.take_append_drop]
theorem lit_ok (f:Nat) :
  (∀ (t:TypeId) (d:DataW H) (vs:List V),litC P f t d=some vs → ∀ fuel cs x,DataW.trod enc P w b0 sp held fuel t cs=some x→x.1=d→CellsOK w vs cs) ∧
  (∀ (fs:List Field) (xs:List (DataW H)) (o:Nat) (vs:List V) (cs:List Value),litF P f cs.length fs xs o=some vs → ∀ m (ys:List (DataW H×List MemPlace)),ys.map (·.1)=xs→(∀ (i:Nat) fd,fs[i]? = some fd→DataW.trod enc P w b0 sp held m fd.type ((cs.drop fd.offset).take (P.cellsOf fd.type))=ys[i]?)→CellsOK w vs (cs.drop o)) ∧
  (∀ (e:TypeId) (xs:List (DataW H)) (o:Nat) (vs:List V) (cs:List Value),litA P f e xs=some vs→cs.length=o+xs.length * P.cellsOf e → ∀ m (ys:List (DataW H×List MemPlace)),ys.map (·.1)=xs→(∀ (i:Nat),i<xs.length→DataW.trod enc P w b0 sp held m e ((cs.drop (o+i * P.cellsOf e)).take (P.cellsOf e))=ys[i]?)→CellsOK w vs (cs.drop o)):=by
 induction f with
 | zero=>exact ⟨fun t d vs h=>by simp [litC] at h,fun fs xs o vs cs h=>by simp [litF] at h,fun e xs o vs cs h=>by simp [litA] at h⟩
 | succ f ih =>
  obtain ⟨ihC,ihF,ihA⟩:=ih
  refine ⟨fun t d vs h fuel cs x hx hd=>?_,fun fs xs o vs cs h m ys hys hf=>?_,fun e xs o vs cs h hl m ys hys hf=>?_⟩
  ·simp only [litC] at h
   split at h
   ·rename_i k hk
    split at h
    ·rename_i k' n
     cases h
     obtain ⟨m,rfl,h2,_⟩:=DataW.trod_int hk hx
     have hxd:x.1 = .lit (.int k m):=by rw [h2]
     rw [hd] at hxd
     simp only [DataW.lit.injEq,Lit.int.injEq] at hxd
     obtain ⟨_,rfl⟩:=hxd
     refine ⟨rfl,fun i v x hv hx=>?_⟩
     cases i with
     | zero=>simp at hv hx; subst hv; subst hx; exact ⟨rfl,by simp [ri]⟩
     | succ i=>simp at hv
    ·cases h
   ·rename_i fs hs
    split at h
    ·rename_i xs
     obtain ⟨ys,n,_,hy,hl,hyl,hf⟩:=DataW.trod_struct hs hx
     have hxs:ys.map (·.1)=xs:=by
      have:=hd
      rw [hy] at this
      simpa using this
     rw [← hl] at h
     have:=ihF fs.toList xs 0 vs cs h n ys hxs (fun i fd hi=>hf i fd (by simpa using hi))
     simpa using this
    ·cases h
   ·rename_i n e ha
    split at h
    ·rename_i xs
     split at h
     ·rename_i hn
      obtain ⟨ys,m,_,hy,hl,hyl,hf⟩:=DataW.trod_array ha hx
      have hxs:ys.map (·.1)=xs:=by
       have:=hd
       rw [hy] at this
       simpa using this
      have hxl:xs.length=n:=by rw [← hxs]; simpa using hyl
      have:=ihA e xs 0 vs cs h (by rw [hl,hn,hxl]; omega) m ys hxs (fun i hi=>by rw [Nat.zero_add]; exact hf i (by omega))
      simpa using this
     ·cases h
    ·cases h
   ·cases h
  ·cases fs with
   | nil =>
    cases xs with
    | nil =>
     simp only [litF] at h
     split at h
     ·rename_i hn
      cases h
      subst hn
      refine ⟨by simp,fun i v x hv hx=>by simp at hv⟩
     ·cases h
    | cons x xs=>simp [litF] at h
   | cons fd fs =>
    cases xs with
    | nil=>simp [litF] at h
    | cons x xs =>
     simp only [litF] at h
     split at h
     ·rename_i ho
      cases ha:litC P f fd.type x with
      | none=>rw [ha] at h; cases h
      | some a =>
       cases hb:litF P f cs.length fs xs (o+P.cellsOf fd.type) with
       | none=>rw [ha,hb] at h; cases h
       | some b =>
        rw [ha,hb] at h
        simp only [Option.bind_some] at h
        split at h
        ·rename_i hal
         cases h
         cases ys with
         | nil=>simp at hys
         | cons y ys =>
          simp only [List.map_cons,List.cons.injEq] at hys
          have h0:=hf 0 fd rfl
          rw [ho] at h0
          rw [take_split cs o (P.cellsOf fd.type)]
          exact (ihC _ _ _ ha _ _ _ h0 hys.1).append (ihF fs xs _ b cs hb m ys hys.2 (fun i fd' hi=>hf (i+1) fd' (by simpa using hi)))
        ·cases h
     ·cases h
  ·cases xs with
   | nil =>
    simp only [litA,Option.some.injEq] at h
    subst h
    refine ⟨by simp at hl ⊢; omega,fun i v x hv hx=>by simp at hv⟩
   | cons x xs =>
    simp only [litA] at h
    cases ha:litC P f e x with
    | none=>rw [ha] at h; cases h
    | some a =>
     cases hb:litA P f e xs with
     | none=>rw [ha,hb] at h; cases h
     | some b =>
      rw [ha,hb] at h
      simp only [Option.bind_some] at h
      split at h
      ·rename_i hal
       cases h
       cases ys with
       | nil=>simp at hys
       | cons y ys =>
        simp only [List.map_cons,List.cons.injEq] at hys
        have h0:=hf 0 (by simp)
        rw [Nat.zero_mul,Nat.add_zero] at h0
        rw [take_split cs o (P.cellsOf e)]
        refine (ihC _ _ _ ha _ _ _ h0 hys.1).append (ihA e xs _ b cs hb (by rw [hl,List.length_cons,Nat.add_mul]; omega) m ys hys.2 (fun i hi=>?_))
        have:=hf (i+1) (by simpa using hi)
        rw [Nat.add_mul,Nat.one_mul] at this
        rw [show o+P.cellsOf e+i * P.cellsOf e=o+(i * P.cellsOf e+P.cellsOf e) by omega]
        simpa using this
      ·cases h
end
structure LaidOne (P:Program) (g:Nat) (n:String) (d:DataW Unit) (vs:List V):Prop where
 name:P.globalNamed n=some g
 cells:(((P.globals[g]?).map (·.type)).bind fun t=>litC P 64 t d)=some vs
theorem riCells_of {F:Nat→Prop} {w:World} {b:Nat} : ∀ (vs:List V) (o:Nat),(∀ i v,vs[i]? = some v → ∃ x,w.cell? ⟨b,o+i,none⟩=some x∧x.oneCell' = true∧ri F w v x)→riCells F w b vs o
 | [],o,_=>by simp only [riCells]
 | v::vs,o,h=>by
  simp only [riCells]
  refine ⟨by simpa using h 0 v rfl,riCells_of vs (o+1) fun i v hi=>?_⟩
  have:=h (i+1) v (by simpa using hi)
  rwa [show o+(i+1)=o+1+i by omega] at this
theorem laid_adr {P:Program} {w:World} {laid:List (String×DataW Unit)} (hp:(laid.all fun x=>x.2.handleName?.isNone)=true) (h:laidMetH P laid w) {g:Nat} {n:String} {d:DataW Unit} {vs:List V} (hm:(n,d)∈laid) (ho:LaidOne P g n d vs) (hne:vs≠[]) :
  ri (FW w) w (.adr vs 0) (.pointer (some ⟨g,0,none⟩)):=by
 rw [MakeChecks.laidMetH_plain _ _ _ hp] at h
 obtain ⟨ps,hl,_⟩:=h
 have key : ∀ (l:List (String×DataW Unit)) (ps:List MemPlace),DataW.LaidVars P w l ps→(n,d)∈l → ∃ t cs fuel p,(P.globals[g]?).map (·.type)=some t∧w.var? P n=some cs∧DataW.trod (fun _=>()) P w 0 (fun _=>true) false fuel t cs.toList=some (d,p):=by
  intro l
  induction l with
  | nil=>intro ps _ hm; cases hm
  | cons a r ih =>
   obtain ⟨n', d'⟩:=a
   intro ps hl hm
   obtain ⟨g', t,cs,fuel,p,q,h1,h2,h3,h4,h5,_⟩:=hl
   rcases List.mem_cons.1 hm with he | he
   ·cases he
    obtain rfl:=Option.some.inj (ho.name.symm.trans h1)
    exact ⟨t,cs,fuel,p,h2,h3,h4⟩
   ·exact ih q h5 he
 obtain ⟨t,cs,fuel,p,h1,h2,h3⟩:=key laid ps hl hm
 have k2:=ho.cells
 rw [h1,Option.bind_some] at k2
 have hc:=(lit_ok 64).1 _ _ _ k2 _ _ _ h3 rfl
 have hv:=World.var?_cell ho.name h2
 simp only [ri]
 have cell : ∀ i v,vs[i]? = some v → ∃ x,w.cell? ⟨g,0+i,none⟩=some x∧x.oneCell' = true∧ri (FW w) w v x:=by
  intro i v hi
  have hlt:i<vs.length:=(List.getElem?_eq_some_iff.1 hi).1
  have hlt' : i<cs.toList.length:=by rw [hc.1]; exact hlt
  obtain ⟨q1,q2⟩:=hc.2 i v _ hi (List.getElem?_eq_getElem hlt')
  refine ⟨cs.toList[i],?_,q1,q2⟩
  rw [Nat.zero_add,hv i]
  simp at hlt' ⊢
 refine ⟨g,0,by simp,?_,riCells_of vs 0 cell⟩
 obtain ⟨v,r,rfl⟩:=List.exists_cons_of_ne_nil hne
 obtain ⟨x,hx,_⟩:=cell 0 v rfl
 show g<w.heap.size
 simp only [World.cell?] at hx
 cases hh:w.heap[0+g]? with
 | none=>rw [Nat.zero_add] at hh; rw [hh] at hx; simp at hx
 | some o=>rw [Nat.zero_add] at hh; exact lt_of_some hh
end Go.Proofs.YtbionhgjgcpogaaGreatDoor.Clean
