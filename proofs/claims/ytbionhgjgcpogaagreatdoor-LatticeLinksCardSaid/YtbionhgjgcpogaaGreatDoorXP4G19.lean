/- A part of the proof. -/
import Derived.Test.YtbionhgjgcpogaaGreatDoorProg
import Derived.Test.YtbionhgjgcpogaaGreatDoorXP4G9
import Derived.Test.YtbionhgjgcpogaaGreatDoorXP4G10
import Derived.Test.YtbionhgjgcpogaaGreatDoorXP4G11
import Derived.Test.YtbionhgjgcpogaaGreatDoorXP4G12
import Derived.Test.YtbionhgjgcpogaaGreatDoorXP4G13
import Derived.Test.YtbionhgjgcpogaaGreatDoorXP4G15
import Derived.Test.YtbionhgjgcpogaaGreatDoorXP4G17
import Derived.Test.YtbionhgjgcpogaaGreatDoorXP4G18
namespace Go.Proofs.YtbionhgjgcpogaaGreatDoor
open Go Go.Proofs.YtbionhgjgcpogaaGreatDoor.Clean
set_option linter.unusedVariables false
set_option maxRecDepth 100000
set_option linter.unusedSimpArgs false
set_option maxRecDepth 10000
theorem askM.uniq {l:List Kd} {m:List Bk} {e f:Int} (h:askM l m e) (g:askM l m f):e=f:=by
 rcases h with ⟨h1,h2⟩ | ⟨h1,h2,h3⟩ | ⟨h1,h2,h3⟩ | ⟨h1,h2,h3,h4⟩ | ⟨h1,h2⟩ <;> rcases g with ⟨g1,g2⟩ | ⟨g1,g2,g3⟩ | ⟨g1,g2,g3⟩ | ⟨g1,g2,g3,g4⟩ | ⟨g1,g2⟩ <;> first | omega | exact (h2 g1).elim | exact (g2 h1).elim | exact (h2 g1.kinds).elim | exact (g2 h1.kinds).elim | exact (h3 g1.all).elim | exact (g3 h1.all).elim | (have:=h1.few; omega) | (have:=g1.few; omega) | (have:=h1.1; omega) | (have:=g1.1; omega) | (have:=h1.kinds.1; omega) | (have:=g1.kinds.1; omega)
theorem errM.uniq {l:List Kd} {m:List Bk} {e f:Int} (h:errM l m e) (g:errM l m f):e=f:=by
 rcases h with ⟨h1,h2⟩ | ⟨h1,h2,h3⟩ <;> rcases g with ⟨g1,g2⟩ | ⟨g1,g2,g3⟩
 ·exact h1.uniq g1
 ·exact (h2 (h1.uniq (.inr (.inr (.inr (.inr ⟨g1,rfl⟩)))))).elim
 ·exact (g2 (g1.uniq (.inr (.inr (.inr (.inr ⟨h1,rfl⟩)))))).elim
 ·omega
theorem errM.no {l:List Kd} {m:List Bk} {e:Int} (h:errM l m e) (g:OkM l m):False:=by
 rcases h with ⟨h1,h2⟩ | ⟨h1,h2,h3⟩
 ·exact h2 (h1.uniq (.inr (.inr (.inr (.inr ⟨g.ask,rfl⟩)))))
 ·exact h2 g.free
theorem hd_of {L:List Lk} : ∀ p:Nat, ∃ i,i≤p∧key (at_ L i)=key (at_ L p)∧Hd L i
 | 0=>⟨0,Nat.le_refl _,rfl,.inl rfl⟩
 | p+1=>by
  by_cases h:Hd L (p+1)
  ·exact ⟨p+1,Nat.le_refl _,rfl,h⟩
  ·obtain ⟨i,h1,h2,h3⟩:=hd_of (L:=L) p
   have:key (at_ L p)=key (at_ L (p+1)):=by
    refine Classical.byContradiction fun hn=>h (.inr ?_)
    rw [Nat.add_sub_cancel]
    exact hn
   exact ⟨i,by omega,h2.trans this,h3⟩
theorem own_hd {L:List Lk} {i:Nat} (hi:i<L.length):(owL L i).headD lk0∈owL L i:=by
 have hm:at_ L i∈owL L i:=List.mem_filter.2 ⟨mem_at (at_get hi),by simp⟩
 cases ho:owL L i with
 | nil=>rw [ho] at hm; simp at hm
 | cons x L=>simp
theorem jnt_of {l:List Bdy} {x:Lk} (h:x∈lnk l) : ∃ j∈jnt l,j.1=x.1∧j.2.1=x.2.1:=by
 obtain ⟨p,hp⟩:=List.mem_iff_getElem?.1 h
 have hpl:=(List.getElem?_eq_some_iff.1 hp).1
 have hx:x=at_ (lnk l) p:=by rw [at_get hpl] at hp; exact (Option.some.inj hp).symm
 obtain ⟨i,h1,h2,h3⟩:=hd_of (L:=lnk l) p
 have hi:i<(lnk l).length:=by omega
 have hh:=(List.mem_filter.1 (own_hd hi)).2
 have hk:key ((owL (lnk l) i).headD lk0)=key (at_ (lnk l) i):=by simpa using hh
 have hk2:=key_eq.1 (hk.trans (h2.trans (congrArg key hx.symm)))
 refine ⟨joF l (owL (lnk l) i),?_,hk2.1,hk2.2⟩
 unfold jnt jnS
 refine List.mem_flatMap.2 ⟨i,List.mem_range.2 hi,?_⟩
 rw [dc_t h3,if_pos rfl]
 simp
theorem jnt_has {l:List Bdy} {j:Jt} (h:j∈jnt l) : ∃ x∈lnk l,x.1=j.1∧x.2.1=j.2.1:=by
 unfold jnt jnS at h
 obtain ⟨i,hi,hj⟩:=List.mem_flatMap.1 h
 split at hj
 ·rw [List.mem_singleton.1 hj]
  exact ⟨_,(List.mem_filter.1 (own_hd (List.mem_range.1 hi))).1,rfl,rfl⟩
 ·simp at hj
theorem adj_lnk {l:List Bdy} {a b:Nat}:Adj (jnt l) a b ↔ ∃ x∈lnk l,(x.1=(a:Int)∧x.2.1=(b:Int))∨(x.1=(b:Int)∧x.2.1=(a:Int)):=by
 constructor
 ·rintro ⟨j,hj,h⟩
  obtain ⟨x,hx,h1,h2⟩:=jnt_has hj
  exact ⟨x,hx,by rw [h1,h2]; exact h⟩
 ·rintro ⟨x,hx,h⟩
  obtain ⟨j,hj,h1,h2⟩:=jnt_of hx
  exact ⟨j,hj,by rw [h1,h2]; exact h⟩
theorem lnk_rg {l:List Bdy} {x:Lk} (h:x∈lnk l) : ∃ a b:Nat,x.1=(a:Int)∧x.2.1=(b:Int)∧a<b∧b<l.length:=by
 obtain ⟨a,b,i,j,k,o,h1,h2,_,_,_,h6⟩:=mem_lnk.1 h
 exact ⟨a,b,by rw [h6],by rw [h6],h1,h2⟩
theorem Con.leaves {js:List Jt} {p:Nat→Prop} {a b:Nat} (h:Con js a b) (ha:p a) (hb : ¬ p b) : ∃ x y,Adj js x y∧p x ∧ ¬ p y:=by
 induction h with
 | refl=>exact (hb ha).elim
 | @step b c _ e ih =>
  by_cases hp:p b
  ·exact ⟨b,c,e,hp,hb⟩
  ·exact ih hp
theorem GrpP.uniq {js:List Jt} {n:Nat} {g g' : List Int} (h:GrpP js n g) (h' : GrpP js n g'):g=g' := by
 refine List.ext_getElem? (fun v=>?_)
 by_cases hv:v<n
 ·rw [gat_get (by rw [h.len]; exact hv),gat_get (by rw [h'.len]; exact hv)]
  obtain ⟨a,h1,h2,h3,h4⟩:=h.lea v hv
  obtain ⟨b,g1,g2,g3,g4⟩:=h'.lea v hv
  have e1:=h4 b g3
  have e2:=g4 a h3
  rw [h1,g1,show a=b from by omega]
 ·rw [List.getElem?_eq_none (by rw [h.len]; omega),List.getElem?_eq_none (by rw [h'.len]; omega)]
theorem ngel {g:List Int} {n v:Nat} {k:Int→Prop} (h:g.length=n) (hv:v<n) (hk:k (gat g v)):onSome (nl g)[v]? fun row=>onSome row[0]? fun v=>onIntK IntKind.i64 v fun n=>k n:=iel (gat_get (by omega)) hk
theorem greatK {l:List Kd} {m:List Bk} (h : ¬ GreatP l m) (hr : ∀ q∈l, ∀ k∈q.2.1,KnR k):l.length≤20 ∧ ∀ q∈l,KdR q:=by
 refine ⟨Nat.le_of_not_lt fun x=>h (.inl x),fun q hq=>⟨hr q hq,Nat.le_of_not_lt fun x=>h (.inr (.inr ⟨q,hq,.inl x⟩)),Nat.le_of_not_lt fun x=>h (.inr (.inr ⟨q,hq,.inr x⟩))⟩⟩
theorem great45 {l:List Kd} {m:List Bk} (h : ¬ GreatP l m):m.length≤45:=by
 unfold GreatP at h
 rcases Nat.lt_or_ge 45 m.length with g | g
 ·exact (h (.inr (.inl g))).elim
 ·exact g
set_option maxRecDepth 100000
def kpR:FuncId→Nat→Option (List Tmp):=slotsOf [(114,0,[0,3,6]),(115,0,[0,3,5,6]),(115,2,[0,3,5,6,7]),(137,0,[0,1,5]),(67,0,[0,3,5,6]),(67,2,[0,3,5,6,7]),(67,4,[0,3,5,6,7,8,9,10]),(67,6,[0,3,5,6,7,8,9,10,11]),(69,0,[0,3,5,6,7]),(69,2,[0,3,5,6,7,8,9]),(119,0,[0,2,4,6,7,8,9,10]),(71,0,[3,5,6,7]),(71,2,[3,5,6,8]),(71,4,[3,5,6,8,9]),(34,0,[0,1,5])]
noncomputable def cfRR:Cfg:={ cfgG Tryz.prog glX moZ poP (rtP fN) (inN [117]) kpR with clean:=fun g=>true }
noncomputable def sh137 (a b:List Cl) (i:Nat):St:=⟨mkT [(0,V.lst 3 (cll a)),(1,V.lst 3 (cll b)),(5,iv (i:Int))],⟨[],0,[]⟩⟩
noncomputable def sh114 (l:List Kd) (m:List Bk) (i:Nat):St:=⟨mkT [(0,V.lst 3 (kdl l)),(3,V.ptr (Id.p 0) 0 0),(6,iv (i:Int))],⟨[(0,O.rows 1 false [[V.lst 6 (bkl m)]])],1,[]⟩⟩
noncomputable def oRa (l:List Kd) (m:List Bk) (i:Nat):St:=⟨mkT [(0,V.lst 3 (kdl l)),(3,V.ptr (Id.p 0) 0 0),(5,nilS),(6,iv (i:Int))],⟨[(0,O.rows 1 false [[V.lst 6 (bkl m)]])],1,[]⟩⟩
noncomputable def oRaS (l:List Kd) (m:List Bk) (s:Nat) (rs:List (List V)) (q i:Nat):St:=⟨mkT [(0,V.lst 3 (kdl l)),(3,V.ptr (Id.p 0) 0 0),(5,V.sl (Id.p 1) 0 q),(6,iv (i:Int))],⟨[(0,O.rows 1 false [[V.lst 6 (bkl m)]]),(1,O.rows s true rs)],2,[]⟩⟩
noncomputable def oRb (l:List Kd) (m:List Bk) (i k:Nat):St:=⟨mkT [(0,V.lst 3 (kdl l)),(3,V.ptr (Id.p 0) 0 0),(5,nilS),(6,iv (i:Int)),(7,iv (k:Int))],⟨[(0,O.rows 1 false [[V.lst 6 (bkl m)]])],1,[]⟩⟩
noncomputable def oRbS (l:List Kd) (m:List Bk) (s:Nat) (rs:List (List V)) (q i k:Nat):St:=⟨mkT [(0,V.lst 3 (kdl l)),(3,V.ptr (Id.p 0) 0 0),(5,V.sl (Id.p 1) 0 q),(6,iv (i:Int)),(7,iv (k:Int))],⟨[(0,O.rows 1 false [[V.lst 6 (bkl m)]]),(1,O.rows s true rs)],2,[]⟩⟩
noncomputable def lRc (l:List Kd) (m:List Bk) (a b:Nat) (s:Nat) (x:List Kn) (t:Nat) (y:List Kn) (i:Nat):St:=⟨mkT [(0,V.lst 3 (kdl l)),(3,V.ptr (Id.p 0) 0 0),(5,nilS),(6,iv (a:Int)),(7,iv (b:Int)),(8,V.lst s (knl x)),(9,V.lst t (knl y)),(10,iv (i:Int))],⟨[(0,O.rows 1 false [[V.lst 6 (bkl m)]])],1,[]⟩⟩
noncomputable def lRcS (l:List Kd) (m:List Bk) (a b:Nat) (s:Nat) (x:List Kn) (t:Nat) (y:List Kn) (i:Nat) (L:List Lk) (q:Nat):St:=⟨mkT [(0,V.lst 3 (kdl l)),(3,V.ptr (Id.p 0) 0 0),(5,V.sl (Id.p 1) 0 q),(6,iv (a:Int)),(7,iv (b:Int)),(8,V.lst s (knl x)),(9,V.lst t (knl y)),(10,iv (i:Int))],⟨[(0,O.rows 1 false [[V.lst 6 (bkl m)]]),(1,O.rows 5 true (lkl L))],2,[]⟩⟩
noncomputable def lRd (l:List Kd) (m:List Bk) (a b:Nat) (s:Nat) (x:List Kn) (t:Nat) (y:List Kn) (i k:Nat):St:=⟨mkT [(0,V.lst 3 (kdl l)),(3,V.ptr (Id.p 0) 0 0),(5,nilS),(6,iv (a:Int)),(7,iv (b:Int)),(8,V.lst s (knl x)),(9,V.lst t (knl y)),(10,iv (i:Int)),(11,iv (k:Int))],⟨[(0,O.rows 1 false [[V.lst 6 (bkl m)]])],1,[]⟩⟩
noncomputable def lRdS (l:List Kd) (m:List Bk) (a b:Nat) (s:Nat) (x:List Kn) (t:Nat) (y:List Kn) (i k:Nat) (L:List Lk) (q:Nat):St:=⟨mkT [(0,V.lst 3 (kdl l)),(3,V.ptr (Id.p 0) 0 0),(5,V.sl (Id.p 1) 0 q),(6,iv (a:Int)),(7,iv (b:Int)),(8,V.lst s (knl x)),(9,V.lst t (knl y)),(10,iv (i:Int)),(11,iv (k:Int))],⟨[(0,O.rows 1 false [[V.lst 6 (bkl m)]]),(1,O.rows 5 true (lkl L))],2,[]⟩⟩
noncomputable def jRa (l:List Kd) (m:List Bk) (s:Nat) (L:List Lk) (i:Nat):St:=⟨mkT [(0,V.lst 3 (kdl l)),(3,V.ptr (Id.p 0) 0 0),(5,V.lst s (lkl L)),(6,nilS),(7,iv (i:Int))],⟨[(0,O.rows 1 false [[V.lst 6 (bkl m)]])],1,[]⟩⟩
noncomputable def jRaS (l:List Kd) (m:List Bk) (s:Nat) (L:List Lk) (i:Nat) (js:List Jt) (q:Nat):St:=⟨mkT [(0,V.lst 3 (kdl l)),(3,V.ptr (Id.p 0) 0 0),(5,V.lst s (lkl L)),(6,V.sl (Id.p 1) 0 q),(7,iv (i:Int))],⟨[(0,O.rows 1 false [[V.lst 6 (bkl m)]]),(1,O.rows 5 true (jtl js))],2,[]⟩⟩
noncomputable def jRb (l:List Kd) (m:List Bk) (s:Nat) (L:List Lk) (i k:Nat):St:=⟨mkT [(0,V.lst 3 (kdl l)),(3,V.ptr (Id.p 0) 0 0),(5,V.lst s (lkl L)),(6,nilS),(7,iv (i:Int)),(8,nilS),(9,iv (k:Int))],⟨[(0,O.rows 1 false [[V.lst 6 (bkl m)]])],1,[]⟩⟩
noncomputable def jRbO (l:List Kd) (m:List Bk) (s:Nat) (L:List Lk) (i k:Nat) (K:List Lk) (p:Nat):St:=⟨mkT [(0,V.lst 3 (kdl l)),(3,V.ptr (Id.p 0) 0 0),(5,V.lst s (lkl L)),(6,nilS),(7,iv (i:Int)),(8,V.sl (Id.p 1) 0 p),(9,iv (k:Int))],⟨[(0,O.rows 1 false [[V.lst 6 (bkl m)]]),(1,O.rows 5 true (lkl K))],2,[]⟩⟩
noncomputable def jRbS (l:List Kd) (m:List Bk) (s:Nat) (L:List Lk) (i k:Nat) (js:List Jt) (q:Nat):St:=⟨mkT [(0,V.lst 3 (kdl l)),(3,V.ptr (Id.p 0) 0 0),(5,V.lst s (lkl L)),(6,V.sl (Id.p 1) 0 q),(7,iv (i:Int)),(8,nilS),(9,iv (k:Int))],⟨[(0,O.rows 1 false [[V.lst 6 (bkl m)]]),(1,O.rows 5 true (jtl js))],2,[]⟩⟩
noncomputable def jRbSO (l:List Kd) (m:List Bk) (s:Nat) (L:List Lk) (i k:Nat) (js:List Jt) (q:Nat) (K:List Lk) (p:Nat):St:=⟨mkT [(0,V.lst 3 (kdl l)),(3,V.ptr (Id.p 0) 0 0),(5,V.lst s (lkl L)),(6,V.sl (Id.p 1) 0 q),(7,iv (i:Int)),(8,V.sl (Id.p 2) 0 p),(9,iv (k:Int))],⟨[(0,O.rows 1 false [[V.lst 6 (bkl m)]]),(1,O.rows 5 true (jtl js)),(2,O.rows 5 true (lkl K))],3,[]⟩⟩
noncomputable def sh119 (l:List Kd) (m:List Bk) (L:List Lk) (x:Lk) (f:Kn) (j:Jt) (i:Nat):St:=⟨mkT [(0,V.lst 3 (kdl l)),(2,V.lst 5 (lkl L)),(4,V.ptr (Id.p 0) 0 0),(6,V.ptr (Id.p 1) 0 0),(7,V.ptr (Id.p 2) 0 0),(8,V.ptr (Id.p 3) 0 0),(9,V.ptr (Id.p 4) 0 0),(10,iv (i:Int))],⟨[(0,O.rows 1 false [[V.lst 6 (bkl m)]]),(1,O.rows 5 false [jtr (0,0,0,0,false)]),(2,O.rows 5 false [lkr x]),(3,O.rows 5 false [knr f]),(4,O.rows 5 false [jtr j])],5,[]⟩⟩
noncomputable def gRa (m:List Bk) (s:Nat) (L:List Lk) (i:Nat):St:=⟨mkT [(3,V.ptr (Id.p 0) 0 0),(5,V.lst s (lkl L)),(6,nilS),(7,iv (i:Int))],⟨[(0,O.rows 1 false [[V.lst 6 (bkl m)]])],1,[]⟩⟩
noncomputable def gRaS (m:List Bk) (s:Nat) (L:List Lk) (g:List Int) (q i:Nat):St:=⟨mkT [(3,V.ptr (Id.p 0) 0 0),(5,V.lst s (lkl L)),(6,V.sl (Id.p 1) 0 q),(7,iv (i:Int))],⟨[(0,O.rows 1 false [[V.lst 6 (bkl m)]]),(1,O.rows 1 true (nl g))],2,[]⟩⟩
noncomputable def gRb (m:List Bk) (s:Nat) (L:List Lk) (i:Nat):St:=⟨mkT [(3,V.ptr (Id.p 0) 0 0),(5,V.lst s (lkl L)),(6,nilS),(8,iv (i:Int))],⟨[(0,O.rows 1 false [[V.lst 6 (bkl m)]])],1,[]⟩⟩
noncomputable def gRbS (m:List Bk) (s:Nat) (L:List Lk) (g:List Int) (q i:Nat):St:=⟨mkT [(3,V.ptr (Id.p 0) 0 0),(5,V.lst s (lkl L)),(6,V.sl (Id.p 1) 0 q),(8,iv (i:Int))],⟨[(0,O.rows 1 false [[V.lst 6 (bkl m)]]),(1,O.rows 1 true (nl g))],2,[]⟩⟩
noncomputable def gRc (m:List Bk) (s:Nat) (L:List Lk) (g:List Int) (q i k:Nat):St:=⟨mkT [(3,V.ptr (Id.p 0) 0 0),(5,V.lst s (lkl L)),(6,V.sl (Id.p 1) 0 q),(8,iv (i:Int)),(9,iv (k:Int))],⟨[(0,O.rows 1 false [[V.lst 6 (bkl m)]]),(1,O.rows 1 true (nl g))],2,[]⟩⟩
noncomputable def sh34 (a b:List Jt) (i:Nat):St:=⟨mkT [(0,V.lst 5 (jtl a)),(1,V.lst 5 (jtl b)),(5,iv (i:Int))],⟨[],0,[]⟩⟩
set_option maxRecDepth 10000
theorem hcRR:cfRR.ok Tryz.prog:=by
 have h:(cfgG Tryz.prog glX moZ poP (rtP fN) (inN [117]) kpR).ok Tryz.prog:=cfgG_ok (rtP_ok fN)
 exact ⟨h.1,h.2⟩
theorem common137 {a b:List Cl} {R:V→Prop} (ha:a.length≤1000000) (hb:b.length≤1000000) (h:R (bv (dc (∃ x,x∈a∧x∈b)))):K0G Tryz.prog glX 137 [.lst 3 (cll a),.lst 3 (cll b)] R:=by
 refine K0_by hmX hcRR 3000 Tryz.func137 (p:=La 0 [(0:Tmp),(1:Tmp),(5:Tmp)] (WY Tryz.prog cfRR 2995 (Env.mk (Bs.mk 0 []) 0 none 18 137 0) (cdAt [1,0,1,0,0] (bodyOf Tryz.f137))) (Qblk 0 (Qthen (WY Tryz.prog cfRR 2998 (Env.mk (Bs.mk 0 []) 0 none 18 137 0) (cdAt [1,1] (bodyOf Tryz.f137)) (QendX Tryz.prog Tryz.f137 fun v h=>R (frzW h v))) (QendX Tryz.prog Tryz.f137 fun v h=>R (frzW h v)))) (St.mk (mkT [(0,V.lst 3 (cll a)),(1,V.lst 3 (cll b)),(5,iv (0:Int))]) (Hp.mk [] 0 []))) (by kernel_rfl) ?_
 refine La.of (σ:=Nat) (fun i=>sh137 a b i) (fun i=>i≤a.length ∧ ∀ x∈a.take i, ¬ x∈b) (fun i=>a.length - i) 0 (by kernel_rfl) ⟨by omega,by simp⟩ ?_
 rintro i ⟨g1,g2⟩ J hJ
 refine see (p:=ifB (decide ((↑i:Int)<(↑(cll a).length:Int))) (onSome (cll a)[i]? fun row=>onCons (List.drop 0 row) fun u r=>onIntK IntKind.i64 u fun n=>onCons r fun u r=>onIntK IntKind.i64 u fun n_1=>onCons r fun u r=>onIntK IntKind.i64 u fun n_2=>K0G Tryz.prog glX 42 [V.lst 3 (cll b),V.agg [iv n,iv n_1,iv n_2]] fun v=>onBool v fun b_1=>ifB b_1 (R (bv true)) (J (St.mk (mkT [(0,V.lst 3 (cll a)),(1,V.lst 3 (cll b)),(5,iv (IntKind.i64.wrap ((↑i:Int)+(1:Int))))]) (Hp.mk [] 0 [])))) (R (bv false))) (by kernel_rfl) ?_
 rw [cll_length]
 refine ifB_mk (fun d=>?_) (fun d=>?_)
 ·have hi:i<a.length:=by have:=of_decide_eq_true d; omega
  obtain ⟨x,hx⟩:=getI hi
  refine cel hx (has42 (c:=x) (by omega) (onBool_bv (ifB_mk (fun c=>rt h ⟨x,mem_at hx,dc_true c⟩) (fun c=>?_))))
  rw [wr1i hi (by omega)]
  exact hJ (i+1) ⟨hi,all_take hx g2 (dc_false c)⟩ (by omega)
 ·have hi:a.length≤i:=by have:=of_decide_eq_false d; omega
  exact rf h (fun ⟨x,h1,h2⟩=>g2 x (by rw [List.take_of_length_le hi]; exact h1) h2)
theorem bricks114 {l:List Kd} {m:List Bk} {R:V→Prop} (hl : ∀ q∈l,KdR q) (hll:(l.length:Int)≤1000000) (hml:m.length≤1000000) (h : ∀ e,askM l m e→R (iv e)):K0G Tryz.prog glX 114 [.lst 3 (kdl l),.agg [.lst 6 (bkl m)]] R:=by
 refine K0_by hmX hcRR 3000 Tryz.func114 (p:=K0G Tryz.prog glX 17 [V.lst 3 (kdl l)] fun v=>onIntK IntKind.i64 v fun n=>ifB (n != (0:Int)) (R (iv n)) (ifB (decide ((↑(bkl m).length:Int) > (40:Int))) (R (iv (4:Int))) (La 0 [(0:Tmp),(3:Tmp),(6:Tmp)] (WY Tryz.prog cfRR 2993 (Env.mk (Bs.mk 0 []) 0 none 31 114 0) (cdAt [1,1,1,0,1,0,0] (bodyOf Tryz.f114))) (Qblk 0 (Qthen (WY Tryz.prog cfRR 2996 (Env.mk (Bs.mk 0 []) 0 none 31 114 0) (cdAt [1,1,1,1] (bodyOf Tryz.f114)) (QendX Tryz.prog Tryz.f114 fun v h=>R (frzW h v))) (QendX Tryz.prog Tryz.f114 fun v h=>R (frzW h v)))) (St.mk (mkT [(0,V.lst 3 (kdl l)),(3,V.ptr (Id.p 0) 0 0),(6,iv (0:Int))]) (Hp.mk [(0,O.rows 1 false [[V.lst 6 (bkl m)]])] 1 []))))) (by kernel_rfl) ?_
 refine kinds17 hl (fun hK=>onIntK_iv (ifB_f rfl (ifB_mk (fun c=>h 4 (.inr (.inr (.inl ⟨hK,by rw [bkl_length] at c; have:=of_decide_eq_true c; omega,rfl⟩)))) (fun c=>?_)))) (fun h16=>onIntK_iv (ifB_t rfl (h 4 (.inl ⟨h16,rfl⟩)))) (fun h16 hn=>onIntK_iv (ifB_t rfl (h 10 (.inr (.inl ⟨h16,hn,rfl⟩)))))
 have h40:m.length≤40:=by rw [bkl_length] at c; have:=of_decide_eq_false c; omega
 refine La.of (σ:=Nat) (fun i=>sh114 l m i) (fun i=>i≤m.length ∧ ∀ b∈m.take i,BrickP l.length b) (fun i=>m.length - i) 0 (by kernel_rfl) ⟨by omega,by simp⟩ ?_
 rintro i ⟨g1,g2⟩ J hJ
 refine see (p:=ifB (decide ((↑i:Int)<(↑(bkl m).length:Int))) (onSome (bkl m)[i]? fun row=>onCons (List.drop 0 row) fun u r=>onIntK IntKind.i64 u fun n=>onCons r fun u r=>onIntK IntKind.i64 u fun n_1=>onCons r fun u r=>onIntK IntKind.i64 u fun n_2=>onCons r fun u r=>onIntK IntKind.i64 u fun n_3=>onCons r fun u r=>onIntK IntKind.u8 u fun n_4=>onCons r fun u r=>onIntK IntKind.u8 u fun n_5=>K0G Tryz.prog glX 47 [V.lst 3 (kdl l),V.agg [iv n,iv n_1,iv n_2,iv n_3,V.raw (Value.int IntKind.u8 n_4),V.raw (Value.int IntKind.u8 n_5)]] fun v=>onBool v fun b=>ifB (!b) (R (iv (11:Int))) (J (St.mk (mkT [(0,V.lst 3 (kdl l)),(3,V.ptr (Id.p 0) 0 0),(6,iv (IntKind.i64.wrap ((↑i:Int)+(1:Int))))]) (Hp.mk [(0,O.rows 1 false [[V.lst 6 (bkl m)]])] 1 [])))) (R (iv (0:Int)))) (by kernel_rfl) ?_
 rw [bkl_length]
 refine ifB_mk (fun d=>?_) (fun d=>?_)
 ·have hi:i<m.length:=by have:=of_decide_eq_true d; omega
  obtain ⟨b,hb⟩:=getI hi
  refine bel hb (brick47 (b:=b) hll (onBool_bv (ifB_mk (fun c=>h 11 (.inr (.inr (.inr (.inl ⟨hK,h40,fun q=>nbt c (q b (mem_at hb)),rfl⟩))))) (fun c=>?_))))
  rw [wr1i hi (by omega)]
  exact hJ (i+1) ⟨hi,all_take hb g2 (nb c)⟩ (by omega)
 ·have hi:m.length≤i:=by have:=of_decide_eq_false d; omega
  rw [List.take_of_length_le hi] at g2
  exact h 0 (.inr (.inr (.inr (.inr ⟨⟨hK,h40,g2⟩,rfl⟩))))
theorem cells_bods {l:List Kd} {m:List Bk} {i:Nat} {b:Bk} (h:m[i]? = some b):cellsAt (bods l m) i=plc (kOf l b) b.2.2.1.toNat b.2.1:=by
 unfold cellsAt bods
 rw [List.getElem?_map,h]
 rfl
theorem knobs_bods {l:List Kd} {m:List Bk} {i:Nat} {b:Bk} (h:m[i]? = some b):knobsAt (bods l m) i=knb (kOf l b) b.2.2.1.toNat b.2.1:=by
 unfold knobsAt bods
 rw [List.getElem?_map,h]
 rfl
noncomputable def famRa (l:List Kd) (m:List Bk) (s:Bool×Nat×Nat×List (Nat×Nat)):St:=match s.1 with | false=>oRa l m s.2.1 | true=>oRaS l m 2 (prl s.2.2.2) s.2.2.1 s.2.1
noncomputable def famRb (l:List Kd) (m:List Bk) (i:Nat) (s:Bool×Nat×Nat×List (Nat×Nat)):St:=match s.1 with | false=>oRb l m i s.2.1 | true=>oRbS l m 2 (prl s.2.2.2) s.2.2.1 i s.2.1
set_option maxHeartbeats 1000000 in
theorem overl115 {l:List Kd} {m:List Bk} {R:V→Prop} (hl : ∀ q∈l,KdR q) (hr : ∀ b∈m,BkR b) (hA:AskM l m) (h:R (ovlV (bods l m))):K0G Tryz.prog glX 115 [.lst 3 (kdl l),.agg [.lst 6 (bkl m)]] R:=by
 refine K0_by hmX hcRR 3000 Tryz.func115 (p:=La 0 [(0:Tmp),(3:Tmp),(5:Tmp),(6:Tmp)] (WY Tryz.prog cfRR 2994 (Env.mk (Bs.mk 0 []) 0 none 46 115 0) (cdAt [1,1,0,1,0,0] (bodyOf Tryz.f115))) (Qblk 0 (Qthen (WY Tryz.prog cfRR 2997 (Env.mk (Bs.mk 0 []) 0 none 46 115 0) (cdAt [1,1,1] (bodyOf Tryz.f115)) (QendX Tryz.prog Tryz.f115 fun v h=>R (frzW h v))) (QendX Tryz.prog Tryz.f115 fun v h=>R (frzW h v)))) (St.mk (mkT [(0,V.lst 3 (kdl l)),(3,V.ptr (Id.p 0) 0 0),(5,nilS),(6,iv (0:Int))]) (Hp.mk [(0,O.rows 1 false [[V.lst 6 (bkl m)]])] 1 []))) (by kernel_rfl) ?_
 obtain ⟨n,hn⟩ : ∃ n,n=m.length:=⟨_,rfl⟩
 have hn40:=hA.few
 refine La.of (σ:=Bool×Nat×Nat×List (Nat×Nat)) (famRa l m) (fun s=>s.2.1≤n∧s.2.2.1=s.2.2.2.length∧s.2.2.2=ovl (bods l m) s.2.1∧(s.1=false→s.2.2.2=[])∧(s.1=true→s.2.2.2≠[])) (fun s=>n - s.2.1) (false,0,0,[]) rfl ⟨by simp only; omega,rfl,rfl,fun _=>rfl,fun h=>by cases h⟩ ?_
 rintro ⟨bb,i,q,ps⟩ ⟨g1,gq,gp,gb,gb2⟩ J hJ
 simp only at g1 gq gp gb gb2
 have loop:i<n→La 0 [(0:Tmp),(3:Tmp),(5:Tmp),(6:Tmp),(7:Tmp)] (WY Tryz.prog cfRR 2988 (Env.mk (Bs.mk 0 []) 0 none 46 115 2) (cdAt [1,1,0,1,0,0,1,0,0,1,0,0] (bodyOf Tryz.f115))) (Qblk 2 (Qblk 1 (Qthen (WY Tryz.prog cfRR 2992 (Env.mk (Bs.mk 0 []) 0 none 46 115 0) (cdAt [1,1,0,1,0,0,1,1] (bodyOf Tryz.f115)) (Qla 0 [(0:Tmp),(3:Tmp),(5:Tmp),(6:Tmp)] J (Qblk 0 (Qthen (WY Tryz.prog cfRR 2997 (Env.mk (Bs.mk 0 []) 0 none 46 115 0) (cdAt [1,1,1] (bodyOf Tryz.f115)) (QendX Tryz.prog Tryz.f115 fun v h=>R (frzW h v))) (QendX Tryz.prog Tryz.f115 fun v h=>R (frzW h v)))))) (Qla 0 [(0:Tmp),(3:Tmp),(5:Tmp),(6:Tmp)] J (Qblk 0 (Qthen (WY Tryz.prog cfRR 2997 (Env.mk (Bs.mk 0 []) 0 none 46 115 0) (cdAt [1,1,1] (bodyOf Tryz.f115)) (QendX Tryz.prog Tryz.f115 fun v h=>R (frzW h v))) (QendX Tryz.prog Tryz.f115 fun v h=>R (frzW h v)))))))) (famRb l m i (bb,i+1,q,ps)):=by
  intro hi
  obtain ⟨b,hb⟩:=getI (l:=m) (k:=i) (by omega)
  have hbm:=mem_at hb
  refine La.of (σ:=Bool×Nat×Nat×List (Nat×Nat)) (famRb l m i) (fun s=>(i<s.2.1∧s.2.1≤n)∧s.2.2.1=s.2.2.2.length∧s.2.2.2=ovl (bods l m) i++inn (bods l m) i s.2.1∧(s.1=false→s.2.2.2=[])∧(s.1=true→s.2.2.2≠[])) (fun s=>n - s.2.1) (bb,i+1,q,ps) rfl ⟨⟨by simp only; omega,by simp only; omega⟩,gq,gp.trans (by simp [inn_start]),gb,gb2⟩ ?_
  rintro ⟨bb,k,q,ps⟩ ⟨⟨k0,k1⟩,gq,gp,gb,gb2⟩ I hI
  simp only at k0 k1 gq gp gb gb2
  have hq:q≤2000:=by
   rw [gq,gp,List.length_append]
   have h1:=ovl_len (bods l m) i
   have h2:=inn_len (bods l m) i k
   rw [bods_length] at h1
   have h3:i * m.length≤40 * 40:=Nat.mul_le_mul (by omega) (by omega)
   omega
  rcases bb with _ | _
  ·refine see (p:=ifB (decide ((↑k:Int)<(↑(bkl m).length:Int))) (onSome (bkl m)[i]? fun row=>onCons (List.drop 0 row) fun u r=>onIntK IntKind.i64 u fun n=>onCons r fun u r=>onIntK IntKind.i64 u fun n_1=>onCons r fun u r=>onIntK IntKind.i64 u fun n_2=>onCons r fun u r=>onIntK IntKind.i64 u fun n_3=>onCons r fun u r=>onIntK IntKind.u8 u fun n_4=>onCons r fun u r=>onIntK IntKind.u8 u fun n_5=>onSome (bkl m)[k]? fun row=>onCons (List.drop 0 row) fun u r=>onIntK IntKind.i64 u fun n_6=>onCons r fun u r=>onIntK IntKind.i64 u fun n_7=>onCons r fun u r=>onIntK IntKind.i64 u fun n_8=>onCons r fun u r=>onIntK IntKind.i64 u fun n_9=>onCons r fun u r=>onIntK IntKind.u8 u fun n_10=>onCons r fun u r=>onIntK IntKind.u8 u fun n_11=>K0G Tryz.prog glX 59 [V.lst 3 (kdl l),V.agg [iv n,iv n_1,iv n_2,iv n_3,V.raw (Value.int IntKind.u8 n_4),V.raw (Value.int IntKind.u8 n_5)]] fun v=>onLst v fun s es=>K0G Tryz.prog glX 59 [V.lst 3 (kdl l),V.agg [iv n_6,iv n_7,iv n_8,iv n_9,V.raw (Value.int IntKind.u8 n_10),V.raw (Value.int IntKind.u8 n_11)]] fun v=>onLst v fun s_1 es_1=>K0G Tryz.prog glX 137 [V.lst s es,V.lst s_1 es_1] fun v=>onBool v fun b=>ifB b (I (St.mk (mkT [(0,V.lst 3 (kdl l)),(3,V.ptr (Id.p 0) 0 0),(5,V.sl (Id.p 1) 0 1),(6,iv (↑i:Int)),(7,iv (IntKind.i64.wrap ((↑k:Int)+(1:Int))))]) (Hp.mk [(0,O.rows 1 false [[V.lst 6 (bkl m)]]),(1,O.rows 2 true [[iv (↑i:Int),iv (↑k:Int)]])] 2 []))) (I (St.mk (mkT [(0,V.lst 3 (kdl l)),(3,V.ptr (Id.p 0) 0 0),(5,nilS),(6,iv (↑i:Int)),(7,iv (IntKind.i64.wrap ((↑k:Int)+(1:Int))))]) (Hp.mk [(0,O.rows 1 false [[V.lst 6 (bkl m)]])] 1 [])))) (J (St.mk (mkT [(0,V.lst 3 (kdl l)),(3,V.ptr (Id.p 0) 0 0),(5,nilS),(6,iv (IntKind.i64.wrap ((↑i:Int)+(1:Int))))]) (Hp.mk [(0,O.rows 1 false [[V.lst 6 (bkl m)]])] 1 [])))) (by kernel_rfl) ?_
   refine ifB_mk (fun e=>?_) (fun e=>?_)
   ·have hk:k<n:=by rw [bkl_length,← hn] at e; have:=of_decide_eq_true e; omega
    obtain ⟨c,hc⟩:=getI (l:=m) (k:=k) (by omega)
    obtain ⟨hP,_,_,_⟩:=putK hA.kinds hl (hA.all b hbm) (hr b hbm)
    obtain ⟨hP', _,_,_⟩:=putK hA.kinds hl (hA.all c (mem_at hc)) (hr c (mem_at hc))
    refine bel hb (bel hc (placed59 (b:=b) hP (onLst_lst (placed59 (b:=c) hP' (onLst_lst (common137 ?_ ?_ (onBool_bv (ifB_mk (fun hcm=>?_) (fun hcm=>?_)))))))))
    ·rw [plc_length]; have:=hP.put.2.1; omega
    ·rw [plc_length]; have:=hP'.put.2.1; omega
    all_goals rw [show dc (∃ x,x∈plc (kOf l b) b.2.2.1.toNat b.2.1∧x∈plc (kOf l c) c.2.2.1.toNat c.2.1)=dc (Comm (bods l m) i k) from dc_iff (by unfold Comm; rw [cells_bods hb,cells_bods hc])] at hcm
    ·rw [wr1i hk (by omega)]
     exact hI (true,k+1,1,[(i,k)]) ⟨⟨by simp only; omega,hk⟩,rfl,by simp only; rw [inn_succ k0,if_pos hcm,← List.append_assoc,← gp,gb rfl]; rfl,(fun h=>by cases h),(fun _=>by simp)⟩ (by simp only; omega)
    ·rw [wr1i hk (by omega)]
     exact hI (false,k+1,q,ps) ⟨⟨by simp only; omega,hk⟩,gq,by simp only; rw [inn_succ k0,hcm,if_neg (by simp)]; exact gp,gb,gb2⟩ (by simp only; omega)
   ·have hk:k=n:=by rw [bkl_length,← hn] at e; have:=of_decide_eq_false e; omega
    rw [wr1i hi (by omega)]
    exact hJ (false,i+1,q,ps) ⟨hi,gq,by simp only; rw [ovl_succ,bods_length,← hn,gp,hk],gb,gb2⟩ (by simp only; omega)
  ·refine see (p:=ifB (decide ((↑k:Int)<(↑(bkl m).length:Int))) (onSome (bkl m)[i]? fun row=>onCons (List.drop 0 row) fun u r=>onIntK IntKind.i64 u fun n=>onCons r fun u r=>onIntK IntKind.i64 u fun n_1=>onCons r fun u r=>onIntK IntKind.i64 u fun n_2=>onCons r fun u r=>onIntK IntKind.i64 u fun n_3=>onCons r fun u r=>onIntK IntKind.u8 u fun n_4=>onCons r fun u r=>onIntK IntKind.u8 u fun n_5=>onSome (bkl m)[k]? fun row_1=>onCons (List.drop 0 row_1) fun u r=>onIntK IntKind.i64 u fun n_6=>onCons r fun u r=>onIntK IntKind.i64 u fun n_7=>onCons r fun u r=>onIntK IntKind.i64 u fun n_8=>onCons r fun u r=>onIntK IntKind.i64 u fun n_9=>onCons r fun u r=>onIntK IntKind.u8 u fun n_10=>onCons r fun u r=>onIntK IntKind.u8 u fun n_11=>K0G Tryz.prog glX 59 [V.lst 3 (kdl l),V.agg [iv n,iv n_1,iv n_2,iv n_3,V.raw (Value.int IntKind.u8 n_4),V.raw (Value.int IntKind.u8 n_5)]] fun v=>onLst v fun s es=>K0G Tryz.prog glX 59 [V.lst 3 (kdl l),V.agg [iv n_6,iv n_7,iv n_8,iv n_9,V.raw (Value.int IntKind.u8 n_10),V.raw (Value.int IntKind.u8 n_11)]] fun v=>onLst v fun s_1 es_1=>K0G Tryz.prog glX 137 [V.lst s es,V.lst s_1 es_1] fun v=>onBool v fun b=>ifB b (need ((q+1) * 16≤140737488355328) (I (St.mk (mkT [(0,V.lst 3 (kdl l)),(3,V.ptr (Id.p 0) 0 0),(5,V.sl (Id.p 1) 0 (q+1)),(6,iv (↑i:Int)),(7,iv (IntKind.i64.wrap ((↑k:Int)+(1:Int))))]) (Hp.mk [(0,O.rows 1 false [[V.lst 6 (bkl m)]]),(1,O.rows 2 true (List.take q (prl ps)++[[iv (↑i:Int),iv (↑k:Int)]]))] 2 [])))) (I (St.mk (mkT [(0,V.lst 3 (kdl l)),(3,V.ptr (Id.p 0) 0 0),(5,V.sl (Id.p 1) 0 q),(6,iv (↑i:Int)),(7,iv (IntKind.i64.wrap ((↑k:Int)+(1:Int))))]) (Hp.mk [(0,O.rows 1 false [[V.lst 6 (bkl m)]]),(1,O.rows 2 true (prl ps))] 2 [])))) (J (St.mk (mkT [(0,V.lst 3 (kdl l)),(3,V.ptr (Id.p 0) 0 0),(5,V.sl (Id.p 1) 0 q),(6,iv (IntKind.i64.wrap ((↑i:Int)+(1:Int))))]) (Hp.mk [(0,O.rows 1 false [[V.lst 6 (bkl m)]]),(1,O.rows 2 true (prl ps))] 2 [])))) (by kernel_rfl) ?_
   refine ifB_mk (fun e=>?_) (fun e=>?_)
   ·have hk:k<n:=by rw [bkl_length,← hn] at e; have:=of_decide_eq_true e; omega
    obtain ⟨c,hc⟩:=getI (l:=m) (k:=k) (by omega)
    obtain ⟨hP,_,_,_⟩:=putK hA.kinds hl (hA.all b hbm) (hr b hbm)
    obtain ⟨hP', _,_,_⟩:=putK hA.kinds hl (hA.all c (mem_at hc)) (hr c (mem_at hc))
    refine bel hb (bel hc (placed59 (b:=b) hP (onLst_lst (placed59 (b:=c) hP' (onLst_lst (common137 ?_ ?_ (onBool_bv (ifB_mk (fun hcm=>?_) (fun hcm=>?_)))))))))
    ·rw [plc_length]; have:=hP.put.2.1; omega
    ·rw [plc_length]; have:=hP'.put.2.1; omega
    all_goals rw [show dc (∃ x,x∈plc (kOf l b) b.2.2.1.toNat b.2.1∧x∈plc (kOf l c) c.2.2.1.toNat c.2.1)=dc (Comm (bods l m) i k) from dc_iff (by unfold Comm; rw [cells_bods hb,cells_bods hc])] at hcm
    ·refine need_mk ⟨by omega,?_⟩
     rw [wr1i hk (by omega)]
     have e:List.take q (prl ps)++[[iv (i:Int),iv (k:Int)]]=prl (ps++[(i,k)]):=by
      rw [gq,show ps.length=(prl ps).length from by simp [prl],List.take_length]; simp [prl]
     rw [e]
     exact hI (true,k+1,q+1,ps++[(i,k)]) ⟨⟨by simp only; omega,hk⟩,by simp [gq],by simp only; rw [inn_succ k0,if_pos hcm,gp,List.append_assoc],(fun h=>by cases h),(fun _=>by simp)⟩ (by simp only; omega)
    ·rw [wr1i hk (by omega)]
     exact hI (true,k+1,q,ps) ⟨⟨by simp only; omega,hk⟩,gq,by simp only; rw [inn_succ k0,hcm,if_neg (by simp)]; exact gp,gb,gb2⟩ (by simp only; omega)
   ·have hk:k=n:=by rw [bkl_length,← hn] at e; have:=of_decide_eq_false e; omega
    rw [wr1i hi (by omega)]
    exact hJ (true,i+1,q,ps) ⟨hi,gq,by simp only; rw [ovl_succ,bods_length,← hn,gp,hk],gb,gb2⟩ (by simp only; omega)
 rcases bb with _ | _
 ·refine see (p:=ifB (decide ((↑i:Int)<(↑(bkl m).length:Int))) (La 0 [(0:Tmp),(3:Tmp),(5:Tmp),(6:Tmp),(7:Tmp)] (WY Tryz.prog cfRR 2988 (Env.mk (Bs.mk 0 []) 0 none 46 115 2) (cdAt [1,1,0,1,0,0,1,0,0,1,0,0] (bodyOf Tryz.f115))) (Qblk 2 (Qblk 1 (Qthen (WY Tryz.prog cfRR 2992 (Env.mk (Bs.mk 0 []) 0 none 46 115 0) (cdAt [1,1,0,1,0,0,1,1] (bodyOf Tryz.f115)) (Qla 0 [(0:Tmp),(3:Tmp),(5:Tmp),(6:Tmp)] J (Qblk 0 (Qthen (WY Tryz.prog cfRR 2997 (Env.mk (Bs.mk 0 []) 0 none 46 115 0) (cdAt [1,1,1] (bodyOf Tryz.f115)) (QendX Tryz.prog Tryz.f115 fun v h=>R (frzW h v))) (QendX Tryz.prog Tryz.f115 fun v h=>R (frzW h v)))))) (Qla 0 [(0:Tmp),(3:Tmp),(5:Tmp),(6:Tmp)] J (Qblk 0 (Qthen (WY Tryz.prog cfRR 2997 (Env.mk (Bs.mk 0 []) 0 none 46 115 0) (cdAt [1,1,1] (bodyOf Tryz.f115)) (QendX Tryz.prog Tryz.f115 fun v h=>R (frzW h v))) (QendX Tryz.prog Tryz.f115 fun v h=>R (frzW h v)))))))) (St.mk (mkT [(0,V.lst 3 (kdl l)),(3,V.ptr (Id.p 0) 0 0),(5,nilS),(6,iv (↑i:Int)),(7,iv (IntKind.i64.wrap ((↑i:Int)+(1:Int))))]) (Hp.mk [(0,O.rows 1 false [[V.lst 6 (bkl m)]])] 1 []))) (R nilS)) (by kernel_rfl) ?_
  refine ifB_mk (fun d=>?_) (fun d=>?_)
  ·have hi:i<n:=by rw [bkl_length,← hn] at d; have:=of_decide_eq_true d; omega
   rw [wr1i hi (by omega)]
   exact see (by kernel_rfl) (loop hi)
  ·have hi:i=n:=by rw [bkl_length,← hn] at d; have:=of_decide_eq_false d; omega
   have hov:ovl (bods l m) (bods l m).length=ps:=by rw [bods_length,← hn,← hi,gp]
   rw [gb rfl] at hov
   unfold ovlV at h
   rw [hov] at h
   exact h
 ·refine see (p:=ifB (decide ((↑i:Int)<(↑(bkl m).length:Int))) (La 0 [(0:Tmp),(3:Tmp),(5:Tmp),(6:Tmp),(7:Tmp)] (WY Tryz.prog cfRR 2988 (Env.mk (Bs.mk 0 []) 0 none 46 115 2) (cdAt [1,1,0,1,0,0,1,0,0,1,0,0] (bodyOf Tryz.f115))) (Qblk 2 (Qblk 1 (Qthen (WY Tryz.prog cfRR 2992 (Env.mk (Bs.mk 0 []) 0 none 46 115 0) (cdAt [1,1,0,1,0,0,1,1] (bodyOf Tryz.f115)) (Qla 0 [(0:Tmp),(3:Tmp),(5:Tmp),(6:Tmp)] J (Qblk 0 (Qthen (WY Tryz.prog cfRR 2997 (Env.mk (Bs.mk 0 []) 0 none 46 115 0) (cdAt [1,1,1] (bodyOf Tryz.f115)) (QendX Tryz.prog Tryz.f115 fun v h=>R (frzW h v))) (QendX Tryz.prog Tryz.f115 fun v h=>R (frzW h v)))))) (Qla 0 [(0:Tmp),(3:Tmp),(5:Tmp),(6:Tmp)] J (Qblk 0 (Qthen (WY Tryz.prog cfRR 2997 (Env.mk (Bs.mk 0 []) 0 none 46 115 0) (cdAt [1,1,1] (bodyOf Tryz.f115)) (QendX Tryz.prog Tryz.f115 fun v h=>R (frzW h v))) (QendX Tryz.prog Tryz.f115 fun v h=>R (frzW h v)))))))) (St.mk (mkT [(0,V.lst 3 (kdl l)),(3,V.ptr (Id.p 0) 0 0),(5,V.sl (Id.p 1) 0 q),(6,iv (↑i:Int)),(7,iv (IntKind.i64.wrap ((↑i:Int)+(1:Int))))]) (Hp.mk [(0,O.rows 1 false [[V.lst 6 (bkl m)]]),(1,O.rows 2 true (prl ps))] 2 []))) (R (V.lst 2 (sub (prl ps) 0 q)))) (by kernel_rfl) ?_
  refine ifB_mk (fun d=>?_) (fun d=>?_)
  ·have hi:i<n:=by rw [bkl_length,← hn] at d; have:=of_decide_eq_true d; omega
   rw [wr1i hi (by omega)]
   exact see (by kernel_rfl) (loop hi)
  ·have hi:i=n:=by rw [bkl_length,← hn] at d; have:=of_decide_eq_false d; omega
   have hov:ovl (bods l m) (bods l m).length=ps:=by rw [bods_length,← hn,← hi,gp]
   have e:sub (prl ps) 0 q=prl ps:=by rw [gq,show ps.length=(prl ps).length from by simp [prl],sub,List.drop_zero,List.take_length]
   rw [e]
   unfold ovlV at h
   rw [hov] at h
   cases ps with
   | nil=>exact (gb2 rfl rfl).elim
   | cons p ps=>exact h
theorem check66 {l:List Kd} {m:List Bk} {R:V→Prop} (hl : ∀ q∈l,KdR q) (hll:(l.length:Int)≤1000000) (hml:m.length≤1000000) (hr : ∀ b∈m,BkR b) (h1 : ∀ e,errM l m e→e≠0→R (iv e)) (h2:OkM l m→R (iv 0)):K0G Tryz.prog glX 66 [.lst 3 (kdl l),.agg [.lst 6 (bkl m)]] R:=by
 refine K0_by hmX hcRR 3000 Tryz.func66 (p:=K0G Tryz.prog glX 114 [V.lst 3 (kdl l),V.agg [V.lst 6 (bkl m)]] fun v=>onIntK IntKind.i64 v fun n=>ifB (n != (0:Int)) (R (iv n)) (K0G Tryz.prog glX 115 [V.lst 3 (kdl l),V.agg [V.lst 6 (bkl m)]] fun v=>onLst v fun s es=>ifB (decide ((↑es.length:Int) > (0:Int))) (R (iv (12:Int))) (R (iv (0:Int))))) (by kernel_rfl) ?_
 refine bricks114 hl hll hml (fun e he=>onIntK_iv (ifB_mk (fun c=>h1 e (.inl ⟨he,by simpa using c⟩) (by simpa using c)) (fun c=>?_)))
 have e0:e=0:=by simpa using c
 subst e0
 have hA:AskM l m:=by
  rcases he with ⟨_,h⟩ | ⟨_,_,h⟩ | ⟨_,_,h⟩ | ⟨_,_,_,h⟩ | ⟨h,_⟩
  ·omega
  ·omega
  ·omega
  ·omega
  ·exact h
 refine overl115 hl hr hA ?_
 cases ho:ovl (bods l m) (bods l m).length with
 | nil =>
  unfold ovlV
  rw [ho]
  exact onLst_nil (ifB_f rfl (h2 ⟨hA,ho⟩))
 | cons p ps =>
  unfold ovlV
  rw [ho]
  refine onLst_lst (ifB_t (by simp [prl]) (h1 12 (.inr ⟨hA,by unfold NoOv; rw [ho]; simp,rfl⟩) (by decide)))
theorem odd_u8 {s:Int} (s1:1≤s) (s6:s≤6):IntKind.u8.wrap (s - IntKind.u8.wrap ((1:Int) - s.tmod (2:Int)))=s - (1 - s % 2):=by
 have:s=1∨s=2∨s=3∨s=4∨s=5∨s=6:=by omega
 rcases this with rfl | rfl | rfl | rfl | rfl | rfl <;> decide
theorem odd8 {s t:Int} (s1:1≤s) (s6:s≤6) (t1:1≤t) (t6:t≤6) (h:FitS s t):IntKind.u8.wrap (s - IntKind.u8.wrap ((1:Int) - s.tmod (2:Int)))=mn t s:=by
 rw [odd_u8 s1 s6]
 unfold FitS at h
 unfold mn
 split <;> omega
theorem meet116 {a b:Kn} {R:V→Prop} (ha:KnO a) (hb:KnO b) (h:R (bv (dc (MeetP a b)))):K0G Tryz.prog glX 116 [.agg (knr a),.agg (knr b)] R:=by
 refine K0_by hmX hcRR 3000 Tryz.func116 (p:=K0G Tryz.prog glX 45 [iv (IntKind.i64.wrap a.2.1)] fun v=>onAgg v fun cs=>onCons cs fun u r=>onIntK IntKind.i64 u fun n=>onCons r fun u r=>onIntK IntKind.i64 u fun n_1=>onCons r fun u r=>onIntK IntKind.i64 u fun n_2=>onNil r (K0G Tryz.prog glX 99 [V.agg [iv a.1.1,iv a.1.2.1,iv a.1.2.2],V.agg [iv n,iv n_1,iv n_2]] fun v=>onAgg v fun cs=>onCons cs fun u r=>onIntK IntKind.i64 u fun n=>onCons r fun u r=>onIntK IntKind.i64 u fun n_3=>onCons r fun u r=>onIntK IntKind.i64 u fun n_4=>onNil r (ifB (n==b.1.1&&(fun b_1=>n_3==b.1.2.1&&b_1) ((fun b_1=>n_4==b.1.2.2&&b_1) true)) (ifB (b.2.1==IntKind.u8.wrap (↑(BitVec.ofInt 8 a.2.1 ^^^ BitVec.ofInt 8 (1:Int)).toNat:Int)) (ifB (a.2.2 != b.2.2) (R (bv (IntKind.u8.wrap (a.2.2 - IntKind.u8.wrap ((1:Int) - a.2.2.tmod (2:Int)))==IntKind.u8.wrap (b.2.2 - IntKind.u8.wrap ((1:Int) - b.2.2.tmod (2:Int)))))) (R (bv false))) (R (bv false))) (R (bv false))))) (by kernel_rfl) ?_
 obtain ⟨⟨a1,a2⟩,⟨a3,a4⟩,a5⟩:=ha
 obtain ⟨⟨b1,b2⟩,⟨b3,b4⟩,b5⟩:=hb
 rw [wr (n:=a.2.1) (by omega) (by omega)]
 refine step45 a1 a2 (onAgg_agg (onCons_cons (onIntK_iv (onCons_cons (onIntK_iv (onCons_cons (onIntK_iv (onNil_nil ?_))))))))
 refine plus99 (a:=a.1) (b:=stp a.2.1) a5 ((stp_bd a.2.1).mono (by omega) (by omega)) (onAgg_agg (onCons_cons (onIntK_iv (onCons_cons (onIntK_iv (onCons_cons (onIntK_iv (onNil_nil ?_))))))))
 rw [xor1 a1 a2,odd_u8 a3 a4,odd_u8 b3 b4]
 refine ifB_mk (fun c=>?_) (fun c=>rf h (fun q=>?_))
 ·have e1:fc a=b.1:=by
   simp only [Bool.and_eq_true,beq_iff_eq,Bool.and_true] at c
   exact cl_ext c.1 c.2.1 c.2.2
  refine ifB_mk (fun c=>?_) (fun c=>rf h (fun q=>by rw [q.2.1] at c; simp at c))
  have e2:b.2.1=opp a.2.1:=by simpa using c
  refine ifB_mk (fun c=>?_) (fun c=>rf h (fun q=>q.2.2.1 (by simpa using c)))
  have ne:a.2.2≠b.2.2:=by simpa using c
  have e3:(a.2.2 - (1 - a.2.2 % 2)==b.2.2 - (1 - b.2.2 % 2))=dc (MeetP a b):=by
   by_cases hq:(a.2.2+1) / 2=(b.2.2+1) / 2
   ·rw [dc_t ⟨e1,e2,ne,hq⟩]; simp; omega
   ·rw [dc_f (fun q=>hq q.2.2.2)]; simp; omega
  rw [e3]
  exact h
 ·have:=q.1
  rw [← this] at c
  simp [fc] at c
noncomputable def lnGx (a b:Nat) (x y:List Kn):List Lk:=x.zipIdx.flatMap fun o=>lko o.1 (a:Int) (b:Int) (o.2:Int) y
noncomputable def lnF (l:List Bdy) (a n:Nat):List Lk:=(List.range n).flatMap fun b=>if a<b then lnGx a b (knobsAt l a) (knobsAt l b) else []
noncomputable def lnE (l:List Bdy) (n:Nat):List Lk:=(List.range n).flatMap fun a=>lnF l a l.length
theorem lnG_succ {a b i:Nat} {x y:List Kn} {o:Kn} (h:x[i]? = some o):lnGx a b (x.take (i+1)) y=lnGx a b (x.take i) y++lko o (a:Int) (b:Int) (i:Int) y:=by
 have hn:i<x.length:=(List.getElem?_eq_some_iff.1 h).1
 unfold lnGx
 rw [take_succ' h,List.zipIdx_append,List.flatMap_append]
 have:(List.take i x).length=i:=by rw [List.length_take]; omega
 simp [this]
theorem lnF_succ {l:List Bdy} {a n:Nat}:lnF l a (n+1)=lnF l a n++if a<n then lnGx a n (knobsAt l a) (knobsAt l n) else []:=by
 unfold lnF
 rw [List.range_succ,List.flatMap_append]
 simp
theorem lnF_start {l:List Bdy} {a:Nat}:lnF l a (a+1)=[]:=by
 unfold lnF
 rw [List.flatMap_eq_nil_iff]
 intro b hb
 rw [if_neg (by have:=List.mem_range.1 hb; omega)]
theorem lnE_succ {l:List Bdy} {n:Nat}:lnE l (n+1)=lnE l n++lnF l n l.length:=by
 unfold lnE
 rw [List.range_succ,List.flatMap_append]
 simp
theorem lnG_len {a b:Nat} {x y:List Kn} (hx:x.length≤60) (hy:y.length≤60):(lnGx a b x y).length≤3600:=by
 have:=fm_len (f:=fun o:Kn×Nat=>lko o.1 (a:Int) (b:Int) (o.2:Int) y) (c:=60) (l:=x.zipIdx) (fun o _=>Nat.le_trans (lko_len ..) hy)
 rw [List.length_zipIdx] at this
 unfold lnGx
 omega
theorem lnF_len {l:List Bdy} {a n:Nat} (h : ∀ b,(knobsAt l b).length≤60):(lnF l a n).length≤n * 3600:=by
 have:=fm_len (f:=fun b=>if a<b then lnGx a b (knobsAt l a) (knobsAt l b) else []) (c:=3600) (l:=List.range n) (fun b _=>by split; exact lnG_len (h a) (h b); simp)
 rw [List.length_range] at this
 exact this
theorem lnE_len {l:List Bdy} {n:Nat} (hl:l.length≤40) (h : ∀ b,(knobsAt l b).length≤60):(lnE l n).length≤n * 144000:=by
 have:=fm_len (f:=fun a=>lnF l a l.length) (c:=144000) (l:=List.range n) (fun b _=>by have:=lnF_len (l:=l) (a:=b) (n:=l.length) h; have:=Nat.mul_le_mul_right 3600 hl; omega)
 rw [List.length_range] at this
 exact this
noncomputable def fRa (l:List Kd) (m:List Bk) (z:Bool×Nat×Nat×List Lk):St:=match z.1 with | false=>oRa l m z.2.1 | true=>oRaS l m 5 (lkl z.2.2.2) z.2.2.1 z.2.1
noncomputable def fRb (l:List Kd) (m:List Bk) (a:Nat) (z:Bool×Nat×Nat×List Lk):St:=match z.1 with | false=>oRb l m a z.2.1 | true=>oRbS l m 5 (lkl z.2.2.2) z.2.2.1 a z.2.1
noncomputable def fRc (l:List Kd) (m:List Bk) (a b s:Nat) (x:List Kn) (t:Nat) (y:List Kn) (z:Bool×Nat×Nat×List Lk):St:=match z.1 with | false=>lRc l m a b s x t y z.2.1 | true=>lRcS l m a b s x t y z.2.1 z.2.2.2 z.2.2.1
noncomputable def fRd (l:List Kd) (m:List Bk) (a b s:Nat) (x:List Kn) (t:Nat) (y:List Kn) (i:Nat) (z:Bool×Nat×Nat×List Lk):St:=match z.1 with | false=>lRd l m a b s x t y i z.2.1 | true=>lRdS l m a b s x t y i z.2.1 z.2.2.2 z.2.2.1
set_option maxHeartbeats 4000000 in
theorem linked67 {l:List Kd} {m:List Bk} {R:V→Prop} (hl : ∀ q∈l,KdR q) (hr : ∀ b∈m,BkR b) (hA:AskM l m) (h0:lnk (bods l m)=[]→R nilS) (h:R (.lst 5 (lkl (lnk (bods l m))))):K0G Tryz.prog glX 67 [.lst 3 (kdl l),.agg [.lst 6 (bkl m)]] R:=by
 refine K0_by hmX hcRR 3000 Tryz.func67 (p:=La 0 [(0:Tmp),(3:Tmp),(5:Tmp),(6:Tmp)] (WY Tryz.prog cfRR 2994 (Env.mk (Bs.mk 0 []) 0 none 78 67 0) (cdAt [1,1,0,1,0,0] (bodyOf Tryz.f67))) (Qblk 0 (Qthen (WY Tryz.prog cfRR 2997 (Env.mk (Bs.mk 0 []) 0 none 78 67 0) (cdAt [1,1,1] (bodyOf Tryz.f67)) (QendX Tryz.prog Tryz.f67 fun v h=>R (frzW h v))) (QendX Tryz.prog Tryz.f67 fun v h=>R (frzW h v)))) (St.mk (mkT [(0,V.lst 3 (kdl l)),(3,V.ptr (Id.p 0) 0 0),(5,nilS),(6,iv (0:Int))]) (Hp.mk [(0,O.rows 1 false [[V.lst 6 (bkl m)]])] 1 []))) (by kernel_rfl) ?_
 obtain ⟨n,hn⟩ : ∃ n,n=m.length:=⟨_,rfl⟩
 have hnb:(bods l m).length=n:=by rw [bods_length,hn]
 have hn40:=hA.few
 have hB:=bod_ok hl hr hA
 have h60:=bods60 hl hr hA
 have hk60 : ∀ b,(knobsAt (bods l m) b).length≤60:=fun b=>by
  unfold knobsAt
  cases hb:(bods l m)[b]? with
  | none=>simp
  | some x=>exact h60 x (mem_at hb)
 have hkO : ∀ b, ∀ o∈knobsAt (bods l m) b,KnO o:=fun b o ho=>by
  obtain ⟨j,hj⟩:=List.mem_iff_getElem?.1 ho
  obtain ⟨y,hy,hyo⟩:=knobsAt_mem hj
  exact hB.ko y (mem_at hy) o (mem_at hyo)
 refine La.of (σ:=Bool×Nat×Nat×List Lk) (fRa l m) (fun z=>z.2.1≤n∧z.2.2.1=z.2.2.2.length∧z.2.2.2=lnE (bods l m) z.2.1∧(z.1=false→z.2.2.2=[])∧(z.1=true→z.2.2.2≠[])) (fun z=>n - z.2.1) (false,0,0,[]) rfl ⟨by simp only; omega,rfl,rfl,fun _=>rfl,fun h=>by cases h⟩ ?_
 rintro ⟨bo,a,q,L⟩ ⟨g1,gq,gL,gb,gb2⟩ J hJ
 simp only at g1 gq gL gb gb2
 have loopB:a<n→La 0 [(0:Tmp),(3:Tmp),(5:Tmp),(6:Tmp),(7:Tmp)] (WY Tryz.prog cfRR 2988 (Env.mk (Bs.mk 0 []) 0 none 78 67 2) (cdAt [1,1,0,1,0,0,1,0,0,1,0,0] (bodyOf Tryz.f67))) (Qblk 2 (Qblk 1 (Qthen (WY Tryz.prog cfRR 2992 (Env.mk (Bs.mk 0 []) 0 none 78 67 0) (cdAt [1,1,0,1,0,0,1,1] (bodyOf Tryz.f67)) (Qla 0 [(0:Tmp),(3:Tmp),(5:Tmp),(6:Tmp)] J (Qblk 0 (Qthen (WY Tryz.prog cfRR 2997 (Env.mk (Bs.mk 0 []) 0 none 78 67 0) (cdAt [1,1,1] (bodyOf Tryz.f67)) (QendX Tryz.prog Tryz.f67 fun v h=>R (frzW h v))) (QendX Tryz.prog Tryz.f67 fun v h=>R (frzW h v)))))) (Qla 0 [(0:Tmp),(3:Tmp),(5:Tmp),(6:Tmp)] J (Qblk 0 (Qthen (WY Tryz.prog cfRR 2997 (Env.mk (Bs.mk 0 []) 0 none 78 67 0) (cdAt [1,1,1] (bodyOf Tryz.f67)) (QendX Tryz.prog Tryz.f67 fun v h=>R (frzW h v))) (QendX Tryz.prog Tryz.f67 fun v h=>R (frzW h v)))))))) (fRb l m a (bo,a+1,q,L)):=by
  intro ha
  obtain ⟨aa,haa⟩:=getI (l:=m) (k:=a) (by omega)
  obtain ⟨hP,_,_,_⟩:=putK hA.kinds hl (hA.all aa (mem_at haa)) (hr aa (mem_at haa))
  refine La.of (σ:=Bool×Nat×Nat×List Lk) (fRb l m a) (fun z=>(a<z.2.1∧z.2.1≤n)∧z.2.2.1=z.2.2.2.length∧z.2.2.2=lnE (bods l m) a++lnF (bods l m) a z.2.1∧(z.1=false→z.2.2.2=[])∧(z.1=true→z.2.2.2≠[])) (fun z=>n - z.2.1) (bo,a+1,q,L) rfl ⟨⟨by simp only; omega,by simp only; omega⟩,gq,gL.trans (by simp [lnF_start]),gb,gb2⟩ ?_
  rintro ⟨bo,b,q,L⟩ ⟨⟨b0,b1⟩,gq,gL,gb,gb2⟩ I hI
  simp only at b0 b1 gq gL gb gb2
  have loopC:b<n → ∀ (s t:Nat) (x y:List Kn),knobsAt (bods l m) a=x→knobsAt (bods l m) b=y→(s=5∨x=[])→(t=5∨y=[])→La 0 [(0:Tmp),(3:Tmp),(5:Tmp),(6:Tmp),(7:Tmp),(8:Tmp),(9:Tmp),(10:Tmp)] (WY Tryz.prog cfRR 2981 (Env.mk (Bs.mk 0 []) 0 none 78 67 4) (cdAt [1,1,0,1,0,0,1,0,0,1,0,0,1,0,0,1,1,0,0] (bodyOf Tryz.f67))) (Qblk 4 (Qblk 3 (Qthen (WY Tryz.prog cfRR 2986 (Env.mk (Bs.mk 0 []) 0 none 78 67 2) (cdAt [1,1,0,1,0,0,1,0,0,1,0,0,1,1] (bodyOf Tryz.f67)) (Qla 0 [(0:Tmp),(3:Tmp),(5:Tmp),(6:Tmp),(7:Tmp)] I (Qblk 2 (Qblk 1 (Qthen (WY Tryz.prog cfRR 2992 (Env.mk (Bs.mk 0 []) 0 none 78 67 0) (cdAt [1,1,0,1,0,0,1,1] (bodyOf Tryz.f67)) (Qla 0 [(0:Tmp),(3:Tmp),(5:Tmp),(6:Tmp)] J (Qblk 0 (Qthen (WY Tryz.prog cfRR 2997 (Env.mk (Bs.mk 0 []) 0 none 78 67 0) (cdAt [1,1,1] (bodyOf Tryz.f67)) (QendX Tryz.prog Tryz.f67 fun v h=>R (frzW h v))) (QendX Tryz.prog Tryz.f67 fun v h=>R (frzW h v)))))) (Qla 0 [(0:Tmp),(3:Tmp),(5:Tmp),(6:Tmp)] J (Qblk 0 (Qthen (WY Tryz.prog cfRR 2997 (Env.mk (Bs.mk 0 []) 0 none 78 67 0) (cdAt [1,1,1] (bodyOf Tryz.f67)) (QendX Tryz.prog Tryz.f67 fun v h=>R (frzW h v))) (QendX Tryz.prog Tryz.f67 fun v h=>R (frzW h v)))))))))) (Qla 0 [(0:Tmp),(3:Tmp),(5:Tmp),(6:Tmp),(7:Tmp)] I (Qblk 2 (Qblk 1 (Qthen (WY Tryz.prog cfRR 2992 (Env.mk (Bs.mk 0 []) 0 none 78 67 0) (cdAt [1,1,0,1,0,0,1,1] (bodyOf Tryz.f67)) (Qla 0 [(0:Tmp),(3:Tmp),(5:Tmp),(6:Tmp)] J (Qblk 0 (Qthen (WY Tryz.prog cfRR 2997 (Env.mk (Bs.mk 0 []) 0 none 78 67 0) (cdAt [1,1,1] (bodyOf Tryz.f67)) (QendX Tryz.prog Tryz.f67 fun v h=>R (frzW h v))) (QendX Tryz.prog Tryz.f67 fun v h=>R (frzW h v)))))) (Qla 0 [(0:Tmp),(3:Tmp),(5:Tmp),(6:Tmp)] J (Qblk 0 (Qthen (WY Tryz.prog cfRR 2997 (Env.mk (Bs.mk 0 []) 0 none 78 67 0) (cdAt [1,1,1] (bodyOf Tryz.f67)) (QendX Tryz.prog Tryz.f67 fun v h=>R (frzW h v))) (QendX Tryz.prog Tryz.f67 fun v h=>R (frzW h v)))))))))))) (fRc l m a b s x t y (bo,0,q,L)):=by
   intro hb s t x y hxa hyb hs ht
   have hx : ∀ o∈x,KnO o:=hxa ▸ hkO a
   have hy : ∀ o∈y,KnO o:=hyb ▸ hkO b
   have hx60:x.length≤60:=hxa ▸ hk60 a
   have hy60:y.length≤60:=hyb ▸ hk60 b
   refine La.of (σ:=Bool×Nat×Nat×List Lk) (fRc l m a b s x t y) (fun z=>z.2.1≤x.length∧z.2.2.1=z.2.2.2.length∧z.2.2.2=lnE (bods l m) a++lnF (bods l m) a b++lnGx a b (x.take z.2.1) y∧(z.1=false→z.2.2.2=[])∧(z.1=true→z.2.2.2≠[])) (fun z=>x.length - z.2.1) (bo,0,q,L) rfl ⟨by simp only; omega,gq,gL.trans (by simp [lnGx]),gb,gb2⟩ ?_
   rintro ⟨bo,i,q,L⟩ ⟨f1,gq,gL,gb,gb2⟩ H hH
   simp only at f1 gq gL gb gb2
   have loopD:i<x.length→La 0 [(0:Tmp),(3:Tmp),(5:Tmp),(6:Tmp),(7:Tmp),(8:Tmp),(9:Tmp),(10:Tmp),(11:Tmp)] (WY Tryz.prog cfRR 2975 (Env.mk (Bs.mk 0 []) 0 none 78 67 6) (cdAt [1,1,0,1,0,0,1,0,0,1,0,0,1,0,0,1,1,0,0,1,0,0,1,0,0] (bodyOf Tryz.f67))) (Qblk 6 (Qblk 5 (Qthen (WY Tryz.prog cfRR 2979 (Env.mk (Bs.mk 0 []) 0 none 78 67 4) (cdAt [1,1,0,1,0,0,1,0,0,1,0,0,1,0,0,1,1,0,0,1,1] (bodyOf Tryz.f67)) (Qla 0 [(0:Tmp),(3:Tmp),(5:Tmp),(6:Tmp),(7:Tmp),(8:Tmp),(9:Tmp),(10:Tmp)] H (Qblk 4 (Qblk 3 (Qthen (WY Tryz.prog cfRR 2986 (Env.mk (Bs.mk 0 []) 0 none 78 67 2) (cdAt [1,1,0,1,0,0,1,0,0,1,0,0,1,1] (bodyOf Tryz.f67)) (Qla 0 [(0:Tmp),(3:Tmp),(5:Tmp),(6:Tmp),(7:Tmp)] I (Qblk 2 (Qblk 1 (Qthen (WY Tryz.prog cfRR 2992 (Env.mk (Bs.mk 0 []) 0 none 78 67 0) (cdAt [1,1,0,1,0,0,1,1] (bodyOf Tryz.f67)) (Qla 0 [(0:Tmp),(3:Tmp),(5:Tmp),(6:Tmp)] J (Qblk 0 (Qthen (WY Tryz.prog cfRR 2997 (Env.mk (Bs.mk 0 []) 0 none 78 67 0) (cdAt [1,1,1] (bodyOf Tryz.f67)) (QendX Tryz.prog Tryz.f67 fun v h=>R (frzW h v))) (QendX Tryz.prog Tryz.f67 fun v h=>R (frzW h v)))))) (Qla 0 [(0:Tmp),(3:Tmp),(5:Tmp),(6:Tmp)] J (Qblk 0 (Qthen (WY Tryz.prog cfRR 2997 (Env.mk (Bs.mk 0 []) 0 none 78 67 0) (cdAt [1,1,1] (bodyOf Tryz.f67)) (QendX Tryz.prog Tryz.f67 fun v h=>R (frzW h v))) (QendX Tryz.prog Tryz.f67 fun v h=>R (frzW h v)))))))))) (Qla 0 [(0:Tmp),(3:Tmp),(5:Tmp),(6:Tmp),(7:Tmp)] I (Qblk 2 (Qblk 1 (Qthen (WY Tryz.prog cfRR 2992 (Env.mk (Bs.mk 0 []) 0 none 78 67 0) (cdAt [1,1,0,1,0,0,1,1] (bodyOf Tryz.f67)) (Qla 0 [(0:Tmp),(3:Tmp),(5:Tmp),(6:Tmp)] J (Qblk 0 (Qthen (WY Tryz.prog cfRR 2997 (Env.mk (Bs.mk 0 []) 0 none 78 67 0) (cdAt [1,1,1] (bodyOf Tryz.f67)) (QendX Tryz.prog Tryz.f67 fun v h=>R (frzW h v))) (QendX Tryz.prog Tryz.f67 fun v h=>R (frzW h v)))))) (Qla 0 [(0:Tmp),(3:Tmp),(5:Tmp),(6:Tmp)] J (Qblk 0 (Qthen (WY Tryz.prog cfRR 2997 (Env.mk (Bs.mk 0 []) 0 none 78 67 0) (cdAt [1,1,1] (bodyOf Tryz.f67)) (QendX Tryz.prog Tryz.f67 fun v h=>R (frzW h v))) (QendX Tryz.prog Tryz.f67 fun v h=>R (frzW h v)))))))))))))) (Qla 0 [(0:Tmp),(3:Tmp),(5:Tmp),(6:Tmp),(7:Tmp),(8:Tmp),(9:Tmp),(10:Tmp)] H (Qblk 4 (Qblk 3 (Qthen (WY Tryz.prog cfRR 2986 (Env.mk (Bs.mk 0 []) 0 none 78 67 2) (cdAt [1,1,0,1,0,0,1,0,0,1,0,0,1,1] (bodyOf Tryz.f67)) (Qla 0 [(0:Tmp),(3:Tmp),(5:Tmp),(6:Tmp),(7:Tmp)] I (Qblk 2 (Qblk 1 (Qthen (WY Tryz.prog cfRR 2992 (Env.mk (Bs.mk 0 []) 0 none 78 67 0) (cdAt [1,1,0,1,0,0,1,1] (bodyOf Tryz.f67)) (Qla 0 [(0:Tmp),(3:Tmp),(5:Tmp),(6:Tmp)] J (Qblk 0 (Qthen (WY Tryz.prog cfRR 2997 (Env.mk (Bs.mk 0 []) 0 none 78 67 0) (cdAt [1,1,1] (bodyOf Tryz.f67)) (QendX Tryz.prog Tryz.f67 fun v h=>R (frzW h v))) (QendX Tryz.prog Tryz.f67 fun v h=>R (frzW h v)))))) (Qla 0 [(0:Tmp),(3:Tmp),(5:Tmp),(6:Tmp)] J (Qblk 0 (Qthen (WY Tryz.prog cfRR 2997 (Env.mk (Bs.mk 0 []) 0 none 78 67 0) (cdAt [1,1,1] (bodyOf Tryz.f67)) (QendX Tryz.prog Tryz.f67 fun v h=>R (frzW h v))) (QendX Tryz.prog Tryz.f67 fun v h=>R (frzW h v)))))))))) (Qla 0 [(0:Tmp),(3:Tmp),(5:Tmp),(6:Tmp),(7:Tmp)] I (Qblk 2 (Qblk 1 (Qthen (WY Tryz.prog cfRR 2992 (Env.mk (Bs.mk 0 []) 0 none 78 67 0) (cdAt [1,1,0,1,0,0,1,1] (bodyOf Tryz.f67)) (Qla 0 [(0:Tmp),(3:Tmp),(5:Tmp),(6:Tmp)] J (Qblk 0 (Qthen (WY Tryz.prog cfRR 2997 (Env.mk (Bs.mk 0 []) 0 none 78 67 0) (cdAt [1,1,1] (bodyOf Tryz.f67)) (QendX Tryz.prog Tryz.f67 fun v h=>R (frzW h v))) (QendX Tryz.prog Tryz.f67 fun v h=>R (frzW h v)))))) (Qla 0 [(0:Tmp),(3:Tmp),(5:Tmp),(6:Tmp)] J (Qblk 0 (Qthen (WY Tryz.prog cfRR 2997 (Env.mk (Bs.mk 0 []) 0 none 78 67 0) (cdAt [1,1,1] (bodyOf Tryz.f67)) (QendX Tryz.prog Tryz.f67 fun v h=>R (frzW h v))) (QendX Tryz.prog Tryz.f67 fun v h=>R (frzW h v)))))))))))))))) (fRd l m a b s x t y i (bo,0,q,L)):=by
    intro hi
    obtain ⟨kn,hkn⟩:=getI (l:=x) hi
    have hko:=hx kn (mem_at hkn)
    have hs5:s=5:=by
     rcases hs with h | h
     ·exact h
     ·rw [h] at hkn; simp at hkn
    refine La.of (σ:=Bool×Nat×Nat×List Lk) (fRd l m a b s x t y i) (fun z=>z.2.1≤y.length∧z.2.2.1=z.2.2.2.length∧z.2.2.2=lnE (bods l m) a++lnF (bods l m) a b++lnGx a b (x.take i) y++lko kn (a:Int) (b:Int) (i:Int) (y.take z.2.1)∧(z.1=false→z.2.2.2=[])∧(z.1=true→z.2.2.2≠[])) (fun z=>y.length - z.2.1) (bo,0,q,L) rfl ⟨by simp only; omega,gq,gL.trans (by simp [lko]),gb,gb2⟩ ?_
    rintro ⟨bo,k,q,L⟩ ⟨k1,gq,gL,gb,gb2⟩ G hG
    simp only at k1 gq gL gb gb2
    have hq:q≤1000000000:=by
     rw [gq,gL,List.length_append,List.length_append,List.length_append]
     have h1:=lnE_len (n:=a) hB.n40 hk60
     have h2:=lnF_len (a:=a) (n:=b) hk60
     have h3:(lnGx a b (x.take i) y).length≤3600:=lnG_len (by rw [List.length_take]; omega) hy60
     have h4:=lko_len kn (a:Int) (b:Int) (i:Int) (y.take k)
     rw [List.length_take] at h4
     omega
    rcases bo with _ | _
    ·refine see (p:=ifB (decide ((↑k:Int)<(↑(knl y).length:Int))) (need (s=5) (onSome (knl x)[i]? fun row=>onCons (List.drop 0 row) fun u r=>onIntK IntKind.i64 u fun n=>onCons r fun u r=>onIntK IntKind.i64 u fun n_1=>onCons r fun u r=>onIntK IntKind.i64 u fun n_2=>onCons r fun u r=>onIntK IntKind.u8 u fun n_3=>onCons r fun u r=>onIntK IntKind.u8 u fun n_4=>need (t=5) (onSome (knl y)[k]? fun row=>onCons (List.drop 0 row) fun u r=>onIntK IntKind.i64 u fun n_5=>onCons r fun u r=>onIntK IntKind.i64 u fun n_6=>onCons r fun u r=>onIntK IntKind.i64 u fun n_7=>onCons r fun u r=>onIntK IntKind.u8 u fun n_8=>onCons r fun u r=>onIntK IntKind.u8 u fun n_9=>K0G Tryz.prog glX 116 [V.agg [iv n,iv n_1,iv n_2,V.raw (Value.int IntKind.u8 n_3),V.raw (Value.int IntKind.u8 n_4)],V.agg [iv n_5,iv n_6,iv n_7,V.raw (Value.int IntKind.u8 n_8),V.raw (Value.int IntKind.u8 n_9)]] fun v=>onBool v fun b_1=>ifB b_1 (need (s=5) (onSome (knl x)[i]? fun row=>onSome row[4]? fun v=>onIntK IntKind.u8 v fun n=>G (St.mk (mkT [(0,V.lst 3 (kdl l)),(3,V.ptr (Id.p 0) 0 0),(5,V.sl (Id.p 1) 0 1),(6,iv (↑a:Int)),(7,iv (↑b:Int)),(8,V.lst s (knl x)),(9,V.lst t (knl y)),(10,iv (↑i:Int)),(11,iv (IntKind.i64.wrap ((↑k:Int)+(1:Int))))]) (Hp.mk [(0,O.rows 1 false [[V.lst 6 (bkl m)]]),(1,O.rows 5 true [[iv (↑a:Int),iv (↑b:Int),iv (↑i:Int),iv (↑k:Int),V.raw (Value.int IntKind.u8 (IntKind.u8.wrap (n - IntKind.u8.wrap ((1:Int) - n.tmod (2:Int)))))]])] 2 [])))) (G (St.mk (mkT [(0,V.lst 3 (kdl l)),(3,V.ptr (Id.p 0) 0 0),(5,nilS),(6,iv (↑a:Int)),(7,iv (↑b:Int)),(8,V.lst s (knl x)),(9,V.lst t (knl y)),(10,iv (↑i:Int)),(11,iv (IntKind.i64.wrap ((↑k:Int)+(1:Int))))]) (Hp.mk [(0,O.rows 1 false [[V.lst 6 (bkl m)]])] 1 [])))))) (H (St.mk (mkT [(0,V.lst 3 (kdl l)),(3,V.ptr (Id.p 0) 0 0),(5,nilS),(6,iv (↑a:Int)),(7,iv (↑b:Int)),(8,V.lst s (knl x)),(9,V.lst t (knl y)),(10,iv (IntKind.i64.wrap ((↑i:Int)+(1:Int))))]) (Hp.mk [(0,O.rows 1 false [[V.lst 6 (bkl m)]])] 1 [])))) (by kernel_rfl) ?_
     refine ifB_mk (fun e=>?_) (fun e=>?_)
     ·have hk:k<y.length:=by rw [knl_length] at e; have:=of_decide_eq_true e; omega
      obtain ⟨o,ho⟩:=getI (l:=y) hk
      have hoo:=hy o (mem_at ho)
      have ht5:t=5:=by
       rcases ht with h | h
       ·exact h
       ·rw [h] at ho; simp at ho
      have hstep:=lko_succ (k:=kn) (a:=(a:Int)) (b:=(b:Int)) (i:=(i:Int)) ho
      refine need_mk ⟨hs5,kel hkn (need_mk ⟨ht5,kel ho (meet116 (a:=kn) (b:=o) hko hoo (onBool_bv (ifB_mk (fun c=>?_) (fun c=>?_))))⟩)⟩
      ·have hm:=dc_true c
       rw [if_pos c] at hstep
       refine need_mk ⟨hs5,onSome_mk (x:=knr kn) (by simp [knl,hkn]) (onSome_mk (x:=u8 kn.2.2) rfl (onIntK_u8 ?_))⟩
       rw [odd8 hko.2.1.1 hko.2.1.2 hoo.2.1.1 hoo.2.1.2 hm.2.2,wr1i hk (by omega)]
       exact hG (true,k+1,1,[((a:Int),(b:Int),(i:Int),(k:Int),mn o.2.2 kn.2.2)]) ⟨hk,rfl,by simp only; rw [hstep,← List.append_assoc,← gL,gb rfl]; rfl,(fun h=>by cases h),(fun _=>by simp)⟩ (by simp only; omega)
      ·rw [c,if_neg (by simp),List.append_nil] at hstep
       rw [wr1i hk (by omega)]
       exact hG (false,k+1,q,L) ⟨hk,gq,by simp only; rw [hstep]; exact gL,gb,gb2⟩ (by simp only; omega)
     ·have hk:k=y.length:=by rw [knl_length] at e; have:=of_decide_eq_false e; omega
      rw [wr1i hi (by omega)]
      exact hH (false,i+1,q,L) ⟨hi,gq,by simp only; rw [lnG_succ hkn,gL,hk,List.take_length,List.append_assoc],gb,gb2⟩ (by simp only; omega)
    ·refine see (p:=ifB (decide ((↑k:Int)<(↑(knl y).length:Int))) (need (s=5) (onSome (knl x)[i]? fun row=>onCons (List.drop 0 row) fun u r=>onIntK IntKind.i64 u fun n=>onCons r fun u r=>onIntK IntKind.i64 u fun n_1=>onCons r fun u r=>onIntK IntKind.i64 u fun n_2=>onCons r fun u r=>onIntK IntKind.u8 u fun n_3=>onCons r fun u r=>onIntK IntKind.u8 u fun n_4=>need (t=5) (onSome (knl y)[k]? fun row_1=>onCons (List.drop 0 row_1) fun u r=>onIntK IntKind.i64 u fun n_5=>onCons r fun u r=>onIntK IntKind.i64 u fun n_6=>onCons r fun u r=>onIntK IntKind.i64 u fun n_7=>onCons r fun u r=>onIntK IntKind.u8 u fun n_8=>onCons r fun u r=>onIntK IntKind.u8 u fun n_9=>K0G Tryz.prog glX 116 [V.agg [iv n,iv n_1,iv n_2,V.raw (Value.int IntKind.u8 n_3),V.raw (Value.int IntKind.u8 n_4)],V.agg [iv n_5,iv n_6,iv n_7,V.raw (Value.int IntKind.u8 n_8),V.raw (Value.int IntKind.u8 n_9)]] fun v=>onBool v fun b_1=>ifB b_1 (need (s=5) (onSome (knl x)[i]? fun row_2=>onSome row_2[4]? fun v=>onIntK IntKind.u8 v fun n_10=>need ((q+1) * 40≤140737488355328) (G (St.mk (mkT [(0,V.lst 3 (kdl l)),(3,V.ptr (Id.p 0) 0 0),(5,V.sl (Id.p 1) 0 (q+1)),(6,iv (↑a:Int)),(7,iv (↑b:Int)),(8,V.lst s (knl x)),(9,V.lst t (knl y)),(10,iv (↑i:Int)),(11,iv (IntKind.i64.wrap ((↑k:Int)+(1:Int))))]) (Hp.mk [(0,O.rows 1 false [[V.lst 6 (bkl m)]]),(1,O.rows 5 true (List.take q (lkl L)++[[iv (↑a:Int),iv (↑b:Int),iv (↑i:Int),iv (↑k:Int),V.raw (Value.int IntKind.u8 (IntKind.u8.wrap (n_10 - IntKind.u8.wrap ((1:Int) - n_10.tmod (2:Int)))))]]))] 2 []))))) (G (St.mk (mkT [(0,V.lst 3 (kdl l)),(3,V.ptr (Id.p 0) 0 0),(5,V.sl (Id.p 1) 0 q),(6,iv (↑a:Int)),(7,iv (↑b:Int)),(8,V.lst s (knl x)),(9,V.lst t (knl y)),(10,iv (↑i:Int)),(11,iv (IntKind.i64.wrap ((↑k:Int)+(1:Int))))]) (Hp.mk [(0,O.rows 1 false [[V.lst 6 (bkl m)]]),(1,O.rows 5 true (lkl L))] 2 [])))))) (H (St.mk (mkT [(0,V.lst 3 (kdl l)),(3,V.ptr (Id.p 0) 0 0),(5,V.sl (Id.p 1) 0 q),(6,iv (↑a:Int)),(7,iv (↑b:Int)),(8,V.lst s (knl x)),(9,V.lst t (knl y)),(10,iv (IntKind.i64.wrap ((↑i:Int)+(1:Int))))]) (Hp.mk [(0,O.rows 1 false [[V.lst 6 (bkl m)]]),(1,O.rows 5 true (lkl L))] 2 [])))) (by kernel_rfl) ?_
     refine ifB_mk (fun e=>?_) (fun e=>?_)
     ·have hk:k<y.length:=by rw [knl_length] at e; have:=of_decide_eq_true e; omega
      obtain ⟨o,ho⟩:=getI (l:=y) hk
      have hoo:=hy o (mem_at ho)
      have ht5:t=5:=by
       rcases ht with h | h
       ·exact h
       ·rw [h] at ho; simp at ho
      have hstep:=lko_succ (k:=kn) (a:=(a:Int)) (b:=(b:Int)) (i:=(i:Int)) ho
      refine need_mk ⟨hs5,kel hkn (need_mk ⟨ht5,kel ho (meet116 (a:=kn) (b:=o) hko hoo (onBool_bv (ifB_mk (fun c=>?_) (fun c=>?_))))⟩)⟩
      ·have hm:=dc_true c
       rw [if_pos c] at hstep
       refine need_mk ⟨hs5,onSome_mk (x:=knr kn) (by simp [knl,hkn]) (onSome_mk (x:=u8 kn.2.2) rfl (onIntK_u8 ?_))⟩
       refine need_mk ⟨by omega,?_⟩
       rw [odd8 hko.2.1.1 hko.2.1.2 hoo.2.1.1 hoo.2.1.2 hm.2.2,wr1i hk (by omega)]
       have e:List.take q (lkl L)++[[iv (a:Int),iv (b:Int),iv (i:Int),iv (k:Int),V.raw (Value.int IntKind.u8 (mn o.2.2 kn.2.2))]]=lkl (L++[((a:Int),(b:Int),(i:Int),(k:Int),mn o.2.2 kn.2.2)]):=by
        rw [gq,← lkl_length,List.take_length]; simp [lkl,lkr,u8]
       rw [e]
       exact hG (true,k+1,q+1,L++[((a:Int),(b:Int),(i:Int),(k:Int),mn o.2.2 kn.2.2)]) ⟨hk,by simp [gq],by simp only; rw [hstep,gL,List.append_assoc],(fun h=>by cases h),(fun _=>by simp)⟩ (by simp only; omega)
      ·rw [c,if_neg (by simp),List.append_nil] at hstep
       rw [wr1i hk (by omega)]
       exact hG (true,k+1,q,L) ⟨hk,gq,by simp only; rw [hstep]; exact gL,gb,gb2⟩ (by simp only; omega)
     ·have hk:k=y.length:=by rw [knl_length] at e; have:=of_decide_eq_false e; omega
      rw [wr1i hi (by omega)]
      exact hH (true,i+1,q,L) ⟨hi,gq,by simp only; rw [lnG_succ hkn,gL,hk,List.take_length,List.append_assoc],gb,gb2⟩ (by simp only; omega)
   rcases bo with _ | _
   ·refine see (p:=ifB (decide ((↑i:Int)<(↑(knl x).length:Int))) (La 0 [(0:Tmp),(3:Tmp),(5:Tmp),(6:Tmp),(7:Tmp),(8:Tmp),(9:Tmp),(10:Tmp),(11:Tmp)] (WY Tryz.prog cfRR 2975 (Env.mk (Bs.mk 0 []) 0 none 78 67 6) (cdAt [1,1,0,1,0,0,1,0,0,1,0,0,1,0,0,1,1,0,0,1,0,0,1,0,0] (bodyOf Tryz.f67))) (Qblk 6 (Qblk 5 (Qthen (WY Tryz.prog cfRR 2979 (Env.mk (Bs.mk 0 []) 0 none 78 67 4) (cdAt [1,1,0,1,0,0,1,0,0,1,0,0,1,0,0,1,1,0,0,1,1] (bodyOf Tryz.f67)) (Qla 0 [(0:Tmp),(3:Tmp),(5:Tmp),(6:Tmp),(7:Tmp),(8:Tmp),(9:Tmp),(10:Tmp)] H (Qblk 4 (Qblk 3 (Qthen (WY Tryz.prog cfRR 2986 (Env.mk (Bs.mk 0 []) 0 none 78 67 2) (cdAt [1,1,0,1,0,0,1,0,0,1,0,0,1,1] (bodyOf Tryz.f67)) (Qla 0 [(0:Tmp),(3:Tmp),(5:Tmp),(6:Tmp),(7:Tmp)] I (Qblk 2 (Qblk 1 (Qthen (WY Tryz.prog cfRR 2992 (Env.mk (Bs.mk 0 []) 0 none 78 67 0) (cdAt [1,1,0,1,0,0,1,1] (bodyOf Tryz.f67)) (Qla 0 [(0:Tmp),(3:Tmp),(5:Tmp),(6:Tmp)] J (Qblk 0 (Qthen (WY Tryz.prog cfRR 2997 (Env.mk (Bs.mk 0 []) 0 none 78 67 0) (cdAt [1,1,1] (bodyOf Tryz.f67)) (QendX Tryz.prog Tryz.f67 fun v h=>R (frzW h v))) (QendX Tryz.prog Tryz.f67 fun v h=>R (frzW h v)))))) (Qla 0 [(0:Tmp),(3:Tmp),(5:Tmp),(6:Tmp)] J (Qblk 0 (Qthen (WY Tryz.prog cfRR 2997 (Env.mk (Bs.mk 0 []) 0 none 78 67 0) (cdAt [1,1,1] (bodyOf Tryz.f67)) (QendX Tryz.prog Tryz.f67 fun v h=>R (frzW h v))) (QendX Tryz.prog Tryz.f67 fun v h=>R (frzW h v)))))))))) (Qla 0 [(0:Tmp),(3:Tmp),(5:Tmp),(6:Tmp),(7:Tmp)] I (Qblk 2 (Qblk 1 (Qthen (WY Tryz.prog cfRR 2992 (Env.mk (Bs.mk 0 []) 0 none 78 67 0) (cdAt [1,1,0,1,0,0,1,1] (bodyOf Tryz.f67)) (Qla 0 [(0:Tmp),(3:Tmp),(5:Tmp),(6:Tmp)] J (Qblk 0 (Qthen (WY Tryz.prog cfRR 2997 (Env.mk (Bs.mk 0 []) 0 none 78 67 0) (cdAt [1,1,1] (bodyOf Tryz.f67)) (QendX Tryz.prog Tryz.f67 fun v h=>R (frzW h v))) (QendX Tryz.prog Tryz.f67 fun v h=>R (frzW h v)))))) (Qla 0 [(0:Tmp),(3:Tmp),(5:Tmp),(6:Tmp)] J (Qblk 0 (Qthen (WY Tryz.prog cfRR 2997 (Env.mk (Bs.mk 0 []) 0 none 78 67 0) (cdAt [1,1,1] (bodyOf Tryz.f67)) (QendX Tryz.prog Tryz.f67 fun v h=>R (frzW h v))) (QendX Tryz.prog Tryz.f67 fun v h=>R (frzW h v)))))))))))))) (Qla 0 [(0:Tmp),(3:Tmp),(5:Tmp),(6:Tmp),(7:Tmp),(8:Tmp),(9:Tmp),(10:Tmp)] H (Qblk 4 (Qblk 3 (Qthen (WY Tryz.prog cfRR 2986 (Env.mk (Bs.mk 0 []) 0 none 78 67 2) (cdAt [1,1,0,1,0,0,1,0,0,1,0,0,1,1] (bodyOf Tryz.f67)) (Qla 0 [(0:Tmp),(3:Tmp),(5:Tmp),(6:Tmp),(7:Tmp)] I (Qblk 2 (Qblk 1 (Qthen (WY Tryz.prog cfRR 2992 (Env.mk (Bs.mk 0 []) 0 none 78 67 0) (cdAt [1,1,0,1,0,0,1,1] (bodyOf Tryz.f67)) (Qla 0 [(0:Tmp),(3:Tmp),(5:Tmp),(6:Tmp)] J (Qblk 0 (Qthen (WY Tryz.prog cfRR 2997 (Env.mk (Bs.mk 0 []) 0 none 78 67 0) (cdAt [1,1,1] (bodyOf Tryz.f67)) (QendX Tryz.prog Tryz.f67 fun v h=>R (frzW h v))) (QendX Tryz.prog Tryz.f67 fun v h=>R (frzW h v)))))) (Qla 0 [(0:Tmp),(3:Tmp),(5:Tmp),(6:Tmp)] J (Qblk 0 (Qthen (WY Tryz.prog cfRR 2997 (Env.mk (Bs.mk 0 []) 0 none 78 67 0) (cdAt [1,1,1] (bodyOf Tryz.f67)) (QendX Tryz.prog Tryz.f67 fun v h=>R (frzW h v))) (QendX Tryz.prog Tryz.f67 fun v h=>R (frzW h v)))))))))) (Qla 0 [(0:Tmp),(3:Tmp),(5:Tmp),(6:Tmp),(7:Tmp)] I (Qblk 2 (Qblk 1 (Qthen (WY Tryz.prog cfRR 2992 (Env.mk (Bs.mk 0 []) 0 none 78 67 0) (cdAt [1,1,0,1,0,0,1,1] (bodyOf Tryz.f67)) (Qla 0 [(0:Tmp),(3:Tmp),(5:Tmp),(6:Tmp)] J (Qblk 0 (Qthen (WY Tryz.prog cfRR 2997 (Env.mk (Bs.mk 0 []) 0 none 78 67 0) (cdAt [1,1,1] (bodyOf Tryz.f67)) (QendX Tryz.prog Tryz.f67 fun v h=>R (frzW h v))) (QendX Tryz.prog Tryz.f67 fun v h=>R (frzW h v)))))) (Qla 0 [(0:Tmp),(3:Tmp),(5:Tmp),(6:Tmp)] J (Qblk 0 (Qthen (WY Tryz.prog cfRR 2997 (Env.mk (Bs.mk 0 []) 0 none 78 67 0) (cdAt [1,1,1] (bodyOf Tryz.f67)) (QendX Tryz.prog Tryz.f67 fun v h=>R (frzW h v))) (QendX Tryz.prog Tryz.f67 fun v h=>R (frzW h v)))))))))))))))) (St.mk (mkT [(0,V.lst 3 (kdl l)),(3,V.ptr (Id.p 0) 0 0),(5,nilS),(6,iv (↑a:Int)),(7,iv (↑b:Int)),(8,V.lst s (knl x)),(9,V.lst t (knl y)),(10,iv (↑i:Int)),(11,iv (0:Int))]) (Hp.mk [(0,O.rows 1 false [[V.lst 6 (bkl m)]])] 1 []))) (I (St.mk (mkT [(0,V.lst 3 (kdl l)),(3,V.ptr (Id.p 0) 0 0),(5,nilS),(6,iv (↑a:Int)),(7,iv (IntKind.i64.wrap ((↑b:Int)+(1:Int))))]) (Hp.mk [(0,O.rows 1 false [[V.lst 6 (bkl m)]])] 1 [])))) (by kernel_rfl) ?_
    refine ifB_mk (fun e=>?_) (fun e=>?_)
    ·have hi:i<x.length:=by rw [knl_length] at e; have:=of_decide_eq_true e; omega
     exact see (by kernel_rfl) (loopD hi)
    ·have hi:i=x.length:=by rw [knl_length] at e; have:=of_decide_eq_false e; omega
     rw [wr1i hb (by omega)]
     exact hI (false,b+1,q,L) ⟨⟨by simp only; omega,hb⟩,gq,by simp only; rw [lnF_succ,if_pos b0,gL,hi,List.take_length,← hxa,← hyb,List.append_assoc],gb,gb2⟩ (by simp only; omega)
   ·refine see (p:=ifB (decide ((↑i:Int)<(↑(knl x).length:Int))) (La 0 [(0:Tmp),(3:Tmp),(5:Tmp),(6:Tmp),(7:Tmp),(8:Tmp),(9:Tmp),(10:Tmp),(11:Tmp)] (WY Tryz.prog cfRR 2975 (Env.mk (Bs.mk 0 []) 0 none 78 67 6) (cdAt [1,1,0,1,0,0,1,0,0,1,0,0,1,0,0,1,1,0,0,1,0,0,1,0,0] (bodyOf Tryz.f67))) (Qblk 6 (Qblk 5 (Qthen (WY Tryz.prog cfRR 2979 (Env.mk (Bs.mk 0 []) 0 none 78 67 4) (cdAt [1,1,0,1,0,0,1,0,0,1,0,0,1,0,0,1,1,0,0,1,1] (bodyOf Tryz.f67)) (Qla 0 [(0:Tmp),(3:Tmp),(5:Tmp),(6:Tmp),(7:Tmp),(8:Tmp),(9:Tmp),(10:Tmp)] H (Qblk 4 (Qblk 3 (Qthen (WY Tryz.prog cfRR 2986 (Env.mk (Bs.mk 0 []) 0 none 78 67 2) (cdAt [1,1,0,1,0,0,1,0,0,1,0,0,1,1] (bodyOf Tryz.f67)) (Qla 0 [(0:Tmp),(3:Tmp),(5:Tmp),(6:Tmp),(7:Tmp)] I (Qblk 2 (Qblk 1 (Qthen (WY Tryz.prog cfRR 2992 (Env.mk (Bs.mk 0 []) 0 none 78 67 0) (cdAt [1,1,0,1,0,0,1,1] (bodyOf Tryz.f67)) (Qla 0 [(0:Tmp),(3:Tmp),(5:Tmp),(6:Tmp)] J (Qblk 0 (Qthen (WY Tryz.prog cfRR 2997 (Env.mk (Bs.mk 0 []) 0 none 78 67 0) (cdAt [1,1,1] (bodyOf Tryz.f67)) (QendX Tryz.prog Tryz.f67 fun v h=>R (frzW h v))) (QendX Tryz.prog Tryz.f67 fun v h=>R (frzW h v)))))) (Qla 0 [(0:Tmp),(3:Tmp),(5:Tmp),(6:Tmp)] J (Qblk 0 (Qthen (WY Tryz.prog cfRR 2997 (Env.mk (Bs.mk 0 []) 0 none 78 67 0) (cdAt [1,1,1] (bodyOf Tryz.f67)) (QendX Tryz.prog Tryz.f67 fun v h=>R (frzW h v))) (QendX Tryz.prog Tryz.f67 fun v h=>R (frzW h v)))))))))) (Qla 0 [(0:Tmp),(3:Tmp),(5:Tmp),(6:Tmp),(7:Tmp)] I (Qblk 2 (Qblk 1 (Qthen (WY Tryz.prog cfRR 2992 (Env.mk (Bs.mk 0 []) 0 none 78 67 0) (cdAt [1,1,0,1,0,0,1,1] (bodyOf Tryz.f67)) (Qla 0 [(0:Tmp),(3:Tmp),(5:Tmp),(6:Tmp)] J (Qblk 0 (Qthen (WY Tryz.prog cfRR 2997 (Env.mk (Bs.mk 0 []) 0 none 78 67 0) (cdAt [1,1,1] (bodyOf Tryz.f67)) (QendX Tryz.prog Tryz.f67 fun v h=>R (frzW h v))) (QendX Tryz.prog Tryz.f67 fun v h=>R (frzW h v)))))) (Qla 0 [(0:Tmp),(3:Tmp),(5:Tmp),(6:Tmp)] J (Qblk 0 (Qthen (WY Tryz.prog cfRR 2997 (Env.mk (Bs.mk 0 []) 0 none 78 67 0) (cdAt [1,1,1] (bodyOf Tryz.f67)) (QendX Tryz.prog Tryz.f67 fun v h=>R (frzW h v))) (QendX Tryz.prog Tryz.f67 fun v h=>R (frzW h v)))))))))))))) (Qla 0 [(0:Tmp),(3:Tmp),(5:Tmp),(6:Tmp),(7:Tmp),(8:Tmp),(9:Tmp),(10:Tmp)] H (Qblk 4 (Qblk 3 (Qthen (WY Tryz.prog cfRR 2986 (Env.mk (Bs.mk 0 []) 0 none 78 67 2) (cdAt [1,1,0,1,0,0,1,0,0,1,0,0,1,1] (bodyOf Tryz.f67)) (Qla 0 [(0:Tmp),(3:Tmp),(5:Tmp),(6:Tmp),(7:Tmp)] I (Qblk 2 (Qblk 1 (Qthen (WY Tryz.prog cfRR 2992 (Env.mk (Bs.mk 0 []) 0 none 78 67 0) (cdAt [1,1,0,1,0,0,1,1] (bodyOf Tryz.f67)) (Qla 0 [(0:Tmp),(3:Tmp),(5:Tmp),(6:Tmp)] J (Qblk 0 (Qthen (WY Tryz.prog cfRR 2997 (Env.mk (Bs.mk 0 []) 0 none 78 67 0) (cdAt [1,1,1] (bodyOf Tryz.f67)) (QendX Tryz.prog Tryz.f67 fun v h=>R (frzW h v))) (QendX Tryz.prog Tryz.f67 fun v h=>R (frzW h v)))))) (Qla 0 [(0:Tmp),(3:Tmp),(5:Tmp),(6:Tmp)] J (Qblk 0 (Qthen (WY Tryz.prog cfRR 2997 (Env.mk (Bs.mk 0 []) 0 none 78 67 0) (cdAt [1,1,1] (bodyOf Tryz.f67)) (QendX Tryz.prog Tryz.f67 fun v h=>R (frzW h v))) (QendX Tryz.prog Tryz.f67 fun v h=>R (frzW h v)))))))))) (Qla 0 [(0:Tmp),(3:Tmp),(5:Tmp),(6:Tmp),(7:Tmp)] I (Qblk 2 (Qblk 1 (Qthen (WY Tryz.prog cfRR 2992 (Env.mk (Bs.mk 0 []) 0 none 78 67 0) (cdAt [1,1,0,1,0,0,1,1] (bodyOf Tryz.f67)) (Qla 0 [(0:Tmp),(3:Tmp),(5:Tmp),(6:Tmp)] J (Qblk 0 (Qthen (WY Tryz.prog cfRR 2997 (Env.mk (Bs.mk 0 []) 0 none 78 67 0) (cdAt [1,1,1] (bodyOf Tryz.f67)) (QendX Tryz.prog Tryz.f67 fun v h=>R (frzW h v))) (QendX Tryz.prog Tryz.f67 fun v h=>R (frzW h v)))))) (Qla 0 [(0:Tmp),(3:Tmp),(5:Tmp),(6:Tmp)] J (Qblk 0 (Qthen (WY Tryz.prog cfRR 2997 (Env.mk (Bs.mk 0 []) 0 none 78 67 0) (cdAt [1,1,1] (bodyOf Tryz.f67)) (QendX Tryz.prog Tryz.f67 fun v h=>R (frzW h v))) (QendX Tryz.prog Tryz.f67 fun v h=>R (frzW h v)))))))))))))))) (St.mk (mkT [(0,V.lst 3 (kdl l)),(3,V.ptr (Id.p 0) 0 0),(5,V.sl (Id.p 1) 0 q),(6,iv (↑a:Int)),(7,iv (↑b:Int)),(8,V.lst s (knl x)),(9,V.lst t (knl y)),(10,iv (↑i:Int)),(11,iv (0:Int))]) (Hp.mk [(0,O.rows 1 false [[V.lst 6 (bkl m)]]),(1,O.rows 5 true (lkl L))] 2 []))) (I (St.mk (mkT [(0,V.lst 3 (kdl l)),(3,V.ptr (Id.p 0) 0 0),(5,V.sl (Id.p 1) 0 q),(6,iv (↑a:Int)),(7,iv (IntKind.i64.wrap ((↑b:Int)+(1:Int))))]) (Hp.mk [(0,O.rows 1 false [[V.lst 6 (bkl m)]]),(1,O.rows 5 true (lkl L))] 2 [])))) (by kernel_rfl) ?_
    refine ifB_mk (fun e=>?_) (fun e=>?_)
    ·have hi:i<x.length:=by rw [knl_length] at e; have:=of_decide_eq_true e; omega
     exact see (by kernel_rfl) (loopD hi)
    ·have hi:i=x.length:=by rw [knl_length] at e; have:=of_decide_eq_false e; omega
     rw [wr1i hb (by omega)]
     exact hI (true,b+1,q,L) ⟨⟨by simp only; omega,hb⟩,gq,by simp only; rw [lnF_succ,if_pos b0,gL,hi,List.take_length,← hxa,← hyb,List.append_assoc],gb,gb2⟩ (by simp only; omega)
  rcases bo with _ | _
  ·refine see (p:=ifB (decide ((↑b:Int)<(↑(bkl m).length:Int))) (onSome (bkl m)[a]? fun row=>onCons (List.drop 0 row) fun u r=>onIntK IntKind.i64 u fun n=>onCons r fun u r=>onIntK IntKind.i64 u fun n_1=>onCons r fun u r=>onIntK IntKind.i64 u fun n_2=>onCons r fun u r=>onIntK IntKind.i64 u fun n_3=>onCons r fun u r=>onIntK IntKind.u8 u fun n_4=>onCons r fun u r=>onIntK IntKind.u8 u fun n_5=>onSome (bkl m)[b]? fun row=>onCons (List.drop 0 row) fun u r=>onIntK IntKind.i64 u fun n_6=>onCons r fun u r=>onIntK IntKind.i64 u fun n_7=>onCons r fun u r=>onIntK IntKind.i64 u fun n_8=>onCons r fun u r=>onIntK IntKind.i64 u fun n_9=>onCons r fun u r=>onIntK IntKind.u8 u fun n_10=>onCons r fun u r=>onIntK IntKind.u8 u fun n_11=>K0G Tryz.prog glX 60 [V.lst 3 (kdl l),V.agg [iv n,iv n_1,iv n_2,iv n_3,V.raw (Value.int IntKind.u8 n_4),V.raw (Value.int IntKind.u8 n_5)]] fun v=>onLst v fun s es=>K0G Tryz.prog glX 60 [V.lst 3 (kdl l),V.agg [iv n_6,iv n_7,iv n_8,iv n_9,V.raw (Value.int IntKind.u8 n_10),V.raw (Value.int IntKind.u8 n_11)]] fun v=>onLst v fun s_1 es_1=>La 0 [(0:Tmp),(3:Tmp),(5:Tmp),(6:Tmp),(7:Tmp),(8:Tmp),(9:Tmp),(10:Tmp)] (WY Tryz.prog cfRR 2981 (Env.mk (Bs.mk 0 []) 0 none 78 67 4) (cdAt [1,1,0,1,0,0,1,0,0,1,0,0,1,0,0,1,1,0,0] (bodyOf Tryz.f67))) (Qblk 4 (Qblk 3 (Qthen (WY Tryz.prog cfRR 2986 (Env.mk (Bs.mk 0 []) 0 none 78 67 2) (cdAt [1,1,0,1,0,0,1,0,0,1,0,0,1,1] (bodyOf Tryz.f67)) (Qla 0 [(0:Tmp),(3:Tmp),(5:Tmp),(6:Tmp),(7:Tmp)] I (Qblk 2 (Qblk 1 (Qthen (WY Tryz.prog cfRR 2992 (Env.mk (Bs.mk 0 []) 0 none 78 67 0) (cdAt [1,1,0,1,0,0,1,1] (bodyOf Tryz.f67)) (Qla 0 [(0:Tmp),(3:Tmp),(5:Tmp),(6:Tmp)] J (Qblk 0 (Qthen (WY Tryz.prog cfRR 2997 (Env.mk (Bs.mk 0 []) 0 none 78 67 0) (cdAt [1,1,1] (bodyOf Tryz.f67)) (QendX Tryz.prog Tryz.f67 fun v h=>R (frzW h v))) (QendX Tryz.prog Tryz.f67 fun v h=>R (frzW h v)))))) (Qla 0 [(0:Tmp),(3:Tmp),(5:Tmp),(6:Tmp)] J (Qblk 0 (Qthen (WY Tryz.prog cfRR 2997 (Env.mk (Bs.mk 0 []) 0 none 78 67 0) (cdAt [1,1,1] (bodyOf Tryz.f67)) (QendX Tryz.prog Tryz.f67 fun v h=>R (frzW h v))) (QendX Tryz.prog Tryz.f67 fun v h=>R (frzW h v)))))))))) (Qla 0 [(0:Tmp),(3:Tmp),(5:Tmp),(6:Tmp),(7:Tmp)] I (Qblk 2 (Qblk 1 (Qthen (WY Tryz.prog cfRR 2992 (Env.mk (Bs.mk 0 []) 0 none 78 67 0) (cdAt [1,1,0,1,0,0,1,1] (bodyOf Tryz.f67)) (Qla 0 [(0:Tmp),(3:Tmp),(5:Tmp),(6:Tmp)] J (Qblk 0 (Qthen (WY Tryz.prog cfRR 2997 (Env.mk (Bs.mk 0 []) 0 none 78 67 0) (cdAt [1,1,1] (bodyOf Tryz.f67)) (QendX Tryz.prog Tryz.f67 fun v h=>R (frzW h v))) (QendX Tryz.prog Tryz.f67 fun v h=>R (frzW h v)))))) (Qla 0 [(0:Tmp),(3:Tmp),(5:Tmp),(6:Tmp)] J (Qblk 0 (Qthen (WY Tryz.prog cfRR 2997 (Env.mk (Bs.mk 0 []) 0 none 78 67 0) (cdAt [1,1,1] (bodyOf Tryz.f67)) (QendX Tryz.prog Tryz.f67 fun v h=>R (frzW h v))) (QendX Tryz.prog Tryz.f67 fun v h=>R (frzW h v)))))))))))) (St.mk (mkT [(0,V.lst 3 (kdl l)),(3,V.ptr (Id.p 0) 0 0),(5,nilS),(6,iv (↑a:Int)),(7,iv (↑b:Int)),(8,V.lst s es),(9,V.lst s_1 es_1),(10,iv (0:Int))]) (Hp.mk [(0,O.rows 1 false [[V.lst 6 (bkl m)]])] 1 []))) (J (St.mk (mkT [(0,V.lst 3 (kdl l)),(3,V.ptr (Id.p 0) 0 0),(5,nilS),(6,iv (IntKind.i64.wrap ((↑a:Int)+(1:Int))))]) (Hp.mk [(0,O.rows 1 false [[V.lst 6 (bkl m)]])] 1 [])))) (by kernel_rfl) ?_
   refine ifB_mk (fun e=>?_) (fun e=>?_)
   ·have hb:b<n:=by rw [bkl_length,← hn] at e; have:=of_decide_eq_true e; omega
    obtain ⟨bb', hbb⟩:=getI (l:=m) (k:=b) (by omega)
    obtain ⟨hP', _,_,_⟩:=putK hA.kinds hl (hA.all bb' (mem_at hbb)) (hr bb' (mem_at hbb))
    refine bel haa (bel hbb (knobbed60' (b:=aa) hP (fun s hs=>knobbed60' (b:=bb') hP' (fun t ht=>?_))))
    exact see (by kernel_rfl) (loopC hb s t _ _ (knobs_bods haa) (knobs_bods hbb) hs ht)
   ·have hb:b=n:=by rw [bkl_length,← hn] at e; have:=of_decide_eq_false e; omega
    rw [wr1i ha (by omega)]
    exact hJ (false,a+1,q,L) ⟨ha,gq,by simp only; rw [lnE_succ,gL,hb,hnb],gb,gb2⟩ (by simp only; omega)
  ·refine see (p:=ifB (decide ((↑b:Int)<(↑(bkl m).length:Int))) (onSome (bkl m)[a]? fun row=>onCons (List.drop 0 row) fun u r=>onIntK IntKind.i64 u fun n=>onCons r fun u r=>onIntK IntKind.i64 u fun n_1=>onCons r fun u r=>onIntK IntKind.i64 u fun n_2=>onCons r fun u r=>onIntK IntKind.i64 u fun n_3=>onCons r fun u r=>onIntK IntKind.u8 u fun n_4=>onCons r fun u r=>onIntK IntKind.u8 u fun n_5=>onSome (bkl m)[b]? fun row=>onCons (List.drop 0 row) fun u r=>onIntK IntKind.i64 u fun n_6=>onCons r fun u r=>onIntK IntKind.i64 u fun n_7=>onCons r fun u r=>onIntK IntKind.i64 u fun n_8=>onCons r fun u r=>onIntK IntKind.i64 u fun n_9=>onCons r fun u r=>onIntK IntKind.u8 u fun n_10=>onCons r fun u r=>onIntK IntKind.u8 u fun n_11=>K0G Tryz.prog glX 60 [V.lst 3 (kdl l),V.agg [iv n,iv n_1,iv n_2,iv n_3,V.raw (Value.int IntKind.u8 n_4),V.raw (Value.int IntKind.u8 n_5)]] fun v=>onLst v fun s es=>K0G Tryz.prog glX 60 [V.lst 3 (kdl l),V.agg [iv n_6,iv n_7,iv n_8,iv n_9,V.raw (Value.int IntKind.u8 n_10),V.raw (Value.int IntKind.u8 n_11)]] fun v=>onLst v fun s_1 es_1=>La 0 [(0:Tmp),(3:Tmp),(5:Tmp),(6:Tmp),(7:Tmp),(8:Tmp),(9:Tmp),(10:Tmp)] (WY Tryz.prog cfRR 2981 (Env.mk (Bs.mk 0 []) 0 none 78 67 4) (cdAt [1,1,0,1,0,0,1,0,0,1,0,0,1,0,0,1,1,0,0] (bodyOf Tryz.f67))) (Qblk 4 (Qblk 3 (Qthen (WY Tryz.prog cfRR 2986 (Env.mk (Bs.mk 0 []) 0 none 78 67 2) (cdAt [1,1,0,1,0,0,1,0,0,1,0,0,1,1] (bodyOf Tryz.f67)) (Qla 0 [(0:Tmp),(3:Tmp),(5:Tmp),(6:Tmp),(7:Tmp)] I (Qblk 2 (Qblk 1 (Qthen (WY Tryz.prog cfRR 2992 (Env.mk (Bs.mk 0 []) 0 none 78 67 0) (cdAt [1,1,0,1,0,0,1,1] (bodyOf Tryz.f67)) (Qla 0 [(0:Tmp),(3:Tmp),(5:Tmp),(6:Tmp)] J (Qblk 0 (Qthen (WY Tryz.prog cfRR 2997 (Env.mk (Bs.mk 0 []) 0 none 78 67 0) (cdAt [1,1,1] (bodyOf Tryz.f67)) (QendX Tryz.prog Tryz.f67 fun v h=>R (frzW h v))) (QendX Tryz.prog Tryz.f67 fun v h=>R (frzW h v)))))) (Qla 0 [(0:Tmp),(3:Tmp),(5:Tmp),(6:Tmp)] J (Qblk 0 (Qthen (WY Tryz.prog cfRR 2997 (Env.mk (Bs.mk 0 []) 0 none 78 67 0) (cdAt [1,1,1] (bodyOf Tryz.f67)) (QendX Tryz.prog Tryz.f67 fun v h=>R (frzW h v))) (QendX Tryz.prog Tryz.f67 fun v h=>R (frzW h v)))))))))) (Qla 0 [(0:Tmp),(3:Tmp),(5:Tmp),(6:Tmp),(7:Tmp)] I (Qblk 2 (Qblk 1 (Qthen (WY Tryz.prog cfRR 2992 (Env.mk (Bs.mk 0 []) 0 none 78 67 0) (cdAt [1,1,0,1,0,0,1,1] (bodyOf Tryz.f67)) (Qla 0 [(0:Tmp),(3:Tmp),(5:Tmp),(6:Tmp)] J (Qblk 0 (Qthen (WY Tryz.prog cfRR 2997 (Env.mk (Bs.mk 0 []) 0 none 78 67 0) (cdAt [1,1,1] (bodyOf Tryz.f67)) (QendX Tryz.prog Tryz.f67 fun v h=>R (frzW h v))) (QendX Tryz.prog Tryz.f67 fun v h=>R (frzW h v)))))) (Qla 0 [(0:Tmp),(3:Tmp),(5:Tmp),(6:Tmp)] J (Qblk 0 (Qthen (WY Tryz.prog cfRR 2997 (Env.mk (Bs.mk 0 []) 0 none 78 67 0) (cdAt [1,1,1] (bodyOf Tryz.f67)) (QendX Tryz.prog Tryz.f67 fun v h=>R (frzW h v))) (QendX Tryz.prog Tryz.f67 fun v h=>R (frzW h v)))))))))))) (St.mk (mkT [(0,V.lst 3 (kdl l)),(3,V.ptr (Id.p 0) 0 0),(5,V.sl (Id.p 1) 0 q),(6,iv (↑a:Int)),(7,iv (↑b:Int)),(8,V.lst s es),(9,V.lst s_1 es_1),(10,iv (0:Int))]) (Hp.mk [(0,O.rows 1 false [[V.lst 6 (bkl m)]]),(1,O.rows 5 true (lkl L))] 2 []))) (J (St.mk (mkT [(0,V.lst 3 (kdl l)),(3,V.ptr (Id.p 0) 0 0),(5,V.sl (Id.p 1) 0 q),(6,iv (IntKind.i64.wrap ((↑a:Int)+(1:Int))))]) (Hp.mk [(0,O.rows 1 false [[V.lst 6 (bkl m)]]),(1,O.rows 5 true (lkl L))] 2 [])))) (by kernel_rfl) ?_
   refine ifB_mk (fun e=>?_) (fun e=>?_)
   ·have hb:b<n:=by rw [bkl_length,← hn] at e; have:=of_decide_eq_true e; omega
    obtain ⟨bb', hbb⟩:=getI (l:=m) (k:=b) (by omega)
    obtain ⟨hP', _,_,_⟩:=putK hA.kinds hl (hA.all bb' (mem_at hbb)) (hr bb' (mem_at hbb))
    refine bel haa (bel hbb (knobbed60' (b:=aa) hP (fun s hs=>knobbed60' (b:=bb') hP' (fun t ht=>?_))))
    exact see (by kernel_rfl) (loopC hb s t _ _ (knobs_bods haa) (knobs_bods hbb) hs ht)
   ·have hb:b=n:=by rw [bkl_length,← hn] at e; have:=of_decide_eq_false e; omega
    rw [wr1i ha (by omega)]
    exact hJ (true,a+1,q,L) ⟨ha,gq,by simp only; rw [lnE_succ,gL,hb,hnb],gb,gb2⟩ (by simp only; omega)
 rcases bo with _ | _
 ·refine see (p:=ifB (decide ((↑a:Int)<(↑(bkl m).length:Int))) (La 0 [(0:Tmp),(3:Tmp),(5:Tmp),(6:Tmp),(7:Tmp)] (WY Tryz.prog cfRR 2988 (Env.mk (Bs.mk 0 []) 0 none 78 67 2) (cdAt [1,1,0,1,0,0,1,0,0,1,0,0] (bodyOf Tryz.f67))) (Qblk 2 (Qblk 1 (Qthen (WY Tryz.prog cfRR 2992 (Env.mk (Bs.mk 0 []) 0 none 78 67 0) (cdAt [1,1,0,1,0,0,1,1] (bodyOf Tryz.f67)) (Qla 0 [(0:Tmp),(3:Tmp),(5:Tmp),(6:Tmp)] J (Qblk 0 (Qthen (WY Tryz.prog cfRR 2997 (Env.mk (Bs.mk 0 []) 0 none 78 67 0) (cdAt [1,1,1] (bodyOf Tryz.f67)) (QendX Tryz.prog Tryz.f67 fun v h=>R (frzW h v))) (QendX Tryz.prog Tryz.f67 fun v h=>R (frzW h v)))))) (Qla 0 [(0:Tmp),(3:Tmp),(5:Tmp),(6:Tmp)] J (Qblk 0 (Qthen (WY Tryz.prog cfRR 2997 (Env.mk (Bs.mk 0 []) 0 none 78 67 0) (cdAt [1,1,1] (bodyOf Tryz.f67)) (QendX Tryz.prog Tryz.f67 fun v h=>R (frzW h v))) (QendX Tryz.prog Tryz.f67 fun v h=>R (frzW h v)))))))) (St.mk (mkT [(0,V.lst 3 (kdl l)),(3,V.ptr (Id.p 0) 0 0),(5,nilS),(6,iv (↑a:Int)),(7,iv (IntKind.i64.wrap ((↑a:Int)+(1:Int))))]) (Hp.mk [(0,O.rows 1 false [[V.lst 6 (bkl m)]])] 1 []))) (R nilS)) (by kernel_rfl) ?_
  refine ifB_mk (fun d=>?_) (fun d=>?_)
  ·have ha:a<n:=by rw [bkl_length,← hn] at d; have:=of_decide_eq_true d; omega
   rw [wr1i ha (by omega)]
   exact see (by kernel_rfl) (loopB ha)
  ·have ha:a=n:=by rw [bkl_length,← hn] at d; have:=of_decide_eq_false d; omega
   have hL:L=lnk (bods l m):=by rw [gL,ha,← hnb]; rfl
   exact h0 (hL ▸ gb rfl)
 ·refine see (p:=ifB (decide ((↑a:Int)<(↑(bkl m).length:Int))) (La 0 [(0:Tmp),(3:Tmp),(5:Tmp),(6:Tmp),(7:Tmp)] (WY Tryz.prog cfRR 2988 (Env.mk (Bs.mk 0 []) 0 none 78 67 2) (cdAt [1,1,0,1,0,0,1,0,0,1,0,0] (bodyOf Tryz.f67))) (Qblk 2 (Qblk 1 (Qthen (WY Tryz.prog cfRR 2992 (Env.mk (Bs.mk 0 []) 0 none 78 67 0) (cdAt [1,1,0,1,0,0,1,1] (bodyOf Tryz.f67)) (Qla 0 [(0:Tmp),(3:Tmp),(5:Tmp),(6:Tmp)] J (Qblk 0 (Qthen (WY Tryz.prog cfRR 2997 (Env.mk (Bs.mk 0 []) 0 none 78 67 0) (cdAt [1,1,1] (bodyOf Tryz.f67)) (QendX Tryz.prog Tryz.f67 fun v h=>R (frzW h v))) (QendX Tryz.prog Tryz.f67 fun v h=>R (frzW h v)))))) (Qla 0 [(0:Tmp),(3:Tmp),(5:Tmp),(6:Tmp)] J (Qblk 0 (Qthen (WY Tryz.prog cfRR 2997 (Env.mk (Bs.mk 0 []) 0 none 78 67 0) (cdAt [1,1,1] (bodyOf Tryz.f67)) (QendX Tryz.prog Tryz.f67 fun v h=>R (frzW h v))) (QendX Tryz.prog Tryz.f67 fun v h=>R (frzW h v)))))))) (St.mk (mkT [(0,V.lst 3 (kdl l)),(3,V.ptr (Id.p 0) 0 0),(5,V.sl (Id.p 1) 0 q),(6,iv (↑a:Int)),(7,iv (IntKind.i64.wrap ((↑a:Int)+(1:Int))))]) (Hp.mk [(0,O.rows 1 false [[V.lst 6 (bkl m)]]),(1,O.rows 5 true (lkl L))] 2 []))) (R (V.lst 5 (sub (lkl L) 0 q)))) (by kernel_rfl) ?_
  refine ifB_mk (fun d=>?_) (fun d=>?_)
  ·have ha:a<n:=by rw [bkl_length,← hn] at d; have:=of_decide_eq_true d; omega
   rw [wr1i ha (by omega)]
   exact see (by kernel_rfl) (loopB ha)
  ·have ha:a=n:=by rw [bkl_length,← hn] at d; have:=of_decide_eq_false d; omega
   have hL:L=lnk (bods l m):=by rw [gL,ha,← hnb]; rfl
   have e:sub (lkl L) 0 q=lkl L:=by rw [gq,← lkl_length,sub,List.drop_zero,List.take_length]
   rw [e,hL]
   exact h
theorem links30 {l:List Kd} {m:List Bk} {R:V→Prop} (hl : ∀ q∈l,KdR q) (hll:(l.length:Int)≤1000000) (hml:m.length≤1000000) (hr : ∀ b∈m,BkR b) (h1 : ∀ e,errM l m e→e≠0→R (.tup [nilS,iv e])) (h2:OkM l m→lnk (bods l m)=[]→R (.tup [.lst 0 [],iv 0])) (h3:OkM l m→R (.tup [.lst 5 (lkl (lnk (bods l m))),iv 0])):K0G Tryz.prog glX 30 [.lst 3 (kdl l),.agg [.lst 6 (bkl m)]] R:=by
 refine K0_by hmX hcRR 3000 Tryz.func30 (p:=K0G Tryz.prog glX 66 [V.lst 3 (kdl l),V.agg [V.lst 6 (bkl m)]] fun v=>onIntK IntKind.i64 v fun n=>ifB (n != (0:Int)) (R (V.tup [nilS,iv n])) (K0G Tryz.prog glX 67 [V.lst 3 (kdl l),V.agg [V.lst 6 (bkl m)]] fun v=>onLst v fun s es=>R (V.tup [V.lst s es,iv (0:Int)]))) (by kernel_rfl) ?_
 refine check66 hl hll hml hr (fun e he hne=>onIntK_iv (ifB_t (by simpa using hne) (h1 e he hne))) (fun hA=>onIntK_iv (ifB_f rfl ?_))
 exact linked67 hl hr hA.ask (fun e=>onLst_nil (h2 hA e)) (onLst_lst (h3 hA))
end Go.Proofs.YtbionhgjgcpogaaGreatDoor
