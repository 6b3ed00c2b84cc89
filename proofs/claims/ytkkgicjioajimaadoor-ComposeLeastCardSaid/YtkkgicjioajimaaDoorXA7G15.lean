/- A part of the proof. -/
import Derived.Test.YtkkgicjioajimaaDoorProg
import Derived.Shelf.SlSortCmp.WholeK
import Derived.Shelf.SlLaysF0
import Derived.Shelf.SlGeneric
import Derived.Test.YtkkgicjioajimaaDoorXA7G10
import Derived.Test.YtkkgicjioajimaaDoorXA7G11
import Derived.Test.YtkkgicjioajimaaDoorXA7G13
import Derived.Test.YtkkgicjioajimaaDoorXA7G14
namespace Go.Proofs.YtkkgicjioajimaaDoor
open Go Go.Proofs.YtkkgicjioajimaaDoor.Clean
set_option linter.unusedVariables false
set_option linter.unusedSimpArgs false
set_option maxRecDepth 10000
theorem swd_mul (p:Pt) (b:Bool):swd p b * sdp p b=p.1 * p.2.1:=by
 unfold swd sdp
 cases b
 ·rfl
 ·exact Int.mul_comm _ _
theorem cell_of {x y z a b:Int} {n:Nat} (ha:1≤a) (hn:(n:Int)=a * b) {q:Nat} (hq:q<n):(x≤(cellQ x y z a q).1∧(cellQ x y z a q).1<x+a)∧(y≤(cellQ x y z a q).2.1∧(cellQ x y z a q).2.1<y+b)∧(cellQ x y z a q).2.2=z:=by
 unfold cellQ
 simp only
 rw [Int.tmod_eq_emod_of_nonneg (by omega),Int.tdiv_eq_ediv_of_nonneg (by omega)]
 have h1:=Int.emod_nonneg (q:Int) (show a≠0 by omega)
 have h2:=Int.emod_lt_of_pos (q:Int) (show 0<a by omega)
 have h3:0≤(q:Int) / a:=Int.ediv_nonneg (by omega) (by omega)
 have h4:(q:Int) / a<b:=Int.ediv_lt_of_lt_mul (by omega) (by rw [Int.mul_comm]; omega)
 exact ⟨by omega,by omega,trivial⟩
theorem of_cell {x y z a b u v:Int} {n:Nat} (hn:(n:Int)=a * b) (hu:x≤u∧u<x+a) (hv:y≤v∧v<y+b) : ∃ q,q<n∧cellQ x y z a q=(u,v,z):=by
 have h1:(v - y) * a≤(b - 1) * a:=Int.mul_le_mul_of_nonneg_right (by omega) (by omega)
 have h0:0≤(v - y) * a:=Int.mul_nonneg (by omega) (by omega)
 have h2:(b - 1) * a=a * b - a:=by rw [Int.sub_mul,Int.one_mul,Int.mul_comm]
 refine ⟨((v - y) * a+(u - x)).toNat,by omega,?_⟩
 have hq:((((v - y) * a+(u - x)).toNat:Nat):Int)=(v - y) * a+(u - x):=by omega
 unfold cellQ
 rw [hq,Int.tmod_eq_emod_of_nonneg (by omega),Int.tdiv_eq_ediv_of_nonneg (by omega)]
 have hd:(v - y) * a+(u - x)=((v - y) * a+(u - x)) / a * a+((v - y) * a+(u - x)) % a:=by
  have:=Int.mul_ediv_add_emod ((v - y) * a+(u - x)) a
  rw [Int.mul_comm] at this
  exact this.symm
 obtain ⟨e1,e2⟩:=uniq_mul (A:=v - y) (B:=((v - y) * a+(u - x)) / a) (w:=a) (a:=u - x) (b:=((v - y) * a+(u - x)) % a) (by omega) ⟨Int.emod_nonneg _ (by omega),Int.emod_lt_of_pos _ (by omega)⟩ hd
 rw [← e1,← e2]
 congr 1
 ·omega
 ·congr 1; omega
theorem fitS_lies {w d h:Int} {c:List Nat} {l:List Pt} {x:Ld} {p:Pt} {m0:Nat} (hs:ShOK w d h c) (hpt:PtOK l) (hx:0≤x.1) (hp:l[x.1.toNat]? = some p) (hm:pos (bdL w d c) x.2.1=some m0):(∃ s,fitS (bdL w d c) (colN c) p m0 x.2.1 x.2.2=some s)↔liesP w d h c l x:=by
 obtain ⟨c1,c2,c3,c4⟩:=pos_at hs hm
 have hpo:=hpt.2.1 _ p hp
 have hsz:=swd_le hpo x.2.2
 have hxl:=(List.getElem?_eq_some_iff.1 hp).1
 have hnn:((p.1 * p.2.1).toNat:Int)=swd p x.2.2 * sdp p x.2.2:=by
  rw [swd_mul]
  have:0≤p.1 * p.2.1:=Int.mul_nonneg (by have:=hpo.1; omega) (by have:=hpo.2.1; omega)
  omega
 have ea:(if x.2.2=true then p.2.1 else p.1)=swd p x.2.2:=rfl
 constructor
 ·rintro ⟨s,h1⟩
  unfold fitS at h1
  split at h1
  ·cases h1
  rename_i k1
  split at h1
  ·cases h1
  rename_i k2
  rw [ea] at h1
  obtain ⟨f1,f2⟩:=fitF_some h1
  refine ⟨⟨by omega,c3⟩,p,hp,k1,fun y y1 y2 z z1 z2=>?_,by rw [c1]; exact c2,?_⟩
  ·obtain ⟨q,q1,q2⟩:=of_cell (z:=x.2.1.2.2) hnn ⟨z1,z2⟩ ⟨y1,y2⟩
   obtain ⟨m,g1,g2⟩:=f1 q q1
   rw [q2] at g1
   have:=(pos_at hs g1).1
   simp only at this
   rw [this,c1,g2]
  ·rw [c1]
   refine Decidable.byContradiction fun q=>k2 ⟨fun e=>q (.inl e),fun e=>q (.inr e)⟩
 ·rintro ⟨_,p', hp', k1,k2,k3,k4⟩
  rw [hp] at hp'
  cases hp'
  unfold fitS
  rw [if_neg k1,if_neg (by rw [c1] at k4; rintro ⟨q1,q2⟩; exact k4.elim q1 q2),ea]
  refine fitF_of fun q hq=>?_
  obtain ⟨z1,y1,e1⟩:=cell_of (x:=x.2.1.1) (y:=x.2.1.2.1) (z:=x.2.1.2.2) hsz.1.1 hnn hq
  have hat:=k2 _ y1.1 y1.2 _ z1.1 z1.2
  rw [c1] at hat
  have hne:atN w d h c (cellQ x.2.1.1 x.2.1.2.1 x.2.1.2.2 (swd p x.2.2) q).1 (cellQ x.2.1.1 x.2.1.2.1 x.2.1.2.2 (swd p x.2.2) q).2.1 (cellQ x.2.1.1 x.2.1.2.1 x.2.1.2.2 (swd p x.2.2) q).2.2=colN c m0:=by rw [e1]; exact hat
  obtain ⟨m,hm'⟩:=at_pos hs (by rw [hne]; exact c2)
  exact ⟨m,hm', by rw [← (pos_at hs hm').1,hne]⟩
theorem onePc_mem {L:List C3} {C:Nat→Nat} {l:List Pt} {k:Nat} {t:C3} {i:Nat} {b:Bool} {y:Pc}:y∈onePc L C l k t i b ↔ ∃ p s,l[i]? = some p∧fitS L C p k t b=some s∧y=(i,t,b,s,tchN L s):=by
 unfold onePc
 constructor
 ·intro h
  split at h
  ·rename_i p hp
   split at h
   ·rename_i s hs
    exact ⟨p,s,hp,hs,by simpa using h⟩
   ·simp at h
  ·simp at h
 ·rintro ⟨p,s,h1,h2,rfl⟩
  rw [h1]
  simp [h2]
theorem allPc_mem {L:List C3} {C:Nat→Nat} {l:List Pt} {y:Pc}:y∈allPc L C l L.length ↔ ∃ k p s,L[k]? = some y.2.1∧l[y.1]? = some p∧fitS L C p k y.2.1 y.2.2.1=some s∧y.2.2.2=(s,tchN L s):=by
 unfold allPc
 rw [List.mem_flatMap]
 constructor
 ·rintro ⟨k,hk,h⟩
  unfold cellPc at h
  split at h
  ·rename_i t ht
   unfold upPc at h
   rw [List.mem_flatMap] at h
   obtain ⟨i,hi,h⟩:=h
   unfold plPc at h
   rcases List.mem_append.1 h with h | h <;>
   ·obtain ⟨p,s,h1,h2,rfl⟩:=onePc_mem.1 h
    exact ⟨k,p,s,ht,h1,h2,rfl⟩
  ·simp at h
 ·rintro ⟨k,p,s,h1,h2,h3,h4⟩
  refine ⟨k,List.mem_range.2 (List.getElem?_eq_some_iff.1 h1).1,?_⟩
  unfold cellPc
  rw [h1]
  simp only
  unfold upPc
  rw [List.mem_flatMap]
  refine ⟨y.1,List.mem_range.2 (List.getElem?_eq_some_iff.1 h2).1,?_⟩
  unfold plPc
  rw [List.mem_append]
  obtain ⟨i,t,b,e⟩:=y
  simp only at *
  subst h4
  cases b with
  | false=>exact .inl (onePc_mem.2 ⟨p,s,h2,h3,rfl⟩)
  | true=>exact .inr (onePc_mem.2 ⟨p,s,h2,h3,rfl⟩)
theorem bd_nodup {w d h:Int} {c:List Nat} (hs:ShOK w d h c):(bdL w d c).Nodup:=celL_nodup hs.1.1 hs.2.1.1 c _
theorem pos_inj {L:List C3} {t t' : C3} {m:Nat} (h:pos L t=some m) (h' : pos L t' = some m):t=t' := by
 have:=pos_some h
 rw [pos_some h'] at this
 exact (Option.some.inj this).symm
theorem piece_of {w d h:Int} {c:List Nat} {l:List Pt} {y:Pc} (hs:ShOK w d h c) (hpt:PtOK l) (hy:y∈allPc (bdL w d c) (colN c) l (bdL w d c).length) : ∃ k p,pos (bdL w d c) y.2.1=some k∧l[y.1]? = some p∧POK p∧fitS (bdL w d c) (colN c) p k y.2.1 y.2.2.1=some y.2.2.2.1 ∧
  ∀ m,y.2.2.2.1.testBit m=true ↔ ∃ q,q<(p.1 * p.2.1).toNat∧pos (bdL w d c) (cellQ y.2.1.1 y.2.1.2.1 y.2.1.2.2 (swd p y.2.2.1) q)=some m:=by
 obtain ⟨k,p,s,h1,h2,h3,h4⟩:=allPc_mem.1 hy
 have hk:=pos_of (bd_nodup hs) h1
 have e:y.2.2.2.1=s:=by rw [h4]
 refine ⟨k,p,hk,h2,hpt.2.1 _ p h2,by rw [e]; exact h3,?_⟩
 rw [e]
 unfold fitS at h3
 split at h3
 ·cases h3
 split at h3
 ·cases h3
 exact (fitF_some h3).2
theorem area_nn {p:Pt} (hp:POK p) (b:Bool):((p.1 * p.2.1).toNat:Int)=swd p b * sdp p b:=by
 rw [swd_mul]
 have:0≤p.1 * p.2.1:=Int.mul_nonneg (by have:=hp.1; omega) (by have:=hp.2.1; omega)
 omega
theorem mask_has {w d h:Int} {c:List Nat} {l:List Pt} {y:Pc} {t:C3} {m:Nat} (hs:ShOK w d h c) (hpt:PtOK l) (hy:y∈allPc (bdL w d c) (colN c) l (bdL w d c).length) (hm:pos (bdL w d c) t=some m):y.2.2.2.1.testBit m=hasL l (ldP y) t.1 t.2.1 t.2.2:=by
 obtain ⟨k,p,h1,h2,h3,h4,h5⟩:=piece_of hs hpt hy
 have hsz:=swd_le h3 y.2.2.1
 have hn:=area_nn h3 y.2.2.1
 have e:hasL l (ldP y) t.1 t.2.1 t.2.2=hasB p (ldP y) t.1 t.2.1 t.2.2:=by unfold hasL ldP; rw [Int.toNat_natCast,h2]
 rw [e,Bool.eq_iff_iff,h5 m]
 unfold hasB ldP
 simp only [Bool.and_eq_true,beq_iff_eq,decide_eq_true_eq]
 constructor
 ·rintro ⟨q,q1,q2⟩
  have ht:=pos_inj hm q2
  obtain ⟨z1,y1,e1⟩:=cell_of (x:=y.2.1.1) (y:=y.2.1.2.1) (z:=y.2.1.2.2) hsz.1.1 hn q1
  rw [← ht] at z1 y1 e1
  exact ⟨e1,by omega,by omega,by omega,by omega⟩
 ·rintro ⟨e1,e2,e3,e4,e5⟩
  obtain ⟨q,q1,q2⟩:=of_cell (x:=y.2.1.1) (y:=y.2.1.2.1) (z:=y.2.1.2.2) (u:=t.1) (v:=t.2.1) hn (by omega) (by omega)
  refine ⟨q,q1,?_⟩
  rw [q2,← e1]
  exact hm
theorem ix_fi {w d h:Int} {c:List Nat} (hs:ShOK w d h c) {t:C3} {m:Nat} (hm:pos (bdL w d c) t=some m) : ∃ i,(fi c c.length)[m]? = some i∧(i:Int)=ixI w d t:=by
 obtain ⟨i,h1,h2⟩:=celL_at (pos_some hm)
 have:=(cel_pos hs.1.1 hs.2.1.1 i).2.2.2.2
 rw [h2] at this
 exact ⟨i,h1,this.symm⟩
theorem fi_sorted (c:List Nat) (k:Nat):(fi c k).Pairwise (· < ·):=List.pairwise_lt_range.filter _
theorem pos_mono {w d h:Int} {c:List Nat} (hs:ShOK w d h c) {t t' : C3} {m m' : Nat} (hm:pos (bdL w d c) t=some m) (hm' : pos (bdL w d c) t' = some m'):m<m' ↔ ixI w d t<ixI w d t' := by
 obtain ⟨i,h1,h2⟩:=ix_fi hs hm
 obtain ⟨i', h1', h2'⟩:=ix_fi hs hm'
 obtain ⟨a1,a2⟩:=List.getElem?_eq_some_iff.1 h1
 obtain ⟨b1,b2⟩:=List.getElem?_eq_some_iff.1 h1'
 have key : ∀ a b (ha:a<(fi c c.length).length) (hb:b<(fi c c.length).length),a<b→(fi c c.length)[a]<(fi c c.length)[b]:=fun a b ha hb hab=>List.pairwise_iff_getElem.1 (fi_sorted c c.length) a b ha hb hab
 constructor
 ·intro q
  have:=key m m' a1 b1 q
  omega
 ·intro q
  rcases Nat.lt_trichotomy m m' with r | r | r
  ·exact r
  ·subst r; rw [h1] at h1'; cases h1'; omega
  ·have:=key m' m b1 a1 r
   omega
theorem low_mask {w d h:Int} {c:List Nat} {l:List Pt} {y:Pc} {k:Nat} (hs:ShOK w d h c) (hpt:PtOK l) (hy:y∈allPc (bdL w d c) (colN c) l (bdL w d c).length) (hk:pos (bdL w d c) y.2.1=some k):lowB y.2.2.2.1=k∧y.2.2.2.1.testBit k=true∧y.2.2.2.1≠0:=by
 obtain ⟨k', p,h1,h2,h3,h4,h5⟩:=piece_of hs hpt hy
 rw [hk] at h1
 cases h1
 have hsz:=swd_le h3 y.2.2.1
 have hn:=area_nn h3 y.2.2.1
 have hlen:=celL_len hs
 have hlt:=(all_lt (by unfold bdL; omega) hy).2
 have hb:y.2.2.2.1.testBit k=true:=by
  obtain ⟨q,q1,q2⟩:=of_cell (x:=y.2.1.1) (y:=y.2.1.2.1) (z:=y.2.1.2.2) (u:=y.2.1.1) (v:=y.2.1.2.1) hn (by omega) (by omega)
  exact (h5 k).2 ⟨q,q1,by rw [q2]; exact hk⟩
 have h0:y.2.2.2.1≠0:=fun e=>by rw [e] at hb; simp at hb
 refine ⟨?_,hb,h0⟩
 obtain ⟨l1,l2⟩:=lowB_lt h0 hlt
 have hle:lowB y.2.2.2.1≤k:=by
  refine Nat.le_of_not_lt fun q=>?_
  have:=lowB_min q
  rw [hb] at this
  cases this
 have hge : ¬ lowB y.2.2.2.1<k:=fun q=>by
  obtain ⟨r,r1,r2⟩:=(h5 _).1 l2
  have hlt:=(pos_mono hs r2 hk).1 q
  obtain ⟨z1,y1,e1⟩:=cell_of (x:=y.2.1.1) (y:=y.2.1.2.1) (z:=y.2.1.2.2) hsz.1.1 hn r1
  have hin:=(pos_at hs r2).2.2.1
  have hin0:=(pos_at hs hk).2.2.1
  unfold ixI at hlt
  rw [e1] at hlt
  generalize cellQ y.2.1.1 y.2.1.2.1 y.2.1.2.2 (swd p y.2.2.1) r=e at *
  have hd:=hs.1
  by_cases g:e.2.1=y.2.1.2.1
  ·rw [g] at hlt; omega
  ·have:=Int.mul_le_mul_of_nonneg_right (show y.2.1.2.2 * d+y.2.1.2.1+1≤y.2.1.2.2 * d+e.2.1 by omega) (show 0≤w by omega)
   rw [Int.add_mul (y.2.1.2.2 * d+y.2.1.2.1),Int.one_mul] at this
   have:=hin.1; have:=hin0.1
   omega
 omega
theorem byF_pos {l:List Pt} {a b e:Int} : ∀ {cs:List Ld} {i:Nat} {y:Int},0≤y→(0≤byF l a b e cs i y ↔ ∀ x∈cs,hasL l x a b e=false)
 | [],i,y,h=>by simp [byF,h]
 | x::cs,i,y,h=>by
  unfold byF
  by_cases q:hasL l x a b e=true
  ·rw [if_pos q,if_neg (by omega)]
   constructor
   ·intro g; omega
   ·intro g
    have:=g x (List.mem_cons_self ..)
    rw [q] at this
    cases this
  ·rw [if_neg q,byF_pos h]
   have q:hasL l x a b e=false:=by simpa using q
   simp [q]
theorem byF_neg {l:List Pt} {a b e:Int} : ∀ {cs:List Ld} {i:Nat},0≤byF l a b e cs i (-1) ↔ ∃ (j:Nat) (x:Ld),cs[j]? = some x∧hasL l x a b e=true ∧ ∀ (j' : Nat) (x' : Ld),cs[j']? = some x' → hasL l x' a b e=true→j' = j
 | [],i=>by simp [byF]
 | x::cs,i=>by
  unfold byF
  by_cases q:hasL l x a b e=true
  ·rw [if_pos q,if_pos rfl,byF_pos (by omega)]
   constructor
   ·intro g
    refine ⟨0,x,rfl,q,fun j' x' h1 h2=>?_⟩
    cases j' with
    | zero=>rfl
    | succ j' =>
     have:=g x' (List.mem_of_getElem? (by simpa using h1))
     rw [h2] at this
     cases this
   ·rintro ⟨j,z,h1,h2,h3⟩ z' hz'
    obtain ⟨n,hn⟩:=List.getElem?_of_mem hz'
    have e0:=h3 0 x rfl q
    cases hh:hasL l z' a b e with
    | false=>rfl
    | true =>
     have:=h3 (n+1) z' (by simpa using hn) hh
     omega
  ·rw [if_neg q,byF_neg (cs:=cs)]
   constructor
   ·rintro ⟨j,z,h1,h2,h3⟩
    refine ⟨j+1,z,by simpa using h1,h2,fun j' x' g1 g2=>?_⟩
    cases j' with
    | zero =>
     simp at g1
     subst g1
     exact absurd g2 q
    | succ j' => rw [h3 j' x' (by simpa using g1) g2]
   ·rintro ⟨j,z,h1,h2,h3⟩
    cases j with
    | zero =>
     simp at h1
     subst h1
     exact absurd h2 q
    | succ j =>
     refine ⟨j,z,by simpa using h1,h2,fun j' x' g1 g2=>?_⟩
     have:=h3 (j' + 1) x' (by simpa using g1) g2
     omega
theorem byI_iff {l:List Pt} {a b e:Int} {cs:List Ld}:0≤byI l cs a b e ↔ ∃ (j:Nat) (x:Ld),cs[j]? = some x∧hasL l x a b e=true ∧ ∀ (j' : Nat) (x' : Ld),cs[j']? = some x' → hasL l x' a b e=true→j' = j:=byF_neg
theorem piece_inj {w d h:Int} {c:List Nat} {l:List Pt} {y y' : Pc} (hs:ShOK w d h c) (hy:y∈allPc (bdL w d c) (colN c) l (bdL w d c).length) (hy' : y' ∈ allPc (bdL w d c) (colN c) l (bdL w d c).length) (e:ldP y=ldP y'):y=y' := by
 obtain ⟨k,p,s,h1,h2,h3,h4⟩:=allPc_mem.1 hy
 obtain ⟨k', p', s', h1', h2', h3', h4'⟩:=allPc_mem.1 hy'
 obtain ⟨i,t,b,r⟩:=y
 obtain ⟨i', t', b', r'⟩:=y'
 unfold ldP at e
 simp only at *
 have e1:i=i' := by have:=congrArg Prod.fst e; simp only at this; omega
 have e2:t=t' := congrArg (fun x=>x.2.1) e
 have e3:b=b' := congrArg (fun x=>x.2.2) e
 subst e1 e2 e3
 have a:=pos_of (bd_nodup hs) h1
 rw [pos_of (bd_nodup hs) h1'] at a
 cases a
 rw [h2] at h2'
 cases h2'
 rw [h3] at h3'
 cases h3'
 rw [h4,h4']
theorem look_eq {w d h:Int} {c:List Nat} {l:List Pt} {y:Pc} (hs:ShOK w d h c) (hy:y∈allPc (bdL w d c) (colN c) l (bdL w d c).length):look (allPc (bdL w d c) (colN c) l (bdL w d c).length) (ldP y)=some y:=by
 unfold look
 cases hf:(allPc (bdL w d c) (colN c) l (bdL w d c).length).find? fun z=>decide (sameD (ldP y) z) with
 | none =>
  rw [List.find?_eq_none] at hf
  have:=hf y hy
  exact absurd (decide_eq_true ⟨rfl,rfl,rfl⟩) this
 | some z =>
  have h1:sameD (ldP y) z:=by have:=List.find?_some hf; exact of_decide_eq_true this
  have h2:=List.mem_of_find?_eq_some hf
  rw [piece_inj hs hy h2 (by
   obtain ⟨e1,e2,e3⟩:=h1
   unfold ldP at *
   simp only at *
   rw [e1,e2,e3])]
theorem piece_lies {w d h:Int} {c:List Nat} {l:List Pt} {y:Pc} (hs:ShOK w d h c) (hpt:PtOK l) (hy:y∈allPc (bdL w d c) (colN c) l (bdL w d c).length):liesP w d h c l (ldP y):=by
 obtain ⟨k,p,h1,h2,h3,h4,h5⟩:=piece_of hs hpt hy
 exact (fitS_lies (x:=ldP y) (p:=p) (m0:=k) hs hpt (by unfold ldP; simp) (by unfold ldP; simpa using h2) h1).1 ⟨_,h4⟩
def coverP (N:Nat) (ps:List Pc):Prop := ∀ m,m<N → ∃ (j:Nat) (y:Pc),ps[j]? = some y∧y.2.2.2.1.testBit m=true ∧ ∀ (j' : Nat) (y' : Pc),ps[j']? = some y' → y'.2.2.2.1.testBit m=true→j' = j
theorem bit_lt {w d h:Int} {c:List Nat} {l:List Pt} {y:Pc} {m:Nat} (hs:ShOK w d h c) (hpt:PtOK l) (hy:y∈allPc (bdL w d c) (colN c) l (bdL w d c).length) (hm:y.2.2.2.1.testBit m=true):m<(bdL w d c).length:=by
 obtain ⟨k,p,h1,h2,h3,h4,h5⟩:=piece_of hs hpt hy
 obtain ⟨q,q1,q2⟩:=(h5 m).1 hm
 exact (pos_at hs q2).2.2.2
theorem cell_num {w d h:Int} {c:List Nat} (hs:ShOK w d h c) {m:Nat} (hm:m<(bdL w d c).length) : ∃ i,i<c.length∧c.getD i 0≠0∧pos (bdL w d c) (cel w d i)=some m:=by
 obtain ⟨t,ht⟩:=getI hm
 obtain ⟨i,h1,h2⟩:=celL_at ht
 have:=mem_fi.1 (List.mem_of_getElem? h1)
 exact ⟨i,this.1,this.2,by rw [h2]; exact pos_of (bd_nodup hs) ht⟩
theorem num_cell {w d h:Int} {c:List Nat} (hs:ShOK w d h c) {i:Nat} (h1:i<c.length) (h2:c.getD i 0≠0) : ∃ m,m<(bdL w d c).length∧pos (bdL w d c) (cel w d i)=some m:=by
 have hmem:cel w d i∈bdL w d c:=by
  unfold bdL celL
  rw [List.mem_map]
  exact ⟨i,mem_fi.2 ⟨h1,h2⟩,rfl⟩
 cases hp:pos (bdL w d c) (cel w d i) with
 | some m=>exact ⟨m,(List.getElem?_eq_some_iff.1 (pos_some hp)).1,rfl⟩
 | none=>exact absurd hmem (pos_none hp)
theorem cover_iff {w d h:Int} {c:List Nat} {l:List Pt} {ps:List Pc} (hs:ShOK w d h c) (hpt:PtOK l) (hin : ∀ y∈ps,y∈allPc (bdL w d c) (colN c) l (bdL w d c).length):coverP (bdL w d c).length ps ↔ ∀ i,i<c.length→c.getD i 0≠0→0≤byI l (ps.map ldP) (cel w d i).1 (cel w d i).2.1 (cel w d i).2.2:=by
 constructor
 ·intro g i h1 h2
  obtain ⟨m,m1,m2⟩:=num_cell hs h1 h2
  obtain ⟨j,y,a1,a2,a3⟩:=g m m1
  refine byI_iff.2 ⟨j,ldP y,by rw [List.getElem?_map,a1]; rfl,?_,fun j' x' b1 b2=>?_⟩
  ·rw [← mask_has hs hpt (hin y (List.mem_of_getElem? a1)) m2]; exact a2
  ·rw [List.getElem?_map,Option.map_eq_some_iff] at b1
   obtain ⟨y', b3,rfl⟩:=b1
   refine a3 j' y' b3 ?_
   rw [mask_has hs hpt (hin y' (List.mem_of_getElem? b3)) m2]; exact b2
 ·intro g m hm
  obtain ⟨i,h1,h2,h3⟩:=cell_num hs hm
  obtain ⟨j,x,a1,a2,a3⟩:=byI_iff.1 (g i h1 h2)
  rw [List.getElem?_map,Option.map_eq_some_iff] at a1
  obtain ⟨y,a4,rfl⟩:=a1
  refine ⟨j,y,a4,?_,fun j' y' b1 b2=>?_⟩
  ·rw [mask_has hs hpt (hin y (List.mem_of_getElem? a4)) h3]; exact a2
  ·refine a3 j' (ldP y') (by rw [List.getElem?_map,b1]; rfl) ?_
   rw [← mask_has hs hpt (hin y' (List.mem_of_getElem? b1)) h3]; exact b2
theorem tkF_nil (pcs:List Pc) (s:TkS):tkF pcs s []=some s:=rfl
set_option maxHeartbeats 1000000 in
theorem comp_of {w d h:Int} {c:List Nat} {l:List Pt} {cs:List Ld} {ps:List Pc} (hs:ShOK w d h c) (hpt:PtOK l) (hl:laid w d c l cs=some ps):compP w d h c l cs:=by
 have hlen:=celL_len hs
 have hN:1≤(bdL w d c).length∧(bdL w d c).length≤16:=by unfold bdL; omega
 obtain ⟨hps,hin⟩:=laid_map hl
 obtain ⟨sf,hsf,hsf0⟩ : ∃ s,tkF (allPc (bdL w d c) (colN c) l (bdL w d c).length) ([],l.map (fun x=>x.2.2.1),2 ^ (bdL w d c).length - 1) cs=some s∧s.2.2=0:=by
  unfold laid tkOK at hl
  split at hl
  ·rename_i s hs'
   split at hl
   ·rename_i h0; exact ⟨s,hs', h0⟩
   ·cases hl
  ·cases hl
 have at' : ∀ (i:Nat) (y:Pc),ps[i]? = some y→cs[i]? = some (ldP y):=fun i y hy=>by rw [← hps,List.getElem?_map,hy]; rfl
 have hlp:ps.length=cs.length:=by rw [← hps,List.length_map]
 have num : ∀ (i:Nat) (y:Pc),ps[i]? = some y → ∃ k,pos (bdL w d c) y.2.1=some k∧lowB y.2.2.2.1=k∧y.2.2.2.1.testBit k=true:=fun i y hy=>by
  obtain ⟨k,p,h1,_⟩:=piece_of hs hpt (hin y (List.mem_of_getElem? hy))
  obtain ⟨a,b,_⟩:=low_mask hs hpt (hin y (List.mem_of_getElem? hy)) h1
  exact ⟨k,h1,a,b⟩
 have main : ∀ i,i≤ps.length → ∃ lf op,tkF (allPc (bdL w d c) (colN c) l (bdL w d c).length) ([],l.map (fun x=>x.2.2.1),2 ^ (bdL w d c).length - 1) (cs.take i)=some (ps.take i,lf,op)∧op<65536∧(∀ m,op.testBit m=true↔m<(bdL w d c).length ∧ ∀ (j:Nat) (y:Pc),j<i→ps[j]? = some y→y.2.2.2.1.testBit m=false)∧lf.length=l.length∧(∀ (m:Nat) (p:Pt),l[m]? = some p→lf.getD m 0=p.2.2.1 - usedN cs i m∧0≤lf.getD m 0) ∧
   ∀ (j:Nat) (y:Pc),j<i→ps[j]? = some y→(∀ p,l[y.1]? = some p→(usedN cs (j+1) y.1:Int)≤p.2.2.1)∧(∀ m,y.2.2.2.1.testBit m=true → ∀ (j' : Nat) (y' : Pc),j' < j→ps[j']? = some y' → y'.2.2.2.1.testBit m=false) ∧ ∀ m,m<lowB y.2.2.2.1→m<(bdL w d c).length → ∃ (j' : Nat) (y' : Pc),j' < j∧ps[j']? = some y' ∧ y'.2.2.2.1.testBit m=true:=by
  intro i
  induction i with
  | zero =>
   intro _
   have hpow:2 ^ (bdL w d c).length≤2 ^ 16:=Nat.pow_le_pow_right (n:=2) (by omega) hN.2
   refine ⟨l.map (fun x=>x.2.2.1),2 ^ (bdL w d c).length - 1,tkF_nil _ _,by omega,fun m=>?_,by simp,fun m p hp=>?_,fun j y hj=>by omega⟩
   ·rw [Nat.testBit_two_pow_sub_one]
    simp
   ·have e:(l.map (fun x=>x.2.2.1)).getD m 0=p.2.2.1:=by
     rw [List.getD_eq_getElem?_getD,List.getElem?_map,hp]
     rfl
    rw [e]
    have:=(hpt.2.1 m p hp).2.2.1
    exact ⟨by simp [usedN],this.1⟩
  | succ i ih =>
   intro hi
   obtain ⟨lf,op,h1,h2,h3,h4,h5,h6⟩:=ih (by omega)
   obtain ⟨y,hy⟩:=getI (l:=ps) (k:=i) (by omega)
   have hya:=hin y (List.mem_of_getElem? hy)
   have hx:=at' i y hy
   have hlt:=all_lt hN.2 hya
   obtain ⟨p,hp⟩:=getI hlt.1
   have hst:=tkF_snoc h1 hx
   have hsome : ¬ tkStep (allPc (bdL w d c) (colN c) l (bdL w d c).length) (ps.take i,lf,op) (ldP y)=none:=fun e=>by
    have:=tkF_none (hst.trans e)
    rw [hsf] at this
    cases this
   have hstep:tkStep (allPc (bdL w d c) (colN c) l (bdL w d c).length) (ps.take i,lf,op) (ldP y)=if lowB y.2.2.2.1=lowB op∧difN y.2.2.2.1 op=0∧lf.getD y.1 0≠0 then some (ps.take i++[y],lf.set y.1 (lf.getD y.1 0 - 1),difN op y.2.2.2.1) else none:=by
    unfold tkStep
    rw [look_eq hs hya]
   have cond:lowB y.2.2.2.1=lowB op∧difN y.2.2.2.1 op=0∧lf.getD y.1 0≠0:=Decidable.byContradiction fun q=>hsome (by rw [hstep,if_neg q])
   rw [hstep,if_pos cond] at hst
   obtain ⟨c1,c2,c3⟩:=cond
   obtain ⟨u1,u2⟩:=h5 y.1 p hp
   have e1:(ldP y).1=(y.1:Int):=rfl
   have hus:=usedN_succ (m:=y.1) hx
   rw [if_pos e1] at hus
   have free : ∀ m,y.2.2.2.1.testBit m=true→op.testBit m=true:=fun m hm=>by
    have:(difN y.2.2.2.1 op).testBit m=Nat.testBit 0 m:=by rw [c2]
    rw [difN_bit hlt.2,Nat.zero_testBit,hm] at this
    simpa using this
   refine ⟨lf.set y.1 (lf.getD y.1 0 - 1),difN op y.2.2.2.1,?_,difN_lt _ _,fun m=>?_,by rw [List.length_set]; exact h4,fun m p' hp' => ?_,fun j z hj hz=>?_⟩
   ·rw [hst,List.take_add_one,hy]
    rfl
   ·rw [difN_bit h2,Bool.and_eq_true,h3 m]
    constructor
    ·rintro ⟨⟨a1,a2⟩,a3⟩
     refine ⟨a1,fun j y' hj hy' => ?_⟩
     by_cases g:j=i
     ·subst g; rw [hy] at hy'; cases hy'; simpa using a3
     ·exact a2 j y' (by omega) hy'
    ·rintro ⟨a1,a2⟩
     exact ⟨⟨a1,fun j y' hj hy' => a2 j y' (by omega) hy'⟩,by rw [a2 i y (by omega) hy]; rfl⟩
   ·rw [usedN_succ hx,List.getD_eq_getElem?_getD,List.getElem?_set]
    by_cases e:y.1=m
    ·subst e
     rw [if_pos rfl,if_pos (by omega),if_pos e1]
     rw [hp] at hp'
     cases hp'
     simp only [Option.getD_some]
     omega
    ·rw [if_neg e,if_neg (by rw [e1]; omega),← List.getD_eq_getElem?_getD]
     simpa using h5 m p' hp'
   ·by_cases g:j=i
    ·subst g
     rw [hy] at hz
     cases hz
     refine ⟨fun p' hp' => ?_,fun m hm j' y' hj' hy' => ((h3 m).1 (free m hm)).2 j' y' hj' hy', fun m hm hmN=>?_⟩
     ·rw [hp] at hp'
      cases hp'
      rw [hus]
      omega
     ·rw [c1] at hm
      have hb:=lowB_min hm
      refine Classical.byContradiction fun q=>?_
      have:=(h3 m).2 ⟨hmN,fun j' y' a1 a2=>by
       cases hh:y'.2.2.2.1.testBit m with
       | false=>rfl
       | true=>exact absurd ⟨j', y', a1,a2,hh⟩ q⟩
      rw [hb] at this
      cases this
    ·exact h6 j z (by omega) hz
 obtain ⟨lf,op,h1,h2,h3,_,_,h6⟩:=main ps.length (Nat.le_refl _)
 rw [hlp,List.take_of_length_le (Nat.le_refl _),hsf] at h1
 have hop:op=0:=by
  have:=Option.some.inj h1
  rw [this] at hsf0
  exact hsf0
 have hlt : ∀ (j:Nat) (y:Pc),ps[j]? = some y→j<ps.length:=fun j y hj=>(List.getElem?_eq_some_iff.1 hj).1
 refine ⟨fun i x hx=>?_,?_⟩
 ·have hx' := hx
  rw [← hps,List.getElem?_map,Option.map_eq_some_iff] at hx'
  obtain ⟨y,hy,rfl⟩:=hx'
  have hya:=hin y (List.mem_of_getElem? hy)
  obtain ⟨g1,g2,g3⟩:=h6 i y (hlt i y hy) hy
  refine ⟨piece_lies hs hpt hya,fun x' hi hx' => ?_,fun p hp=>?_⟩
  ·rw [← hps,List.getElem?_map,Option.map_eq_some_iff] at hx'
   obtain ⟨y', hy', rfl⟩:=hx'
   obtain ⟨k,k1,k2,k3⟩:=num i y hy
   obtain ⟨k', k1', k2', k3'⟩:=num (i - 1) y' hy'
   have f:=g2 k k3 (i - 1) y' (by omega) hy'
   have hne:k' ≠ k:=fun e=>by rw [e,f] at k3'; cases k3'
   have hnl : ¬ k<k' := fun q=>by
    obtain ⟨j', z,a1,a2,a3⟩:=(h6 (i - 1) y' (hlt _ _ hy') hy').2.2 k (by rw [k2']; exact q) (bit_lt hs hpt hya k3)
    have:=g2 k k3 j' z (by omega) a2
    rw [a3] at this
    cases this
   exact (pos_mono hs k1' k1).1 (by omega)
  ·have e:(ldP y).1.toNat=y.1:=by unfold ldP; simp
   rw [e] at hp ⊢
   exact g1 p hp
 ·have cov:coverP (bdL w d c).length ps:=fun m hm=>by
   have : ¬ ∀ (j:Nat) (y:Pc),j<ps.length→ps[j]? = some y→y.2.2.2.1.testBit m=false:=fun q=>by
    have:=(h3 m).2 ⟨hm,q⟩
    rw [hop] at this
    simp at this
   obtain ⟨j,y,hj,hy⟩ : ∃ (j:Nat) (y:Pc),ps[j]? = some y∧y.2.2.2.1.testBit m=true:=by
    refine Classical.byContradiction fun q=>this fun j y _ hy=>?_
    cases hh:y.2.2.2.1.testBit m with
    | false=>rfl
    | true=>exact absurd ⟨j,y,hy,hh⟩ q
   refine ⟨j,y,hj,hy,fun j' y' hj' hy' => ?_⟩
   rcases Nat.lt_trichotomy j' j with r | r | r
   ·have:=(h6 j y (hlt _ _ hj) hj).2.1 m hy j' y' r hj'
    rw [hy'] at this
    cases this
   ·exact r
   ·have:=(h6 j' y' (hlt _ _ hj') hj').2.1 m hy' j y r hj
    rw [hy] at this
    cases this
  have:=(cover_iff hs hpt hin).1 cov
  rw [hps] at this
  exact this
theorem laid_ne {w d h:Int} {c:List Nat} {l:List Pt} {cs:List Ld} {ps:List Pc} (hs:ShOK w d h c) (hpt:PtOK l) (hl:laid w d c l cs=some ps):coverP (bdL w d c).length ps∧ps≠[]:=by
 obtain ⟨hm,hin⟩:=laid_map hl
 have hcov:coverP (bdL w d c).length ps:=(cover_iff hs hpt hin).2 (by rw [hm]; exact (comp_of hs hpt hl).2)
 refine ⟨hcov,fun e=>?_⟩
 have hlen:=celL_len hs
 obtain ⟨j,y,hj,_⟩:=hcov 0 (by unfold bdL; omega)
 rw [e] at hj
 simp at hj
set_option maxRecDepth 100000
set_option maxRecDepth 10000
set_option maxRecDepth 100000
set_option maxRecDepth 10000
theorem take_snoc {l:List Pt} {k:Nat} {x:Pt} (h:l[k]? = some x):l.take (k+1)=l.take k++[x]:=by rw [List.take_add_one,h]; rfl
theorem area {x:Pt} (h:POK x):1≤x.1 * x.2.1∧x.1 * x.2.1≤64:=by
 have a1:1 * 1≤x.1 * x.2.1:=Int.mul_le_mul h.1.1 h.2.1.1 (by omega) (by have:=h.1.1; omega)
 have a2:x.1 * x.2.1≤8 * 8:=Int.mul_le_mul (by have:=h.1.2; have:=h.2.1.2; omega) h.2.1.2 (by have:=h.2.1.1; omega) (by omega)
 omega
def lsm {α:Type} (f:α→Int):List α→Int
 | []=>0
 | x::r=>f x+lsm f r
section
variable {α:Type}
theorem lsm_app (f:α→Int) : ∀ a b:List α,lsm f (a++b)=lsm f a+lsm f b
 | [],b=>by simp [lsm]
 | x::r,b=>by simp only [List.cons_append,lsm,lsm_app f r b]; omega
theorem lsm_perm {f:α→Int} {a b:List α} (h:a.Perm b):lsm f a=lsm f b:=by
 induction h with
 | nil=>rfl
 | cons x _ ih=>simp only [lsm,ih]
 | swap x y l=>simp only [lsm]; omega
 | trans _ _ h1 h2=>exact h1.trans h2
theorem lsm_congr {f g:α→Int} : ∀ {a:List α},(∀ x∈a,f x=g x)→lsm f a=lsm g a
 | [],h=>rfl
 | x::r,h=>by simp only [lsm]; rw [h x (List.mem_cons_self ..),lsm_congr fun y hy=>h y (List.mem_cons_of_mem _ hy)]
theorem lsm_mono {f g:α→Int} : ∀ {a:List α},(∀ x∈a,f x≤g x)→lsm f a≤lsm g a
 | [],h=>Int.le_refl _
 | x::r,h=>by
  have h1:=h x (List.mem_cons_self ..)
  have h2:=lsm_mono (a:=r) fun y hy=>h y (List.mem_cons_of_mem _ hy)
  simp only [lsm]; omega
theorem lsm_sub (f:α→Int) (a:Int) : ∀ l:List α,lsm (fun x=>f x - a) l=lsm f l - a * l.length
 | []=>by simp [lsm]
 | x::r=>by
  simp only [lsm,lsm_sub f a r,List.length_cons,Int.natCast_add,Int.mul_add]
  omega
theorem lsm_zero : ∀ l:List α,lsm (fun _=>(0:Int)) l=0
 | []=>rfl
 | x::r=>by simp only [lsm,lsm_zero r]; omega
theorem lsm_map {β:Type} (f:β→Int) (g:α→β) : ∀ l:List α,lsm f (l.map g)=lsm (fun x=>f (g x)) l
 | []=>rfl
 | x::r=>by simp only [List.map_cons,lsm,lsm_map f g r]
end
theorem countP_or (p q:Nat→Bool) : ∀ l:List Nat,l.countP (fun m=>p m || q m)≤l.countP p+l.countP q
 | []=>by simp
 | a::l=>by
  have:=countP_or p q l
  simp only [List.countP_cons]
  cases p a <;> cases q a <;> simp <;> omega
theorem countP_one (o:Option Nat) : ∀ N,(List.range N).countP (fun m=>o==some m)≤1∧((∀ a,o=some a→N≤a)→(List.range N).countP (fun m=>o==some m)=0)
 | 0=>by simp
 | N+1=>by
  obtain ⟨h1,h2⟩:=countP_one o N
  rw [List.range_succ,List.countP_append,List.countP_singleton]
  by_cases e:o=some N
  ·have h0:=h2 (fun a ha=>by rw [e] at ha; cases ha; exact Nat.le_refl _)
   rw [h0,e]
   refine ⟨by simp,fun q=>?_⟩
   have:=q N rfl
   omega
  ·have:(o==some N)=false:=by simpa using e
   rw [this]
   refine ⟨by simpa using h1,fun q=>?_⟩
   have:=h2 fun a ha=>by have:=q a ha; omega
   simpa using this
theorem any_cnt (φ:Nat→Option Nat) (N:Nat) : ∀ n,(List.range N).countP (fun m=>(List.range n).any fun q=>φ q==some m)≤n
 | 0=>by simp
 | n+1=>by
  have h1:=any_cnt φ N n
  have h2:=(countP_one (φ n) N).1
  have h3:=countP_or (fun m=>(List.range n).any fun q=>φ q==some m) (fun m=>φ n==some m) (List.range N)
  have e:(fun m=>(List.range (n+1)).any fun q=>φ q==some m)=fun m=>((List.range n).any fun q=>φ q==some m) || φ n==some m:=by
   funext m
   rw [List.range_succ,List.any_append]
   simp
  rw [e]
  omega
def bitc (N s:Nat):Nat:=(List.range N).countP fun m=>s.testBit m
theorem bitc_le {N s n:Nat} {φ:Nat→Option Nat} (h : ∀ m,s.testBit m=true → ∃ q,q<n∧φ q=some m):bitc N s≤n:=by
 refine Nat.le_trans (List.countP_mono_left (q:=fun m=>(List.range n).any fun q=>φ q==some m) fun m _ hm=>?_) (any_cnt φ N n)
 obtain ⟨q,h1,h2⟩:=h m hm
 rw [List.any_eq_true]
 exact ⟨q,List.mem_range.2 h1,by rw [h2]; simp⟩
theorem any_le (N:Nat) : ∀ ps:List Pc,((List.range N).countP (fun m=>ps.any fun y=>y.2.2.2.1.testBit m):Int)≤lsm (fun y:Pc=>(bitc N y.2.2.2.1:Int)) ps
 | []=>by simp [lsm]
 | y::ps=>by
  have h1:=any_le N ps
  have h2:=countP_or (fun m=>y.2.2.2.1.testBit m) (fun m=>ps.any fun y=>y.2.2.2.1.testBit m) (List.range N)
  simp only [List.any_cons,lsm]
  unfold bitc at *
  omega
def arP (p:Pt):Int:=p.1 * p.2.1
def arL (l:List Pt) (x:Ld):Int:=match l[x.1.toNat]? with
 | some p=>arP p
 | none=>0
section
variable {w d h:Int} {c:List Nat} {l:List Pt} {cs:List Ld} {ps:List Pc}
theorem area_ge (hs:ShOK w d h c) (hpt:PtOK l) (hl:laid w d c l cs=some ps):((bdL w d c).length:Int)≤lsm (arL l) cs:=by
 obtain ⟨hm,hin⟩:=laid_map hl
 have hcov:=(laid_ne hs hpt hl).1
 have h1:=any_le (bdL w d c).length ps
 have h2:(List.range (bdL w d c).length).countP (fun m=>ps.any fun y=>y.2.2.2.1.testBit m)=(bdL w d c).length:=by
  have:(List.range (bdL w d c).length).countP (fun m=>ps.any fun y=>y.2.2.2.1.testBit m)=(List.range (bdL w d c).length).length:=by
   rw [List.countP_eq_length]
   intro m hm'
   obtain ⟨j,y,a1,a2,_⟩:=hcov m (List.mem_range.1 hm')
   rw [List.any_eq_true]
   exact ⟨y,List.mem_of_getElem? a1,a2⟩
  rw [this,List.length_range]
 rw [h2] at h1
 rw [← hm,lsm_map]
 refine Int.le_trans h1 (lsm_mono fun y hy=>?_)
 obtain ⟨k,p,g1,g2,g3,g4,g5⟩:=piece_of hs hpt (hin y hy)
 have h3:=bitc_le (N:=(bdL w d c).length) fun m hm' => (g5 m).1 hm'
 have h4:arL l (ldP y)=p.1 * p.2.1:=by
  unfold arL ldP
  simp only [Int.toNat_natCast]
  rw [g2]; rfl
 have h5:=area g3
 rw [h4]
 omega
end
def sS (h:Nat→Int):Nat→Int
 | 0=>0
 | n+1=>sS h n+h n
theorem sS_one (a:Nat) (v:Nat→Int) : ∀ n,sS (fun i=>if a=i then v i else 0) n=if a<n then v a else 0
 | 0=>by simp [sS]
 | n+1=>by
  rw [sS,sS_one a v n]
  by_cases e:a=n
  ·subst e; simp
  ·rw [if_neg e]
   by_cases q:a<n
   ·rw [if_pos q,if_pos (by omega)]; omega
   ·rw [if_neg q,if_neg (by omega)]; omega
theorem sS_add (g h:Nat→Int) : ∀ n,sS (fun i=>g i+h i) n=sS g n+sS h n
 | 0=>by simp [sS]
 | n+1=>by rw [sS,sS,sS,sS_add g h n]; omega
theorem sS_le {g h:Nat→Int} : ∀ {n:Nat},(∀ i,i<n→g i≤h i)→sS g n≤sS h n
 | 0,_=>Int.le_refl _
 | n+1,q=>by
  have h1:=sS_le (n:=n) fun i hi=>q i (by omega)
  have h2:=q n (by omega)
  rw [sS,sS]; omega
theorem sS_eq {g h:Nat→Int} {n:Nat} (q : ∀ i,i<n→g i=h i):sS g n=sS h n :=
 Int.le_antisymm (sS_le fun i hi=>Int.le_of_eq (q i hi)) (sS_le fun i hi=>Int.le_of_eq (q i hi).symm)
theorem lsm_cnt {n:Nat} (f:Nat→Int) : ∀ {cs:List Ld},(∀ x∈cs, ∃ a:Nat,x.1=(a:Int)∧a<n)→lsm (fun x:Ld=>f x.1.toNat) cs=sS (fun i=>(cs.countP (fun x=>decide (x.1=(i:Int))):Int) * f i) n
 | [],_=>by
  rw [sS_eq (h:=fun _=>0) fun i _=>by simp]
  have : ∀ n,sS (fun _=>0) n=0:=fun n=>by
   induction n with
   | zero=>rfl
   | succ n ih=>rw [sS,ih]; rfl
  rw [this]; rfl
 | x::cs,h=>by
  obtain ⟨a,h1,h2⟩:=h x (List.mem_cons_self ..)
  have ih:=lsm_cnt f (cs:=cs) fun y hy=>h y (List.mem_cons_of_mem _ hy)
  have e:sS (fun i=>((x::cs).countP (fun x=>decide (x.1=(i:Int))):Int) * f i) n=sS (fun i=>(if a=i then f i else 0)+(cs.countP (fun x=>decide (x.1=(i:Int))):Int) * f i) n:=sS_eq fun i _=>by
   rw [List.countP_cons,h1]
   by_cases e:a=i
   ·subst e
    simp [Int.add_mul]
    omega
   ·have : ¬ ((a:Int)=(i:Int)):=by omega
    simp [e,this]
  rw [e,sS_add,sS_one,if_pos h2,lsm,ih,h1,Int.toNat_natCast]
theorem sS_list (F:Pt→Int) (l:List Pt) : ∀ n,n≤l.length→sS (fun i=>match l[i]? with | some q=>F q | none=>0) n=lsm F (l.take n)
 | 0,_=>by simp [sS,lsm]
 | n+1,h=>by
  obtain ⟨x,hx⟩:=getI (l:=l) (k:=n) (by omega)
  rw [sS,sS_list F l n (by omega),take_snoc hx,lsm_app]
  simp only [hx,lsm]
  omega
theorem used_le {w d h:Int} {c:List Nat} {l:List Pt} {cs:List Ld} (hpt:PtOK l) (hc:compP w d h c l cs) {m:Nat} {p:Pt} (hp:l[m]? = some p) : ∀ i,i≤cs.length→(usedN cs i m:Int)≤p.2.2.1
 | 0,_=>by
  have:=(hpt.2.1 m p hp).2.2.1
  simp [usedN]
  omega
 | i+1,hi=>by
  obtain ⟨x,hx⟩:=getI (l:=cs) (k:=i) (by omega)
  by_cases e:x.1=(m:Int)
  ·have:=(hc.1 i x hx).2.2 p (by rw [e,Int.toNat_natCast]; exact hp)
   rw [e,Int.toNat_natCast] at this
   exact this
  ·rw [usedN_succ hx,if_neg e]
   have:=used_le hpt hc hp i (by omega)
   omega
def potP (a:Int) (q:Pt):Int:=if a<arP q then (arP q - a) * q.2.2.1 else 0
theorem pot_ge {w d h:Int} {c:List Nat} {l:List Pt} {cs:List Ld} (hpt:PtOK l) (hc:compP w d h c l cs) (a:Int):lsm (arL l) cs - a * cs.length≤lsm (potP a) l:=by
 rw [← lsm_sub]
 have hx : ∀ x∈cs, ∃ b:Nat,x.1=(b:Int)∧b<l.length:=fun x hx=>by
  obtain ⟨j,hj⟩:=List.getElem?_of_mem hx
  obtain ⟨⟨⟨h1,h2⟩,_⟩,_⟩:=(hc.1 j x hj).1
  exact ⟨x.1.toNat,by omega,by omega⟩
 rw [lsm_congr (g:=fun x:Ld=>(fun i:Nat=>match l[i]? with | some q=>arP q - a | none=>0) x.1.toNat) fun x hx' => ?_,lsm_cnt (n:=l.length) (fun i:Nat=>match l[i]? with | some q=>arP q - a | none=>0) hx]
 ·have:=sS_list (potP a) l l.length (Nat.le_refl _)
  rw [List.take_length] at this
  rw [← this]
  refine sS_le fun i hi=>?_
  obtain ⟨p,hp⟩:=getI (l:=l) (k:=i) hi
  have h1:=used_le hpt hc hp cs.length (Nat.le_refl _)
  unfold usedN at h1
  rw [List.take_length] at h1
  simp only [hp]
  generalize cs.countP _=n at h1
  unfold potP
  split
  ·rename_i q
   rw [Int.mul_comm]
   exact Int.mul_le_mul_of_nonneg_left h1 (by omega)
  ·rename_i q
   have:(n:Int) * (arP p - a)≤(n:Int) * 0:=Int.mul_le_mul_of_nonneg_left (by omega) (by omega)
   omega
 ·obtain ⟨b,h1,h2⟩:=hx x hx'
  obtain ⟨p,hp⟩:=getI h2
  simp only [arL,h1,Int.toNat_natCast,hp]
def sN (g:List Pt):Int:=lsm (fun q:Pt=>q.2.2.1) g
def sA (g:List Pt):Int:=lsm (fun q:Pt=>q.2.2.1 * arP q) g
theorem least_le {w d h:Int} {c:List Nat} {l g:List Pt} {cs:List Ld} {F a:Int} {k j:Nat} {p:Pt} (hpt:PtOK l) (hc:compP w d h c l cs) (hF:F≤lsm (arL l) cs) (hg:g.Perm l)
  (hsd : ∀ (i i' : Nat) (q q' : Pt),g[i]? = some q→g[i']? = some q' → i<i' → arP q' ≤ arP q) (hp:g[k]? = some p) (hopen:0<F - sA (g.take k) - j * arP p):sN (g.take k)+j+1≤cs.length:=by
 have h1:=pot_ge hpt hc (arP p)
 rw [← lsm_perm hg] at h1
 have hpa:0≤arP p:=by
  obtain ⟨i,hi⟩:=List.getElem?_of_mem (hg.mem_iff.1 (List.mem_of_getElem? hp))
  have:=(area (hpt.2.1 i p hi)).1
  unfold arP; omega
 have e:lsm (potP (arP p)) g=sA (g.take k) - arP p * sN (g.take k):=by
  conv=>lhs; rw [← List.take_append_drop k g]
  rw [lsm_app,lsm_congr (a:=g.drop k) (g:=fun _=>0) fun q hq=>?_,lsm_zero]
  ·have : ∀ G:List Pt,(∀ q∈G,arP p≤arP q)→lsm (potP (arP p)) G=sA G - arP p * sN G:=fun G=>by
    induction G with
    | nil=>intro _; simp [lsm,sA,sN]
    | cons q G ih =>
     intro hG
     have ih:=ih fun q' hq' => hG q' (List.mem_cons_of_mem _ hq')
     have hq:=hG q (List.mem_cons_self ..)
     unfold sA sN at *
     simp only [lsm,ih,Int.mul_add]
     have e2:potP (arP p) q=q.2.2.1 * arP q - arP p * q.2.2.1:=by
      unfold potP
      split
      ·rw [Int.sub_mul,Int.mul_comm (arP q)]
      ·rw [show arP q=arP p by omega,Int.mul_comm]; omega
     omega
   rw [this _ fun q hq=>?_]
   ·omega
   ·obtain ⟨i,hi⟩:=List.getElem?_of_mem hq
    rw [List.getElem?_take] at hi
    split at hi
    ·exact hsd i k q p hi hp (by omega)
    ·cases hi
  ·obtain ⟨i,hi⟩:=List.getElem?_of_mem hq
   rw [List.getElem?_drop] at hi
   unfold potP
   rw [if_neg]
   cases i with
   | zero=>rw [Nat.add_zero,hp] at hi; cases hi; omega
   | succ i=>have:=hsd k (k+(i+1)) p q hp hi (by omega); omega
 rw [e] at h1
 refine Decidable.byContradiction fun hn=>?_
 have h2:arP p * (cs.length:Int)≤arP p * (sN (g.take k)+j):=Int.mul_le_mul_of_nonneg_left (by omega) hpa
 rw [Int.mul_add] at h2
 have h3:(j:Int) * arP p=arP p * j:=Int.mul_comm _ _
 omega
theorem least_none {w d h:Int} {c:List Nat} {l:List Pt} {cs:List Ld} {F:Int} (hpt:PtOK l) (hc:compP w d h c l cs) (hF:F≤lsm (arL l) cs):F≤sA l:=by
 have h1:=pot_ge hpt hc 0
 rw [lsm_congr (g:=fun q:Pt=>q.2.2.1 * arP q) fun q hq=>?_] at h1
 ·unfold sA; omega
 ·obtain ⟨i,hi⟩:=List.getElem?_of_mem hq
  have:=(area (hpt.2.1 i q hi)).1
  unfold potP
  rw [if_pos (by unfold arP; omega),Int.mul_comm]
  congr 1
  omega
end Go.Proofs.YtkkgicjioajimaaDoor
namespace Go.Proofs.YtkkgicjioajimaaDoor.Clean
open Go.Proofs Go.Shelf Go.RowKit Go.Lib Go.Sort
set_option linter.unusedVariables false
set_option linter.unusedSimpArgs false
set_option maxRecDepth 10000
def rowV (vs:List Value):List V:=vs.map V.raw
section
variable {ν:Nu} {F:Nat→Prop} {h:Hp} {w w' : World}
theorem heap_growA {os:Array Obj} (k:HeapOK ν F h w) (hw:w' = grow w os):HeapOK ν F h w' ∧ Evo ν F w ν F w' := by
 have hpre : ∀ r,r<w.heap.size→w'.heap[r]? = w.heap[r]? := fun r hlt=>by
  subst hw; show (w.heap++os)[r]? = _; rw [Array.getElem?_append_left hlt]
 have hsize:w.heap.size≤w'.heap.size:=by subst hw; show _≤(w.heap++os).size; simp
 have e:Evo ν F w ν F w' := ⟨by rw [hw]; rfl,by rw [hw]; rfl,by rw [hw]; rfl,hsize,fun r hlt _=>hpre r hlt,fun _ h=>h,fun _ h => .inl h,fun _ h => .inl h,fun _ _ _ h=>h,Nat.le_refl _,fun _=>Nat.le_refl _,fun _ _ h=>h,
  fun b r s n hb _ c e fr hc=>⟨c,by rw [hpre r (lt_of_some hc)]; exact hc,rfl⟩,by subst hw; exact Nat.le_refl _⟩
 refine ⟨⟨fun b r s n hb=>?_,k.dom,k.inj,fun r hr=>⟨Nat.lt_of_lt_of_le (k.frz r hr).1 hsize,(k.frz r hr).2⟩,k.nxt,k.cnt⟩,e⟩
 obtain ⟨o,g1,g2⟩:=k.blk b r s n hb
 exact ⟨o,g1,obl_evo k e (hpre r (k.at_lt hb)) g2⟩
theorem world_grow {W w' : World} (h1:w'.os=W.os) (h2:w'.tape=W.tape) (h3:w'.output=W.output) (h4:W.drawn≤w'.drawn) (h5:W.heap.size≤w'.heap.size) (h6 : ∀ r,r<W.heap.size→w'.heap[r]? = W.heap[r]?) : ∃ q os', w' = grow (W.drewN q) os' := by
 refine ⟨w'.drawn - W.drawn,w'.heap.extract W.heap.size w'.heap.size,?_⟩
 obtain ⟨heap,tape,drawn,os,out⟩:=w'
 simp only at h1 h2 h3 h4 h5 h6
 have hh:heap=W.heap++heap.extract W.heap.size heap.size:=by
  refine Array.ext_getElem? fun i=>?_
  by_cases hi:i<W.heap.size
  ·rw [Array.getElem?_append_left hi,h6 i hi]
  ·rw [Array.getElem?_append_right (by omega),Array.getElem?_extract]
   split
   ·rw [show W.heap.size+(i - W.heap.size)=i from by omega]
   ·rw [Array.getElem?_eq_none (by omega)]
 show World.mk heap tape drawn os out=World.mk (W.heap++heap.extract W.heap.size heap.size) W.tape (W.drawn+(drawn - W.drawn)) W.os W.output
 rw [← hh,← h1,← h2,← h3,show W.drawn+(drawn - W.drawn)=drawn from by omega]
variable {α:Type} [Inhabited α]
theorem flat_get {enc:α→List Value} {k:Nat} (hk : ∀ x,(enc x).length=k) (l:List α) {i j:Nat} {x:α} (hx:l[i]? = some x) (hj:j<k):(flatK enc k l.toArray)[i * k+j]! = (enc x)[j]! ∧ i * k+j<l.length * k:=by
 have hi:=(List.getElem?_eq_some_iff.1 hx).1
 have lt:i * k+j<l.length * k:=by
  have:=Nat.mul_le_mul_right k (show i+1≤l.length from hi); rw [Nat.add_mul,Nat.one_mul] at this; omega
 refine ⟨?_,lt⟩
 rw [get_flatK _ _ _ _ (by simpa using lt)]
 have e1:(i * k+j) / k=i:=(blk_iff k i _ (by omega)).1 ⟨by omega,by omega⟩
 have e2:(i * k+j) % k=j:=by rw [Nat.mod_eq_sub_div_mul,e1]; omega
 rw [e1,e2]
 have:l.toArray[i]! = x:=by
  rw [getElem!_pos _ i (by simpa using hi)]
  have:=(List.getElem?_eq_some_iff.1 hx).2
  simpa using this
 rw [this]
theorem holds_of {enc:α→List Value} {k:Nat} (hk : ∀ x,(enc x).length=k) {l:List α} {r:Nat} {c:Array Value} {el:TypeId} {p:Bool} (hc:w.heap[r]? = some (.cells c el (0,0))) (hr:rowsC (repO F w ν p) c k (l.map fun x=>rowV (enc x)) 0):HoldsK enc k w r 0 l.toArray:=by
  intro t ht
  rw [size_flatK] at ht
  have ht:t<l.length * k:=by simpa using ht
  have k0 : 0 < k := by rcases Nat.eq_zero_or_pos k with h | h
                        · subst h; simp at ht
                        · exact h
  have hi:t / k<l.length:=Nat.div_lt_of_lt_mul (by rw [Nat.mul_comm]; exact ht)
  have hj:t % k<k:=Nat.mod_lt _ k0
  have et:t / k * k+t % k=t:=Nat.div_add_mod' t k
  obtain ⟨x,hx⟩ : ∃ x,l[t / k]? = some x:=⟨_,List.getElem?_eq_getElem hi⟩
  have hf:=(flat_get hk l hx hj).1
  rw [et] at hf
  obtain ⟨_,q⟩:=rowsC_iff.1 hr (t / k) (rowV (enc x)) (by rw [List.getElem?_map,hx]; rfl)
  have hje:t % k<(enc x).length:=by rw [hk]; exact hj
  obtain ⟨y,y1,_,y2⟩:=q (t % k) (V.raw (enc x)[t % k]!) (by rw [rowV,List.getElem?_map,List.getElem?_eq_getElem hje]; simp [hje])
  have hy:y=(enc x)[t % k]! := by
    unfold repO at y2
    split at y2 <;> simpa [ri,rep] using y2
  rw [Nat.zero_add,et] at y1
  constructor
  · show w.cell? ⟨r,0+t,none⟩=some (flatK enc k l.toArray)[t]!
    rw [hf,← hy,Nat.zero_add]
    simp [World.cell?,hc,y1]
  · rw [Nat.zero_add]
    simp [World.frozen?,hc]
theorem sort_world {enc:α→List Value} {k:Nat} (hk : ∀ x,(enc x).length=k) (h1 : ∀ x, ∀ v∈enc x,v.oneCell' = true) {l:List α} {b r n' : Nat} {p:Bool} (hh:HeapOK ν F h w) (hget:h.get (.p b)=some (.rows k p (l.map fun x=>rowV (enc x)))) (hat:ν.at_ (.p b)=some (r,k,n')) (m:Nat) (dk:Array α) (os:Array Obj) (hs:dk.size=l.length) :
  HeapOK ν F (h.put (.p b) (.rows k p (dk.toList.map fun x=>rowV (enc x)))) (sortWorldK enc k w r 0 m dk os)∧Evo ν F w ν F (sortWorldK enc k w r 0 m dk os) ∧ ∀ q,q≠r→q<w.heap.size→(sortWorldK enc k w r 0 m dk os).heap[q]? = w.heap[q]? := by
 obtain ⟨_,g2,c,e,hc,hn,hr⟩:=hh.blkR hget hat
 obtain ⟨k1,e1⟩:=heap_same (w' := Sort.ahead w m) hh rfl rfl rfl rfl (Nat.le_add_right _ _)
 have hsz:(flatK enc k dk).size=l.length * k:=by rw [size_flatK,hs]
 have g2:l.length=n' := by simpa using g2
 have hc' : (putRowK enc k (Sort.ahead w m) r 0 dk).heap[r]? = some (.cells (putCells id 0 (flatK enc k dk) c) e (0,0)):=by
  show (w.heap.modify r (onCells (putCells id 0 (flatK enc k dk))))[r]? = _
  rw [Array.getElem?_modify,if_pos rfl,hc]; rfl
 have hoth : ∀ q,q≠r→(putRowK enc k (Sort.ahead w m) r 0 dk).heap[q]? = w.heap[q]? := fun q hq=>by
  show (w.heap.modify r (onCells (putCells id 0 (flatK enc k dk))))[q]? = _
  rw [Array.getElem?_modify,if_neg (Ne.symm hq)]
 have hrow:rowsC (repO F (Sort.ahead w m) ν p) (putCells id 0 (flatK enc k dk) c) k (dk.toList.map fun x=>rowV (enc x)) 0:=by
  refine rowsC_iff.2 fun i row hrow=>?_
  rw [List.getElem?_map,Option.map_eq_some_iff] at hrow
  obtain ⟨x,hx,rfl⟩:=hrow
  refine ⟨by rw [rowV,List.length_map,hk],fun j v hj=>?_⟩
  rw [rowV,List.getElem?_map,Option.map_eq_some_iff] at hj
  obtain ⟨y,hy,rfl⟩:=hj
  have hjk:j<k:=by rw [← hk x]; exact (List.getElem?_eq_some_iff.1 hy).1
  obtain ⟨f1,f2⟩:=flat_get hk dk.toList hx hjk
  rw [Array.toArray_toList] at f1
  rw [Array.length_toList,hs] at f2
  have hy' : (enc x)[j]! = y:=by
   rw [getElem!_pos _ j (by rw [hk]; exact hjk)]
   exact (List.getElem?_eq_some_iff.1 hy).2
  refine ⟨y,?_,h1 x y (List.mem_of_getElem? hy),?_⟩
  ·rw [Nat.zero_add]
   simp only [putCells,Array.getElem?_mapIdx]
   rw [Array.getElem?_eq_getElem (show i * k+j<c.size by rw [← g2] at hn; omega)]
   simp only [Option.map_some,Nat.zero_le,true_and,Nat.zero_add,hsz,f2,if_true,Nat.sub_zero,id,f1,hy']
  ·unfold repO
   split <;> simp [ri,rep]
 have hcp:(putCells id 0 (flatK enc k dk) c).size=c.size:=by simp [putCells]
 obtain ⟨k2,e2⟩:=heap_set (w' := putRowK enc k (Sort.ahead w m) r 0 dk) (es:=l.map fun x=>rowV (enc x)) (es' := dk.toList.map fun x=>rowV (enc x)) (p:=p) k1 hget rfl (by rw [List.length_map,g2]; exact hat) (by simp [hs]) hc hc' hcp hoth (by show (w.heap.modify _ _).size=_; rw [Array.size_modify]; rfl) rfl rfl rfl (by rw [List.length_map,g2]; exact hn) hrow (Nat.le_refl _)
 obtain ⟨k3,e3⟩:=heap_growA (w' := sortWorldK enc k w r 0 m dk os) k2 rfl
 refine ⟨k3,(e1.trans e2).trans e3,fun q hq hlt=>?_⟩
 show ((putRowK enc k (Sort.ahead w m) r 0 dk).heap++os)[q]? = _
 rw [Array.getElem?_append_left (by show q<(w.heap.modify _ _).size; rw [Array.size_modify]; exact hlt),hoth q hq]
end
section
variable {ν:Nu} {F:Nat→Prop} {h:Hp} {w w' : World} {α:Type} [Inhabited α]
theorem repL_raws {vs:List Value}:repL F w ν (rowV vs) vs:=by
 induction vs with
 | nil=>simp [rowV,repL]
 | cons a t ih=>simp only [rowV,List.map_cons,repL] at ih ⊢; exact ⟨a,t,rfl,by simp [rep],ih⟩
theorem perm_of {d d' : Array α} (h:PermIn 0 d.size d d'):d'.toList.Perm d.toList:=by
 obtain ⟨h1,_,h3⟩:=h
 have e1:d'.extract 0 d.size=d' := by rw [← h1]; simp
 have e2:d.extract 0 d.size=d:=by simp
 rw [e1,e2] at h3
 exact h3
theorem K_sort {P:Program} {G:Nat→Option (List V)} {ρ:Ren} (L:SlLaysF0.n6 P ρ) {k:Nat} (aE : ∀ w,(isAgg (ρ.t 24)).run P w = .ok true w) (zE : ∀ w,(Go.sizeOf (ρ.t 24)).run P w = .ok k w) {enc:α→List Value} (hk : ∀ x,(enc x).length=k) (h1 : ∀ x, ∀ v∈enc x,v.oneCell' = true) {cf:α→α→Int} (hO:SWO (ltOf cf))
  {g:FuncId} {caps:List V} {h:Hp} {b:Nat} {p:Bool} {l:List α} (hl0:l≠[]) (hlt:l.length<4611686018427387904) (hget:h.get (.p b)=some (.rows k p (l.map fun x=>rowV (enc x))))
  (eg : ∀ args w,(callFunc g args).run P w = .ok (.enter g args) w)
  (hcmp : ∀ l' : List α,l'.length=l.length → ∀ x y,K P G g ([.agg (rowV (enc x)),.agg (rowV (enc y))]++caps) (h.put (.p b) (.rows k p (l'.map fun x=>rowV (enc x)))) (fun b' => !b'.low h.nxt) fun v _=>v = .raw (.int .i64 (cf x y))) (hfs:h.fs=[]) :
  K P G (ρ.f 6) [.sl (.p b) 0 l.length,.fn (.func g) [] caps] h (fun b' => (Id.p b).beq b') fun v h' => v = .tup [] ∧ ∃ l' : List α,l'.Perm l∧(∀ (i j:Nat) (x y:α),i<j→l'[i]? = some x→l'[j]? = some y → ¬ cf y x<0)∧h' = h.put (.p b) (.rows k p (l'.map fun x=>rowV (enc x))):=by
 intro ν F w xs hh hG hl
 simp only [repL,rep] at hl
 obtain ⟨x1,_,rfl,hx1,x2,_,rfl,⟨fa,cs,rfl,has,hcs⟩,rfl⟩:=hl
 obtain ⟨⟨r,k', n'⟩,hat⟩ : ∃ x,ν.at_ (.p b)=some x:=by
  rcases hh.dom _ _ hget with h | ⟨_,s,p', h⟩
  ·exact h
  ·simp at h
   exact (hl0 h.2.2).elim
 obtain ⟨rfl,g2,c,e,hc,hn,hr⟩:=hh.blkR hget hat
 have g2:l.length=n' := by simpa using g2
 obtain ⟨-, cap,hcap,⟨o,ho,rfl⟩, -⟩:=hx1.2 _ _ _ hat
 have ho:o=0:=by
  rcases ho with ho | ho
  ·simpa using ho
  ·exact absurd rfl ho.2
 subst ho
 have has:fa = #[]:=by
  have:fa.toList=[]:=by simpa [repL] using has
  exact Array.toList_eq_nil_iff.1 this
 subst has
 have hblk:r<w.heap.size:=hh.at_lt hat
 have key:CmpLays P g cs enc k cf r 0 l.toArray.size w:=by
  intro m os dk hs x y
  have hs:dk.size=l.length:=by simpa using hs
  obtain ⟨q1,q2,_⟩:=sort_world (enc:=enc) hk h1 hh hget hat m dk os hs
  have hG' : GlobOK G F (sortWorldK enc k w r 0 m dk os):=fun g cs hg=>HeapOK.riEvo hh q2 (hG g cs hg)
  have hargs:repL F (sortWorldK enc k w r 0 m dk os) ν ([.agg (rowV (enc x)),.agg (rowV (enc y))]++caps) ([.agg (enc x).toArray,.agg (enc y).toArray]++cs.toList):=by
   simp only [List.cons_append,List.nil_append,repL,rep]
   exact ⟨_,_,rfl,⟨_,rfl,by simpa using repL_raws⟩,_,_,rfl,⟨_,rfl,by simpa using repL_raws⟩,repL_evo hh q2 _ _ hcs⟩
  have:=hcmp dk.toList (by simpa using hs) x y ν F _ _ q1 hG' hargs
  have harr:([.agg (enc x).toArray,.agg (enc y).toArray]++cs.toList:List Value).toArray = #[.agg (enc x).toArray,.agg (enc y).toArray]++cs:=by simp
  rw [harr] at this
  refine this.mono fun e' w' ⟨v,u,ν', F', h', z1,z2,z3,z4,z5,z6⟩=>?_
  subst z1; subst z2
  have hv:v = .int .i64 (cf x y):=by simpa [rep] using z4
  refine ⟨by rw [hv],world_grow z5.os z5.tape z5.output z5.drawn z5.size fun q hq=>?_⟩
  by_cases ho:ν.own q
  ·obtain ⟨b', s', n'', hb'⟩:=ho
   refine (z6 b' _ hb' ?_).1
   have hlt:=ν.lt _ _ hb'
   cases b' with
   | p a =>
    have:a<h.nxt:=by have h2:a<ν.nxt:=hlt; rw [hh.nxt] at h2; exact h2
    show (!Nat.blt a h.nxt)=false
    rw [show Nat.blt a h.nxt=true from Nat.ble_eq_true_of_le this]; rfl
   | m B j =>
    have h2:j<ν.cnt B:=hlt
    rw [hh.cnt B,hfs] at h2
    exact absurd h2 (Nat.not_lt_zero _)
  ·exact z5.old q hq ho
 have hH:HoldsK enc k w r 0 l.toArray:=holds_of hk hc hr
 have main:=AnyQ.slices_SortFunc L k aE zE enc hk h1 cf hO g cs r 0 cap l.toArray w eg key hH hblk (by simpa using hlt)
 refine main.mono fun e' w' ⟨he,d', n,os,hp,hs,hw⟩=>?_
 subst he; subst hw
 have hsz:d'.size=l.length:=by simpa using hp.1
 obtain ⟨q1,q2,q3⟩:=sort_world (enc:=enc) hk h1 hh hget hat n d' os hsz
 refine ⟨.tuple #[],.tup [],ν,F,_,rfl,⟨rfl,d'.toList,by simpa using perm_of hp,fun i j x y hij hx hy=>?_,rfl⟩,q1,by simp [rep,repL],q2,fun b' y hy hb' => ⟨?_,hy⟩⟩
 ·have hj:j<l.length:=by rw [← hsz]; simpa using (List.getElem?_eq_some_iff.1 hy).1
  have:=hs i j (Nat.zero_le _) hij (by simpa using hj)
  have e1:d'[i]! = x:=by
   rw [getElem!_pos d' i (by omega)]
   have:=(List.getElem?_eq_some_iff.1 hx).2
   simpa using this
  have e2:d'[j]! = y:=by
   rw [getElem!_pos d' j (by omega)]
   have:=(List.getElem?_eq_some_iff.1 hy).2
   simpa using this
  rw [e1,e2] at this
  unfold ltOf at this
  exact of_decide_eq_false this
 ·obtain ⟨r', s', n''⟩:=y
  refine q3 r' (fun he=>?_) (hh.at_lt hy)
  subst he
  have:=hh.inj b' _ _ _ _ _ _ hy hat
  subst this
  simp at hb'
end
end Go.Proofs.YtkkgicjioajimaaDoor.Clean
namespace Go.Proofs.YtkkgicjioajimaaDoor
open Go Go.Shelf
set_option linter.unusedVariables false
set_option maxRecDepth 100000
def LSi_ren:Go.Shelf.Ren:=⟨fun | 6=>62 | 15=>97 | 14=>96 | 28=>115 | 29=>116 | 20=>107 | 21=>108 | 22=>109 | 23=>110 | 24=>111 | 25=>112 | 26=>113 | 27=>114 | 46=>120 | 47=>121 | 48=>122 | 49=>123 | 50=>124 | 57=>125 | n=>n,fun | 22=>25 | 24=>52 | 25=>114 | 3=>3 | 39=>153 | 0=>0 | 53=>178 | 55=>180 | 4=>4 | 46=>172 | 45=>171 | 50=>167 | 5=>5 | 9=>9 | 66=>184 | 70=>188 | 76=>190 | 77=>35 | n=>n,fun | n=>n⟩
theorem LSi:Go.Proofs.SlLaysF0.n6 Tryd.prog LSi_ren:={
 mixed:=by kernel_rfl
 f6:=⟨Tryd.f62.name,by decide,Tryd.func62.trans (congrArg some (by kernel_rfl))⟩
 f14:=⟨Tryd.f96.name,by decide,Tryd.func96.trans (congrArg some (by kernel_rfl))⟩
 f15:=Tryd.func97.trans (congrArg some (by kernel_rfl))
 f20:=⟨Tryd.f107.name,by decide,Tryd.func107.trans (congrArg some (by kernel_rfl))⟩
 f21:=⟨Tryd.f108.name,by decide,Tryd.func108.trans (congrArg some (by kernel_rfl))⟩
 f22:=⟨Tryd.f109.name,by decide,Tryd.func109.trans (congrArg some (by kernel_rfl))⟩
 f23:=⟨Tryd.f110.name,by decide,Tryd.func110.trans (congrArg some (by kernel_rfl))⟩
 f24:=⟨Tryd.f111.name,by decide,Tryd.func111.trans (congrArg some (by kernel_rfl))⟩
 f25:=⟨Tryd.f112.name,by decide,Tryd.func112.trans (congrArg some (by kernel_rfl))⟩
 f26:=⟨Tryd.f113.name,by decide,Tryd.func113.trans (congrArg some (by kernel_rfl))⟩
 f27:=⟨Tryd.f114.name,by decide,Tryd.func114.trans (congrArg some (by kernel_rfl))⟩
 f28:=Tryd.func115.trans (congrArg some (by kernel_rfl))
 f29:=Tryd.func116.trans (congrArg some (by kernel_rfl))
 f46:=⟨Tryd.f120.name,by decide,Tryd.func120.trans (congrArg some (by kernel_rfl))⟩
 f47:=Tryd.func121.trans (congrArg some (by kernel_rfl))
 f48:=Tryd.func122.trans (congrArg some (by kernel_rfl))
 f49:=⟨Tryd.f123.name,by decide,Tryd.func123.trans (congrArg some (by kernel_rfl))⟩
 f50:=⟨Tryd.f124.name,by decide,Tryd.func124.trans (congrArg some (by kernel_rfl))⟩
 f57:=⟨Tryd.f125.name,by decide,Tryd.func125.trans (congrArg some (by kernel_rfl))⟩
 t0:=Tryd.underlying0
 a0:=Tryd.isAgg0
 z0:=Tryd.sizeOf0
 v0:=Tryd.zeroValue0
 t3:=Tryd.underlying3
 a3:=Tryd.isAgg3
 z3:=Tryd.sizeOf3
 v3:=Tryd.zeroValue3
 t4:=Tryd.underlying4
 a4:=Tryd.isAgg4
 z4:=Tryd.sizeOf4
 v4:=Tryd.zeroValue4
 t5:=Tryd.underlying5
 a5:=Tryd.isAgg5
 z5:=Tryd.sizeOf5
 v5:=Tryd.zeroValue5
 t9:=Tryd.underlying9
 a9:=Tryd.isAgg9
 z9:=Tryd.sizeOf9
 v9:=Tryd.zeroValue9
 t22:=Tryd.underlying25
 a22:=Tryd.isAgg25
 z22:=Tryd.sizeOf25
 v22:=Tryd.zeroValue25
 t25:=Tryd.underlying114
 a25:=Tryd.isAgg114
 z25:=Tryd.sizeOf114
 v25:=Tryd.zeroValue114
 t39:=Tryd.underlying153
 a39:=Tryd.isAgg153
 z39:=Tryd.sizeOf153
 v39:=Tryd.zeroValue153
 t45:=Tryd.underlying171
 a45:=Tryd.isAgg171
 z45:=Tryd.sizeOf171
 v45:=Tryd.zeroValue171
 t46:=Tryd.underlying172
 a46:=Tryd.isAgg172
 z46:=Tryd.sizeOf172
 v46:=Tryd.zeroValue172
 t50:=Tryd.underlying167
 a50:=Tryd.isAgg167
 z50:=Tryd.sizeOf167
 v50:=Tryd.zeroValue167
 t53:=Tryd.underlying178
 a53:=Tryd.isAgg178
 z53:=Tryd.sizeOf178
 v53:=Tryd.zeroValue178
 t55:=Tryd.underlying180
 a55:=Tryd.isAgg180
 z55:=Tryd.sizeOf180
 v55:=Tryd.zeroValue180
 t66:=Tryd.underlying184
 a66:=Tryd.isAgg184
 z66:=Tryd.sizeOf184
 v66:=Tryd.zeroValue184
 t70:=Tryd.underlying188
 a70:=Tryd.isAgg188
 z70:=Tryd.sizeOf188
 v70:=Tryd.zeroValue188
 t76:=Tryd.underlying190
 a76:=Tryd.isAgg190
 z76:=Tryd.sizeOf190
 v76:=Tryd.zeroValue190
 t77:=Tryd.underlying35
 a77:=Tryd.isAgg35
 z77:=Tryd.sizeOf35
 v77:=Tryd.zeroValue35 }
open Go Go.Proofs.YtkkgicjioajimaaDoor.Clean
def memP (l:List Pt):Hp:=⟨[(0,O.rows 4 true (ptl l))],1,[]⟩
def postP (f:FuncId) (args:List V) (h:Hp) (us:Us):Hp:=h.put (.p 0) (.rows 4 true (us.getD 0 []))
def rtP (f:FuncId) (args:List V) (us:Us) (v:V) (k:V→Prop):Prop:=onTup v fun vs=>onNil vs (k (.tup []))
def kpP:FuncId→Nat→Option (List Tmp):=slotsOf [(27,0,[8,9,24,25,26,6000000]),(27,2,[8,9,11,24,25,26,31,32,6000000])]
def moP (f:FuncId):Nat:=bif Nat.beq f 62 then 3 else 0
noncomputable def cfP:Cfg:={ cfgG Tryd.prog glX moP postP rtP (inN [61,65]) kpP with clean:=fun g => !inN [61] g }
noncomputable def cfQ:Cfg:=cfgG Tryd.prog glX (fun _=>0) postP rtP (inN [64,65,98,117]) kpP
noncomputable def sh27 (g:List Pt) (n o:Int) (k:Nat):St:=⟨mkT [(8,iv n),(9,iv o),(24,V.sl (Id.p 0) 0 g.length),(25,iv (g.length:Int)),(26,iv (k:Int))],⟨[(0,O.rows 4 true (ptl g))],1,[]⟩⟩
noncomputable def sh27i (g:List Pt) (p:Pt) (n o:Int) (k j:Nat):St:=⟨mkT [(8,iv n),(9,iv o),(11,V.ptr (Id.p 0) 0 0),(24,V.sl (Id.p 1) 0 g.length),(25,iv (g.length:Int)),(26,iv (k:Int)),(31,iv p.2.2.1),(32,iv (j:Int))],⟨[(0,O.rows 4 false [ptr4 p]),(1,O.rows 4 true (ptl g))],2,[]⟩⟩
set_option linter.unusedSimpArgs false
set_option maxRecDepth 10000
theorem rtP_ok : ∀ (f:FuncId) (args:List V) (us:Us) (v:V) (k:V→Prop),rtP f args us v k → ∃ v', k v' ∧ ∀ {F:Nat→Prop} {w:World} {ν:Nu} {x:Value},rep F w ν v x→rep F w ν v' x:=by
 intro f args us v k h
 unfold rtP onTup at h
 split at h
 ·rename_i cs
  unfold onNil at h
  split at h
  ·exact ⟨_,h,fun h=>h⟩
  ·exact h.elim
 ·exact h.elim
theorem hcP:cfP.ok Tryd.prog:=by
 have h:(cfgG Tryd.prog glX moP postP rtP (inN [61,65]) kpP).ok Tryd.prog:=cfgG_ok rtP_ok
 exact ⟨h.1,h.2⟩
theorem hcQ:cfQ.ok Tryd.prog:=cfgG_ok rtP_ok
def encP (x:Pt):List Value:=[.int .i64 x.1,.int .i64 x.2.1,.int .i64 x.2.2.1,.int .u8 (x.2.2.2:Int)]
def arW (x:Pt):Int:=IntKind.i64.wrap (x.1 * x.2.1)
def cfC (x y:Pt):Int:=if arW y<arW x then -1 else if arW y > arW x then 1 else 0
theorem cfC_lt {x y:Pt}:cfC x y<0↔arW y<arW x:=by
 unfold cfC
 split
 ·simp [*]
 ·split <;> simp [*]
theorem cmp63 {x y:Pt} {l:List Pt} {R:V→Prop} (h:R (.raw (.int .i64 (cfC x y)))):K Tryd.prog glX 63 [.agg (ptr4 x),.agg (ptr4 y)] (memP l) (fun b => !b.low 1) fun v _=>R v:=by
 refine K_of_WYKc hmX hcQ 3000 Tryd.func63 (see (p:=ifB (IntKind.i64.wrap (y.1 * y.2.1) != IntKind.i64.wrap (y.1 * y.2.1)) (ifB (IntKind.i64.wrap (x.1 * x.2.1) != IntKind.i64.wrap (x.1 * x.2.1)) (R (iv (0:Int))) (R (iv (-1:Int)))) (ifB (IntKind.i64.wrap (x.1 * x.2.1) != IntKind.i64.wrap (x.1 * x.2.1)) (R (iv (1:Int))) (ifB (decide (IntKind.i64.wrap (y.1 * y.2.1)<IntKind.i64.wrap (x.1 * x.2.1))) (R (iv (-1:Int))) (ifB (decide (IntKind.i64.wrap (y.1 * y.2.1) > IntKind.i64.wrap (x.1 * x.2.1))) (R (iv (1:Int))) (R (iv (0:Int))))))) (by kernel_rfl) ?_)
 unfold cfC arW at h
 refine ifB_f (by simp) (ifB_f (by simp) (ifB_mk (fun c=>?_) (fun c=>ifB_mk (fun c' => ?_) (fun c' => ?_))))
 ·rw [if_pos (of_decide_eq_true c)] at h; exact h
 ·rw [if_neg (of_decide_eq_false c),if_pos (of_decide_eq_true c')] at h; exact h
 ·rw [if_neg (of_decide_eq_false c),if_neg (of_decide_eq_false c')] at h; exact h
theorem swoC:Go.Sort.SWO (Go.Proofs.ltOf cfC) where
 irrefl x:=by
  unfold Go.Proofs.ltOf
  exact decide_eq_false (fun h=>by have:=cfC_lt.1 h; omega)
 trans x y z h1 h2:=by
  unfold Go.Proofs.ltOf at *
  have h1:=cfC_lt.1 (of_decide_eq_true h1)
  have h2:=cfC_lt.1 (of_decide_eq_true h2)
  exact decide_eq_true (cfC_lt.2 (by omega))
 ntrans x y z h1 h2:=by
  unfold Go.Proofs.ltOf at *
  have h1 : ¬ arW y<arW x:=fun h=>(of_decide_eq_false h1) (cfC_lt.2 h)
  have h2 : ¬ arW z<arW y:=fun h=>(of_decide_eq_false h2) (cfC_lt.2 h)
  exact decide_eq_false (fun h=>by
   have h3:=cfC_lt.1 h
   omega)
theorem sort62 {es:List (List V)} {l:List Pt} (he:es=ptl l) (hl:l.length<1000000) (h0:l≠[]) {args:List V} {Q:V→Us→Prop} (h : ∀ g:List Pt,g.Perm l→(∀ (i j:Nat) (x y:Pt),i<j→g[i]? = some x→g[j]? = some y→arW y≤arW x)→Q (.tup []) [ptl g]):KM Tryd.prog glX 62 [.sl (.p 0) 0 es.length,.fn (.func 63) [] []] ⟨[(0,O.rows 4 true es)],1,[]⟩ (postP 62 args) Q:=by
 subst he
 rw [ptl_length]
 unfold KM
 have key:=K_sort (P:=Tryd.prog) (G:=glX) (ρ:=LSi_ren) LSi (k:=4) Tryd.isAgg52 Tryd.sizeOf52 (enc:=encP) (fun _=>rfl) (fun x v hv=>by simp [encP] at hv; rcases hv with rfl | rfl | rfl | rfl <;> rfl) (cf:=cfC) swoC (g:=63) (caps:=[]) (h:=memP l) (b:=0) (p:=true) (l:=l) h0 (by omega) rfl
  (enters_of Tryd.func63 (by kernel_rfl) rfl) (fun l' _ x y=>cmp63 (x:=x) (y:=y) (l:=l') rfl) rfl
 intro ν F w xs g1 g2 g3
 refine (key ν F w xs g1 g2 g3).mono fun e w' ⟨x,v,ν', F', h', z1,⟨z2,l', z7,z8,z9⟩,z3,z4,z5,z6⟩=>?_
 refine ⟨x,v,ν', F', h', z1,⟨[ptl l'],z9,by rw [z2]; exact h l' z7 (fun i j a b hij ha hb=>Int.not_lt.1 fun hbef=>z8 i j a b hij ha hb (cfC_lt.2 hbef))⟩,z3,z4,z5,fun b y hb ht=>by cases ht⟩
theorem sN_le : ∀ {g:List Pt},(∀ q∈g,POK q)→0≤sN g∧sN g≤99 * g.length
 | [],_=>by simp [sN,lsm]
 | q::g,h=>by
  have h1:=(h q (List.mem_cons_self ..)).2.2.1
  have h2:=sN_le (g:=g) fun x hx=>h x (List.mem_cons_of_mem _ hx)
  unfold sN at *
  simp only [lsm,List.length_cons]
  omega
theorem arP_le {q:Pt} (h:POK q):1≤arP q∧arP q≤64∧arW q=arP q:=by
 have:=area h
 refine ⟨this.1,this.2,?_⟩
 unfold arW arP
 exact wrapI (by omega) (by omega)
theorem sA_nn : ∀ {g:List Pt},(∀ q∈g,POK q)→0≤sA g∧sA g≤6336 * g.length
 | [],_=>by simp [sA,lsm]
 | q::g,h=>by
  have hq:=h q (List.mem_cons_self ..)
  have h1:=hq.2.2.1
  have ha:=arP_le hq
  have h2:=sA_nn (g:=g) fun x hx=>h x (List.mem_cons_of_mem _ hx)
  have h3:0≤q.2.2.1 * arP q:=Int.mul_nonneg h1.1 (by omega)
  have h4:q.2.2.1 * arP q≤99 * 64:=Int.mul_le_mul h1.2 ha.2.1 (by omega) (by omega)
  unfold sA at *
  simp only [lsm,List.length_cons]
  omega
theorem sN_snoc {g:List Pt} {k:Nat} {p:Pt} (h:g[k]? = some p):sN (g.take (k+1))=sN (g.take k)+p.2.2.1:=by
 rw [take_snoc h]; unfold sN; rw [lsm_app]; simp [lsm]
theorem sA_snoc {g:List Pt} {k:Nat} {p:Pt} (h:g[k]? = some p):sA (g.take (k+1))=sA (g.take k)+p.2.2.1 * arP p:=by
 rw [take_snoc h]; unfold sA; rw [lsm_app]; simp [lsm]
theorem inner27 {w d h:Int} {u:Nat} {c:List Nat} {l g:List Pt} {R:V→Prop} {J:St→Prop} {p:Pt} {F n o:Int} {k:Nat} (hp:POK p) (hk:g[k]? = some p) (hkl:k≤8) (hn:0≤n∧n≤1000) (ho:0<o∧o≤16) (hF:o=F - sA (g.take k)) (hN:n=sN (g.take k))
  (hJ:0<o - p.2.2.1 * arP p→J (sh27 g (n+p.2.2.1) (o - p.2.2.1 * arP p) (k+1))) (hR : ∀ j:Nat,(j:Int)<p.2.2.1→0<F - sA (g.take k) - j * arP p→F - sA (g.take k) - j * arP p - arP p≤0→R (.tup [iv (sN (g.take k)+j+1),iv 0])):La 0 [(8:Tmp),(9:Tmp),(11:Tmp),(24:Tmp),(25:Tmp),(26:Tmp),(31:Tmp),(32:Tmp),(6000000:Tmp)] (WY Tryd.prog cfP 2983 (Env.mk (Bs.mk 0 []) 0 none 45 27 2) (cdAt [1,1,1,1,1,0,1,0,0,1,1,0,0,1,1,0,0] (bodyOf Tryd.f27))) (Qblk 2 (Qblk 1 (Qthen (WY Tryd.prog cfP 2988 (Env.mk (Bs.mk 0 []) 0 none 45 27 0) (cdAt [1,1,1,1,1,0,1,0,0,1,1,1] (bodyOf Tryd.f27)) (Qla 0 [(8:Tmp),(9:Tmp),(24:Tmp),(25:Tmp),(26:Tmp),(6000000:Tmp)] J (Qblk 0 (Qthen (WY Tryd.prog cfP 2994 (Env.mk (Bs.mk 0 []) 0 none 45 27 0) (cdAt [1,1,1,1,1,1] (bodyOf Tryd.f27)) (QendX Tryd.prog Tryd.f27 fun v h=>R (frzW h v))) (QendX Tryd.prog Tryd.f27 fun v h=>R (frzW h v)))))) (Qla 0 [(8:Tmp),(9:Tmp),(24:Tmp),(25:Tmp),(26:Tmp),(6000000:Tmp)] J (Qblk 0 (Qthen (WY Tryd.prog cfP 2994 (Env.mk (Bs.mk 0 []) 0 none 45 27 0) (cdAt [1,1,1,1,1,1] (bodyOf Tryd.f27)) (QendX Tryd.prog Tryd.f27 fun v h=>R (frzW h v))) (QendX Tryd.prog Tryd.f27 fun v h=>R (frzW h v)))))))) (sh27i g p n o k 0):=by
 have ha:=arP_le hp
 have h99:=hp.2.2.1
 have hw:IntKind.i64.wrap (p.1 * p.2.1)=arP p:=ha.2.2
 obtain ⟨n0,hn0⟩ : ∃ n0,n0=n:=⟨_,rfl⟩
 obtain ⟨o0,ho0⟩ : ∃ o0,o0=o:=⟨_,rfl⟩
 rw [← hn0,← ho0] at hJ
 rw [← hn0] at hN hn
 rw [← ho0] at hF ho
 refine La.of (σ:=Int×Int×Nat) (fun s=>sh27i g p s.1 s.2.1 k s.2.2) (fun s=>(s.2.2:Int)≤p.2.2.1∧s.1=n0+s.2.2∧s.2.1=o0 - s.2.2 * arP p∧0<s.2.1) (fun s=>p.2.2.1.toNat - s.2.2) (n,o,0) (by kernel_rfl) ⟨by simp only; omega,by simp only; omega,by simp only; omega,by simp only; omega⟩ ?_
 rintro ⟨n,o,j⟩ ⟨k1,k2,k3,k4⟩ J2 hJ2
 simp only at k1 k2 k3 k4
 have hj:0≤(j:Int) * arP p:=Int.mul_nonneg (by omega) (by omega)
 have hj1:((j+1:Nat):Int) * arP p=j * arP p+arP p:=by rw [Int.natCast_add,Int.add_mul]; simp
 refine see (p:=ifB (decide ((↑j:Int)<p.2.2.1)) (ifB (decide (IntKind.i64.wrap (o - IntKind.i64.wrap (p.1 * p.2.1))≤(0:Int))) (R (V.tup [iv (IntKind.i64.wrap (n+(1:Int))),iv (0:Int)])) (J2 (St.mk (mkT [(8,iv (IntKind.i64.wrap (n+(1:Int)))),(9,iv (IntKind.i64.wrap (o - IntKind.i64.wrap (p.1 * p.2.1)))),(11,V.ptr (Id.p 0) 0 0),(24,V.sl (Id.p 1) 0 g.length),(25,iv (↑g.length:Int)),(26,iv (↑k:Int)),(31,iv p.2.2.1),(32,iv (IntKind.i64.wrap ((↑j:Int)+(1:Int))))]) (Hp.mk [(0,O.rows 4 false [[iv p.1,iv p.2.1,iv p.2.2.1,V.raw (Value.int IntKind.u8 (↑p.2.2.2:Int))]]),(1,O.rows 4 true (ptl g))] 2 [])))) (J (St.mk (mkT [(8,iv n),(9,iv o),(24,V.sl (Id.p 0) 0 g.length),(25,iv (↑g.length:Int)),(26,iv (IntKind.i64.wrap ((↑k:Int)+(1:Int))))]) (Hp.mk [(0,O.rows 4 true (ptl g))] 1 [])))) (by kernel_rfl) ?_
 rw [hw,wrapI (n:=o - arP p) (by omega) (by omega),wrapI (n:=n+1) (by omega) (by omega),wrapI (n:=(j:Int)+1) (by omega) (by omega),wrapI (n:=(k:Int)+1) (by omega) (by omega)]
 refine ifB_mk (fun hb=>?_) (fun hb=>?_)
 ·have hb:=of_decide_eq_true hb
  refine ifB_mk (fun hc=>?_) (fun hc=>?_)
  ·have e:n+1=sN (g.take k)+j+1:=by omega
   rw [e]
   exact hR j hb (by omega) (by have:=of_decide_eq_true hc; omega)
  ·have hc:=of_decide_eq_false hc
   exact hJ2 (n+1,o - arP p,j+1) ⟨by simp only; omega,by simp only; omega,by simp only; omega,by simp only; omega⟩ (by simp only; omega)
 ·have hb:=of_decide_eq_false hb
  have e:(j:Int)=p.2.2.1:=by omega
  rw [e] at k2 k3
  rw [k2,k3]
  exact hJ (by omega)
theorem least27 {w d h:Int} {u:Nat} {c:List Nat} {l:List Pt} {R:V→Prop} (hu:u=1∨c=[]) (h70 : ¬ ShOK w d h c→R (.tup [iv 0,iv 70])) (h71:ShOK w d h c → ¬ PtOK l→R (.tup [iv 0,iv 71]))
  (hok:ShOK w d h c→PtOK l → ∀ (g:List Pt) (k j:Nat) (p:Pt),g.Perm l→(∀ (i i' : Nat) (q q' : Pt),g[i]? = some q→g[i']? = some q' → i<i' → arP q' ≤ arP q)→g[k]? = some p→(j:Int)<p.2.2.1→0<(fullN c:Int) - sA (g.take k) - j * arP p→(fullN c:Int) - sA (g.take k) - j * arP p - arP p≤0→R (.tup [iv (sN (g.take k)+j+1),iv 0]))
  (hno:ShOK w d h c→PtOK l→sA l<(fullN c:Int)→R (.tup [iv 0,iv 6])):K0G Tryd.prog glX 27 [.agg [iv w,iv d,iv h,.lst u (nb c)],.lst 4 (ptl l)] R:=by
 refine K0_of_WY0 hmX hcP 3000 Tryd.func27 (see (p:=K0G Tryd.prog glX 60 [V.agg [iv w,iv d,iv h,V.lst u (nb c)],V.lst 4 (ptl l)] fun v=>onIntK IntKind.i64 v fun n=>ifB (n != (0:Int)) (R (V.tup [iv (0:Int),iv n])) (nilN (ptl l).length fun b=>ifB b (KM Tryd.prog glX 62 [nilS,V.fn (Fn.func 63) [] []] (Hp.mk [] 0 []) (postP 62 [nilS,V.fn (Fn.func 63) [] []]) fun v us=>onTup v fun vs=>onNil vs (K0G Tryd.prog glX 49 [V.agg [iv w,iv d,iv h,V.lst u (nb c)]] fun v=>onIntK IntKind.i64 v fun n=>La 0 [(8:Tmp),(9:Tmp),(24:Tmp),(25:Tmp),(26:Tmp),(6000000:Tmp)] (WY Tryd.prog cfP 2991 (Env.mk (Bs.mk 0 []) 0 none 45 27 0) (cdAt [1,1,1,1,1,0,1,0,0] (bodyOf Tryd.f27))) (Qblk 0 (Qthen (WY Tryd.prog cfP 2994 (Env.mk (Bs.mk 0 []) 0 none 45 27 0) (cdAt [1,1,1,1,1,1] (bodyOf Tryd.f27)) (QendX Tryd.prog Tryd.f27 fun v h=>R (frzW h v))) (QendX Tryd.prog Tryd.f27 fun v h=>R (frzW h v)))) (St.mk (mkT [(8,iv (0:Int)),(9,iv n),(24,nilS),(25,iv (0:Int)),(26,iv (0:Int))]) (Hp.mk [] 0 [])))) (need ((0+(ptl l).length) * 32≤140737488355328) (KM Tryd.prog glX 62 [V.sl (Id.p 0) 0 (0+(ptl l).length),V.fn (Fn.func 63) [] []] (Hp.mk [(0,O.rows 4 true ([]++ptl l))] 1 []) (postP 62 [V.sl (Id.p 2) 0 (0+(ptl l).length),V.fn (Fn.func 63) [] []]) fun v us=>onTup v fun vs=>onNil vs (K0G Tryd.prog glX 49 [V.agg [iv w,iv d,iv h,V.lst u (nb c)]] fun v=>onIntK IntKind.i64 v fun n=>La 0 [(8:Tmp),(9:Tmp),(24:Tmp),(25:Tmp),(26:Tmp),(6000000:Tmp)] (WY Tryd.prog cfP 2991 (Env.mk (Bs.mk 0 []) 0 none 45 27 0) (cdAt [1,1,1,1,1,0,1,0,0] (bodyOf Tryd.f27))) (Qblk 0 (Qthen (WY Tryd.prog cfP 2994 (Env.mk (Bs.mk 0 []) 0 none 45 27 0) (cdAt [1,1,1,1,1,1] (bodyOf Tryd.f27)) (QendX Tryd.prog Tryd.f27 fun v h=>R (frzW h v))) (QendX Tryd.prog Tryd.f27 fun v h=>R (frzW h v)))) (St.mk (mkT [(8,iv (0:Int)),(9,iv n),(24,V.sl (Id.p 0) 0 (0+(ptl l).length)),(25,iv (↑(0+(ptl l).length):Int)),(26,iv (0:Int))]) (Hp.mk [(0,O.rows 4 true (List.getD us 0 []))] 1 []))))))) (by kernel_rfl) ?_)
 refine both49 hu (fun hs hpt=>onIntK_iv (ifB_f rfl ?_)) (fun q=>onIntK_iv (ifB_t rfl (h70 q))) (fun q q' => onIntK_iv (ifB_t rfl (h71 q q')))
 have hok:=hok hs hpt
 have hno:=hno hs hpt
 have h8:=hpt.1
 have hne:l≠[]:=by rintro rfl; simp at h8
 have hfull:=celL_len hs
 have hcl:c.length≤256:=by have:=hs.2.2.2.1; have sz:=sizes hs.1 hs.2.1 hs.2.2.1; omega
 refine nilN_mk (fun e=>absurd e (by rw [ptl_length]; omega)) (ifB_f rfl (need_mk ⟨by rw [ptl_length]; omega,?_⟩))
 rw [Nat.zero_add,List.nil_append]
 refine sort62 rfl (by omega) hne (fun g hg hsd=>onTup_tup (onNil_nil ?_))
 refine full32 hu (by omega) (onIntK_iv ?_)
 have hgl:g.length=l.length:=hg.length_eq
 rw [show (ptl l).length=g.length by rw [ptl_length,hgl]]
 have hgp : ∀ q∈g,POK q:=fun q hq=>by
  obtain ⟨i,hi⟩:=List.getElem?_of_mem (hg.mem_iff.1 hq)
  exact hpt.2.1 i q hi
 have hsd' : ∀ (i i' : Nat) (q q' : Pt),g[i]? = some q→g[i']? = some q' → i<i' → arP q' ≤ arP q:=fun i i' q q' h1 h2 h3=>by
  have:=hsd i i' q q' h3 h1 h2
  rw [(arP_le (hgp q (List.mem_of_getElem? h1))).2.2,(arP_le (hgp q' (List.mem_of_getElem? h2))).2.2] at this
  exact this
 have htk : ∀ k, ∀ q∈g.take k,POK q:=fun k q hq=>hgp q (List.mem_of_mem_take hq)
 refine La.of (σ:=Int×Int×Nat) (fun s=>sh27 g s.1 s.2.1 s.2.2) (fun s=>s.2.2≤g.length∧s.1=sN (g.take s.2.2)∧s.2.1=(fullN c:Int) - sA (g.take s.2.2)∧0<s.2.1) (fun s=>g.length - s.2.2) (0,(fullN c:Int),0) (by kernel_rfl) ⟨Nat.zero_le _,by simp [sN,lsm],by simp [sA,lsm],by simp only; omega⟩ ?_
 rintro ⟨n,o,k⟩ ⟨k1,k2,k3,k4⟩ J hJ
 simp only at k1 k2 k3 k4
 refine see (p:=ifB (decide ((↑k:Int)<(↑g.length:Int))) (need (k<g.length) (onSome (ptl g)[0+k]? fun row=>onCons (List.drop 0 row) fun u r=>onIntK IntKind.i64 u fun n_1=>onCons r fun u r=>onIntK IntKind.i64 u fun n_2=>onCons r fun u r=>onIntK IntKind.i64 u fun n_3=>onCons r fun u r=>onIntK IntKind.u8 u fun n_4=>La 0 [(8:Tmp),(9:Tmp),(11:Tmp),(24:Tmp),(25:Tmp),(26:Tmp),(31:Tmp),(32:Tmp),(6000000:Tmp)] (WY Tryd.prog cfP 2983 (Env.mk (Bs.mk 0 []) 0 none 45 27 2) (cdAt [1,1,1,1,1,0,1,0,0,1,1,0,0,1,1,0,0] (bodyOf Tryd.f27))) (Qblk 2 (Qblk 1 (Qthen (WY Tryd.prog cfP 2988 (Env.mk (Bs.mk 0 []) 0 none 45 27 0) (cdAt [1,1,1,1,1,0,1,0,0,1,1,1] (bodyOf Tryd.f27)) (Qla 0 [(8:Tmp),(9:Tmp),(24:Tmp),(25:Tmp),(26:Tmp),(6000000:Tmp)] J (Qblk 0 (Qthen (WY Tryd.prog cfP 2994 (Env.mk (Bs.mk 0 []) 0 none 45 27 0) (cdAt [1,1,1,1,1,1] (bodyOf Tryd.f27)) (QendX Tryd.prog Tryd.f27 fun v h=>R (frzW h v))) (QendX Tryd.prog Tryd.f27 fun v h=>R (frzW h v)))))) (Qla 0 [(8:Tmp),(9:Tmp),(24:Tmp),(25:Tmp),(26:Tmp),(6000000:Tmp)] J (Qblk 0 (Qthen (WY Tryd.prog cfP 2994 (Env.mk (Bs.mk 0 []) 0 none 45 27 0) (cdAt [1,1,1,1,1,1] (bodyOf Tryd.f27)) (QendX Tryd.prog Tryd.f27 fun v h=>R (frzW h v))) (QendX Tryd.prog Tryd.f27 fun v h=>R (frzW h v)))))))) (St.mk (mkT [(8,iv n),(9,iv o),(11,V.ptr (Id.p 0) 0 0),(24,V.sl (Id.p 1) 0 g.length),(25,iv (↑g.length:Int)),(26,iv (↑k:Int)),(31,iv n_3),(32,iv (0:Int))]) (Hp.mk [(0,O.rows 4 false [[iv n_1,iv n_2,iv n_3,V.raw (Value.int IntKind.u8 n_4)]]),(1,O.rows 4 true (ptl g))] 2 [])))) (R (V.tup [iv (0:Int),iv (6:Int)]))) (by kernel_rfl) ?_
 have n1:=sN_le (htk k)
 have a1:=sA_nn (htk k)
 rw [List.length_take] at n1 a1
 refine ifB_mk (fun hb=>?_) (fun hb=>?_)
 ·have hlt:k<g.length:=by have:=of_decide_eq_true hb; omega
  obtain ⟨p,hp⟩:=getI hlt
  have hpk:=hgp p (List.mem_of_getElem? hp)
  refine need_mk ⟨hlt,onSome_mk (x:=ptr4 p) (by rw [Nat.zero_add]; exact ptl_get hp) (onCons_cons (onIntK_iv (onCons_cons (onIntK_iv (onCons_cons (onIntK_iv (onCons_cons (onIntK_u8 ?_))))))))⟩
  refine inner27 (w:=w) (d:=d) (h:=h) (u:=u) (c:=c) (l:=l) (F:=(fullN c:Int)) hpk hp (by omega) (by omega) (by omega) k3 k2 (fun q=>hJ (_,_,k+1) ⟨hlt,by simp only; rw [sN_snoc hp,k2],by simp only; rw [sA_snoc hp,k3]; omega,q⟩ (by simp only; omega)) (fun j hj hj2 hj3=>hok g k j p hg hsd' hp hj hj2 hj3)
 ·have hk:k=g.length:=by have:=of_decide_eq_false hb; omega
  rw [hk,List.take_length] at k3
  have:sA g=sA l:=lsm_perm hg
  exact hno (by omega)
set_option maxRecDepth 100000
def clX (g:FuncId):Bool := !(inN [58,59,62,84,85,87,93,96,102,107,108,109,110,111,112,113,114,120,122,123,124,125] g)
abbrev KFX (f:Fact):Prop:=K0G Tryd.prog glX f.g f.args fun v=>v=f.r
def gsX:List Nat:=[14,23,25,37]
def tb0:List Fact:=[]
def fa0:Fact:=⟨25,[V.agg [iv 2,iv 1,iv 2,V.lst 1 [[V.raw (.int .u8 3)],[V.raw (.int .u8 3)],[V.raw (.int .u8 3)],[V.raw (.int .u8 3)]]],V.lst 4 [[iv 1,iv 1,iv 9,V.raw (.int .u8 0)],[iv 1,iv 2,iv 9,V.raw (.int .u8 0)]]],V.tup [iv 4,iv 0]⟩
def tb1:List Fact:=fa0::tb0
def fa1:Fact:=⟨23,[V.agg [iv 2,iv 1,iv 2,V.lst 1 [[V.raw (.int .u8 3)],[V.raw (.int .u8 3)],[V.raw (.int .u8 3)],[V.raw (.int .u8 3)]]],V.lst 4 [[iv 1,iv 1,iv 9,V.raw (.int .u8 0)],[iv 1,iv 2,iv 9,V.raw (.int .u8 0)]]],V.tup [V.lst 5 [[iv 1,iv 0,iv 0,iv 0,bv true],[iv 1,iv 0,iv 0,iv 1,bv true]],iv 0]⟩
def tb2:List Fact:=fa1::tb1
def fa2:Fact:=⟨23,[V.agg [iv 2,iv 1,iv 2,V.lst 1 [[V.raw (.int .u8 3)],[V.raw (.int .u8 3)],[V.raw (.int .u8 3)],[V.raw (.int .u8 3)]]],V.lst 4 [[iv 1,iv 1,iv 9,V.raw (.int .u8 0)],[iv 1,iv 2,iv 1,V.raw (.int .u8 0)]]],V.tup [V.lst 5 [[iv 0,iv 0,iv 0,iv 0,bv false],[iv 0,iv 1,iv 0,iv 0,bv false],[iv 1,iv 0,iv 0,iv 1,bv true]],iv 0]⟩
def tb3:List Fact:=fa2::tb2
def fa3:Fact:=⟨14,[V.agg [iv 2,iv 1,iv 2,V.lst 1 [[V.raw (.int .u8 3)],[V.raw (.int .u8 3)],[V.raw (.int .u8 3)],[V.raw (.int .u8 3)]]],V.lst 4 [[iv 1,iv 1,iv 9,V.raw (.int .u8 0)],[iv 1,iv 2,iv 9,V.raw (.int .u8 0)]],V.lst 5 [[iv 0,iv 0,iv 0,iv 0,bv false],[iv 0,iv 1,iv 0,iv 0,bv false],[iv 0,iv 0,iv 0,iv 1,bv false],[iv 0,iv 1,iv 0,iv 1,bv false]]],V.tup [iv 1,iv 0]⟩
def tb4:List Fact:=fa3::tb3
def fa4:Fact:=⟨23,[V.agg [iv 2,iv 1,iv 1,V.lst 1 [[V.raw (.int .u8 1)],[V.raw (.int .u8 2)]]],V.lst 4 [[iv 1,iv 1,iv 9,V.raw (.int .u8 0)],[iv 1,iv 2,iv 9,V.raw (.int .u8 0)]]],V.tup [nilS,iv 6]⟩
def tb5:List Fact:=fa4::tb4
def fa5:Fact:=⟨37,[],bv true⟩
theorem k0 (h:Facts Tryd.prog glX tb0):KFX fa0:=K0_ranQ (cfg:=cfgAll Tryd.prog glX clX (knownI gsX tb0)) hmX (cfgAll_ok (knownI_ok h)) (fun _ _=>rfl) 3000 Tryd.func25 (by kernel_rfl)
theorem k1 (h:Facts Tryd.prog glX tb1):KFX fa1:=K0_ranQ (cfg:=cfgAll Tryd.prog glX clX (knownI gsX tb1)) hmX (cfgAll_ok (knownI_ok h)) (fun _ _=>rfl) 3000 Tryd.func23 (by kernel_rfl)
theorem k2 (h:Facts Tryd.prog glX tb2):KFX fa2:=K0_ranQ (cfg:=cfgAll Tryd.prog glX clX (knownI gsX tb2)) hmX (cfgAll_ok (knownI_ok h)) (fun _ _=>rfl) 3000 Tryd.func23 (by kernel_rfl)
theorem k3 (h:Facts Tryd.prog glX tb3):KFX fa3:=K0_ranQ (cfg:=cfgAll Tryd.prog glX clX (knownI gsX tb3)) hmX (cfgAll_ok (knownI_ok h)) (fun _ _=>rfl) 3000 Tryd.func14 (by kernel_rfl)
theorem k4 (h:Facts Tryd.prog glX tb4):KFX fa4:=K0_ranQ (cfg:=cfgAll Tryd.prog glX clX (knownI gsX tb4)) hmX (cfgAll_ok (knownI_ok h)) (fun _ _=>rfl) 3000 Tryd.func23 (by kernel_rfl)
theorem k5 (h:Facts Tryd.prog glX tb5):KFX fa5:=K0_ranQ (cfg:=cfgAll Tryd.prog glX clX (knownI gsX tb5)) hmX (cfgAll_ok (knownI_ok h)) (fun _ _=>rfl) 3000 Tryd.func37 (by kernel_rfl)
theorem tok0:Facts Tryd.prog glX tb0:=trivial
theorem t0:KFX fa0:=k0 tok0
theorem tok1:Facts Tryd.prog glX tb1:=⟨t0,tok0⟩
theorem t1:KFX fa1:=k1 tok1
theorem tok2:Facts Tryd.prog glX tb2:=⟨t1,tok1⟩
theorem t2:KFX fa2:=k2 tok2
theorem tok3:Facts Tryd.prog glX tb3:=⟨t2,tok2⟩
theorem t3:KFX fa3:=k3 tok3
theorem tok4:Facts Tryd.prog glX tb4:=⟨t3,tok3⟩
theorem t4:KFX fa4:=k4 tok4
theorem tok5:Facts Tryd.prog glX tb5:=⟨t4,tok4⟩
theorem t5:KFX fa5:=k5 tok5
def kpA:FuncId→Nat→Option (List Tmp):=slotsOf [(7,0,[3,7,9,10,56,57,58,6000000])]
noncomputable def cfA7:Cfg:=cfgD Tryd.prog glX (fun _=>0) (fun _=>[]) (inN [11]) kpA
noncomputable def sh7 (w d h:Int) (u:Nat) (c:List Nat) (l:List Pt) (b:Bool) (e a:Int) (k:Nat):St:=⟨mkT [(3,V.ptr (Id.p 0) 0 0),(7,bv b),(9,iv e),(10,iv a),(56,V.lst 4 (ptl l)),(57,iv ((ptl l).length:Int)),(58,iv (k:Int))],⟨[(0,O.rows 4 false [[iv w,iv d,iv h,V.lst u (nb c)]])],1,[]⟩⟩
set_option maxRecDepth 10000
theorem hcA7:cfA7.ok Tryd.prog:=cfgD_ok
theorem loop7 {w d h:Int} {u:Nat} {c:List Nat} {l:List Pt} {sc:Nat} {cs:List Ld} {b:Bool} {e:Int} {R:V→Prop} (hs:ShOK w d h c) (hu:u=1∨c=[]) (hpt:PtOK l) (hb:b=true) (he:(e==(6:Int))=decide (sA l<(fullN c:Int))) (hR:R (bv true)):La 0 [(3:Tmp),(7:Tmp),(9:Tmp),(10:Tmp),(56:Tmp),(57:Tmp),(58:Tmp),(6000000:Tmp)] (WY Tryd.prog cfA7 2989 (Env.mk (Bs.mk 0 []) 0 none 83 7 0) (cdAt [1,1,1,1,1,1,1,0,1,0,0] (bodyOf Tryd.f7))) (Qblk 0 (Qthen (WY Tryd.prog cfA7 2992 (Env.mk (Bs.mk 0 []) 0 none 83 7 0) (cdAt [1,1,1,1,1,1,1,1] (bodyOf Tryd.f7)) (QendX Tryd.prog Tryd.f7 fun v h=>R (frzW h v))) (QendX Tryd.prog Tryd.f7 fun v h=>R (frzW h v)))) (sh7 w d h u c l b e 0 0):=by
 have hcl:c.length≤256:=by have:=hs.2.2.2.1; have sz:=sizes hs.1 hs.2.1 hs.2.2.1; omega
 have h8:=hpt.1
 have htk : ∀ k, ∀ q∈l.take k,POK q:=fun k q hq=>by
  obtain ⟨i,hi⟩:=List.getElem?_of_mem (List.mem_of_mem_take hq)
  exact hpt.2.1 i q hi
 refine La.of (σ:=Int×Nat) (fun s=>sh7 w d h u c l b e s.1 s.2) (fun s=>s.2≤l.length∧s.1=sA (l.take s.2)) (fun s=>l.length - s.2) (0,0) (by kernel_rfl) ⟨Nat.zero_le _,by simp [sA,lsm]⟩ ?_
 rintro ⟨a,k⟩ ⟨k1,k2⟩ J hJ
 simp only at k1 k2
 refine see (p:=ifB (decide ((↑k:Int)<(↑(ptl l).length:Int))) (onSome (ptl l)[k]? fun row=>onCons (List.drop 0 row) fun u_1 r=>onIntK IntKind.i64 u_1 fun n=>onCons r fun u_2 r=>onIntK IntKind.i64 u_2 fun n_1=>onCons r fun u_3 r=>onIntK IntKind.i64 u_3 fun n_2=>onCons r fun u_4 r=>onIntK IntKind.u8 u_4 fun n_3=>J (St.mk (mkT [(3,V.ptr (Id.p 0) 0 0),(7,bv b),(9,iv e),(10,iv (IntKind.i64.wrap (a+IntKind.i64.wrap (IntKind.i64.wrap (n_2 * n) * n_1)))),(56,V.lst 4 (ptl l)),(57,iv (↑(ptl l).length:Int)),(58,iv (IntKind.i64.wrap ((↑k:Int)+(1:Int))))]) (Hp.mk [(0,O.rows 4 false [[iv w,iv d,iv h,V.lst u (nb c)]])] 1 []))) (ifB b (K0G Tryd.prog glX 39 [V.agg [iv w,iv d,iv h,V.lst u (nb c)]] fun v=>onIntK IntKind.i64 v fun n=>R (bv ((e==(6:Int))==decide (a<n)))) (R (bv false)))) (by kernel_rfl) ?_
 have a1:=sA_nn (htk k)
 rw [List.length_take] at a1
 refine ifB_mk (fun hb' => ?_) (fun hb' => ?_)
 ·have hlt:k<l.length:=by have:=of_decide_eq_true hb'; rw [ptl_length] at this; omega
  obtain ⟨p,hp⟩:=getI hlt
  have hpk:=hpt.2.1 k p hp
  have h1:=hpk.1; have h2:=hpk.2.1; have h3:=hpk.2.2.1
  have ha:=arP_le hpk
  have m0:0≤p.2.2.1 * p.1:=Int.mul_nonneg h3.1 (by omega)
  have m1:p.2.2.1 * p.1≤99 * 8:=Int.mul_le_mul h3.2 (by omega) (by omega) (by omega)
  have m2:0≤p.2.2.1 * arP p:=Int.mul_nonneg h3.1 (by omega)
  have m3:p.2.2.1 * arP p≤99 * 64:=Int.mul_le_mul h3.2 ha.2.1 (by omega) (by omega)
  have m4:p.2.2.1 * p.1 * p.2.1=p.2.2.1 * arP p:=by unfold arP; rw [Int.mul_assoc]
  refine onSome_mk (ptl_get hp) (onCons_cons (onIntK_iv (onCons_cons (onIntK_iv (onCons_cons (onIntK_iv (onCons_cons (onIntK_u8 ?_))))))))
  rw [wrapI (n:=p.2.2.1 * p.1) (by omega) (by omega),m4,wrapI (n:=p.2.2.1 * arP p) (by omega) (by omega),wrapI (n:=a+p.2.2.1 * arP p) (by omega) (by omega),wrapI (n:=(k:Int)+1) (by omega) (by omega)]
  exact hJ (a+p.2.2.1 * arP p,k+1) ⟨hlt,by simp only; rw [sA_snoc hp,k2]⟩ (by simp only; omega)
 ·have hk:k=l.length:=by have:=of_decide_eq_false hb'; rw [ptl_length] at this; omega
  rw [hk,List.take_length] at k2
  refine ifB_t hb (refFull25 hu (by omega) (onIntK_iv ?_))
  rw [he,k2,beq_self_eq_true]
  exact hR
theorem law7 {w d h:Int} {u:Nat} {c:List Nat} {l:List Pt} {sc:Nat} {cs:List Ld} {R:V→Prop} (hu:u=1∨c=[]) (hsc:sc=5∨cs=[]) (hR:R (bv true)):K0G Tryd.prog glX 7 [.agg [iv w,iv d,iv h,.lst u (nb c)],.lst 4 (ptl l),.lst sc (ldl cs)] R:=by
 refine K0_of_WY0 hmX hcA7 3000 Tryd.func7 (see (p:=K0G Tryd.prog glX 37 [] fun v=>onBool v fun b=>ifB (decide ((↑(nb c).length:Int) > (600:Int))) (R (bv b)) (ifB (decide ((↑(ptl l).length:Int) > (20:Int))) (R (bv b)) (ifB (decide ((↑(ldl cs).length:Int) > (30:Int))) (R (bv b)) (ifB (!b) (R (bv b)) (K0G Tryd.prog glX 27 [V.agg [iv w,iv d,iv h,V.lst u (nb c)],V.lst 4 (ptl l)] fun v=>onTup v fun vs=>onCons vs fun u_1 r=>onIntK IntKind.i64 u_1 fun n=>onCons r fun u_2 r=>onIntK IntKind.i64 u_2 fun n_1=>onNil r (ifB (n_1 != (0:Int)) (ifB (n_1 != (6:Int)) (ifB b (R (bv (n==(0:Int)))) (R (bv false))) (K0G Tryd.prog glX 20 [V.agg [iv w,iv d,iv h,V.lst u (nb c)],V.lst 4 (ptl l),V.lst sc (ldl cs)] fun v=>onIntK IntKind.i64 v fun n_2=>ifB (n_2==(0:Int)) (ifB b (ifB (n_1==(0:Int)) (R (bv (decide (n≤(↑(ldl cs).length:Int))))) (R (bv false))) (R (bv false))) (La 0 [(3:Tmp),(7:Tmp),(9:Tmp),(10:Tmp),(56:Tmp),(57:Tmp),(58:Tmp),(6000000:Tmp)] (WY Tryd.prog cfA7 2989 (Env.mk (Bs.mk 0 []) 0 none 83 7 0) (cdAt [1,1,1,1,1,1,1,0,1,0,0] (bodyOf Tryd.f7))) (Qblk 0 (Qthen (WY Tryd.prog cfA7 2992 (Env.mk (Bs.mk 0 []) 0 none 83 7 0) (cdAt [1,1,1,1,1,1,1,1] (bodyOf Tryd.f7)) (QendX Tryd.prog Tryd.f7 fun v h=>R (frzW h v))) (QendX Tryd.prog Tryd.f7 fun v h=>R (frzW h v)))) (St.mk (mkT [(3,V.ptr (Id.p 0) 0 0),(7,bv b),(9,iv n_1),(10,iv (0:Int)),(56,V.lst 4 (ptl l)),(57,iv (↑(ptl l).length:Int)),(58,iv (0:Int))]) (Hp.mk [(0,O.rows 4 false [[iv w,iv d,iv h,V.lst u (nb c)]])] 1 []))))) (K0G Tryd.prog glX 20 [V.agg [iv w,iv d,iv h,V.lst u (nb c)],V.lst 4 (ptl l),V.lst sc (ldl cs)] fun v=>onIntK IntKind.i64 v fun n_2=>ifB (n_2==(0:Int)) (ifB b (ifB (n_1==(0:Int)) (R (bv (decide (n≤(↑(ldl cs).length:Int))))) (R (bv false))) (R (bv false))) (La 0 [(3:Tmp),(7:Tmp),(9:Tmp),(10:Tmp),(56:Tmp),(57:Tmp),(58:Tmp),(6000000:Tmp)] (WY Tryd.prog cfA7 2989 (Env.mk (Bs.mk 0 []) 0 none 83 7 0) (cdAt [1,1,1,1,1,1,1,0,1,0,0] (bodyOf Tryd.f7))) (Qblk 0 (Qthen (WY Tryd.prog cfA7 2992 (Env.mk (Bs.mk 0 []) 0 none 83 7 0) (cdAt [1,1,1,1,1,1,1,1] (bodyOf Tryd.f7)) (QendX Tryd.prog Tryd.f7 fun v h=>R (frzW h v))) (QendX Tryd.prog Tryd.f7 fun v h=>R (frzW h v)))) (St.mk (mkT [(3,V.ptr (Id.p 0) 0 0),(7,bv b),(9,iv n_1),(10,iv (0:Int)),(56,V.lst 4 (ptl l)),(57,iv (↑(ptl l).length:Int)),(58,iv (0:Int))]) (Hp.mk [(0,O.rows 4 false [[iv w,iv d,iv h,V.lst u (nb c)]])] 1 [])))))))))) (by kernel_rfl) ?_)
 refine K0G.mono (show K0G Tryd.prog glX 37 [] fun v=>v=bv true from t5) (fun v hv=>?_)
 subst hv
 refine onBool_bv (ifB_mk (fun _=>hR) (fun a1=>ifB_mk (fun _=>hR) (fun a2=>ifB_mk (fun _=>hR) (fun a3=>ifB_f rfl ?_))))
 have a3:=of_decide_eq_false a3
 rw [ldl_length] at a3
 have T : ∀ {n e:Int} {K:Int→Int→Prop},K n e→onTup (V.tup [iv n,iv e]) fun vs=>onCons vs fun u_1 r=>onIntK IntKind.i64 u_1 fun n=>onCons r fun u_2 r=>onIntK IntKind.i64 u_2 fun n_1=>onNil r (K n n_1):=fun hk=>hk
 have har : ∀ {ps:List Pc},ShOK w d h c→PtOK l→laid w d c l cs=some ps→(fullN c:Int)≤lsm (arL l) cs:=fun hs hpt hps=>by
  have h1:=area_ge hs hpt hps
  have h2:=(celL_len hs).1
  unfold bdL at h1
  omega
 refine least27 hu (fun q=>T ?_) (fun hs q=>T ?_) (fun hs hpt g k j p hg hsd hp hj ho ho2=>T ?_) (fun hs hpt hlt=>T ?_)
 ·exact ifB_t rfl (ifB_t rfl (ifB_t rfl hR))
 ·exact ifB_t rfl (ifB_t rfl (ifB_t rfl hR))
 ·refine ifB_f rfl (check20 hu hsc (by omega) (fun q=>absurd hs q) (fun _ q=>absurd hpt q) (fun _ _ q=>onIntK_iv (ifB_f rfl ?_)) (fun _ _ ps hps=>onIntK_iv (ifB_t rfl (ifB_t rfl (ifB_t rfl ?_)))))
  ·refine loop7 (sc:=sc) (cs:=cs) hs hu hpt rfl ?_ hR
   have hgp : ∀ q∈g,POK q:=fun q hq=>by
    obtain ⟨i,hi⟩:=List.getElem?_of_mem (hg.mem_iff.1 hq)
    exact hpt.2.1 i q hi
   have e1:sA g=sA l:=lsm_perm hg
   have e2:sA g=sA (g.take (k+1))+sA (g.drop (k+1)):=by
    have:=lsm_app (fun q:Pt=>q.2.2.1 * arP q) (g.take (k+1)) (g.drop (k+1))
    rw [List.take_append_drop] at this
    exact this
   have e3:=sA_nn (g:=g.drop (k+1)) fun q hq=>hgp q (List.mem_of_mem_drop hq)
   have e4:=sA_snoc hp
   have ha:=arP_le (hgp p (List.mem_of_getElem? hp))
   have e5:((j:Int)+1) * arP p≤p.2.2.1 * arP p:=Int.mul_le_mul_of_nonneg_right (by omega) (by omega)
   rw [Int.add_mul,Int.one_mul] at e5
   rw [show decide (sA l<(fullN c:Int))=false from decide_eq_false (by omega)]
   rfl
  ·have h1:=least_le (a:=0) hpt (comp_of hs hpt hps) (har hs hpt hps) hg hsd hp ho
   rw [show decide (sN (g.take k)+(j:Int)+1≤((ldl cs).length:Int))=true from decide_eq_true (by rw [ldl_length]; omega)]
   exact hR
 ·refine ifB_t rfl (ifB_f rfl (check20 hu hsc (by omega) (fun q=>absurd hs q) (fun _ q=>absurd hpt q) (fun _ _ q=>onIntK_iv (ifB_f rfl ?_)) (fun _ _ ps hps=>?_)))
  ·refine loop7 (sc:=sc) (cs:=cs) hs hu hpt rfl ?_ hR
   rw [show decide (sA l<(fullN c:Int))=true from decide_eq_true hlt]
   rfl
  ·have:=least_none hpt (comp_of hs hpt hps) (har hs hpt hps)
   omega
theorem nb_raw {l:List Int} (h : ∀ x∈l,0≤x):nb (l.map Int.toNat)=l.map fun x=>[V.raw (.int .u8 x)]:=by
 unfold nb
 rw [List.map_map]
 refine List.map_congr_left fun x hx=>?_
 have:=h x hx
 show [u8v ((x.toNat:Nat):Int)]=_
 rw [Int.toNat_of_nonneg this]
 rfl
theorem ptl_raw {l:List (Int×Int×Int×Int)} (h : ∀ x∈l,0≤x.2.2.2):ptl (l.map fun x=>(x.1,x.2.1,x.2.2.1,x.2.2.2.toNat))=l.map fun x=>[V.raw (.int .i64 x.1),V.raw (.int .i64 x.2.1),V.raw (.int .i64 x.2.2.1),V.raw (.int .u8 x.2.2.2)]:=by
 unfold ptl
 rw [List.map_map]
 refine List.map_congr_left fun x hx=>?_
 have:=h x hx
 show [iv x.1,iv x.2.1,iv x.2.2.1,u8v ((x.2.2.2.toNat:Nat):Int)]=_
 rw [Int.toNat_of_nonneg this]
 rfl
theorem law7' {x0:Int×Int×Int×List Int} {x1:List (Int×Int×Int×Int)} {x2:List (Int×(Int×Int×Int)×Bool)} (h0 : ∀ x∈x0.2.2.2,0≤x) (h1 : ∀ x∈x1,0≤x.2.2.2) {R:V→Prop} (hR:R (bv true)):K0G Tryd.prog glX 7 [.agg [.raw (.int .i64 x0.1),.raw (.int .i64 x0.2.1),.raw (.int .i64 x0.2.2.1),.lst 1 (x0.2.2.2.map fun x=>[V.raw (.int .u8 x)])],.lst 4 (x1.map fun x=>[V.raw (.int .i64 x.1),V.raw (.int .i64 x.2.1),V.raw (.int .i64 x.2.2.1),V.raw (.int .u8 x.2.2.2)]),.lst 5 (ldl x2)] R:=by
 rw [← nb_raw h0,← ptl_raw h1]
 exact law7 (.inl rfl) (.inl rfl) hR
end Go.Proofs.YtkkgicjioajimaaDoor
