/- A part of the proof. -/
import Derived.Test.YtkkgicjioajimaaDoorProg
import Derived.Test.YtkkgicjioajimaaDoorXA3G9
import Derived.Test.YtkkgicjioajimaaDoorXA3G10
import Derived.Test.YtkkgicjioajimaaDoorXA3G13
import Derived.Test.YtkkgicjioajimaaDoorXA3G14
import Derived.Test.YtkkgicjioajimaaDoorXA3G15
namespace Go.Proofs.YtkkgicjioajimaaDoor
open Go Go.Proofs.YtkkgicjioajimaaDoor.Clean
set_option linter.unusedVariables false
set_option linter.unusedSimpArgs false
set_option maxRecDepth 10000
theorem uniq_mul {A B a b w:Int} (ha:0≤a∧a<w) (hb:0≤b∧b<w) (h:A * w+a=B * w+b):A=B∧a=b:=by
 rcases Int.lt_trichotomy A B with q | q | q
 ·have:=Int.mul_le_mul_of_nonneg_right (show 1≤B - A by omega) (show 0≤w by omega)
  rw [Int.sub_mul,Int.one_mul] at this
  omega
 ·subst q; exact ⟨rfl,by omega⟩
 ·have:=Int.mul_le_mul_of_nonneg_right (show 1≤A - B by omega) (show 0≤w by omega)
  rw [Int.sub_mul,Int.one_mul] at this
  omega
def insideP (w d h:Int) (t:C3):Prop:=(0≤t.1∧t.1<w)∧(0≤t.2.1∧t.2.1<d)∧0≤t.2.2∧t.2.2<h
theorem cel_ix {w d h:Int} {t:C3} (ht:insideP w d h t) {i:Nat} (hi:(i:Int)=ixI w d t):cel w d i=t:=by
 obtain ⟨a1,a2,a3⟩:=ht
 obtain ⟨b1,b2,b3,_,b5⟩:=cel_pos (show 1≤w by omega) (show 1≤d by omega) i
 unfold ixI at hi
 rw [hi] at b5
 obtain ⟨e1,e2⟩:=uniq_mul b1 a1 b5
 obtain ⟨e3,e4⟩:=uniq_mul b2 a2 e1
 generalize cel w d i=e at *
 obtain ⟨x,y,z⟩:=e
 obtain ⟨x', y', z'⟩:=t
 simp only at *
 rw [e2,e3,e4]
theorem pos_at {w d h:Int} {c:List Nat} (hs:ShOK w d h c) {t:C3} {m:Nat} (hm:pos (bdL w d c) t=some m):atN w d h c t.1 t.2.1 t.2.2=colN c m∧colN c m≠0∧insideP w d h t∧m<(bdL w d c).length:=by
 have hL:=pos_some hm
 have hlt:=(List.getElem?_eq_some_iff.1 hL).1
 obtain ⟨i,g1,g2,g3,g4,gx,gy,gz⟩:=col_at hs hL
 have hw1:=hs.1; have hd1:=hs.2.1; have hh1:=hs.2.2.1
 have sz:=sizes hw1 hd1 hh1
 have hhd:h * d≤4 * 8:=Int.mul_le_mul hh1.2 hd1.2 (by omega) (by omega)
 have ix:=ix_le gx gy gz
 refine ⟨?_,g3,⟨gx,gy,gz⟩,hlt⟩
 unfold atN
 rw [if_pos ⟨gx,gy,gz⟩]
 generalize hA:t.2.2 * d=A at *
 rw [wrapI (n:=A) (by omega) (by omega),wrapI (n:=A+_) (by omega) (by omega)] at g4
 generalize hB:(A+t.2.1) * w=B at *
 rw [wrapI (n:=B) (by omega) (by omega),wrapI (by omega) (by omega)] at g4
 rw [g4,Int.toNat_natCast,List.getD_eq_getElem?_getD,g2]
 rfl
theorem at_pos {w d h:Int} {c:List Nat} (hs:ShOK w d h c) {t:C3} (ht:atN w d h c t.1 t.2.1 t.2.2≠0) : ∃ m,pos (bdL w d c) t=some m:=by
 unfold atN at ht
 split at ht
 ·rename_i hin
  have ix:=ix_le hin.1 hin.2.1 hin.2.2
  have hin' : insideP w d h t:=hin
  have hi:(((t.2.2 * d+t.2.1) * w+t.1).toNat:Int)=ixI w d t:=by unfold ixI; omega
  have hc:=cel_ix hin' hi
  generalize ((t.2.2 * d+t.2.1) * w+t.1).toNat=i at *
  have hlen:i<c.length:=by
   refine Decidable.byContradiction fun q=>ht ?_
   rw [List.getD_eq_getElem?_getD,List.getElem?_eq_none (by omega)]
   rfl
  have hmem:t∈bdL w d c:=by
   unfold bdL celL
   rw [List.mem_map]
   exact ⟨i,mem_fi.2 ⟨hlen,ht⟩,hc⟩
  cases hp:pos (bdL w d c) t with
  | some m=>exact ⟨m,rfl⟩
  | none=>exact absurd hmem (pos_none hp)
 ·exact absurd rfl ht
def cellQ (x y z a:Int) (q:Nat):C3:=(x+(q:Int).tmod a,y+(q:Int).tdiv a,z)
theorem fitF_some {L:List C3} {C:Nat→Nat} {col:Nat} {x y z a:Int} : ∀ {n s:Nat},fitF L C col x y z a n=some s→(∀ q,q<n → ∃ m,pos L (cellQ x y z a q)=some m∧C m=col) ∧ ∀ m,s.testBit m=true ↔ ∃ q,q<n∧pos L (cellQ x y z a q)=some m
 | 0,s,h=>by
  simp only [fitF] at h
  cases h
  exact ⟨fun q hq=>by omega,fun m=>by simp⟩
 | n+1,s,h=>by
  simp only [fitF,Option.bind_eq_some_iff] at h
  obtain ⟨s1,h1,m1,h2,h3⟩:=h
  split at h3
  ·rename_i hc
   cases h3
   obtain ⟨g1,g2⟩:=fitF_some h1
   refine ⟨fun q hq=>?_,fun m=>?_⟩
   ·by_cases e:q=n
    ·subst e; exact ⟨m1,h2,hc⟩
    ·exact g1 q (by omega)
   ·rw [Nat.testBit_or,Bool.or_eq_true,g2 m,Nat.one_shiftLeft,Nat.testBit_two_pow]
    constructor
    ·rintro (⟨q,q1,q2⟩ | e)
     ·exact ⟨q,by omega,q2⟩
     ·exact ⟨n,by omega,by rw [show cellQ x y z a n=(x+(n:Int).tmod a,y+(n:Int).tdiv a,z) from rfl,h2]; simpa using e⟩
    ·rintro ⟨q,q1,q2⟩
     by_cases e:q=n
     ·subst e
      rw [show cellQ x y z a q=(x+(q:Int).tmod a,y+(q:Int).tdiv a,z) from rfl,h2] at q2
      cases q2
      exact .inr (by simp)
     ·exact .inl ⟨q,by omega,q2⟩
  ·cases h3
theorem fitF_of {L:List C3} {C:Nat→Nat} {col:Nat} {x y z a:Int} : ∀ {n:Nat},(∀ q,q<n → ∃ m,pos L (cellQ x y z a q)=some m∧C m=col) → ∃ s,fitF L C col x y z a n=some s
 | 0,h=>⟨0,rfl⟩
 | n+1,h=>by
  obtain ⟨s,hs⟩:=fitF_of (n:=n) (fun q hq=>h q (by omega))
  obtain ⟨m,h1,h2⟩:=h n (by omega)
  refine ⟨s ||| 1 <<< m,?_⟩
  simp only [fitF,hs,Option.bind_some]
  rw [show (x+(n:Int).tmod a,y+(n:Int).tdiv a,z)=cellQ x y z a n from rfl,h1]
  simp [h2]
theorem swd_mul (p:Pt) (b:Bool):swd p b * sdp p b=p.1 * p.2.1:=by
 unfold swd sdp
 cases b
 ·rfl
 ·exact Int.mul_comm _ _
theorem cell_of {x y z a b:Int} {n:Nat} (ha:1≤a) (hn:(n:Int)=a * b) {q:Nat} (hq:q<n):(x≤(cellQ x y z a q).1∧(cellQ x y z a q).1<x+a)∧(y≤(cellQ x y z a q).2.1∧(cellQ x y z a q).2.1<y+b)∧(cellQ x y z a q).2.2=z:=by
 unfold cellQ
 simp only
 rw [Int.tmod_eq_emod_of_nonneg (by omega),Int.tdiv_eq_ediv_of_nonneg (by omega)]
 have h1:=Int.emod_nonneg (q:Int) (show a≠0 by omega)
 have h2:=Int.emod_lt_of_pos (q:Int) (show 0<a by omega)
 have h3:0≤(q:Int) / a:=Int.ediv_nonneg (by omega) (by omega)
 have h4:(q:Int) / a<b:=Int.ediv_lt_of_lt_mul (by omega) (by rw [Int.mul_comm]; omega)
 exact ⟨by omega,by omega,trivial⟩
theorem of_cell {x y z a b u v:Int} {n:Nat} (hn:(n:Int)=a * b) (hu:x≤u∧u<x+a) (hv:y≤v∧v<y+b) : ∃ q,q<n∧cellQ x y z a q=(u,v,z):=by
 have h1:(v - y) * a≤(b - 1) * a:=Int.mul_le_mul_of_nonneg_right (by omega) (by omega)
 have h0:0≤(v - y) * a:=Int.mul_nonneg (by omega) (by omega)
 have h2:(b - 1) * a=a * b - a:=by rw [Int.sub_mul,Int.one_mul,Int.mul_comm]
 refine ⟨((v - y) * a+(u - x)).toNat,by omega,?_⟩
 have hq:((((v - y) * a+(u - x)).toNat:Nat):Int)=(v - y) * a+(u - x):=by omega
 unfold cellQ
 rw [hq,Int.tmod_eq_emod_of_nonneg (by omega),Int.tdiv_eq_ediv_of_nonneg (by omega)]
 have hd:(v - y) * a+(u - x)=((v - y) * a+(u - x)) / a * a+((v - y) * a+(u - x)) % a:=by
  have:=Int.mul_ediv_add_emod ((v - y) * a+(u - x)) a
  rw [Int.mul_comm] at this
  exact this.symm
 obtain ⟨e1,e2⟩:=uniq_mul (A:=v - y) (B:=((v - y) * a+(u - x)) / a) (w:=a) (a:=u - x) (b:=((v - y) * a+(u - x)) % a) (by omega) ⟨Int.emod_nonneg _ (by omega),Int.emod_lt_of_pos _ (by omega)⟩ hd
 rw [← e1,← e2]
 congr 1
 ·omega
 ·congr 1; omega
theorem fitS_lies {w d h:Int} {c:List Nat} {l:List Pt} {x:Ld} {p:Pt} {m0:Nat} (hs:ShOK w d h c) (hpt:PtOK l) (hx:0≤x.1) (hp:l[x.1.toNat]? = some p) (hm:pos (bdL w d c) x.2.1=some m0):(∃ s,fitS (bdL w d c) (colN c) p m0 x.2.1 x.2.2=some s)↔liesP w d h c l x:=by
 obtain ⟨c1,c2,c3,c4⟩:=pos_at hs hm
 have hpo:=hpt.2.1 _ p hp
 have hsz:=swd_le hpo x.2.2
 have hxl:=(List.getElem?_eq_some_iff.1 hp).1
 have hnn:((p.1 * p.2.1).toNat:Int)=swd p x.2.2 * sdp p x.2.2:=by
  rw [swd_mul]
  have:0≤p.1 * p.2.1:=Int.mul_nonneg (by have:=hpo.1; omega) (by have:=hpo.2.1; omega)
  omega
 have ea:(if x.2.2=true then p.2.1 else p.1)=swd p x.2.2:=rfl
 constructor
 ·rintro ⟨s,h1⟩
  unfold fitS at h1
  split at h1
  ·cases h1
  rename_i k1
  split at h1
  ·cases h1
  rename_i k2
  rw [ea] at h1
  obtain ⟨f1,f2⟩:=fitF_some h1
  refine ⟨⟨by omega,c3⟩,p,hp,k1,fun y y1 y2 z z1 z2=>?_,by rw [c1]; exact c2,?_⟩
  ·obtain ⟨q,q1,q2⟩:=of_cell (z:=x.2.1.2.2) hnn ⟨z1,z2⟩ ⟨y1,y2⟩
   obtain ⟨m,g1,g2⟩:=f1 q q1
   rw [q2] at g1
   have:=(pos_at hs g1).1
   simp only at this
   rw [this,c1,g2]
  ·rw [c1]
   refine Decidable.byContradiction fun q=>k2 ⟨fun e=>q (.inl e),fun e=>q (.inr e)⟩
 ·rintro ⟨_,p', hp', k1,k2,k3,k4⟩
  rw [hp] at hp'
  cases hp'
  unfold fitS
  rw [if_neg k1,if_neg (by rw [c1] at k4; rintro ⟨q1,q2⟩; exact k4.elim q1 q2),ea]
  refine fitF_of fun q hq=>?_
  obtain ⟨z1,y1,e1⟩:=cell_of (x:=x.2.1.1) (y:=x.2.1.2.1) (z:=x.2.1.2.2) hsz.1.1 hnn hq
  have hat:=k2 _ y1.1 y1.2 _ z1.1 z1.2
  rw [c1] at hat
  have hne:atN w d h c (cellQ x.2.1.1 x.2.1.2.1 x.2.1.2.2 (swd p x.2.2) q).1 (cellQ x.2.1.1 x.2.1.2.1 x.2.1.2.2 (swd p x.2.2) q).2.1 (cellQ x.2.1.1 x.2.1.2.1 x.2.1.2.2 (swd p x.2.2) q).2.2=colN c m0:=by rw [e1]; exact hat
  obtain ⟨m,hm'⟩:=at_pos hs (by rw [hne]; exact c2)
  exact ⟨m,hm', by rw [← (pos_at hs hm').1,hne]⟩
theorem onePc_mem {L:List C3} {C:Nat→Nat} {l:List Pt} {k:Nat} {t:C3} {i:Nat} {b:Bool} {y:Pc}:y∈onePc L C l k t i b ↔ ∃ p s,l[i]? = some p∧fitS L C p k t b=some s∧y=(i,t,b,s,tchN L s):=by
 unfold onePc
 constructor
 ·intro h
  split at h
  ·rename_i p hp
   split at h
   ·rename_i s hs
    exact ⟨p,s,hp,hs,by simpa using h⟩
   ·simp at h
  ·simp at h
 ·rintro ⟨p,s,h1,h2,rfl⟩
  rw [h1]
  simp [h2]
theorem allPc_mem {L:List C3} {C:Nat→Nat} {l:List Pt} {y:Pc}:y∈allPc L C l L.length ↔ ∃ k p s,L[k]? = some y.2.1∧l[y.1]? = some p∧fitS L C p k y.2.1 y.2.2.1=some s∧y.2.2.2=(s,tchN L s):=by
 unfold allPc
 rw [List.mem_flatMap]
 constructor
 ·rintro ⟨k,hk,h⟩
  unfold cellPc at h
  split at h
  ·rename_i t ht
   unfold upPc at h
   rw [List.mem_flatMap] at h
   obtain ⟨i,hi,h⟩:=h
   unfold plPc at h
   rcases List.mem_append.1 h with h | h <;>
   ·obtain ⟨p,s,h1,h2,rfl⟩:=onePc_mem.1 h
    exact ⟨k,p,s,ht,h1,h2,rfl⟩
  ·simp at h
 ·rintro ⟨k,p,s,h1,h2,h3,h4⟩
  refine ⟨k,List.mem_range.2 (List.getElem?_eq_some_iff.1 h1).1,?_⟩
  unfold cellPc
  rw [h1]
  simp only
  unfold upPc
  rw [List.mem_flatMap]
  refine ⟨y.1,List.mem_range.2 (List.getElem?_eq_some_iff.1 h2).1,?_⟩
  unfold plPc
  rw [List.mem_append]
  obtain ⟨i,t,b,e⟩:=y
  simp only at *
  subst h4
  cases b with
  | false=>exact .inl (onePc_mem.2 ⟨p,s,h2,h3,rfl⟩)
  | true=>exact .inr (onePc_mem.2 ⟨p,s,h2,h3,rfl⟩)
theorem bd_nodup {w d h:Int} {c:List Nat} (hs:ShOK w d h c):(bdL w d c).Nodup:=celL_nodup hs.1.1 hs.2.1.1 c _
theorem pos_inj {L:List C3} {t t' : C3} {m:Nat} (h:pos L t=some m) (h' : pos L t' = some m):t=t' := by
 have:=pos_some h
 rw [pos_some h'] at this
 exact (Option.some.inj this).symm
theorem piece_of {w d h:Int} {c:List Nat} {l:List Pt} {y:Pc} (hs:ShOK w d h c) (hpt:PtOK l) (hy:y∈allPc (bdL w d c) (colN c) l (bdL w d c).length) : ∃ k p,pos (bdL w d c) y.2.1=some k∧l[y.1]? = some p∧POK p∧fitS (bdL w d c) (colN c) p k y.2.1 y.2.2.1=some y.2.2.2.1 ∧
  ∀ m,y.2.2.2.1.testBit m=true ↔ ∃ q,q<(p.1 * p.2.1).toNat∧pos (bdL w d c) (cellQ y.2.1.1 y.2.1.2.1 y.2.1.2.2 (swd p y.2.2.1) q)=some m:=by
 obtain ⟨k,p,s,h1,h2,h3,h4⟩:=allPc_mem.1 hy
 have hk:=pos_of (bd_nodup hs) h1
 have e:y.2.2.2.1=s:=by rw [h4]
 refine ⟨k,p,hk,h2,hpt.2.1 _ p h2,by rw [e]; exact h3,?_⟩
 rw [e]
 unfold fitS at h3
 split at h3
 ·cases h3
 split at h3
 ·cases h3
 exact (fitF_some h3).2
theorem area_nn {p:Pt} (hp:POK p) (b:Bool):((p.1 * p.2.1).toNat:Int)=swd p b * sdp p b:=by
 rw [swd_mul]
 have:0≤p.1 * p.2.1:=Int.mul_nonneg (by have:=hp.1; omega) (by have:=hp.2.1; omega)
 omega
theorem mask_has {w d h:Int} {c:List Nat} {l:List Pt} {y:Pc} {t:C3} {m:Nat} (hs:ShOK w d h c) (hpt:PtOK l) (hy:y∈allPc (bdL w d c) (colN c) l (bdL w d c).length) (hm:pos (bdL w d c) t=some m):y.2.2.2.1.testBit m=hasL l (ldP y) t.1 t.2.1 t.2.2:=by
 obtain ⟨k,p,h1,h2,h3,h4,h5⟩:=piece_of hs hpt hy
 have hsz:=swd_le h3 y.2.2.1
 have hn:=area_nn h3 y.2.2.1
 have e:hasL l (ldP y) t.1 t.2.1 t.2.2=hasB p (ldP y) t.1 t.2.1 t.2.2:=by unfold hasL ldP; rw [Int.toNat_natCast,h2]
 rw [e,Bool.eq_iff_iff,h5 m]
 unfold hasB ldP
 simp only [Bool.and_eq_true,beq_iff_eq,decide_eq_true_eq]
 constructor
 ·rintro ⟨q,q1,q2⟩
  have ht:=pos_inj hm q2
  obtain ⟨z1,y1,e1⟩:=cell_of (x:=y.2.1.1) (y:=y.2.1.2.1) (z:=y.2.1.2.2) hsz.1.1 hn q1
  rw [← ht] at z1 y1 e1
  exact ⟨e1,by omega,by omega,by omega,by omega⟩
 ·rintro ⟨e1,e2,e3,e4,e5⟩
  obtain ⟨q,q1,q2⟩:=of_cell (x:=y.2.1.1) (y:=y.2.1.2.1) (z:=y.2.1.2.2) (u:=t.1) (v:=t.2.1) hn (by omega) (by omega)
  refine ⟨q,q1,?_⟩
  rw [q2,← e1]
  exact hm
theorem ix_fi {w d h:Int} {c:List Nat} (hs:ShOK w d h c) {t:C3} {m:Nat} (hm:pos (bdL w d c) t=some m) : ∃ i,(fi c c.length)[m]? = some i∧(i:Int)=ixI w d t:=by
 obtain ⟨i,h1,h2⟩:=celL_at (pos_some hm)
 have:=(cel_pos hs.1.1 hs.2.1.1 i).2.2.2.2
 rw [h2] at this
 exact ⟨i,h1,this.symm⟩
theorem fi_sorted (c:List Nat) (k:Nat):(fi c k).Pairwise (· < ·):=List.pairwise_lt_range.filter _
theorem pos_mono {w d h:Int} {c:List Nat} (hs:ShOK w d h c) {t t' : C3} {m m' : Nat} (hm:pos (bdL w d c) t=some m) (hm' : pos (bdL w d c) t' = some m'):m<m' ↔ ixI w d t<ixI w d t' := by
 obtain ⟨i,h1,h2⟩:=ix_fi hs hm
 obtain ⟨i', h1', h2'⟩:=ix_fi hs hm'
 obtain ⟨a1,a2⟩:=List.getElem?_eq_some_iff.1 h1
 obtain ⟨b1,b2⟩:=List.getElem?_eq_some_iff.1 h1'
 have key : ∀ a b (ha:a<(fi c c.length).length) (hb:b<(fi c c.length).length),a<b→(fi c c.length)[a]<(fi c c.length)[b]:=fun a b ha hb hab=>List.pairwise_iff_getElem.1 (fi_sorted c c.length) a b ha hb hab
 constructor
 ·intro q
  have:=key m m' a1 b1 q
  omega
 ·intro q
  rcases Nat.lt_trichotomy m m' with r | r | r
  ·exact r
  ·subst r; rw [h1] at h1'; cases h1'; omega
  ·have:=key m' m b1 a1 r
   omega
theorem low_mask {w d h:Int} {c:List Nat} {l:List Pt} {y:Pc} {k:Nat} (hs:ShOK w d h c) (hpt:PtOK l) (hy:y∈allPc (bdL w d c) (colN c) l (bdL w d c).length) (hk:pos (bdL w d c) y.2.1=some k):lowB y.2.2.2.1=k∧y.2.2.2.1.testBit k=true∧y.2.2.2.1≠0:=by
 obtain ⟨k', p,h1,h2,h3,h4,h5⟩:=piece_of hs hpt hy
 rw [hk] at h1
 cases h1
 have hsz:=swd_le h3 y.2.2.1
 have hn:=area_nn h3 y.2.2.1
 have hlen:=celL_len hs
 have hlt:=(all_lt (by unfold bdL; omega) hy).2
 have hb:y.2.2.2.1.testBit k=true:=by
  obtain ⟨q,q1,q2⟩:=of_cell (x:=y.2.1.1) (y:=y.2.1.2.1) (z:=y.2.1.2.2) (u:=y.2.1.1) (v:=y.2.1.2.1) hn (by omega) (by omega)
  exact (h5 k).2 ⟨q,q1,by rw [q2]; exact hk⟩
 have h0:y.2.2.2.1≠0:=fun e=>by rw [e] at hb; simp at hb
 refine ⟨?_,hb,h0⟩
 obtain ⟨l1,l2⟩:=lowB_lt h0 hlt
 have hle:lowB y.2.2.2.1≤k:=by
  refine Nat.le_of_not_lt fun q=>?_
  have:=lowB_min q
  rw [hb] at this
  cases this
 have hge : ¬ lowB y.2.2.2.1<k:=fun q=>by
  obtain ⟨r,r1,r2⟩:=(h5 _).1 l2
  have hlt:=(pos_mono hs r2 hk).1 q
  obtain ⟨z1,y1,e1⟩:=cell_of (x:=y.2.1.1) (y:=y.2.1.2.1) (z:=y.2.1.2.2) hsz.1.1 hn r1
  have hin:=(pos_at hs r2).2.2.1
  have hin0:=(pos_at hs hk).2.2.1
  unfold ixI at hlt
  rw [e1] at hlt
  generalize cellQ y.2.1.1 y.2.1.2.1 y.2.1.2.2 (swd p y.2.2.1) r=e at *
  have hd:=hs.1
  by_cases g:e.2.1=y.2.1.2.1
  ·rw [g] at hlt; omega
  ·have:=Int.mul_le_mul_of_nonneg_right (show y.2.1.2.2 * d+y.2.1.2.1+1≤y.2.1.2.2 * d+e.2.1 by omega) (show 0≤w by omega)
   rw [Int.add_mul (y.2.1.2.2 * d+y.2.1.2.1),Int.one_mul] at this
   have:=hin.1; have:=hin0.1
   omega
 omega
theorem byF_pos {l:List Pt} {a b e:Int} : ∀ {cs:List Ld} {i:Nat} {y:Int},0≤y→(0≤byF l a b e cs i y ↔ ∀ x∈cs,hasL l x a b e=false)
 | [],i,y,h=>by simp [byF,h]
 | x::cs,i,y,h=>by
  unfold byF
  by_cases q:hasL l x a b e=true
  ·rw [if_pos q,if_neg (by omega)]
   constructor
   ·intro g; omega
   ·intro g
    have:=g x (List.mem_cons_self ..)
    rw [q] at this
    cases this
  ·rw [if_neg q,byF_pos h]
   have q:hasL l x a b e=false:=by simpa using q
   simp [q]
theorem byF_neg {l:List Pt} {a b e:Int} : ∀ {cs:List Ld} {i:Nat},0≤byF l a b e cs i (-1) ↔ ∃ (j:Nat) (x:Ld),cs[j]? = some x∧hasL l x a b e=true ∧ ∀ (j' : Nat) (x' : Ld),cs[j']? = some x' → hasL l x' a b e=true→j' = j
 | [],i=>by simp [byF]
 | x::cs,i=>by
  unfold byF
  by_cases q:hasL l x a b e=true
  ·rw [if_pos q,if_pos rfl,byF_pos (by omega)]
   constructor
   ·intro g
    refine ⟨0,x,rfl,q,fun j' x' h1 h2=>?_⟩
    cases j' with
    | zero=>rfl
    | succ j' =>
     have:=g x' (List.mem_of_getElem? (by simpa using h1))
     rw [h2] at this
     cases this
   ·rintro ⟨j,z,h1,h2,h3⟩ z' hz'
    obtain ⟨n,hn⟩:=List.getElem?_of_mem hz'
    have e0:=h3 0 x rfl q
    cases hh:hasL l z' a b e with
    | false=>rfl
    | true =>
     have:=h3 (n+1) z' (by simpa using hn) hh
     omega
  ·rw [if_neg q,byF_neg (cs:=cs)]
   constructor
   ·rintro ⟨j,z,h1,h2,h3⟩
    refine ⟨j+1,z,by simpa using h1,h2,fun j' x' g1 g2=>?_⟩
    cases j' with
    | zero =>
     simp at g1
     subst g1
     exact absurd g2 q
    | succ j' => rw [h3 j' x' (by simpa using g1) g2]
   ·rintro ⟨j,z,h1,h2,h3⟩
    cases j with
    | zero =>
     simp at h1
     subst h1
     exact absurd h2 q
    | succ j =>
     refine ⟨j,z,by simpa using h1,h2,fun j' x' g1 g2=>?_⟩
     have:=h3 (j' + 1) x' (by simpa using g1) g2
     omega
theorem byI_iff {l:List Pt} {a b e:Int} {cs:List Ld}:0≤byI l cs a b e ↔ ∃ (j:Nat) (x:Ld),cs[j]? = some x∧hasL l x a b e=true ∧ ∀ (j' : Nat) (x' : Ld),cs[j']? = some x' → hasL l x' a b e=true→j' = j:=byF_neg
theorem piece_inj {w d h:Int} {c:List Nat} {l:List Pt} {y y' : Pc} (hs:ShOK w d h c) (hy:y∈allPc (bdL w d c) (colN c) l (bdL w d c).length) (hy' : y' ∈ allPc (bdL w d c) (colN c) l (bdL w d c).length) (e:ldP y=ldP y'):y=y' := by
 obtain ⟨k,p,s,h1,h2,h3,h4⟩:=allPc_mem.1 hy
 obtain ⟨k', p', s', h1', h2', h3', h4'⟩:=allPc_mem.1 hy'
 obtain ⟨i,t,b,r⟩:=y
 obtain ⟨i', t', b', r'⟩:=y'
 unfold ldP at e
 simp only at *
 have e1:i=i' := by have:=congrArg Prod.fst e; simp only at this; omega
 have e2:t=t' := congrArg (fun x=>x.2.1) e
 have e3:b=b' := congrArg (fun x=>x.2.2) e
 subst e1 e2 e3
 have a:=pos_of (bd_nodup hs) h1
 rw [pos_of (bd_nodup hs) h1'] at a
 cases a
 rw [h2] at h2'
 cases h2'
 rw [h3] at h3'
 cases h3'
 rw [h4,h4']
theorem look_eq {w d h:Int} {c:List Nat} {l:List Pt} {y:Pc} (hs:ShOK w d h c) (hy:y∈allPc (bdL w d c) (colN c) l (bdL w d c).length):look (allPc (bdL w d c) (colN c) l (bdL w d c).length) (ldP y)=some y:=by
 unfold look
 cases hf:(allPc (bdL w d c) (colN c) l (bdL w d c).length).find? fun z=>decide (sameD (ldP y) z) with
 | none =>
  rw [List.find?_eq_none] at hf
  have:=hf y hy
  exact absurd (decide_eq_true ⟨rfl,rfl,rfl⟩) this
 | some z =>
  have h1:sameD (ldP y) z:=by have:=List.find?_some hf; exact of_decide_eq_true this
  have h2:=List.mem_of_find?_eq_some hf
  rw [piece_inj hs hy h2 (by
   obtain ⟨e1,e2,e3⟩:=h1
   unfold ldP at *
   simp only at *
   rw [e1,e2,e3])]
theorem piece_for {w d h:Int} {c:List Nat} {l:List Pt} {x:Ld} (hs:ShOK w d h c) (hpt:PtOK l) (hx:liesP w d h c l x) : ∃ y∈allPc (bdL w d c) (colN c) l (bdL w d c).length,ldP y=x:=by
 obtain ⟨⟨a1,a2⟩,p,hp,b1,b2,b3,b4⟩:=id hx
 obtain ⟨m0,hm⟩:=at_pos hs (t:=x.2.1) b3
 obtain ⟨s,hf⟩:=(fitS_lies hs hpt a1.1 hp hm).2 hx
 refine ⟨(x.1.toNat,x.2.1,x.2.2,s,tchN (bdL w d c) s),allPc_mem.2 ⟨m0,p,s,pos_some hm,hp,hf,rfl⟩,?_⟩
 unfold ldP
 simp only
 rw [show ((x.1.toNat:Nat):Int)=x.1 by omega]
theorem piece_lies {w d h:Int} {c:List Nat} {l:List Pt} {y:Pc} (hs:ShOK w d h c) (hpt:PtOK l) (hy:y∈allPc (bdL w d c) (colN c) l (bdL w d c).length):liesP w d h c l (ldP y):=by
 obtain ⟨k,p,h1,h2,h3,h4,h5⟩:=piece_of hs hpt hy
 exact (fitS_lies (x:=ldP y) (p:=p) (m0:=k) hs hpt (by unfold ldP; simp) (by unfold ldP; simpa using h2) h1).1 ⟨_,h4⟩
theorem pieces_for {w d h:Int} {c:List Nat} {l:List Pt} (hs:ShOK w d h c) (hpt:PtOK l) : ∀ {cs:List Ld},(∀ x∈cs,liesP w d h c l x) → ∃ ps:List Pc,ps.map ldP=cs ∧ ∀ y∈ps,y∈allPc (bdL w d c) (colN c) l (bdL w d c).length
 | [],_=>⟨[],rfl,fun y hy=>by cases hy⟩
 | x::cs,h=>by
  obtain ⟨ps,h1,h2⟩:=pieces_for hs hpt (cs:=cs) (fun z hz=>h z (List.mem_cons_of_mem _ hz))
  obtain ⟨y,h3,h4⟩:=piece_for hs hpt (h x (List.mem_cons_self ..))
  refine ⟨y::ps,by rw [List.map_cons,h1,h4],fun z hz=>?_⟩
  rcases List.mem_cons.1 hz with q | q
  ·rw [q]; exact h3
  ·exact h2 z q
def coverP (N:Nat) (ps:List Pc):Prop := ∀ m,m<N → ∃ (j:Nat) (y:Pc),ps[j]? = some y∧y.2.2.2.1.testBit m=true ∧ ∀ (j' : Nat) (y' : Pc),ps[j']? = some y' → y'.2.2.2.1.testBit m=true→j' = j
theorem bit_lt {w d h:Int} {c:List Nat} {l:List Pt} {y:Pc} {m:Nat} (hs:ShOK w d h c) (hpt:PtOK l) (hy:y∈allPc (bdL w d c) (colN c) l (bdL w d c).length) (hm:y.2.2.2.1.testBit m=true):m<(bdL w d c).length:=by
 obtain ⟨k,p,h1,h2,h3,h4,h5⟩:=piece_of hs hpt hy
 obtain ⟨q,q1,q2⟩:=(h5 m).1 hm
 exact (pos_at hs q2).2.2.2
theorem cell_num {w d h:Int} {c:List Nat} (hs:ShOK w d h c) {m:Nat} (hm:m<(bdL w d c).length) : ∃ i,i<c.length∧c.getD i 0≠0∧pos (bdL w d c) (cel w d i)=some m:=by
 obtain ⟨t,ht⟩:=getI hm
 obtain ⟨i,h1,h2⟩:=celL_at ht
 have:=mem_fi.1 (List.mem_of_getElem? h1)
 exact ⟨i,this.1,this.2,by rw [h2]; exact pos_of (bd_nodup hs) ht⟩
theorem num_cell {w d h:Int} {c:List Nat} (hs:ShOK w d h c) {i:Nat} (h1:i<c.length) (h2:c.getD i 0≠0) : ∃ m,m<(bdL w d c).length∧pos (bdL w d c) (cel w d i)=some m:=by
 have hmem:cel w d i∈bdL w d c:=by
  unfold bdL celL
  rw [List.mem_map]
  exact ⟨i,mem_fi.2 ⟨h1,h2⟩,rfl⟩
 cases hp:pos (bdL w d c) (cel w d i) with
 | some m=>exact ⟨m,(List.getElem?_eq_some_iff.1 (pos_some hp)).1,rfl⟩
 | none=>exact absurd hmem (pos_none hp)
theorem cover_iff {w d h:Int} {c:List Nat} {l:List Pt} {ps:List Pc} (hs:ShOK w d h c) (hpt:PtOK l) (hin : ∀ y∈ps,y∈allPc (bdL w d c) (colN c) l (bdL w d c).length):coverP (bdL w d c).length ps ↔ ∀ i,i<c.length→c.getD i 0≠0→0≤byI l (ps.map ldP) (cel w d i).1 (cel w d i).2.1 (cel w d i).2.2:=by
 constructor
 ·intro g i h1 h2
  obtain ⟨m,m1,m2⟩:=num_cell hs h1 h2
  obtain ⟨j,y,a1,a2,a3⟩:=g m m1
  refine byI_iff.2 ⟨j,ldP y,by rw [List.getElem?_map,a1]; rfl,?_,fun j' x' b1 b2=>?_⟩
  ·rw [← mask_has hs hpt (hin y (List.mem_of_getElem? a1)) m2]; exact a2
  ·rw [List.getElem?_map,Option.map_eq_some_iff] at b1
   obtain ⟨y', b3,rfl⟩:=b1
   refine a3 j' y' b3 ?_
   rw [mask_has hs hpt (hin y' (List.mem_of_getElem? b3)) m2]; exact b2
 ·intro g m hm
  obtain ⟨i,h1,h2,h3⟩:=cell_num hs hm
  obtain ⟨j,x,a1,a2,a3⟩:=byI_iff.1 (g i h1 h2)
  rw [List.getElem?_map,Option.map_eq_some_iff] at a1
  obtain ⟨y,a4,rfl⟩:=a1
  refine ⟨j,y,a4,?_,fun j' y' b1 b2=>?_⟩
  ·rw [mask_has hs hpt (hin y (List.mem_of_getElem? a4)) h3]; exact a2
  ·refine a3 j' (ldP y') (by rw [List.getElem?_map,b1]; rfl) ?_
   rw [← mask_has hs hpt (hin y' (List.mem_of_getElem? b1)) h3]; exact b2
theorem tkF_nil (pcs:List Pc) (s:TkS):tkF pcs s []=some s:=rfl
set_option maxHeartbeats 1000000 in
theorem laid_of {w d h:Int} {c:List Nat} {l:List Pt} {cs:List Ld} (hs:ShOK w d h c) (hpt:PtOK l) (hc:compP w d h c l cs) : ∃ ps,laid w d c l cs=some ps:=by
 have hlen:=celL_len hs
 have hN:1≤(bdL w d c).length∧(bdL w d c).length≤16:=by unfold bdL; omega
 obtain ⟨ps,hps,hin⟩:=pieces_for hs hpt (cs:=cs) (fun x hx=>by
  obtain ⟨i,hi⟩:=List.getElem?_of_mem hx
  exact (hc.1 i x hi).1)
 have cov:coverP (bdL w d c).length ps:=(cover_iff hs hpt hin).2 (by rw [hps]; exact hc.2)
 have at' : ∀ (i:Nat) (y:Pc),ps[i]? = some y→cs[i]? = some (ldP y):=fun i y hy=>by rw [← hps,List.getElem?_map,hy]; rfl
 have hlp:ps.length=cs.length:=by rw [← hps,List.length_map]
 have num : ∀ (i:Nat) (y:Pc),ps[i]? = some y → ∃ k,pos (bdL w d c) y.2.1=some k∧lowB y.2.2.2.1=k∧y.2.2.2.1.testBit k=true:=fun i y hy=>by
  obtain ⟨k,p,h1,_⟩:=piece_of hs hpt (hin y (List.mem_of_getElem? hy))
  obtain ⟨a,b,_⟩:=low_mask hs hpt (hin y (List.mem_of_getElem? hy)) h1
  exact ⟨k,h1,a,b⟩
 have incr : ∀ (n i:Nat) (y y' : Pc),ps[i]? = some y→ps[i+n+1]? = some y' → ixI w d y.2.1<ixI w d y'.2.1:=by
  intro n
  induction n with
  | zero =>
   intro i y y' h1 h2
   have r:=(hc.1 (i+1) (ldP y') (at' _ _ h2)).2.1 (ldP y) (by omega) (at' i y h1)
   exact r
  | succ n ih =>
   intro i y y' h1 h2
   obtain ⟨y1,h3⟩:=getI (l:=ps) (k:=i+n+1) (by have:=(List.getElem?_eq_some_iff.1 h2).1; omega)
   have a:=ih i y y1 h1 h3
   have b:ixI w d y1.2.1<ixI w d y'.2.1:=(hc.1 (i+n+1+1) (ldP y') (at' _ _ (by rw [show i+n+1+1=i+(n+1)+1 by omega]; exact h2))).2.1 (ldP y1) (by omega) (at' _ y1 (by simpa using h3))
   exact Int.lt_trans a b
 have main : ∀ i,i≤ps.length → ∃ lf op,tkF (allPc (bdL w d c) (colN c) l (bdL w d c).length) ([],l.map (fun x=>x.2.2.1),2 ^ (bdL w d c).length - 1) (cs.take i)=some (ps.take i,lf,op)∧op<65536∧(∀ m,op.testBit m=true↔m<(bdL w d c).length ∧ ∀ (j:Nat) (y:Pc),j<i→ps[j]? = some y→y.2.2.2.1.testBit m=false)∧lf.length=l.length ∧ ∀ (m:Nat) (p:Pt),l[m]? = some p→lf.getD m 0=p.2.2.1 - usedN cs i m:=by
  intro i
  induction i with
  | zero =>
   intro _
   have hpow:2 ^ (bdL w d c).length≤2 ^ 16:=Nat.pow_le_pow_right (n:=2) (by omega) hN.2
   refine ⟨l.map (fun x=>x.2.2.1),2 ^ (bdL w d c).length - 1,tkF_nil _ _,by omega,fun m=>?_,by simp,fun m p hp=>?_⟩
   ·rw [Nat.testBit_two_pow_sub_one]
    simp
   ·rw [List.getD_eq_getElem?_getD,List.getElem?_map,hp]
    simp [usedN]
  | succ i ih =>
   intro hi
   obtain ⟨lf,op,h1,h2,h3,h4,h5⟩:=ih (by omega)
   obtain ⟨y,hy⟩:=getI (l:=ps) (k:=i) (by omega)
   have hya:=hin y (List.mem_of_getElem? hy)
   have hx:=at' i y hy
   obtain ⟨k,k1,k2,k3⟩:=num i y hy
   have hlt:=all_lt hN.2 hya
   obtain ⟨p,hp⟩:=getI hlt.1
   have free : ∀ m,y.2.2.2.1.testBit m=true→op.testBit m=true:=fun m hm=>by
    have hmN:=bit_lt hs hpt hya hm
    refine (h3 m).2 ⟨hmN,fun j y' hj hy' => ?_⟩
    cases hb:y'.2.2.2.1.testBit m with
    | false=>rfl
    | true =>
     obtain ⟨j0,y0,_,_,u⟩:=cov m hmN
     have a:=u i y hy hm
     have b:=u j y' hy' hb
     omega
   have hop0:op≠0:=fun e=>by have:=free k k3; rw [e] at this; simp at this
   have c1:lowB y.2.2.2.1=lowB op:=by
    rw [k2]
    obtain ⟨l1,l2⟩:=lowB_lt hop0 h2
    have le : ¬ k<lowB op:=fun q=>by
     have:=lowB_min q
     rw [free k k3] at this
     cases this
    have ge : ¬ lowB op<k:=fun q=>by
     obtain ⟨a1,a2⟩:=(h3 _).1 l2
     obtain ⟨j,y', b1,b2,_⟩:=cov _ a1
     obtain ⟨k', e1,e2,e3⟩:=num j y' b1
     have hk' : ¬ lowB op<k' := fun r=>by
      have:=lowB_min (s:=y'.2.2.2.1) (j:=lowB op) (by rw [e2]; exact r)
      rw [b2] at this
      cases this
     have hji : ¬ j<i:=fun r=>by
      have:=a2 j y' r b1
      rw [b2] at this
      cases this
     by_cases g:j=i
     ·subst g
      rw [hy] at b1
      cases b1
      rw [k1] at e1
      cases e1
      omega
     ·have:=incr (j - i - 1) i y y' hy (by rw [show i+(j - i - 1)+1=j by omega]; exact b1)
      have:=(pos_mono hs k1 e1).2 this
      omega
    omega
   have c2:difN y.2.2.2.1 op=0:=Nat.eq_of_testBit_eq fun m=>by
    rw [difN_bit hlt.2,Nat.zero_testBit]
    cases hb:y.2.2.2.1.testBit m with
    | false=>rfl
    | true=>rw [free m hb]; rfl
   have hus:=usedN_succ (m:=y.1) hx
   rw [if_pos (show (ldP y).1=(y.1:Int) from rfl)] at hus
   have c3:lf.getD y.1 0≠0:=by
    have:=(hc.1 i _ hx).2.2 p (by unfold ldP; simpa using hp)
    have e:(ldP y).1.toNat=y.1:=by unfold ldP; simp
    rw [e,hus] at this
    rw [h5 y.1 p hp]
    omega
   refine ⟨lf.set y.1 (lf.getD y.1 0 - 1),difN op y.2.2.2.1,?_,difN_lt _ _,fun m=>?_,by rw [List.length_set]; exact h4,fun m p' hp' => ?_⟩
   ·rw [tkF_snoc h1 hx]
    unfold tkStep
    rw [look_eq hs hya]
    simp only
    rw [if_pos ⟨c1,c2,c3⟩,List.take_add_one,hy]
    rfl
   ·rw [difN_bit h2,Bool.and_eq_true,h3 m]
    constructor
    ·rintro ⟨⟨a1,a2⟩,a3⟩
     refine ⟨a1,fun j y' hj hy' => ?_⟩
     by_cases g:j=i
     ·subst g; rw [hy] at hy'; cases hy'; simpa using a3
     ·exact a2 j y' (by omega) hy'
    ·rintro ⟨a1,a2⟩
     exact ⟨⟨a1,fun j y' hj hy' => a2 j y' (by omega) hy'⟩,by rw [a2 i y (by omega) hy]; rfl⟩
   ·rw [usedN_succ hx,List.getD_eq_getElem?_getD,List.getElem?_set]
    have e1:(ldP y).1=(y.1:Int):=rfl
    by_cases e:y.1=m
    ·subst e
     rw [if_pos rfl,if_pos (by omega),if_pos e1,h5 _ p' hp']
     simp only [Option.getD_some]
     omega
    ·rw [if_neg e,if_neg (by rw [e1]; omega),← List.getD_eq_getElem?_getD,h5 m p' hp']
     simp
 obtain ⟨lf,op,h1,h2,h3,_,_⟩:=main ps.length (Nat.le_refl _)
 have h0:op=0:=Nat.eq_of_testBit_eq fun m=>by
  rw [Nat.zero_testBit]
  cases hb:op.testBit m with
  | false=>rfl
  | true =>
   obtain ⟨a1,a2⟩:=(h3 m).1 hb
   obtain ⟨j,y,b1,b2,_⟩:=cov m a1
   have:=a2 j y (List.getElem?_eq_some_iff.1 b1).1 b1
   rw [b2] at this
   cases this
 rw [hlp,List.take_of_length_le (Nat.le_refl _)] at h1
 refine ⟨ps.take cs.length,?_⟩
 unfold laid tkOK
 rw [h1]
 simp [h0]
set_option maxHeartbeats 1000000 in
theorem comp_of {w d h:Int} {c:List Nat} {l:List Pt} {cs:List Ld} {ps:List Pc} (hs:ShOK w d h c) (hpt:PtOK l) (hl:laid w d c l cs=some ps):compP w d h c l cs:=by
 have hlen:=celL_len hs
 have hN:1≤(bdL w d c).length∧(bdL w d c).length≤16:=by unfold bdL; omega
 obtain ⟨hps,hin⟩:=laid_map hl
 obtain ⟨sf,hsf,hsf0⟩ : ∃ s,tkF (allPc (bdL w d c) (colN c) l (bdL w d c).length) ([],l.map (fun x=>x.2.2.1),2 ^ (bdL w d c).length - 1) cs=some s∧s.2.2=0:=by
  unfold laid tkOK at hl
  split at hl
  ·rename_i s hs'
   split at hl
   ·rename_i h0; exact ⟨s,hs', h0⟩
   ·cases hl
  ·cases hl
 have at' : ∀ (i:Nat) (y:Pc),ps[i]? = some y→cs[i]? = some (ldP y):=fun i y hy=>by rw [← hps,List.getElem?_map,hy]; rfl
 have hlp:ps.length=cs.length:=by rw [← hps,List.length_map]
 have num : ∀ (i:Nat) (y:Pc),ps[i]? = some y → ∃ k,pos (bdL w d c) y.2.1=some k∧lowB y.2.2.2.1=k∧y.2.2.2.1.testBit k=true:=fun i y hy=>by
  obtain ⟨k,p,h1,_⟩:=piece_of hs hpt (hin y (List.mem_of_getElem? hy))
  obtain ⟨a,b,_⟩:=low_mask hs hpt (hin y (List.mem_of_getElem? hy)) h1
  exact ⟨k,h1,a,b⟩
 have main : ∀ i,i≤ps.length → ∃ lf op,tkF (allPc (bdL w d c) (colN c) l (bdL w d c).length) ([],l.map (fun x=>x.2.2.1),2 ^ (bdL w d c).length - 1) (cs.take i)=some (ps.take i,lf,op)∧op<65536∧(∀ m,op.testBit m=true↔m<(bdL w d c).length ∧ ∀ (j:Nat) (y:Pc),j<i→ps[j]? = some y→y.2.2.2.1.testBit m=false)∧lf.length=l.length∧(∀ (m:Nat) (p:Pt),l[m]? = some p→lf.getD m 0=p.2.2.1 - usedN cs i m∧0≤lf.getD m 0) ∧
   ∀ (j:Nat) (y:Pc),j<i→ps[j]? = some y→(∀ p,l[y.1]? = some p→(usedN cs (j+1) y.1:Int)≤p.2.2.1)∧(∀ m,y.2.2.2.1.testBit m=true → ∀ (j' : Nat) (y' : Pc),j' < j→ps[j']? = some y' → y'.2.2.2.1.testBit m=false) ∧ ∀ m,m<lowB y.2.2.2.1→m<(bdL w d c).length → ∃ (j' : Nat) (y' : Pc),j' < j∧ps[j']? = some y' ∧ y'.2.2.2.1.testBit m=true:=by
  intro i
  induction i with
  | zero =>
   intro _
   have hpow:2 ^ (bdL w d c).length≤2 ^ 16:=Nat.pow_le_pow_right (n:=2) (by omega) hN.2
   refine ⟨l.map (fun x=>x.2.2.1),2 ^ (bdL w d c).length - 1,tkF_nil _ _,by omega,fun m=>?_,by simp,fun m p hp=>?_,fun j y hj=>by omega⟩
   ·rw [Nat.testBit_two_pow_sub_one]
    simp
   ·have e:(l.map (fun x=>x.2.2.1)).getD m 0=p.2.2.1:=by
     rw [List.getD_eq_getElem?_getD,List.getElem?_map,hp]
     rfl
    rw [e]
    have:=(hpt.2.1 m p hp).2.2.1
    exact ⟨by simp [usedN],this.1⟩
  | succ i ih =>
   intro hi
   obtain ⟨lf,op,h1,h2,h3,h4,h5,h6⟩:=ih (by omega)
   obtain ⟨y,hy⟩:=getI (l:=ps) (k:=i) (by omega)
   have hya:=hin y (List.mem_of_getElem? hy)
   have hx:=at' i y hy
   have hlt:=all_lt hN.2 hya
   obtain ⟨p,hp⟩:=getI hlt.1
   have hst:=tkF_snoc h1 hx
   have hsome : ¬ tkStep (allPc (bdL w d c) (colN c) l (bdL w d c).length) (ps.take i,lf,op) (ldP y)=none:=fun e=>by
    have:=tkF_none (hst.trans e)
    rw [hsf] at this
    cases this
   have hstep:tkStep (allPc (bdL w d c) (colN c) l (bdL w d c).length) (ps.take i,lf,op) (ldP y)=if lowB y.2.2.2.1=lowB op∧difN y.2.2.2.1 op=0∧lf.getD y.1 0≠0 then some (ps.take i++[y],lf.set y.1 (lf.getD y.1 0 - 1),difN op y.2.2.2.1) else none:=by
    unfold tkStep
    rw [look_eq hs hya]
   have cond:lowB y.2.2.2.1=lowB op∧difN y.2.2.2.1 op=0∧lf.getD y.1 0≠0:=Decidable.byContradiction fun q=>hsome (by rw [hstep,if_neg q])
   rw [hstep,if_pos cond] at hst
   obtain ⟨c1,c2,c3⟩:=cond
   obtain ⟨u1,u2⟩:=h5 y.1 p hp
   have e1:(ldP y).1=(y.1:Int):=rfl
   have hus:=usedN_succ (m:=y.1) hx
   rw [if_pos e1] at hus
   have free : ∀ m,y.2.2.2.1.testBit m=true→op.testBit m=true:=fun m hm=>by
    have:(difN y.2.2.2.1 op).testBit m=Nat.testBit 0 m:=by rw [c2]
    rw [difN_bit hlt.2,Nat.zero_testBit,hm] at this
    simpa using this
   refine ⟨lf.set y.1 (lf.getD y.1 0 - 1),difN op y.2.2.2.1,?_,difN_lt _ _,fun m=>?_,by rw [List.length_set]; exact h4,fun m p' hp' => ?_,fun j z hj hz=>?_⟩
   ·rw [hst,List.take_add_one,hy]
    rfl
   ·rw [difN_bit h2,Bool.and_eq_true,h3 m]
    constructor
    ·rintro ⟨⟨a1,a2⟩,a3⟩
     refine ⟨a1,fun j y' hj hy' => ?_⟩
     by_cases g:j=i
     ·subst g; rw [hy] at hy'; cases hy'; simpa using a3
     ·exact a2 j y' (by omega) hy'
    ·rintro ⟨a1,a2⟩
     exact ⟨⟨a1,fun j y' hj hy' => a2 j y' (by omega) hy'⟩,by rw [a2 i y (by omega) hy]; rfl⟩
   ·rw [usedN_succ hx,List.getD_eq_getElem?_getD,List.getElem?_set]
    by_cases e:y.1=m
    ·subst e
     rw [if_pos rfl,if_pos (by omega),if_pos e1]
     rw [hp] at hp'
     cases hp'
     simp only [Option.getD_some]
     omega
    ·rw [if_neg e,if_neg (by rw [e1]; omega),← List.getD_eq_getElem?_getD]
     simpa using h5 m p' hp'
   ·by_cases g:j=i
    ·subst g
     rw [hy] at hz
     cases hz
     refine ⟨fun p' hp' => ?_,fun m hm j' y' hj' hy' => ((h3 m).1 (free m hm)).2 j' y' hj' hy', fun m hm hmN=>?_⟩
     ·rw [hp] at hp'
      cases hp'
      rw [hus]
      omega
     ·rw [c1] at hm
      have hb:=lowB_min hm
      refine Classical.byContradiction fun q=>?_
      have:=(h3 m).2 ⟨hmN,fun j' y' a1 a2=>by
       cases hh:y'.2.2.2.1.testBit m with
       | false=>rfl
       | true=>exact absurd ⟨j', y', a1,a2,hh⟩ q⟩
      rw [hb] at this
      cases this
    ·exact h6 j z (by omega) hz
 obtain ⟨lf,op,h1,h2,h3,_,_,h6⟩:=main ps.length (Nat.le_refl _)
 rw [hlp,List.take_of_length_le (Nat.le_refl _),hsf] at h1
 have hop:op=0:=by
  have:=Option.some.inj h1
  rw [this] at hsf0
  exact hsf0
 have hlt : ∀ (j:Nat) (y:Pc),ps[j]? = some y→j<ps.length:=fun j y hj=>(List.getElem?_eq_some_iff.1 hj).1
 refine ⟨fun i x hx=>?_,?_⟩
 ·have hx' := hx
  rw [← hps,List.getElem?_map,Option.map_eq_some_iff] at hx'
  obtain ⟨y,hy,rfl⟩:=hx'
  have hya:=hin y (List.mem_of_getElem? hy)
  obtain ⟨g1,g2,g3⟩:=h6 i y (hlt i y hy) hy
  refine ⟨piece_lies hs hpt hya,fun x' hi hx' => ?_,fun p hp=>?_⟩
  ·rw [← hps,List.getElem?_map,Option.map_eq_some_iff] at hx'
   obtain ⟨y', hy', rfl⟩:=hx'
   obtain ⟨k,k1,k2,k3⟩:=num i y hy
   obtain ⟨k', k1', k2', k3'⟩:=num (i - 1) y' hy'
   have f:=g2 k k3 (i - 1) y' (by omega) hy'
   have hne:k' ≠ k:=fun e=>by rw [e,f] at k3'; cases k3'
   have hnl : ¬ k<k' := fun q=>by
    obtain ⟨j', z,a1,a2,a3⟩:=(h6 (i - 1) y' (hlt _ _ hy') hy').2.2 k (by rw [k2']; exact q) (bit_lt hs hpt hya k3)
    have:=g2 k k3 j' z (by omega) a2
    rw [a3] at this
    cases this
   exact (pos_mono hs k1' k1).1 (by omega)
  ·have e:(ldP y).1.toNat=y.1:=by unfold ldP; simp
   rw [e] at hp ⊢
   exact g1 p hp
 ·have cov:coverP (bdL w d c).length ps:=fun m hm=>by
   have : ¬ ∀ (j:Nat) (y:Pc),j<ps.length→ps[j]? = some y→y.2.2.2.1.testBit m=false:=fun q=>by
    have:=(h3 m).2 ⟨hm,q⟩
    rw [hop] at this
    simp at this
   obtain ⟨j,y,hj,hy⟩ : ∃ (j:Nat) (y:Pc),ps[j]? = some y∧y.2.2.2.1.testBit m=true:=by
    refine Classical.byContradiction fun q=>this fun j y _ hy=>?_
    cases hh:y.2.2.2.1.testBit m with
    | false=>rfl
    | true=>exact absurd ⟨j,y,hy,hh⟩ q
   refine ⟨j,y,hj,hy,fun j' y' hj' hy' => ?_⟩
   rcases Nat.lt_trichotomy j' j with r | r | r
   ·have:=(h6 j y (hlt _ _ hj) hj).2.1 m hy j' y' r hj'
    rw [hy'] at this
    cases this
   ·exact r
   ·have:=(h6 j' y' (hlt _ _ hj') hj').2.1 m hy' j y r hj
    rw [hy] at this
    cases this
  have:=(cover_iff hs hpt hin).1 cov
  rw [hps] at this
  exact this
theorem has_full {w d h:Int} {c:List Nat} {l:List Pt} {y:Pc} {t:C3} (hs:ShOK w d h c) (hpt:PtOK l) (hy:y∈allPc (bdL w d c) (colN c) l (bdL w d c).length) (ht:hasL l (ldP y) t.1 t.2.1 t.2.2=true) : ∃ m,pos (bdL w d c) t=some m∧y.2.2.2.1.testBit m=true:=by
 obtain ⟨_,p,hp,_,h2,h3,_⟩:=piece_lies hs hpt hy
 have hb:hasB p (ldP y) t.1 t.2.1 t.2.2=true:=by
  unfold hasL at ht
  rw [hp] at ht
  exact ht
 unfold hasB at hb
 simp only [Bool.and_eq_true,beq_iff_eq,decide_eq_true_eq] at hb
 obtain ⟨e1,e2,e3,e4,e5⟩:=hb
 have hat:=h2 t.2.1 (by omega) (by omega) t.1 (by omega) (by omega)
 rw [← e1] at hat
 obtain ⟨m,hm⟩:=at_pos hs (t:=t) (by rw [hat,e1]; exact h3)
 exact ⟨m,hm,by rw [mask_has hs hpt hy hm]; exact ht⟩
theorem piece_tch {w d:Int} {c:List Nat} {l:List Pt} {y:Pc} (hy:y∈allPc (bdL w d c) (colN c) l (bdL w d c).length):y.2.2.2.2=tchN (bdL w d c) y.2.2.2.1:=by
 obtain ⟨k,p,s,_,_,_,h4⟩:=allPc_mem.1 hy
 rw [h4]
theorem tch_touch {w d h:Int} {c:List Nat} {l:List Pt} {y y' : Pc} (hs:ShOK w d h c) (hpt:PtOK l) (hy:y∈allPc (bdL w d c) (colN c) l (bdL w d c).length) (hy' : y' ∈ allPc (bdL w d c) (colN c) l (bdL w d c).length):(∃ m,y'.2.2.2.2.testBit m=true∧y.2.2.2.1.testBit m=true)↔touchP w d h l (ldP y) (ldP y'):=by
 rw [piece_tch hy']
 constructor
 ·rintro ⟨m,h1,h2⟩
  obtain ⟨n,h3,h4⟩:=(tchN_bit m).1 h1
  unfold adjA at h4
  split at h4
  ·rename_i a b ha hb
   have pa:=pos_of (bd_nodup hs) ha
   have pb:=pos_of (bd_nodup hs) hb
   rw [mask_has hs hpt hy' pa] at h3
   rw [mask_has hs hpt hy pb] at h2
   have hin:=(pos_at hs pb).2.2.1
   refine ⟨b.1,b.2.1,b.2.2,hin.1,hin.2.1,hin.2.2,?_⟩
   unfold touchB
   rw [h2,Bool.true_and,Bool.or_eq_true]
   have h4:=of_decide_eq_true h4
   rcases h4 with e | e
   ·left
    rw [e]
    simp only
    rw [show a.2.2 + -1+1=a.2.2 by omega]
    exact h3
   ·right
    rw [e]
    simp only
    rw [show a.2.2+1 - 1=a.2.2 by omega]
    exact h3
  ·cases h4
 ·rintro ⟨i,j,k,q1,q2,q3,q4⟩
  unfold touchB at q4
  rw [Bool.and_eq_true,Bool.or_eq_true] at q4
  obtain ⟨m,m1,m2⟩:=has_full (t:=(i,j,k)) hs hpt hy q4.1
  refine ⟨m,?_,m2⟩
  rcases q4.2 with r | r
  ·obtain ⟨n,n1,n2⟩:=has_full (t:=(i,j,k+1)) hs hpt hy' r
   refine (tchN_bit m).2 ⟨n,n2,?_⟩
   unfold adjA
   rw [pos_some n1,pos_some m1]
   exact decide_eq_true (.inl (by show (i,j,k)=(i,j,k+1 + -1); rw [show k+1 + -1=k by omega]))
  ·obtain ⟨n,n1,n2⟩:=has_full (t:=(i,j,k - 1)) hs hpt hy' r
   refine (tchN_bit m).2 ⟨n,n2,?_⟩
   unfold adjA
   rw [pos_some n1,pos_some m1]
   exact decide_eq_true (.inr (by show (i,j,k)=(i,j,k - 1+1); rw [show k - 1+1=k by omega]))
theorem and_bit {a b:Nat}:a &&& b≠0 ↔ ∃ m,a.testBit m=true∧b.testBit m=true:=by
 constructor
 ·intro h
  refine Classical.byContradiction fun q=>h (Nat.eq_of_testBit_eq fun m=>?_)
  rw [Nat.testBit_and,Nat.zero_testBit]
  cases h1:a.testBit m with
  | false=>rfl
  | true =>
   cases h2:b.testBit m with
   | false=>rfl
   | true=>exact absurd ⟨m,h1,h2⟩ q
 ·rintro ⟨m,h1,h2⟩ e
  have:(a &&& b).testBit m=true:=by rw [Nat.testBit_and,h1,h2]; rfl
  rw [e,Nat.zero_testBit] at this
  cases this
theorem rch_tch {w d h:Int} {c:List Nat} {l:List Pt} {ps:List Pc} (hs:ShOK w d h c) (hpt:PtOK l) (hin : ∀ y∈ps,y∈allPc (bdL w d c) (colN c) l (bdL w d c).length) {S:Nat} (hS:Rch ps S) : ∀ m,S.testBit m=true → ∃ (j:Nat) (y:Pc),ps[j]? = some y∧y.2.2.2.1.testBit m=true∧Tch w d h l (ps.map ldP) j:=by
 induction hS with
 | base h0=>exact fun m hm=>⟨0,_,h0,hm,.base⟩
 | step h1 hy ht ih =>
  rename_i s y
  intro m hm
  rw [Nat.testBit_or,Bool.or_eq_true] at hm
  rcases hm with hm | hm
  ·exact ih m hm
  ·obtain ⟨b,b1,b2⟩:=and_bit.1 ht
   obtain ⟨i,z,z1,z2,z3⟩:=ih b b2
   obtain ⟨j,hj⟩:=List.getElem?_of_mem hy
   have ht:=(tch_touch hs hpt (hin z (List.mem_of_getElem? z1)) (hin y hy)).1 ⟨b,b1,z2⟩
   exact ⟨j,y,hj,hm,.step z3 (by rw [List.getElem?_map,z1]; rfl) (by rw [List.getElem?_map,hj]; rfl) ht⟩
theorem tch_rch {w d h:Int} {c:List Nat} {l:List Pt} {ps:List Pc} (hs:ShOK w d h c) (hpt:PtOK l) (hin : ∀ y∈ps,y∈allPc (bdL w d c) (colN c) l (bdL w d c).length) (hlt : ∀ y∈ps,y.2.2.2.1<65536) {S:Nat} (hS:Rch ps S) (hc : ∀ y∈ps,y.2.2.2.2 &&& S≠0→difN y.2.2.2.1 S=0) {j:Nat} (hj:Tch w d h l (ps.map ldP) j) : ∀ y,ps[j]? = some y → ∀ m,y.2.2.2.1.testBit m=true→S.testBit m=true:=by
 induction hj with
 | base =>
  intro y hy
  induction hS with
  | base h0 =>
   rw [hy] at h0
   cases h0
   exact fun m hm=>hm
  | step h1 _ _ ih =>
   rename_i s z _ _
   intro m hm
   rw [Nat.testBit_or]
   clear hc
   have base : ∀ {S:Nat},Rch ps S → ∀ m,y.2.2.2.1.testBit m=true→S.testBit m=true:=by
    intro S hS
    induction hS with
    | base h0=>rw [hy] at h0; cases h0; exact fun m hm=>hm
    | step h1 _ _ ih=>intro m hm; rw [Nat.testBit_or,ih m hm]; rfl
   rw [base h1 m hm]
   rfl
 | step h1 hx hy ht ih =>
  intro y' hy' m hm
  rw [List.getElem?_map,Option.map_eq_some_iff] at hx hy
  obtain ⟨z,z1,rfl⟩:=hx
  obtain ⟨z', z2,rfl⟩:=hy
  rw [hy'] at z2
  cases z2
  have hzm:=List.mem_of_getElem? z1
  have hym:=List.mem_of_getElem? hy'
  obtain ⟨b,b1,b2⟩:=(tch_touch hs hpt (hin z hzm) (hin _ hym)).2 ht
  have hd:=hc _ hym (and_bit.2 ⟨b,b1,ih z z1 b b2⟩)
  have:(difN y'.2.2.2.1 S).testBit m=Nat.testBit 0 m:=by rw [hd]
  rw [difN_bit (hlt _ hym),Nat.zero_testBit,hm] at this
  simpa using this
theorem cnt_all {q:List Bool}:cnt q=q.length ↔ ∀ m,m<q.length→q.getD m false=true:=by
 unfold cnt
 rw [List.countP_eq_length]
 constructor
 ·intro h m hm
  have:=h q[m] (List.getElem_mem hm)
  simpa [List.getD,hm] using this
 ·intro h b hb
  obtain ⟨m,hm,rfl⟩:=List.getElem_of_mem hb
  have:=h m hm
  simpa [List.getD,hm] using this
theorem hang_agree {w d h:Int} {c:List Nat} {l:List Pt} {ps:List Pc} {cs:List Ld} (hs:ShOK w d h c) (hpt:PtOK l) (hps:ps.map ldP=cs) (hin : ∀ y∈ps,y∈allPc (bdL w d c) (colN c) l (bdL w d c).length) (cov:coverP (bdL w d c).length ps) {S:Nat} (hS:Rch ps S) (hc : ∀ y∈ps,y.2.2.2.2 &&& S≠0→difN y.2.2.2.1 S=0)
  {q:List Bool} {n:Int} (hq:TgI w d h l cs q n) (hqc : ∀ (i j:Nat) (x y:Ld),cs[i]? = some x→cs[j]? = some y→q.getD i false=true→touchP w d h l x y→q.getD j false=true) :
  ((S:Int)==((2 ^ (bdL w d c).length - 1:Nat):Int))=(n==(cs.length:Int)):=by
 obtain ⟨t1,t2,t3,t4⟩:=hq
 have hlen:=celL_len hs
 have hN:(bdL w d c).length≤16:=by unfold bdL; omega
 have hlt : ∀ y∈ps,y.2.2.2.1<65536:=fun y hy=>(all_lt hN (hin y hy)).2
 have hlp:ps.length=cs.length:=by rw [← hps,List.length_map]
 have qt : ∀ j,Tch w d h l cs j→q.getD j false=true:=by
  intro j hj
  induction hj with
  | base=>exact t3
  | step h1 hx hy ht ih=>exact hqc _ _ _ _ hx hy ih ht
 rw [Bool.eq_iff_iff,beq_iff_eq,beq_iff_eq,t2]
 have hcast:((S:Int)=((2 ^ (bdL w d c).length - 1:Nat):Int))↔S=2 ^ (bdL w d c).length - 1:=Int.ofNat_inj
 have hcast2:((cnt q:Int)=(cs.length:Int))↔cnt q=q.length:=by rw [t1]; exact Int.ofNat_inj
 rw [hcast,hcast2,cnt_all]
 constructor
 ·intro e j hj
  obtain ⟨y,hy⟩:=getI (l:=ps) (k:=j) (by omega)
  have hya:=hin y (List.mem_of_getElem? hy)
  obtain ⟨k,p,k1,_⟩:=piece_of hs hpt hya
  have hb:=(low_mask hs hpt hya k1).2.1
  have hk:=bit_lt hs hpt hya hb
  have hSk:S.testBit k=true:=by rw [e,Nat.testBit_two_pow_sub_one]; exact decide_eq_true hk
  obtain ⟨i,z,z1,z2,z3⟩:=rch_tch hs hpt hin hS k hSk
  obtain ⟨j0,_,_,_,un⟩:=cov k hk
  have a:=un i z z1 z2
  have b:=un j y hy hb
  rw [hps] at z3
  rw [show j=i by omega]
  exact qt i z3
 ·intro hall
  refine Nat.eq_of_testBit_eq fun m=>?_
  rw [Nat.testBit_two_pow_sub_one,Bool.eq_iff_iff,decide_eq_true_eq]
  constructor
  ·intro hm
   obtain ⟨i,z,z1,z2,_⟩:=rch_tch hs hpt hin hS m hm
   exact bit_lt hs hpt (hin z (List.mem_of_getElem? z1)) z2
  ·intro hm
   obtain ⟨j,y,y1,y2,_⟩:=cov m hm
   have hj:j<q.length:=by have:=(List.getElem?_eq_some_iff.1 y1).1; omega
   have ht:=t4 j (hall j hj)
   rw [← hps] at ht
   exact tch_rch hs hpt hin hlt hS hc ht y y1 m y2
theorem laid_ne {w d h:Int} {c:List Nat} {l:List Pt} {cs:List Ld} {ps:List Pc} (hs:ShOK w d h c) (hpt:PtOK l) (hl:laid w d c l cs=some ps):coverP (bdL w d c).length ps∧ps≠[]:=by
 obtain ⟨hm,hin⟩:=laid_map hl
 have hcov:coverP (bdL w d c).length ps:=(cover_iff hs hpt hin).2 (by rw [hm]; exact (comp_of hs hpt hl).2)
 refine ⟨hcov,fun e=>?_⟩
 have hlen:=celL_len hs
 obtain ⟨j,y,hj,_⟩:=hcov 0 (by unfold bdL; omega)
 rw [e] at hj
 simp at hj
theorem hangs12 {w d h:Int} {u:Nat} {c:List Nat} {l:List Pt} {sc:Nat} {cs:List Ld} {R:V→Prop} (hu:u=1∨c=[]) (hsc:sc=5∨cs=[]) (hcs:cs.length≤900)
  (h70 : ¬ ShOK w d h c→R (.tup [bv false,iv 70])) (h71:ShOK w d h c → ¬ PtOK l→R (.tup [bv false,iv 71])) (h8:ShOK w d h c→PtOK l→laid w d c l cs=none→R (.tup [bv false,iv 8]))
  (h0:ShOK w d h c→PtOK l → ∀ ps,laid w d c l cs=some ps → ∀ S,Rch ps S→(∀ y∈ps,y.2.2.2.2 &&& S≠0→difN y.2.2.2.1 S=0)→R (.tup [bv ((S:Int)==((2 ^ (bdL w d c).length - 1:Nat):Int)),iv 0])) :
  K0G Tryd.prog glX 12 [.agg [iv w,iv d,iv h,.lst u (nb c)],.lst 4 (ptl l),.lst sc (ldl cs)] R:=by
 refine K0_of_WY0 hmX hcMo 3000 Tryd.func12 (see (p:=K0G Tryd.prog glX 43 [V.agg [iv w,iv d,iv h,V.lst u (nb c)],V.lst 4 (ptl l),V.lst sc (ldl cs)] fun v=>onTup v fun vs=>onCons vs fun u r=>onAgg u fun cs=>onCons cs fun u r_1=>onIntK IntKind.i64 u fun n=>onCons r_1 fun u r_2=>onIntK IntKind.i64 u fun n_1=>onCons r_2 fun u r_3=>onIntK IntKind.i64 u fun n_2=>onCons r_3 fun u r_4=>onLst u fun s es=>onCons r_4 fun u r_5=>onLst u fun s_1 es_1=>onCons r_5 fun u r_6=>onLst u fun s_2 es_2=>onCons r_6 fun u r_7=>onFmp u (onCons r_7 fun u r_8=>onFmp u (onCons r_8 fun u r_9=>onLst u fun s_3 es_3=>onCons r_9 fun u r_10=>onLst u fun s_4 es_4=>onNil r_10 (onCons r fun u r=>onLst u fun s_5 es_5=>onCons r fun u r=>onIntK IntKind.i64 u fun n_3=>onNil r (ifB (n_3 != (0:Int)) (R (V.tup [bv false,iv n_3])) (K0G Tryd.prog glX 44 [V.agg [iv n,iv n_1,iv n_2,V.lst s es,V.lst s_1 es_1,V.lst s_2 es_2,V.raw (Value.map none),V.raw (Value.map none),V.lst s_3 es_3,V.lst s_4 es_4],V.lst s_5 es_5] fun v=>onBool v fun b=>R (V.tup [bv b,iv (0:Int)]))))) fun me=>onCons r_8 fun u r_9=>onLst u fun s_3 es_3=>onCons r_9 fun u r_10=>onLst u fun s_4 es_4=>onNil r_10 (onCons r fun u r=>onLst u fun s_5 es_5=>onCons r fun u r=>onIntK IntKind.i64 u fun n_3=>onNil r (ifB (n_3 != (0:Int)) (R (V.tup [bv false,iv n_3])) (K0G Tryd.prog glX 44 [V.agg [iv n,iv n_1,iv n_2,V.lst s es,V.lst s_1 es_1,V.lst s_2 es_2,V.raw (Value.map none),V.fmp me,V.lst s_3 es_3,V.lst s_4 es_4],V.lst s_5 es_5] fun v=>onBool v fun b=>R (V.tup [bv b,iv (0:Int)]))))) fun me=>onCons r_7 fun u r_8=>onFmp u (onCons r_8 fun u r_9=>onLst u fun s_3 es_3=>onCons r_9 fun u r_10=>onLst u fun s_4 es_4=>onNil r_10 (onCons r fun u r=>onLst u fun s_5 es_5=>onCons r fun u r=>onIntK IntKind.i64 u fun n_3=>onNil r (ifB (n_3 != (0:Int)) (R (V.tup [bv false,iv n_3])) (K0G Tryd.prog glX 44 [V.agg [iv n,iv n_1,iv n_2,V.lst s es,V.lst s_1 es_1,V.lst s_2 es_2,V.fmp me,V.raw (Value.map none),V.lst s_3 es_3,V.lst s_4 es_4],V.lst s_5 es_5] fun v=>onBool v fun b=>R (V.tup [bv b,iv (0:Int)]))))) fun me_1=>onCons r_8 fun u r_9=>onLst u fun s_3 es_3=>onCons r_9 fun u r_10=>onLst u fun s_4 es_4=>onNil r_10 (onCons r fun u r=>onLst u fun s_5 es_5=>onCons r fun u r=>onIntK IntKind.i64 u fun n_3=>onNil r (ifB (n_3 != (0:Int)) (R (V.tup [bv false,iv n_3])) (K0G Tryd.prog glX 44 [V.agg [iv n,iv n_1,iv n_2,V.lst s es,V.lst s_1 es_1,V.lst s_2 es_2,V.fmp me,V.fmp me_1,V.lst s_3 es_3,V.lst s_4 es_4],V.lst s_5 es_5] fun v=>onBool v fun b=>R (V.tup [bv b,iv (0:Int)]))))) (by kernel_rfl) ?_)
 refine composed43 hu hsc (by omega) (fun q=>h70 q) (fun q q' => h71 q q') (fun q q' q'' => h8 q q' q'') (fun hs hpt ps hps=>?_)
 obtain ⟨hm,hin⟩:=laid_map hps
 have hlen:=celL_len hs
 have hN:(bdL w d c).length≤16:=by unfold bdL; omega
 have hlp:ps.length=cs.length:=by rw [← hm,List.length_map]
 have htc : ∀ y∈ps,y.2.2.2.1<65536∧y.2.2.2.2<65536:=fun y hy=>by
  refine ⟨(all_lt hN (hin y hy)).2,?_⟩
  rw [piece_tch (hin y hy)]
  refine Nat.lt_of_lt_of_le (Nat.lt_pow_two_of_testBit (n:=16) _ fun m hm=>?_) (Nat.le_refl _)
  cases hb:(tchN (bdL w d c) y.2.2.2.1).testBit m with
  | false=>rfl
  | true =>
   obtain ⟨n,_,h4⟩:=(tchN_bit m).1 hb
   unfold adjA at h4
   split at h4
   ·rename_i b hb'
    have:=(List.getElem?_eq_some_iff.1 hb').1
    omega
   ·cases h4
 exact hangs44 (w:=w) (d:=d) (h:=h) (u:=u) (c:=c) (l:=l) (L:=bdL w d c) (nE:=numE (bdL w d c)) (pE:=pieE (allPc (bdL w d c) (colN c) l (bdL w d c).length)) (bg:=begR (bdL w d c).length (cellPc (bdL w d c) (colN c) l)) (ws:=wlS (wallU (bdL w d c) (bdL w d c).length)) (wr:=wlR (wallU (bdL w d c) (bdL w d c).length)) (pl:=ps) hN (by omega) (laid_ne hs hpt hps).2 htc (fun S hS hc=>onBool_bv (h0 hs hpt ps hps S hS hc))
theorem hangs13 {w d h:Int} {u:Nat} {c:List Nat} {l:List Pt} {sc:Nat} {cs:List Ld} {R:V→Prop} (hu:u=1∨c=[]) (hsc:sc=5∨cs=[]) (hcs:cs.length≤900)
  (h70 : ¬ ShOK w d h c→R (.tup [bv false,iv 70])) (h71:ShOK w d h c → ¬ PtOK l→R (.tup [bv false,iv 71])) (h8:ShOK w d h c→PtOK l → ¬ compP w d h c l cs→R (.tup [bv false,iv 8]))
  (h0:ShOK w d h c→PtOK l→compP w d h c l cs → ∀ q n,TgI w d h l cs q n→(∀ (i j:Nat) (x y:Ld),cs[i]? = some x→cs[j]? = some y→q.getD i false=true→touchP w d h l x y→q.getD j false=true)→R (.tup [bv (n==(cs.length:Int)),iv 0])) :
  K0G Tryd.prog glX 13 [.agg [iv w,iv d,iv h,.lst u (nb c)],.lst 4 (ptl l),.lst sc (ldl cs)] R:=by
 refine K0_of_WY0 hmX hcMo 3000 Tryd.func13 (see (p:=K0G Tryd.prog glX 21 [V.agg [iv w,iv d,iv h,V.lst u (nb c)],V.lst 4 (ptl l),V.lst sc (ldl cs)] fun v=>onIntK IntKind.i64 v fun n=>ifB (n != (0:Int)) (R (V.tup [bv false,iv n])) (K0G Tryd.prog glX 45 [V.agg [iv w,iv d,iv h,V.lst u (nb c)],V.lst 4 (ptl l),V.lst sc (ldl cs)] fun v=>onBool v fun b=>R (V.tup [bv b,iv (0:Int)]))) (by kernel_rfl) ?_)
 refine check21 hu hsc hcs (fun q=>onIntK_iv (ifB_t rfl (h70 q))) (fun q q' => onIntK_iv (ifB_t rfl (h71 q q'))) (fun q q' q'' => onIntK_iv (ifB_t rfl (h8 q q' q''))) (fun hs hpt hcp=>onIntK_iv (ifB_f rfl ?_))
 refine tog45 hs hsc (by omega) ?_ (fun x hx=>?_) (fun q n hq hqc=>onBool_bv (h0 hs hpt hcp q n hq hqc))
 ·obtain ⟨ps,hps⟩:=laid_of hs hpt hcp
  have hne:=(laid_ne hs hpt hps).2
  intro e
  have:=(laid_map hps).1
  rw [e] at this
  exact hne (List.map_eq_nil_iff.1 this)
 ·obtain ⟨j,hj⟩:=List.getElem?_of_mem hx
  exact lies_ok hs hpt (hcp.1 j x hj).1
theorem weak15 {w d h:Int} {u:Nat} {c:List Nat} {l:List Pt} {sc:Nat} {cs:List Ld} {R:V→Prop} (hu:u=1∨c=[]) (hsc:sc=5∨cs=[]) (hcs:cs.length≤900)
  (h70 : ¬ ShOK w d h c→R (.tup [iv 0,iv 70])) (h71:ShOK w d h c → ¬ PtOK l→R (.tup [iv 0,iv 71])) (h8:ShOK w d h c→PtOK l → ¬ compP w d h c l cs→R (.tup [iv 0,iv 8]))
  (h0:ShOK w d h c→PtOK l→compP w d h c l cs→R (.tup [iv (wkN w d h c l cs c.length),iv 0])) :
  K0G Tryd.prog glX 15 [.agg [iv w,iv d,iv h,.lst u (nb c)],.lst 4 (ptl l),.lst sc (ldl cs)] R:=by
 refine K0_of_WY0 hmX hcMo 3000 Tryd.func15 (see (p:=K0G Tryd.prog glX 21 [V.agg [iv w,iv d,iv h,V.lst u (nb c)],V.lst 4 (ptl l),V.lst sc (ldl cs)] fun v=>onIntK IntKind.i64 v fun n=>ifB (n != (0:Int)) (R (V.tup [iv (0:Int),iv n])) (K0G Tryd.prog glX 47 [V.agg [iv w,iv d,iv h,V.lst u (nb c)],V.lst 4 (ptl l),V.lst sc (ldl cs)] fun v=>onIntK IntKind.i64 v fun n=>R (V.tup [iv n,iv (0:Int)]))) (by kernel_rfl) ?_)
 refine check21 hu hsc hcs (fun q=>onIntK_iv (ifB_t rfl (h70 q))) (fun q q' => onIntK_iv (ifB_t rfl (h71 q q'))) (fun q q' q'' => onIntK_iv (ifB_t rfl (h8 q q' q''))) (fun hs hpt hcp=>onIntK_iv (ifB_f rfl ?_))
 exact weak47 hs hu hsc (by omega) (fun x hx=>by
  obtain ⟨j,hj⟩:=List.getElem?_of_mem hx
  exact lies_ok hs hpt (hcp.1 j x hj).1) (onIntK_iv (h0 hs hpt hcp))
def byK (ps:List Pc):Nat→Nat→Nat
 | 0,_=>0
 | k+1,m=>match ps[k]? with
  | some y=>if y.2.2.2.1.testBit m=true then k else byK ps k m
  | none=>byK ps k m
theorem byK_of {ps:List Pc} {m j:Nat} {y:Pc} (hj:ps[j]? = some y) (hb:y.2.2.2.1.testBit m=true) (hu : ∀ (j' : Nat) (y' : Pc),ps[j']? = some y' → y'.2.2.2.1.testBit m=true→j' = j) : ∀ k,j<k→byK ps k m=j
 | 0,h=>absurd h (Nat.not_lt_zero _)
 | k+1,h=>by
  unfold byK
  by_cases e:k=j
  ·subst e
   rw [hj]
   simp only
   rw [if_pos hb]
  ·have ih:=byK_of hj hb hu k (by omega)
   cases hk:ps[k]? with
   | none=>exact ih
   | some y' =>
    simp only
    rw [if_neg (fun q=>e (hu k y' hk q))]
    exact ih
theorem byF_all {l:List Pt} {a b e:Int} : ∀ {cs:List Ld} {i:Nat} {y:Int},(∀ x∈cs,hasL l x a b e=false)→byF l a b e cs i y=y
 | [],i,y,h=>rfl
 | x::cs,i,y,h=>by
  unfold byF
  rw [if_neg (by rw [h x (List.mem_cons_self ..)]; simp),byF_all fun z hz=>h z (List.mem_cons_of_mem _ hz)]
theorem byF_u {l:List Pt} {a b e:Int} : ∀ {cs:List Ld} {i j:Nat} {x:Ld},cs[j]? = some x→hasL l x a b e=true→(∀ (j' : Nat) (x' : Ld),cs[j']? = some x' → hasL l x' a b e=true→j' = j)→byF l a b e cs i (-1)=((i+j:Nat):Int)
 | [],i,j,x,h,_,_=>by simp at h
 | z::cs,i,0,x,h,h1,hu=>by
  simp at h
  subst h
  unfold byF
  rw [if_pos h1,if_pos rfl,byF_all fun z' hz' => ?_]
  ·rfl
  ·obtain ⟨n,hn⟩:=List.getElem?_of_mem hz'
   cases q:hasL l z' a b e with
   | false=>rfl
   | true=>have:=hu (n+1) z' (by simpa using hn) q; omega
 | z::cs,i,j+1,x,h,h1,hu=>by
  unfold byF
  rw [if_neg (fun q=>by have:=hu 0 z rfl q; omega),byF_u (cs:=cs) (j:=j) (by simpa using h) h1 (fun j' x' g1 g2=>by have:=hu (j' + 1) x' (by simpa using g1) g2; omega)]
  omega
def isW (f:Nat→Nat) (x:WL):Bool:=(f x.1.toNat != f x.2.1.toNat)&&(f x.2.2.1.toNat != f x.2.2.2.toNat)
section
variable {w d h:Int} {c:List Nat} {l:List Pt} {ps:List Pc}
theorem byI_of (hs:ShOK w d h c) (hpt:PtOK l) (hin : ∀ y∈ps,y∈allPc (bdL w d c) (colN c) l (bdL w d c).length) (hcov:coverP (bdL w d c).length ps) {t:C3} {m:Nat} (hm:pos (bdL w d c) t=some m) :
  byI l (ps.map ldP) t.1 t.2.1 t.2.2=(byK ps ps.length m:Int):=by
 obtain ⟨j,y,a1,a2,a3⟩:=hcov m (pos_at hs hm).2.2.2
 rw [byK_of a1 a2 a3 ps.length (List.getElem?_eq_some_iff.1 a1).1]
 unfold byI
 rw [byF_u (j:=j) (x:=ldP y) (by rw [List.getElem?_map,a1]; rfl) (by rw [← mask_has hs hpt (hin y (List.mem_of_getElem? a1)) hm]; exact a2) (fun j' x' b1 b2=>?_)]
 ·simp
 ·rw [List.getElem?_map,Option.map_eq_some_iff] at b1
  obtain ⟨y', b3,rfl⟩:=b1
  refine a3 j' y' b3 ?_
  rw [mask_has hs hpt (hin y' (List.mem_of_getElem? b3)) hm]; exact b2
theorem at_none (hs:ShOK w d h c) {t:C3} (hm:pos (bdL w d c) t=none):atN w d h c t.1 t.2.1 t.2.2=0:=by
 refine Decidable.byContradiction fun q=>?_
 obtain ⟨m,h1⟩:=at_pos hs q
 rw [hm] at h1
 cases h1
def seamQ (L:List C3) (f:Nat→Nat) (t t' : C3):Bool:=match pos L t,pos L t' with
 | some m,some m' => f m != f m'
 | _,_=>false
theorem seam_val (hs:ShOK w d h c) (hpt:PtOK l) (hin : ∀ y∈ps,y∈allPc (bdL w d c) (colN c) l (bdL w d c).length) (hcov:coverP (bdL w d c).length ps) (a b e u v:Int) :
  seamB w d h c l (ps.map ldP) a b e u v=seamQ (bdL w d c) (byK ps ps.length) (a,b,e) (u,v,e):=by
 unfold seamB seamQ
 cases h1:pos (bdL w d c) (a,b,e) with
 | none=>have:=at_none hs h1; simp only at this; rw [this]; simp
 | some m =>
  cases h2:pos (bdL w d c) (u,v,e) with
  | none=>have:=at_none hs h2; simp only at this; rw [this]; simp
  | some m' =>
   have e1:=pos_at hs h1
   have e2:=pos_at hs h2
   have b1:=byI_of hs hpt hin hcov h1
   have b2:=byI_of hs hpt hin hcov h2
   simp only at e1 e2 b1 b2
   rw [b1,b2,e1.1,e2.1]
   have c1:((colN c m:Nat):Int)≠0:=by have:=e1.2.1; omega
   have c2:((colN c m' : Nat):Int)≠0:=by have:=e2.2.1; omega
   simp only [bne_iff_ne,ne_eq,c1,c2,not_false_eq_true,Bool.true_and,(bne_iff_ne (a:=((colN c m:Nat):Int)) (b:=0)).2 c1,(bne_iff_ne (a:=((colN c m' : Nat):Int)) (b:=0)).2 c2]
   rw [Bool.eq_iff_iff]
   simp only [bne_iff_ne,ne_eq]
   omega
theorem wallAt_cnt (L:List C3) (f:Nat→Nat) {k:Nat} {t:C3} (hk:pos L t=some k) (x y:Int) :
  (wallAt L k t x y).countP (isW f)=if seamQ L f t (t.1+x,t.2.1+y,t.2.2)&&seamQ L f (t.1,t.2.1,t.2.2+1) (t.1+x,t.2.1+y,t.2.2+1) then 1 else 0:=by
 unfold wallAt seamQ
 rw [hk]
 cases h1:pos L (t.1+x,t.2.1+y,t.2.2) with
 | none=>simp
 | some a =>
  cases h2:pos L (t.1,t.2.1,t.2.2+1) with
  | none=>simp
  | some b =>
   cases h3:pos L (t.1+x,t.2.1+y,t.2.2+1) with
   | none=>simp
   | some e =>
    have e0:isW f ((k:Int),(a:Int),(b:Int),(e:Int))=(f k != f a&&f b != f e):=by simp only [isW,Int.toNat_natCast]
    rw [List.countP_cons,List.countP_nil,e0,Nat.zero_add]
theorem celL_pre (w d:Int) (c:List Nat) (i:Nat) : ∀ n, ∃ r,celL w d c (i+n)=celL w d c i++r
 | 0=>⟨[],by simp⟩
 | n+1=>by
  obtain ⟨r,hr⟩:=celL_pre w d c i n
  rw [← Nat.add_assoc,celL_succ,hr]
  split
  ·exact ⟨r,rfl⟩
  ·exact ⟨r++[cel w d (i+n)],by simp⟩
theorem wkN_wall (hs:ShOK w d h c) (hpt:PtOK l) (hin : ∀ y∈ps,y∈allPc (bdL w d c) (colN c) l (bdL w d c).length) (hcov:coverP (bdL w d c).length ps) :
  ∀ i,i≤c.length→wkN w d h c l (ps.map ldP) i=((wallU (bdL w d c) (celL w d c i).length).countP (isW (byK ps ps.length)):Int)
 | 0,_=>by simp [wkN,celL,fi,wallU]
 | i+1,hi=>by
  have ih:=wkN_wall hs hpt hin hcov i (by omega)
  unfold wkN
  rw [ih,celL_succ]
  have sv:=fun a b e u v=>seam_val (a:=a) (b:=b) (e:=e) (u:=u) (v:=v) hs hpt hin hcov
  by_cases hc:c.getD i 0=0
  ·rw [if_pos hc]
   have hn:pos (bdL w d c) (cel w d i)=none:=by
    cases hp:pos (bdL w d c) (cel w d i) with
    | none=>rfl
    | some m =>
     obtain ⟨i', h1,h2⟩:=celL_at (pos_some hp)
     have h3:=mem_fi.1 (List.mem_of_getElem? h1)
     rw [cel_inj hs.1.1 hs.2.1.1 h2] at h3
     exact absurd hc h3.2
   have : ∀ t', seamQ (bdL w d c) (byK ps ps.length) (cel w d i) t' = false:=fun t' => by unfold seamQ; rw [hn]
   unfold wk1 sm
   simp only [sv]
   rw [this,this]
   simp
  ·rw [if_neg hc,List.length_append,List.length_singleton,wallU_succ,List.countP_append]
   obtain ⟨r,hr⟩:=celL_pre w d c (i+1) (c.length - (i+1))
   rw [show i+1+(c.length - (i+1))=c.length by omega,celL_succ,if_neg hc] at hr
   have hk:(bdL w d c)[(celL w d c i).length]? = some (cel w d i):=by
    unfold bdL
    rw [hr,List.append_assoc,List.getElem?_append_right (Nat.le_refl _)]
    simp
   have hp:=pos_of (bd_nodup hs) hk
   unfold wallK
   rw [hk]
   show _=((_+(wallAt _ _ _ 1 0++wallAt _ _ _ 0 1).countP _:Nat):Int)
   rw [List.countP_append,wallAt_cnt _ _ hp,wallAt_cnt _ _ hp]
   unfold wk1 sm
   simp only [sv,if_true,Int.add_zero,Bool.false_eq_true,if_false]
   split <;> split <;> simp <;> omega
end
end Go.Proofs.YtkkgicjioajimaaDoor
namespace Go.Proofs.YtkkgicjioajimaaDoor
open Go Go.Proofs.YtkkgicjioajimaaDoor.Clean
set_option linter.unusedVariables false
set_option maxRecDepth 100000
def bys (f:Nat→Nat):List Int:=(List.range 16).map fun i=>((f i:Nat):Int)
def kpR:FuncId→Nat→Option (List Tmp):=slotsOf [(46,0,[2,5,12,13,14,6000000]),(102,0,[0,3,6000000]),(46,4,[5,9,28,29,30,6000000])]
noncomputable def cfR:Cfg:={ cfgD Tryd.prog glX (fun _=>0) (fun _=>[]) (inN [76,102]) kpR with clean:=fun g => !inN [102] g }
noncomputable def sh46 (w d h:Int) (u:Nat) (c:List Nat) (l:List Pt) (L:List C3) (nE pE:List (V×V)) (bg:List (List V)) (ws:Nat) (wr ps:List (List V)) (A:List Int) (k:Nat):St:=⟨mkT [(2,V.ptr (Id.p 0) 0 0),(5,V.ptr (Id.p 1) 0 0),(12,V.lst 7 ps),(13,iv (ps.length:Int)),(14,iv (k:Int))],⟨[(0,O.rows 10 false [[iv w,iv d,iv h,V.lst u (nb c),V.lst 4 (ptl l),V.lst 3 (fullR L),V.fmp nE,V.fmp pE,V.lst 1 bg,V.lst ws wr]]),(1,O.rows 16 true [A.map iv])],2,[]⟩⟩
noncomputable def recI (ps:List (List V)) (row:List V) (k:Nat) (n n1 n2 n3:Int) (b:Bool) (n4 n5:Int) (q:LoopState):Nat×O:=(5,O.lp ⟨q,none,mkT [(2,V.ptr (Id.p 0) 0 0),(5,V.ptr (Id.p 1) 0 0),(6,V.ptr (Id.p 2) 0 0),(7,V.ptr (Id.p 3) 0 0),(12,V.lst 7 ps),(13,iv (ps.length:Int)),(14,iv (k:Int)),(15,bv (decide ((k:Int)<(ps.length:Int)))),(16,iv (k:Int)),(17,V.adr row 0),(18,V.agg [iv n,iv n1,iv n2,iv n3,bv b,V.raw (Value.int IntKind.u16 n4),V.raw (Value.int IntKind.u16 n5)]),(19,V.ptr (Id.p 3) 0 5),(20,V.raw (Value.int IntKind.u16 n4)),(21,V.fn (Fn.func 102) [] [V.ptr (Id.p 4) 0 0])],58, #[22],rfA (cdAt [1,1,0,1,0,0,1,1,0,0,1,1,0] (bodyOf Tryd.f46)),rfB (cdAt [1,1,0,1,0,0,1,1,0,0,1,1,0] (bodyOf Tryd.f46)),46⟩)
noncomputable def shI (w d h:Int) (u:Nat) (c:List Nat) (l:List Pt) (L:List C3) (nE pE:List (V×V)) (bg:List (List V)) (ws:Nat) (wr ps:List (List V)) (A:List Int) (row:List V) (k:Nat) (n n1 n2 n3:Int) (b:Bool) (n4 n5:Int) (s:Nat):St:=⟨mkT [(0,V.yl (Id.p 5)),(3,u16v s)],⟨[(0,O.rows 10 false [[iv w,iv d,iv h,V.lst u (nb c),V.lst 4 (ptl l),V.lst 3 (fullR L),V.fmp nE,V.fmp pE,V.lst 1 bg,V.lst ws wr]]),(1,O.rows 16 true [A.map iv]),(2,O.rows 1 false [[iv (k:Int)]]),(3,O.rows 7 false [[iv n,iv n1,iv n2,iv n3,bv b,V.raw (Value.int IntKind.u16 n4),V.raw (Value.int IntKind.u16 n5)]]),(4,O.rows 1 false [[V.raw (Value.int IntKind.u16 n4)]]),recI ps row k n n1 n2 n3 b n4 n5 .ready],6,[]⟩⟩
noncomputable def shL (ws:Nat) (wr:List (List V)) (A:List Int) (n:Int) (k:Nat):St:=⟨mkT [(5,V.ptr (Id.p 0) 0 0),(9,iv n),(28,V.lst ws wr),(29,iv (wr.length:Int)),(30,iv (k:Int))],⟨[(0,O.rows 16 true [A.map iv])],1,[]⟩⟩
set_option linter.unusedSimpArgs false
set_option maxRecDepth 10000
theorem hcR:cfR.ok Tryd.prog:=by
 have h:(cfgD Tryd.prog glX (fun _=>0) (fun _=>[]) (inN [76,102]) kpR).ok Tryd.prog:=cfgD_ok
 exact ⟨h.1,h.2⟩
theorem bys_upd {f:Nat→Nat} {m k:Nat} (hm:m<16):List.take (0+m * 1) ((bys f).map iv)++[iv (k:Int)]++List.drop (0+m * 1+1) ((bys f).map iv)=(bys (fun j=>if j=m then k else f j)).map iv:=by
 rcases (by omega:m=0∨m=1∨m=2∨m=3∨m=4∨m=5∨m=6∨m=7∨m=8∨m=9∨m=10∨m=11∨m=12∨m=13∨m=14∨m=15) with rfl | rfl | rfl | rfl | rfl | rfl | rfl | rfl | rfl | rfl | rfl | rfl | rfl | rfl | rfl | rfl <;> rfl
theorem bys_len (f:Nat→Nat):((bys f).map iv).length=16:=by simp [bys]
theorem bys_eq {f g:Nat→Nat} (h : ∀ j,f j=g j):bys f=bys g:=congrArg bys (funext h)
theorem bys_get {A:List Int} {f:Nat→Nat} (hA:A=bys f) {m:Nat} (hm:m<16):(A.map iv)[0+m * 1]? = some (iv (f m:Int)):=by rw [hA]; simp [bys,hm]
section
variable {w d h:Int} {u:Nat} {c:List Nat} {l:List Pt} {L:List C3} {nE pE:List (V×V)} {bg:List (List V)} {ws:Nat} {wr ps:List (List V)} {R:V→Prop}
theorem inner46 (J:St→Prop) (A:List Int) (f:Nat→Nat) (hA:A=bys f) (row:List V) (k:Nat) (n n_1 n_2 n_3:Int) (b:Bool) (n_4 n_5:Int) {m:Nat} (hm:m<65536) (hk:k≤1000) (hJ:J (sh46 w d h u c l L nE pE bg ws wr ps (bys (fun j=>if m.testBit j=true then k else f j)) (k+1))):La 6 [(0:Tmp),(3:Tmp),(6000000:Tmp)] (WY Tryd.prog cfR 2983 (Env.mk (Bs.mk 0 (spared [] [V.yl (Id.p 5),V.ptr (Id.p 4) 0 0]++[])) 6 none 16 102 0) (cdAt [1,0,0] (bodyOf Tryd.f102))) (Qblk 0 (QendX Tryd.prog Tryd.f102 fun v h' => kontY (WY Tryd.prog cfR 2986) (Env.mk (Bs.mk 0 []) 0 none 58 46 2) (Qblk 2 (Qblk 1 (Qthen (WY Tryd.prog cfR 2991 (Env.mk (Bs.mk 0 []) 0 none 58 46 0) (cdAt [1,1,0,1,0,0,1,1,1] (bodyOf Tryd.f46)) (Qla 0 [(2:Tmp),(5:Tmp),(12:Tmp),(13:Tmp),(14:Tmp),(6000000:Tmp)] J (Qblk 0 (Qthen (WY Tryd.prog cfR 2997 (Env.mk (Bs.mk 0 []) 0 none 58 46 0) (cdAt [1,1,1] (bodyOf Tryd.f46)) (QendX Tryd.prog Tryd.f46 fun v h=>R (frzW h v))) (QendX Tryd.prog Tryd.f46 fun v h=>R (frzW h v)))))) (Qla 0 [(2:Tmp),(5:Tmp),(12:Tmp),(13:Tmp),(14:Tmp),(6000000:Tmp)] J (Qblk 0 (Qthen (WY Tryd.prog cfR 2997 (Env.mk (Bs.mk 0 []) 0 none 58 46 0) (cdAt [1,1,1] (bodyOf Tryd.f46)) (QendX Tryd.prog Tryd.f46 fun v h=>R (frzW h v))) (QendX Tryd.prog Tryd.f46 fun v h=>R (frzW h v)))))))) (mkT [(2,V.ptr (Id.p 0) 0 0),(5,V.ptr (Id.p 1) 0 0),(6,V.ptr (Id.p 2) 0 0),(7,V.ptr (Id.p 3) 0 0),(12,V.lst 7 ps),(13,iv (↑ps.length:Int)),(14,iv (↑k:Int)),(15,bv (decide ((↑k:Int)<(↑ps.length:Int)))),(16,iv (↑k:Int)),(17,V.adr row 0),(18,V.agg [iv n,iv n_1,iv n_2,iv n_3,bv b,V.raw (Value.int IntKind.u16 n_4),V.raw (Value.int IntKind.u16 n_5)]),(19,V.ptr (Id.p 3) 0 5),(20,V.raw (Value.int IntKind.u16 n_4)),(21,V.fn (Fn.func 102) [] [V.ptr (Id.p 4) 0 0])]) 5 v (bif cfR.clean 102 then gcH 6 v h' else h'))) (shI w d h u c l L nE pE bg ws wr ps A row k n n_1 n_2 n_3 b n_4 n_5 m):=by
 refine La.of (σ:=List Int×Nat) (fun x=>shI w d h u c l L nE pE bg ws wr ps x.1 row k n n_1 n_2 n_3 b n_4 n_5 x.2) (fun x=>x.2<65536∧(∀ j,x.2.testBit j=true→m.testBit j=true)∧x.1=bys (fun j=>if m.testBit j=true∧x.2.testBit j=false then k else f j)) (fun x=>x.2) (A,m) (by kernel_rfl) ⟨hm,fun _ h=>h,by simp only; rw [hA]; exact bys_eq fun j=>by cases hj:m.testBit j <;> simp [hj]⟩ ?_
 rintro ⟨A2,s⟩ ⟨q1,q2,q3⟩ J2 hJ2
 simp only at q1 q2 q3
 refine see (p:=ifB ((↑s:Int) != (0:Int)) (K0G Tryd.prog glX 94 [V.raw (Value.int IntKind.u16 (↑s:Int))] fun v=>onIntK IntKind.i64 v fun n_6=>onNat n_6 fun m=>need (m<16) (guardB ((0+m * 1+1).ble (List.map iv A2).length) (J2 (St.mk (mkT [(0,V.yl (Id.p 5)),(3,V.raw (Value.int IntKind.u16 (IntKind.u16.wrap (↑(BitVec.ofInt 16 (↑s:Int) &&& BitVec.ofInt 16 (IntKind.u16.wrap ((↑s:Int) - (1:Int)))).toNat:Int))))]) (Hp.mk [(0,O.rows 10 false [[iv w,iv d,iv h,V.lst u (nb c),V.lst 4 (ptl l),V.lst 3 (fullR L),V.fmp nE,V.fmp pE,V.lst 1 bg,V.lst ws wr]]),(1,O.rows 16 true [List.take (0+m * 1) (List.map iv A2)++[iv (↑k:Int)]++List.drop (0+m * 1+1) (List.map iv A2)]),(2,O.rows 1 false [[iv (↑k:Int)]]),(3,O.rows 7 false [[iv n,iv n_1,iv n_2,iv n_3,bv b,V.raw (Value.int IntKind.u16 n_4),V.raw (Value.int IntKind.u16 n_5)]]),(4,O.rows 1 false [[V.raw (Value.int IntKind.u16 n_4)]]),(5,O.lp (Lr.mk LoopState.ready none (mkT [(2,V.ptr (Id.p 0) 0 0),(5,V.ptr (Id.p 1) 0 0),(6,V.ptr (Id.p 2) 0 0),(7,V.ptr (Id.p 3) 0 0),(12,V.lst 7 ps),(13,iv (↑ps.length:Int)),(14,iv (↑k:Int)),(15,bv (decide ((↑k:Int)<(↑ps.length:Int)))),(16,iv (↑k:Int)),(17,V.adr row 0),(18,V.agg [iv n,iv n_1,iv n_2,iv n_3,bv b,V.raw (Value.int IntKind.u16 n_4),V.raw (Value.int IntKind.u16 n_5)]),(19,V.ptr (Id.p 3) 0 5),(20,V.raw (Value.int IntKind.u16 n_4)),(21,V.fn (Fn.func (102:FuncId)) [] [V.ptr (Id.p 4) 0 0])]) 58 (Array.mk [22]) (rfA (cdAt [1,1,0,1,0,0,1,1,0,0,1,1,0] (bodyOf Tryd.f46))) (rfB (cdAt [1,1,0,1,0,0,1,1,0,0,1,1,0] (bodyOf Tryd.f46))) 46))] 6 []))))) (J (St.mk (mkT [(2,V.ptr (Id.p 0) 0 0),(5,V.ptr (Id.p 1) 0 0),(12,V.lst 7 ps),(13,iv (↑ps.length:Int)),(14,iv (IntKind.i64.wrap ((↑k:Int)+(1:Int))))]) (Hp.mk [(0,O.rows 10 false [[iv w,iv d,iv h,V.lst u (nb c),V.lst 4 (ptl l),V.lst 3 (fullR L),V.fmp nE,V.fmp pE,V.lst 1 bg,V.lst ws wr]]),(1,O.rows 16 true [List.map iv A2])] 2 [])))) (by kernel_rfl) ?_
 refine ifB_mk (fun hb=>?_) (fun hb=>?_)
 ·have h0:s≠0:=by rintro rfl; simp at hb
  obtain ⟨l1,l2⟩:=lowB_lt h0 q1
  refine first94 q1 (onIntK_iv (onNat_mk (m:=lowB s) rfl (need_mk ⟨l1,guardB_mk (by rw [q3,bys_len]; exact Nat.ble_eq_true_of_le (by omega)) ?_⟩)))
  have e:IntKind.u16.wrap ((BitVec.ofInt 16 (s:Int) &&& BitVec.ofInt 16 (IntKind.u16.wrap ((s:Int) - (1:Int)))).toNat:Int)=((s &&& (s - 1):Nat):Int):=by
   have h1:IntKind.u16.wrap ((s:Int) - (1:Int))=((s - 1:Nat):Int):=by rw [wrap_u16]; omega
   have h2:s &&& (s - 1)<65536:=Nat.lt_of_le_of_lt Nat.and_le_left q1
   rw [h1,BitVec.toNat_and,bv16 q1,bv16 (by omega),wrap_u16]
   omega
  rw [q3,bys_upd l1,e]
  have hd:=drop_lt h0
  have hq:bys (fun j=>if j=lowB s then k else (if m.testBit j=true∧s.testBit j=false then k else f j))=bys (fun j=>if m.testBit j=true∧(s &&& (s - 1)).testBit j=false then k else f j):=bys_eq fun j=>by
   rw [drop_bit h0 q1]
   by_cases e1:j=lowB s
   ·subst e1
    rw [if_pos rfl,if_pos ⟨q2 _ l2,by simp⟩]
   ·rw [if_neg e1]
    simp [e1]
  refine hJ2 (bys (fun j=>if j=lowB s then k else (if m.testBit j=true∧s.testBit j=false then k else f j)),s &&& (s - 1)) ⟨by simp only; omega,fun j hj=>?_,hq⟩ hd
  simp only at hj
  rw [drop_bit h0 q1,Bool.and_eq_true] at hj
  exact q2 j hj.1
 ·have h0:s=0:=by
   have:(s:Int)=0:=by simpa using hb
   omega
  subst h0
  have e:A2=bys fun j=>if m.testBit j=true then k else f j:=by
   rw [q3]
   exact bys_eq fun j=>by simp
  rw [wrapI (n:=(k:Int)+1) (by omega) (by omega),e]
  exact hJ
theorem walls46 {wl:List WL} (J:St→Prop) (A:List Int) (f:Nat→Nat) (hA:A=bys f) (hws:ws=4∨wl=[]) (hwr:wr=wlR wl) (hwl:wl.length≤1000) (hin : ∀ x∈wl, ∃ a b c d:Nat,x=((a:Int),(b:Int),(c:Int),(d:Int))∧a<16∧b<16∧c<16∧d<16) (hR:R (iv ((wl.countP (isW f):Nat):Int))):La 0 [(5:Tmp),(9:Tmp),(28:Tmp),(29:Tmp),(30:Tmp),(6000000:Tmp)] (WY Tryd.prog cfR 2992 (Env.mk (Bs.mk 0 []) 0 none 58 46 4) (cdAt [1,1,1,1,0,1,0,0] (bodyOf Tryd.f46))) (Qblk 4 (Qthen (WY Tryd.prog cfR 2995 (Env.mk (Bs.mk 0 []) 0 none 58 46 0) (cdAt [1,1,1,1,1] (bodyOf Tryd.f46)) (QendX Tryd.prog Tryd.f46 fun v h=>R (frzW h v))) (QendX Tryd.prog Tryd.f46 fun v h=>R (frzW h v)))) (shL ws wr A 0 0):=by
 have hwrl:wr.length=wl.length:=by rw [hwr]; simp [wlR]
 refine La.of (σ:=Int×Nat) (fun x=>shL ws wr A x.1 x.2) (fun x=>x.2≤wl.length∧x.1=(((wl.take x.2).countP (isW f):Nat):Int)) (fun x=>wl.length - x.2) (0,0) (by kernel_rfl) ⟨Nat.zero_le _,by simp⟩ ?_
 rintro ⟨n,k⟩ ⟨q1,q2⟩ J2 hJ2
 simp only at q1 q2
 refine see (p:=ifB (decide ((↑k:Int)<(↑wr.length:Int))) (need (ws=4) (onSome wr[k]? fun row=>onCons (List.drop 0 row) fun u r=>onIntK IntKind.i64 u fun n_1=>onCons r fun u r=>onIntK IntKind.i64 u fun n_2=>onCons r fun u r=>onIntK IntKind.i64 u fun n_3=>onCons r fun u r=>onIntK IntKind.i64 u fun n_4=>onNat n_1 fun m=>need (m<16) (onSome (List.map iv A)[0+m * 1]? fun v=>onIntK IntKind.i64 v fun n_5=>onNat n_2 fun m=>need (m<16) (onSome (List.map iv A)[0+m * 1]? fun v=>onIntK IntKind.i64 v fun n_6=>ifB (n_5 != n_6) (onNat n_3 fun m=>need (m<16) (onSome (List.map iv A)[0+m * 1]? fun v=>onIntK IntKind.i64 v fun n_7=>onNat n_4 fun m=>need (m<16) (onSome (List.map iv A)[0+m * 1]? fun v=>onIntK IntKind.i64 v fun n_8=>ifB (n_7 != n_8) (J2 (St.mk (mkT [(5,V.ptr (Id.p 0) 0 0),(9,iv (IntKind.i64.wrap (n+(1:Int)))),(28,V.lst ws wr),(29,iv (↑wr.length:Int)),(30,iv (IntKind.i64.wrap ((↑k:Int)+(1:Int))))]) (Hp.mk [(0,O.rows 16 true [List.map iv A])] 1 []))) (J2 (St.mk (mkT [(5,V.ptr (Id.p 0) 0 0),(9,iv n),(28,V.lst ws wr),(29,iv (↑wr.length:Int)),(30,iv (IntKind.i64.wrap ((↑k:Int)+(1:Int))))]) (Hp.mk [(0,O.rows 16 true [List.map iv A])] 1 [])))))) (J2 (St.mk (mkT [(5,V.ptr (Id.p 0) 0 0),(9,iv n),(28,V.lst ws wr),(29,iv (↑wr.length:Int)),(30,iv (IntKind.i64.wrap ((↑k:Int)+(1:Int))))]) (Hp.mk [(0,O.rows 16 true [List.map iv A])] 1 []))))))) (R (iv n))) (by kernel_rfl) ?_
 refine ifB_mk (fun hb=>?_) (fun hb=>?_) <;> rw [hwrl] at hb
 ·have hlt:k<wl.length:=by have:=of_decide_eq_true hb; omega
  obtain ⟨x,hx⟩:=getI hlt
  have hcl:(wl.take k).countP (isW f)≤k:=by
   have:=List.countP_le_length (p:=isW f) (l:=wl.take k)
   rw [List.length_take] at this
   omega
  have go : ∀ n' : Int,n' = n+(if isW f x=true then 1 else 0)→J2 (shL ws wr A n' (k+1)):=fun n' e=>hJ2 (n', k+1) ⟨hlt,by
   simp only
   rw [e,q2,List.take_add_one,hx,List.countP_append]
   simp only [Option.toList_some,List.countP_cons,List.countP_nil]
   split <;> simp⟩ (by simp only; omega)
  obtain ⟨a,b,e,g,rfl,r1,r2,r3,r4⟩:=hin x (List.mem_of_getElem? hx)
  rw [wrapI (n:=(k:Int)+1) (by omega) (by omega),wrapI (n:=n+1) (by omega) (by omega)]
  have h4:ws=4:=hws.resolve_right (by rintro rfl; simp at hx)
  refine need_mk ⟨h4,onSome_mk (x:=mbW ((a:Int),(b:Int),(e:Int),(g:Int))) (by rw [hwr]; simp [wlR,hx]) (onCons_cons (onIntK_iv (onCons_cons (onIntK_iv (onCons_cons (onIntK_iv (onCons_cons (onIntK_iv ?_))))))))⟩
  refine onNat_mk (m:=a) rfl (need_mk ⟨r1,onSome_mk (bys_get hA r1) (onIntK_iv (onNat_mk (m:=b) rfl (need_mk ⟨r2,onSome_mk (bys_get hA r2) (onIntK_iv ?_)⟩)))⟩)
  have iw:isW f ((a:Int),(b:Int),(e:Int),(g:Int))=((f a != f b)&&(f e != f g)):=by simp only [isW,Int.toNat_natCast]
  rw [iw] at go
  have ne : ∀ p q:Nat,((p:Int) != (q:Int))=(p != q):=fun p q=>by
   rw [Bool.eq_iff_iff]
   simp only [bne_iff_ne,ne_eq]
   omega
  rw [ne]
  refine ifB_mk (fun h1=>onNat_mk (m:=e) rfl (need_mk ⟨r3,onSome_mk (bys_get hA r3) (onIntK_iv (onNat_mk (m:=g) rfl (need_mk ⟨r4,onSome_mk (bys_get hA r4) (onIntK_iv ?_)⟩)))⟩)) (fun h1=>go n (by rw [h1]; simp))
  rw [ne]
  exact ifB_mk (fun h2=>go _ (by rw [h1,h2]; simp)) (fun h2=>go n (by rw [h1,h2]; simp))
 ·have hge:k=wl.length:=by have:=of_decide_eq_false hb; omega
  rw [q2,hge,List.take_length]
  exact hR
end
theorem weakness46 {w d h:Int} {u:Nat} {c:List Nat} {l:List Pt} {L:List C3} {nE pE:List (V×V)} {bg:List (List V)} {ws:Nat} {wl:List WL} {pl:List Pc} {R:V→Prop} (hpl:pl.length≤1000) (hm : ∀ y∈pl,y.2.2.2.1<65536) (hws:ws=4∨wl=[]) (hwl:wl.length≤1000) (hin : ∀ x∈wl, ∃ a b c d:Nat,x=((a:Int),(b:Int),(c:Int),(d:Int))∧a<16∧b<16∧c<16∧d<16)
  (hR:R (iv ((wl.countP (isW (byK pl pl.length)):Nat):Int))):K0G Tryd.prog glX 46 [bdX w d h u c l L nE pE bg ws (wlR wl),.lst 7 (pl.map pcR)] R:=by
 obtain ⟨ps,hps⟩ : ∃ ps,ps=pl.map pcR:=⟨_,rfl⟩
 have hpsl:ps.length=pl.length:=by rw [hps,List.length_map]
 rw [← hps]
 obtain ⟨wr,hwr⟩ : ∃ wr,wr=wlR wl:=⟨_,rfl⟩
 rw [← hwr]
 refine K0_of_WY0 hmX hcR 3000 Tryd.func46 (see (p:=La 0 [(2:Tmp),(5:Tmp),(12:Tmp),(13:Tmp),(14:Tmp),(6000000:Tmp)] (WY Tryd.prog cfR 2994 (Env.mk (Bs.mk 0 []) 0 none 58 46 0) (cdAt [1,1,0,1,0,0] (bodyOf Tryd.f46))) (Qblk 0 (Qthen (WY Tryd.prog cfR 2997 (Env.mk (Bs.mk 0 []) 0 none 58 46 0) (cdAt [1,1,1] (bodyOf Tryd.f46)) (QendX Tryd.prog Tryd.f46 fun v h=>R (frzW h v))) (QendX Tryd.prog Tryd.f46 fun v h=>R (frzW h v)))) (St.mk (mkT [(2,V.ptr (Id.p 0) 0 0),(5,V.ptr (Id.p 1) 0 0),(12,V.lst 7 ps),(13,iv (↑ps.length:Int)),(14,iv (0:Int))]) (Hp.mk [(0,O.rows 10 false [[iv w,iv d,iv h,V.lst u (nb c),V.lst 4 (ptl l),V.lst 3 (fullR L),V.fmp nE,V.fmp pE,V.lst 1 bg,V.lst ws wr]]),(1,O.rows 16 true [[iv (0:Int),iv (0:Int),iv (0:Int),iv (0:Int),iv (0:Int),iv (0:Int),iv (0:Int),iv (0:Int),iv (0:Int),iv (0:Int),iv (0:Int),iv (0:Int),iv (0:Int),iv (0:Int),iv (0:Int),iv (0:Int)]])] 2 []))) (by kernel_rfl) ?_)
 refine La.of (σ:=List Int×Nat) (fun x=>sh46 w d h u c l L nE pE bg ws wr ps x.1 x.2) (fun x=>x.2≤pl.length∧x.1=bys (byK pl x.2)) (fun x=>pl.length - x.2) (bys fun _=>0,0) (by kernel_rfl) ⟨Nat.zero_le _,rfl⟩ ?_
 rintro ⟨A,k⟩ ⟨k1,k2⟩ J hJ
 simp only at k1 k2
 refine see (p:=ifB (decide ((↑k:Int)<(↑ps.length:Int))) (onSome ps[k]? fun row=>onCons (List.drop 0 row) fun u_1 r=>onIntK IntKind.i64 u_1 fun n=>onCons r fun u_2 r=>onIntK IntKind.i64 u_2 fun n_1=>onCons r fun u_3 r=>onIntK IntKind.i64 u_3 fun n_2=>onCons r fun u_4 r=>onIntK IntKind.i64 u_4 fun n_3=>onCons r fun u_5 r=>onBool u_5 fun b=>onCons r fun u_6 r=>onIntK IntKind.u16 u_6 fun n_4=>onCons r fun u_7 r=>onIntK IntKind.u16 u_7 fun n_5=>La 6 [(0:Tmp),(3:Tmp),(6000000:Tmp)] (WY Tryd.prog cfR 2983 (Env.mk (Bs.mk 0 (spared [] [V.yl (Id.p 5),V.ptr (Id.p 4) 0 0]++[])) 6 none 16 102 0) (cdAt [1,0,0] (bodyOf Tryd.f102))) (Qblk 0 (QendX Tryd.prog Tryd.f102 fun v h' => kontY (WY Tryd.prog cfR 2986) (Env.mk (Bs.mk 0 []) 0 none 58 46 2) (Qblk 2 (Qblk 1 (Qthen (WY Tryd.prog cfR 2991 (Env.mk (Bs.mk 0 []) 0 none 58 46 0) (cdAt [1,1,0,1,0,0,1,1,1] (bodyOf Tryd.f46)) (Qla 0 [(2:Tmp),(5:Tmp),(12:Tmp),(13:Tmp),(14:Tmp),(6000000:Tmp)] J (Qblk 0 (Qthen (WY Tryd.prog cfR 2997 (Env.mk (Bs.mk 0 []) 0 none 58 46 0) (cdAt [1,1,1] (bodyOf Tryd.f46)) (QendX Tryd.prog Tryd.f46 fun v h=>R (frzW h v))) (QendX Tryd.prog Tryd.f46 fun v h=>R (frzW h v)))))) (Qla 0 [(2:Tmp),(5:Tmp),(12:Tmp),(13:Tmp),(14:Tmp),(6000000:Tmp)] J (Qblk 0 (Qthen (WY Tryd.prog cfR 2997 (Env.mk (Bs.mk 0 []) 0 none 58 46 0) (cdAt [1,1,1] (bodyOf Tryd.f46)) (QendX Tryd.prog Tryd.f46 fun v h=>R (frzW h v))) (QendX Tryd.prog Tryd.f46 fun v h=>R (frzW h v)))))))) (mkT [(2,V.ptr (Id.p 0) 0 0),(5,V.ptr (Id.p 1) 0 0),(6,V.ptr (Id.p 2) 0 0),(7,V.ptr (Id.p 3) 0 0),(12,V.lst 7 ps),(13,iv (↑ps.length:Int)),(14,iv (↑k:Int)),(15,bv (decide ((↑k:Int)<(↑ps.length:Int)))),(16,iv (↑k:Int)),(17,V.adr row 0),(18,V.agg [iv n,iv n_1,iv n_2,iv n_3,bv b,V.raw (Value.int IntKind.u16 n_4),V.raw (Value.int IntKind.u16 n_5)]),(19,V.ptr (Id.p 3) 0 5),(20,V.raw (Value.int IntKind.u16 n_4)),(21,V.fn (Fn.func 102) [] [V.ptr (Id.p 4) 0 0])]) 5 v (bif cfR.clean 102 then gcH 6 v h' else h'))) (St.mk (mkT [(0,V.yl (Id.p 5)),(3,V.raw (Value.int IntKind.u16 n_4))]) (Hp.mk [(0,O.rows 10 false [[iv w,iv d,iv h,V.lst u (nb c),V.lst 4 (ptl l),V.lst 3 (fullR L),V.fmp nE,V.fmp pE,V.lst 1 bg,V.lst ws wr]]),(1,O.rows 16 true [List.map iv A]),(2,O.rows 1 false [[iv (↑k:Int)]]),(3,O.rows 7 false [[iv n,iv n_1,iv n_2,iv n_3,bv b,V.raw (Value.int IntKind.u16 n_4),V.raw (Value.int IntKind.u16 n_5)]]),(4,O.rows 1 false [[V.raw (Value.int IntKind.u16 n_4)]]),(5,O.lp (Lr.mk LoopState.ready none (mkT [(2,V.ptr (Id.p 0) 0 0),(5,V.ptr (Id.p 1) 0 0),(6,V.ptr (Id.p 2) 0 0),(7,V.ptr (Id.p 3) 0 0),(12,V.lst 7 ps),(13,iv (↑ps.length:Int)),(14,iv (↑k:Int)),(15,bv (decide ((↑k:Int)<(↑ps.length:Int)))),(16,iv (↑k:Int)),(17,V.adr row 0),(18,V.agg [iv n,iv n_1,iv n_2,iv n_3,bv b,V.raw (Value.int IntKind.u16 n_4),V.raw (Value.int IntKind.u16 n_5)]),(19,V.ptr (Id.p 3) 0 5),(20,V.raw (Value.int IntKind.u16 n_4)),(21,V.fn (Fn.func 102) [] [V.ptr (Id.p 4) 0 0])]) 58 (Array.mk [22]) (rfA (cdAt [1,1,0,1,0,0,1,1,0,0,1,1,0] (bodyOf Tryd.f46))) (rfB (cdAt [1,1,0,1,0,0,1,1,0,0,1,1,0] (bodyOf Tryd.f46))) 46))] 6 []))) (La 0 [(5:Tmp),(9:Tmp),(28:Tmp),(29:Tmp),(30:Tmp),(6000000:Tmp)] (WY Tryd.prog cfR 2992 (Env.mk (Bs.mk 0 []) 0 none 58 46 4) (cdAt [1,1,1,1,0,1,0,0] (bodyOf Tryd.f46))) (Qblk 4 (Qthen (WY Tryd.prog cfR 2995 (Env.mk (Bs.mk 0 []) 0 none 58 46 0) (cdAt [1,1,1,1,1] (bodyOf Tryd.f46)) (QendX Tryd.prog Tryd.f46 fun v h=>R (frzW h v))) (QendX Tryd.prog Tryd.f46 fun v h=>R (frzW h v)))) (St.mk (mkT [(5,V.ptr (Id.p 0) 0 0),(9,iv (0:Int)),(28,V.lst ws wr),(29,iv (↑wr.length:Int)),(30,iv (0:Int))]) (Hp.mk [(0,O.rows 16 true [List.map iv A])] 1 [])))) (by kernel_rfl) ?_
 refine ifB_mk (fun hb=>?_) (fun hb=>?_) <;> rw [hpsl] at hb
 ·have hlt:k<pl.length:=by have:=of_decide_eq_true hb; omega
  obtain ⟨y,hy⟩:=getI hlt
  refine onSome_mk (x:=pcR y) (by rw [hps]; simp [hy]) (onCons_cons (onIntK_iv (onCons_cons (onIntK_iv (onCons_cons (onIntK_iv (onCons_cons (onIntK_iv (onCons_cons (onBool_bv (onCons_cons (onIntK_u16 (onCons_cons (onIntK_u16 ?_))))))))))))))
  have hq:bys (fun j=>if y.2.2.2.1.testBit j=true then k else byK pl k j)=bys (byK pl (k+1)):=bys_eq fun j=>by rw [byK,hy]
  exact inner46 J A (byK pl k) k2 (pcR y) k _ _ _ _ _ _ _ (hm y (List.mem_of_getElem? hy)) (by omega) (hJ (bys (fun j=>if y.2.2.2.1.testBit j=true then k else byK pl k j),k+1) ⟨hlt,hq⟩ (by simp only; omega))
 ·have hge:k=pl.length:=by have:=of_decide_eq_false hb; omega
  rw [hge] at k2
  exact walls46 J A (byK pl pl.length) k2 hws hwr hwl hin hR
theorem wall_in {L:List C3} (hL:L.length≤16) {x:WL} : ∀ {n:Nat},x∈wallU L n → ∃ a b c d:Nat,x=((a:Int),(b:Int),(c:Int),(d:Int))∧a<16∧b<16∧c<16∧d<16
 | 0,h=>by simp [wallU] at h
 | n+1,h=>by
  rw [wallU_succ] at h
  rcases List.mem_append.1 h with h | h
  ·exact wall_in hL h
  ·unfold wallK at h
   split at h
   ·rename_i t ht
    have hn:=(List.getElem?_eq_some_iff.1 ht).1
    have key : ∀ a b:Int,x∈wallAt L n t a b → ∃ a b c d:Nat,x=((a:Int),(b:Int),(c:Int),(d:Int))∧a<16∧b<16∧c<16∧d<16:=fun a b hx=>by
     unfold wallAt at hx
     split at hx
     ·rename_i p q r hp hq hr
      have h1:=(List.getElem?_eq_some_iff.1 (pos_some hp)).1
      have h2:=(List.getElem?_eq_some_iff.1 (pos_some hq)).1
      have h3:=(List.getElem?_eq_some_iff.1 (pos_some hr)).1
      rw [List.mem_singleton] at hx
      exact ⟨n,p,q,r,hx,by omega,by omega,by omega,by omega⟩
     ·cases hx
    rcases List.mem_append.1 (show x∈wallAt L n t 1 0++wallAt L n t 0 1 from h) with h | h
    ·exact key _ _ h
    ·exact key _ _ h
   ·cases h
theorem weak14 {w d h:Int} {u:Nat} {c:List Nat} {l:List Pt} {sc:Nat} {cs:List Ld} {R:V→Prop} (hu:u=1∨c=[]) (hsc:sc=5∨cs=[]) (hcs:cs.length≤900)
  (h70 : ¬ ShOK w d h c→R (.tup [iv 0,iv 70])) (h71:ShOK w d h c → ¬ PtOK l→R (.tup [iv 0,iv 71])) (h8:ShOK w d h c→PtOK l→laid w d c l cs=none→R (.tup [iv 0,iv 8]))
  (h0:ShOK w d h c→PtOK l → ∀ ps,laid w d c l cs=some ps→R (.tup [iv (wkN w d h c l cs c.length),iv 0])) :
  K0G Tryd.prog glX 14 [.agg [iv w,iv d,iv h,.lst u (nb c)],.lst 4 (ptl l),.lst sc (ldl cs)] R:=by
 refine K0_of_WY0 hmX hcMo 3000 Tryd.func14 (see (p:=K0G Tryd.prog glX 43 [V.agg [iv w,iv d,iv h,V.lst u (nb c)],V.lst 4 (ptl l),V.lst sc (ldl cs)] fun v=>onTup v fun vs=>onCons vs fun u r=>onAgg u fun cs=>onCons cs fun u r_1=>onIntK IntKind.i64 u fun n=>onCons r_1 fun u r_2=>onIntK IntKind.i64 u fun n_1=>onCons r_2 fun u r_3=>onIntK IntKind.i64 u fun n_2=>onCons r_3 fun u r_4=>onLst u fun s es=>onCons r_4 fun u r_5=>onLst u fun s_1 es_1=>onCons r_5 fun u r_6=>onLst u fun s_2 es_2=>onCons r_6 fun u r_7=>onFmp u (onCons r_7 fun u r_8=>onFmp u (onCons r_8 fun u r_9=>onLst u fun s_3 es_3=>onCons r_9 fun u r_10=>onLst u fun s_4 es_4=>onNil r_10 (onCons r fun u r=>onLst u fun s_5 es_5=>onCons r fun u r=>onIntK IntKind.i64 u fun n_3=>onNil r (ifB (n_3 != (0:Int)) (R (V.tup [iv (0:Int),iv n_3])) (K0G Tryd.prog glX 46 [V.agg [iv n,iv n_1,iv n_2,V.lst s es,V.lst s_1 es_1,V.lst s_2 es_2,V.raw (Value.map none),V.raw (Value.map none),V.lst s_3 es_3,V.lst s_4 es_4],V.lst s_5 es_5] fun v=>onIntK IntKind.i64 v fun n=>R (V.tup [iv n,iv (0:Int)]))))) fun me=>onCons r_8 fun u r_9=>onLst u fun s_3 es_3=>onCons r_9 fun u r_10=>onLst u fun s_4 es_4=>onNil r_10 (onCons r fun u r=>onLst u fun s_5 es_5=>onCons r fun u r=>onIntK IntKind.i64 u fun n_3=>onNil r (ifB (n_3 != (0:Int)) (R (V.tup [iv (0:Int),iv n_3])) (K0G Tryd.prog glX 46 [V.agg [iv n,iv n_1,iv n_2,V.lst s es,V.lst s_1 es_1,V.lst s_2 es_2,V.raw (Value.map none),V.fmp me,V.lst s_3 es_3,V.lst s_4 es_4],V.lst s_5 es_5] fun v=>onIntK IntKind.i64 v fun n=>R (V.tup [iv n,iv (0:Int)]))))) fun me=>onCons r_7 fun u r_8=>onFmp u (onCons r_8 fun u r_9=>onLst u fun s_3 es_3=>onCons r_9 fun u r_10=>onLst u fun s_4 es_4=>onNil r_10 (onCons r fun u r=>onLst u fun s_5 es_5=>onCons r fun u r=>onIntK IntKind.i64 u fun n_3=>onNil r (ifB (n_3 != (0:Int)) (R (V.tup [iv (0:Int),iv n_3])) (K0G Tryd.prog glX 46 [V.agg [iv n,iv n_1,iv n_2,V.lst s es,V.lst s_1 es_1,V.lst s_2 es_2,V.fmp me,V.raw (Value.map none),V.lst s_3 es_3,V.lst s_4 es_4],V.lst s_5 es_5] fun v=>onIntK IntKind.i64 v fun n=>R (V.tup [iv n,iv (0:Int)]))))) fun me_1=>onCons r_8 fun u r_9=>onLst u fun s_3 es_3=>onCons r_9 fun u r_10=>onLst u fun s_4 es_4=>onNil r_10 (onCons r fun u r=>onLst u fun s_5 es_5=>onCons r fun u r=>onIntK IntKind.i64 u fun n_3=>onNil r (ifB (n_3 != (0:Int)) (R (V.tup [iv (0:Int),iv n_3])) (K0G Tryd.prog glX 46 [V.agg [iv n,iv n_1,iv n_2,V.lst s es,V.lst s_1 es_1,V.lst s_2 es_2,V.fmp me,V.fmp me_1,V.lst s_3 es_3,V.lst s_4 es_4],V.lst s_5 es_5] fun v=>onIntK IntKind.i64 v fun n=>R (V.tup [iv n,iv (0:Int)]))))) (by kernel_rfl) ?_)
 refine composed43 hu hsc (by omega) (fun q=>h70 q) (fun q q' => h71 q q') (fun q q' q'' => h8 q q' q'') (fun hs hpt ps hps=>?_)
 obtain ⟨hm,hin⟩:=laid_map hps
 have hlen:=celL_len hs
 have hN:(bdL w d c).length≤16:=by unfold bdL; omega
 have hlp:ps.length=cs.length:=by rw [← hm,List.length_map]
 have hk:=wkN_wall hs hpt hin (laid_ne hs hpt hps).1 c.length (Nat.le_refl _)
 rw [hm] at hk
 have h0:=h0 hs hpt ps hps
 rw [hk] at h0
 have hwl:=wallU_len (bdL w d c) (bdL w d c).length
 refine weakness46 (w:=w) (d:=d) (h:=h) (u:=u) (c:=c) (l:=l) (L:=bdL w d c) (nE:=numE (bdL w d c)) (pE:=pieE (allPc (bdL w d c) (colN c) l (bdL w d c).length)) (bg:=begR (bdL w d c).length (cellPc (bdL w d c) (colN c) l)) (ws:=wlS (wallU (bdL w d c) (bdL w d c).length)) (wl:=wallU (bdL w d c) (bdL w d c).length) (pl:=ps) (by omega) (fun y hy=>(all_lt hN (hin y hy)).2) ?_ (by omega) (fun x hx=>wall_in hN hx) (onIntK_iv h0)
 cases wallU (bdL w d c) (bdL w d c).length with
 | nil=>exact .inr rfl
 | cons a r=>exact .inl rfl
end Go.Proofs.YtkkgicjioajimaaDoor
namespace Go.Proofs.YtkkgicjioajimaaDoor
open Go Go.Proofs.YtkkgicjioajimaaDoor.Clean
set_option linter.unusedVariables false
set_option maxRecDepth 100000
def kpL:FuncId→Nat→Option (List Tmp):=slotsOf [(5,0,[11,13,66,67,6000000])]
noncomputable def cfL:Cfg:=cfgD Tryd.prog glX (fun _=>0) (fun _=>[]) (inN [11]) kpL
end Go.Proofs.YtkkgicjioajimaaDoor
