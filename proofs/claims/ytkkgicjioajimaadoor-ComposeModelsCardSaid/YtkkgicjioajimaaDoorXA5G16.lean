/- A part of the proof. -/
import Derived.Test.YtkkgicjioajimaaDoorProg
import Derived.Test.YtkkgicjioajimaaDoorXA5G9
import Derived.Test.YtkkgicjioajimaaDoorXA5G10
import Derived.Test.YtkkgicjioajimaaDoorXA5G15
namespace Go.Proofs.YtkkgicjioajimaaDoor
open Go Go.Proofs.YtkkgicjioajimaaDoor.Clean
set_option linter.unusedVariables false
set_option linter.unusedSimpArgs false
set_option maxRecDepth 10000
def coverP (N:Nat) (ps:List Pc):Prop := ∀ m,m<N → ∃ (j:Nat) (y:Pc),ps[j]? = some y∧y.2.2.2.1.testBit m=true ∧ ∀ (j' : Nat) (y' : Pc),ps[j']? = some y' → y'.2.2.2.1.testBit m=true→j' = j
theorem bit_lt {w d h:Int} {c:List Nat} {l:List Pt} {y:Pc} {m:Nat} (hs:ShOK w d h c) (hpt:PtOK l) (hy:y∈allPc (bdL w d c) (colN c) l (bdL w d c).length) (hm:y.2.2.2.1.testBit m=true):m<(bdL w d c).length:=by
 obtain ⟨k,p,h1,h2,h3,h4,h5⟩:=piece_of hs hpt hy
 obtain ⟨q,q1,q2⟩:=(h5 m).1 hm
 exact (pos_at hs q2).2.2.2
theorem cell_num {w d h:Int} {c:List Nat} (hs:ShOK w d h c) {m:Nat} (hm:m<(bdL w d c).length) : ∃ i,i<c.length∧c.getD i 0≠0∧pos (bdL w d c) (cel w d i)=some m:=by
 obtain ⟨t,ht⟩:=getI hm
 obtain ⟨i,h1,h2⟩:=celL_at ht
 have:=mem_fi.1 (List.mem_of_getElem? h1)
 exact ⟨i,this.1,this.2,by rw [h2]; exact pos_of (bd_nodup hs) ht⟩
theorem num_cell {w d h:Int} {c:List Nat} (hs:ShOK w d h c) {i:Nat} (h1:i<c.length) (h2:c.getD i 0≠0) : ∃ m,m<(bdL w d c).length∧pos (bdL w d c) (cel w d i)=some m:=by
 have hmem:cel w d i∈bdL w d c:=by
  unfold bdL celL
  rw [List.mem_map]
  exact ⟨i,mem_fi.2 ⟨h1,h2⟩,rfl⟩
 cases hp:pos (bdL w d c) (cel w d i) with
 | some m=>exact ⟨m,(List.getElem?_eq_some_iff.1 (pos_some hp)).1,rfl⟩
 | none=>exact absurd hmem (pos_none hp)
theorem cover_iff {w d h:Int} {c:List Nat} {l:List Pt} {ps:List Pc} (hs:ShOK w d h c) (hpt:PtOK l) (hin : ∀ y∈ps,y∈allPc (bdL w d c) (colN c) l (bdL w d c).length):coverP (bdL w d c).length ps ↔ ∀ i,i<c.length→c.getD i 0≠0→0≤byI l (ps.map ldP) (cel w d i).1 (cel w d i).2.1 (cel w d i).2.2:=by
 constructor
 ·intro g i h1 h2
  obtain ⟨m,m1,m2⟩:=num_cell hs h1 h2
  obtain ⟨j,y,a1,a2,a3⟩:=g m m1
  refine byI_iff.2 ⟨j,ldP y,by rw [List.getElem?_map,a1]; rfl,?_,fun j' x' b1 b2=>?_⟩
  ·rw [← mask_has hs hpt (hin y (List.mem_of_getElem? a1)) m2]; exact a2
  ·rw [List.getElem?_map,Option.map_eq_some_iff] at b1
   obtain ⟨y', b3,rfl⟩:=b1
   refine a3 j' y' b3 ?_
   rw [mask_has hs hpt (hin y' (List.mem_of_getElem? b3)) m2]; exact b2
 ·intro g m hm
  obtain ⟨i,h1,h2,h3⟩:=cell_num hs hm
  obtain ⟨j,x,a1,a2,a3⟩:=byI_iff.1 (g i h1 h2)
  rw [List.getElem?_map,Option.map_eq_some_iff] at a1
  obtain ⟨y,a4,rfl⟩:=a1
  refine ⟨j,y,a4,?_,fun j' y' b1 b2=>?_⟩
  ·rw [mask_has hs hpt (hin y (List.mem_of_getElem? a4)) h3]; exact a2
  ·refine a3 j' (ldP y') (by rw [List.getElem?_map,b1]; rfl) ?_
   rw [← mask_has hs hpt (hin y' (List.mem_of_getElem? b1)) h3]; exact b2
theorem tkF_nil (pcs:List Pc) (s:TkS):tkF pcs s []=some s:=rfl
set_option maxHeartbeats 1000000 in
theorem laid_of {w d h:Int} {c:List Nat} {l:List Pt} {cs:List Ld} (hs:ShOK w d h c) (hpt:PtOK l) (hc:compP w d h c l cs) : ∃ ps,laid w d c l cs=some ps:=by
 have hlen:=celL_len hs
 have hN:1≤(bdL w d c).length∧(bdL w d c).length≤16:=by unfold bdL; omega
 obtain ⟨ps,hps,hin⟩:=pieces_for hs hpt (cs:=cs) (fun x hx=>by
  obtain ⟨i,hi⟩:=List.getElem?_of_mem hx
  exact (hc.1 i x hi).1)
 have cov:coverP (bdL w d c).length ps:=(cover_iff hs hpt hin).2 (by rw [hps]; exact hc.2)
 have at' : ∀ (i:Nat) (y:Pc),ps[i]? = some y→cs[i]? = some (ldP y):=fun i y hy=>by rw [← hps,List.getElem?_map,hy]; rfl
 have hlp:ps.length=cs.length:=by rw [← hps,List.length_map]
 have num : ∀ (i:Nat) (y:Pc),ps[i]? = some y → ∃ k,pos (bdL w d c) y.2.1=some k∧lowB y.2.2.2.1=k∧y.2.2.2.1.testBit k=true:=fun i y hy=>by
  obtain ⟨k,p,h1,_⟩:=piece_of hs hpt (hin y (List.mem_of_getElem? hy))
  obtain ⟨a,b,_⟩:=low_mask hs hpt (hin y (List.mem_of_getElem? hy)) h1
  exact ⟨k,h1,a,b⟩
 have incr : ∀ (n i:Nat) (y y' : Pc),ps[i]? = some y→ps[i+n+1]? = some y' → ixI w d y.2.1<ixI w d y'.2.1:=by
  intro n
  induction n with
  | zero =>
   intro i y y' h1 h2
   have r:=(hc.1 (i+1) (ldP y') (at' _ _ h2)).2.1 (ldP y) (by omega) (at' i y h1)
   exact r
  | succ n ih =>
   intro i y y' h1 h2
   obtain ⟨y1,h3⟩:=getI (l:=ps) (k:=i+n+1) (by have:=(List.getElem?_eq_some_iff.1 h2).1; omega)
   have a:=ih i y y1 h1 h3
   have b:ixI w d y1.2.1<ixI w d y'.2.1:=(hc.1 (i+n+1+1) (ldP y') (at' _ _ (by rw [show i+n+1+1=i+(n+1)+1 by omega]; exact h2))).2.1 (ldP y1) (by omega) (at' _ y1 (by simpa using h3))
   exact Int.lt_trans a b
 have main : ∀ i,i≤ps.length → ∃ lf op,tkF (allPc (bdL w d c) (colN c) l (bdL w d c).length) ([],l.map (fun x=>x.2.2.1),2 ^ (bdL w d c).length - 1) (cs.take i)=some (ps.take i,lf,op)∧op<65536∧(∀ m,op.testBit m=true↔m<(bdL w d c).length ∧ ∀ (j:Nat) (y:Pc),j<i→ps[j]? = some y→y.2.2.2.1.testBit m=false)∧lf.length=l.length ∧ ∀ (m:Nat) (p:Pt),l[m]? = some p→lf.getD m 0=p.2.2.1 - usedN cs i m:=by
  intro i
  induction i with
  | zero =>
   intro _
   have hpow:2 ^ (bdL w d c).length≤2 ^ 16:=Nat.pow_le_pow_right (n:=2) (by omega) hN.2
   refine ⟨l.map (fun x=>x.2.2.1),2 ^ (bdL w d c).length - 1,tkF_nil _ _,by omega,fun m=>?_,by simp,fun m p hp=>?_⟩
   ·rw [Nat.testBit_two_pow_sub_one]
    simp
   ·rw [List.getD_eq_getElem?_getD,List.getElem?_map,hp]
    simp [usedN]
  | succ i ih =>
   intro hi
   obtain ⟨lf,op,h1,h2,h3,h4,h5⟩:=ih (by omega)
   obtain ⟨y,hy⟩:=getI (l:=ps) (k:=i) (by omega)
   have hya:=hin y (List.mem_of_getElem? hy)
   have hx:=at' i y hy
   obtain ⟨k,k1,k2,k3⟩:=num i y hy
   have hlt:=all_lt hN.2 hya
   obtain ⟨p,hp⟩:=getI hlt.1
   have free : ∀ m,y.2.2.2.1.testBit m=true→op.testBit m=true:=fun m hm=>by
    have hmN:=bit_lt hs hpt hya hm
    refine (h3 m).2 ⟨hmN,fun j y' hj hy' => ?_⟩
    cases hb:y'.2.2.2.1.testBit m with
    | false=>rfl
    | true =>
     obtain ⟨j0,y0,_,_,u⟩:=cov m hmN
     have a:=u i y hy hm
     have b:=u j y' hy' hb
     omega
   have hop0:op≠0:=fun e=>by have:=free k k3; rw [e] at this; simp at this
   have c1:lowB y.2.2.2.1=lowB op:=by
    rw [k2]
    obtain ⟨l1,l2⟩:=lowB_lt hop0 h2
    have le : ¬ k<lowB op:=fun q=>by
     have:=lowB_min q
     rw [free k k3] at this
     cases this
    have ge : ¬ lowB op<k:=fun q=>by
     obtain ⟨a1,a2⟩:=(h3 _).1 l2
     obtain ⟨j,y', b1,b2,_⟩:=cov _ a1
     obtain ⟨k', e1,e2,e3⟩:=num j y' b1
     have hk' : ¬ lowB op<k' := fun r=>by
      have:=lowB_min (s:=y'.2.2.2.1) (j:=lowB op) (by rw [e2]; exact r)
      rw [b2] at this
      cases this
     have hji : ¬ j<i:=fun r=>by
      have:=a2 j y' r b1
      rw [b2] at this
      cases this
     by_cases g:j=i
     ·subst g
      rw [hy] at b1
      cases b1
      rw [k1] at e1
      cases e1
      omega
     ·have:=incr (j - i - 1) i y y' hy (by rw [show i+(j - i - 1)+1=j by omega]; exact b1)
      have:=(pos_mono hs k1 e1).2 this
      omega
    omega
   have c2:difN y.2.2.2.1 op=0:=Nat.eq_of_testBit_eq fun m=>by
    rw [difN_bit hlt.2,Nat.zero_testBit]
    cases hb:y.2.2.2.1.testBit m with
    | false=>rfl
    | true=>rw [free m hb]; rfl
   have hus:=usedN_succ (m:=y.1) hx
   rw [if_pos (show (ldP y).1=(y.1:Int) from rfl)] at hus
   have c3:lf.getD y.1 0≠0:=by
    have:=(hc.1 i _ hx).2.2 p (by unfold ldP; simpa using hp)
    have e:(ldP y).1.toNat=y.1:=by unfold ldP; simp
    rw [e,hus] at this
    rw [h5 y.1 p hp]
    omega
   refine ⟨lf.set y.1 (lf.getD y.1 0 - 1),difN op y.2.2.2.1,?_,difN_lt _ _,fun m=>?_,by rw [List.length_set]; exact h4,fun m p' hp' => ?_⟩
   ·rw [tkF_snoc h1 hx]
    unfold tkStep
    rw [look_eq hs hya]
    simp only
    rw [if_pos ⟨c1,c2,c3⟩,List.take_add_one,hy]
    rfl
   ·rw [difN_bit h2,Bool.and_eq_true,h3 m]
    constructor
    ·rintro ⟨⟨a1,a2⟩,a3⟩
     refine ⟨a1,fun j y' hj hy' => ?_⟩
     by_cases g:j=i
     ·subst g; rw [hy] at hy'; cases hy'; simpa using a3
     ·exact a2 j y' (by omega) hy'
    ·rintro ⟨a1,a2⟩
     exact ⟨⟨a1,fun j y' hj hy' => a2 j y' (by omega) hy'⟩,by rw [a2 i y (by omega) hy]; rfl⟩
   ·rw [usedN_succ hx,List.getD_eq_getElem?_getD,List.getElem?_set]
    have e1:(ldP y).1=(y.1:Int):=rfl
    by_cases e:y.1=m
    ·subst e
     rw [if_pos rfl,if_pos (by omega),if_pos e1,h5 _ p' hp']
     simp only [Option.getD_some]
     omega
    ·rw [if_neg e,if_neg (by rw [e1]; omega),← List.getD_eq_getElem?_getD,h5 m p' hp']
     simp
 obtain ⟨lf,op,h1,h2,h3,_,_⟩:=main ps.length (Nat.le_refl _)
 have h0:op=0:=Nat.eq_of_testBit_eq fun m=>by
  rw [Nat.zero_testBit]
  cases hb:op.testBit m with
  | false=>rfl
  | true =>
   obtain ⟨a1,a2⟩:=(h3 m).1 hb
   obtain ⟨j,y,b1,b2,_⟩:=cov m a1
   have:=a2 j y (List.getElem?_eq_some_iff.1 b1).1 b1
   rw [b2] at this
   cases this
 rw [hlp,List.take_of_length_le (Nat.le_refl _)] at h1
 refine ⟨ps.take cs.length,?_⟩
 unfold laid tkOK
 rw [h1]
 simp [h0]
set_option maxHeartbeats 1000000 in
theorem comp_of {w d h:Int} {c:List Nat} {l:List Pt} {cs:List Ld} {ps:List Pc} (hs:ShOK w d h c) (hpt:PtOK l) (hl:laid w d c l cs=some ps):compP w d h c l cs:=by
 have hlen:=celL_len hs
 have hN:1≤(bdL w d c).length∧(bdL w d c).length≤16:=by unfold bdL; omega
 obtain ⟨hps,hin⟩:=laid_map hl
 obtain ⟨sf,hsf,hsf0⟩ : ∃ s,tkF (allPc (bdL w d c) (colN c) l (bdL w d c).length) ([],l.map (fun x=>x.2.2.1),2 ^ (bdL w d c).length - 1) cs=some s∧s.2.2=0:=by
  unfold laid tkOK at hl
  split at hl
  ·rename_i s hs'
   split at hl
   ·rename_i h0; exact ⟨s,hs', h0⟩
   ·cases hl
  ·cases hl
 have at' : ∀ (i:Nat) (y:Pc),ps[i]? = some y→cs[i]? = some (ldP y):=fun i y hy=>by rw [← hps,List.getElem?_map,hy]; rfl
 have hlp:ps.length=cs.length:=by rw [← hps,List.length_map]
 have num : ∀ (i:Nat) (y:Pc),ps[i]? = some y → ∃ k,pos (bdL w d c) y.2.1=some k∧lowB y.2.2.2.1=k∧y.2.2.2.1.testBit k=true:=fun i y hy=>by
  obtain ⟨k,p,h1,_⟩:=piece_of hs hpt (hin y (List.mem_of_getElem? hy))
  obtain ⟨a,b,_⟩:=low_mask hs hpt (hin y (List.mem_of_getElem? hy)) h1
  exact ⟨k,h1,a,b⟩
 have main : ∀ i,i≤ps.length → ∃ lf op,tkF (allPc (bdL w d c) (colN c) l (bdL w d c).length) ([],l.map (fun x=>x.2.2.1),2 ^ (bdL w d c).length - 1) (cs.take i)=some (ps.take i,lf,op)∧op<65536∧(∀ m,op.testBit m=true↔m<(bdL w d c).length ∧ ∀ (j:Nat) (y:Pc),j<i→ps[j]? = some y→y.2.2.2.1.testBit m=false)∧lf.length=l.length∧(∀ (m:Nat) (p:Pt),l[m]? = some p→lf.getD m 0=p.2.2.1 - usedN cs i m∧0≤lf.getD m 0) ∧
   ∀ (j:Nat) (y:Pc),j<i→ps[j]? = some y→(∀ p,l[y.1]? = some p→(usedN cs (j+1) y.1:Int)≤p.2.2.1)∧(∀ m,y.2.2.2.1.testBit m=true → ∀ (j' : Nat) (y' : Pc),j' < j→ps[j']? = some y' → y'.2.2.2.1.testBit m=false) ∧ ∀ m,m<lowB y.2.2.2.1→m<(bdL w d c).length → ∃ (j' : Nat) (y' : Pc),j' < j∧ps[j']? = some y' ∧ y'.2.2.2.1.testBit m=true:=by
  intro i
  induction i with
  | zero =>
   intro _
   have hpow:2 ^ (bdL w d c).length≤2 ^ 16:=Nat.pow_le_pow_right (n:=2) (by omega) hN.2
   refine ⟨l.map (fun x=>x.2.2.1),2 ^ (bdL w d c).length - 1,tkF_nil _ _,by omega,fun m=>?_,by simp,fun m p hp=>?_,fun j y hj=>by omega⟩
   ·rw [Nat.testBit_two_pow_sub_one]
    simp
   ·have e:(l.map (fun x=>x.2.2.1)).getD m 0=p.2.2.1:=by
     rw [List.getD_eq_getElem?_getD,List.getElem?_map,hp]
     rfl
    rw [e]
    have:=(hpt.2.1 m p hp).2.2.1
    exact ⟨by simp [usedN],this.1⟩
  | succ i ih =>
   intro hi
   obtain ⟨lf,op,h1,h2,h3,h4,h5,h6⟩:=ih (by omega)
   obtain ⟨y,hy⟩:=getI (l:=ps) (k:=i) (by omega)
   have hya:=hin y (List.mem_of_getElem? hy)
   have hx:=at' i y hy
   have hlt:=all_lt hN.2 hya
   obtain ⟨p,hp⟩:=getI hlt.1
   have hst:=tkF_snoc h1 hx
   have hsome : ¬ tkStep (allPc (bdL w d c) (colN c) l (bdL w d c).length) (ps.take i,lf,op) (ldP y)=none:=fun e=>by
    have:=tkF_none (hst.trans e)
    rw [hsf] at this
    cases this
   have hstep:tkStep (allPc (bdL w d c) (colN c) l (bdL w d c).length) (ps.take i,lf,op) (ldP y)=if lowB y.2.2.2.1=lowB op∧difN y.2.2.2.1 op=0∧lf.getD y.1 0≠0 then some (ps.take i++[y],lf.set y.1 (lf.getD y.1 0 - 1),difN op y.2.2.2.1) else none:=by
    unfold tkStep
    rw [look_eq hs hya]
   have cond:lowB y.2.2.2.1=lowB op∧difN y.2.2.2.1 op=0∧lf.getD y.1 0≠0:=Decidable.byContradiction fun q=>hsome (by rw [hstep,if_neg q])
   rw [hstep,if_pos cond] at hst
   obtain ⟨c1,c2,c3⟩:=cond
   obtain ⟨u1,u2⟩:=h5 y.1 p hp
   have e1:(ldP y).1=(y.1:Int):=rfl
   have hus:=usedN_succ (m:=y.1) hx
   rw [if_pos e1] at hus
   have free : ∀ m,y.2.2.2.1.testBit m=true→op.testBit m=true:=fun m hm=>by
    have:(difN y.2.2.2.1 op).testBit m=Nat.testBit 0 m:=by rw [c2]
    rw [difN_bit hlt.2,Nat.zero_testBit,hm] at this
    simpa using this
   refine ⟨lf.set y.1 (lf.getD y.1 0 - 1),difN op y.2.2.2.1,?_,difN_lt _ _,fun m=>?_,by rw [List.length_set]; exact h4,fun m p' hp' => ?_,fun j z hj hz=>?_⟩
   ·rw [hst,List.take_add_one,hy]
    rfl
   ·rw [difN_bit h2,Bool.and_eq_true,h3 m]
    constructor
    ·rintro ⟨⟨a1,a2⟩,a3⟩
     refine ⟨a1,fun j y' hj hy' => ?_⟩
     by_cases g:j=i
     ·subst g; rw [hy] at hy'; cases hy'; simpa using a3
     ·exact a2 j y' (by omega) hy'
    ·rintro ⟨a1,a2⟩
     exact ⟨⟨a1,fun j y' hj hy' => a2 j y' (by omega) hy'⟩,by rw [a2 i y (by omega) hy]; rfl⟩
   ·rw [usedN_succ hx,List.getD_eq_getElem?_getD,List.getElem?_set]
    by_cases e:y.1=m
    ·subst e
     rw [if_pos rfl,if_pos (by omega),if_pos e1]
     rw [hp] at hp'
     cases hp'
     simp only [Option.getD_some]
     omega
    ·rw [if_neg e,if_neg (by rw [e1]; omega),← List.getD_eq_getElem?_getD]
     simpa using h5 m p' hp'
   ·by_cases g:j=i
    ·subst g
     rw [hy] at hz
     cases hz
     refine ⟨fun p' hp' => ?_,fun m hm j' y' hj' hy' => ((h3 m).1 (free m hm)).2 j' y' hj' hy', fun m hm hmN=>?_⟩
     ·rw [hp] at hp'
      cases hp'
      rw [hus]
      omega
     ·rw [c1] at hm
      have hb:=lowB_min hm
      refine Classical.byContradiction fun q=>?_
      have:=(h3 m).2 ⟨hmN,fun j' y' a1 a2=>by
       cases hh:y'.2.2.2.1.testBit m with
       | false=>rfl
       | true=>exact absurd ⟨j', y', a1,a2,hh⟩ q⟩
      rw [hb] at this
      cases this
    ·exact h6 j z (by omega) hz
 obtain ⟨lf,op,h1,h2,h3,_,_,h6⟩:=main ps.length (Nat.le_refl _)
 rw [hlp,List.take_of_length_le (Nat.le_refl _),hsf] at h1
 have hop:op=0:=by
  have:=Option.some.inj h1
  rw [this] at hsf0
  exact hsf0
 have hlt : ∀ (j:Nat) (y:Pc),ps[j]? = some y→j<ps.length:=fun j y hj=>(List.getElem?_eq_some_iff.1 hj).1
 refine ⟨fun i x hx=>?_,?_⟩
 ·have hx' := hx
  rw [← hps,List.getElem?_map,Option.map_eq_some_iff] at hx'
  obtain ⟨y,hy,rfl⟩:=hx'
  have hya:=hin y (List.mem_of_getElem? hy)
  obtain ⟨g1,g2,g3⟩:=h6 i y (hlt i y hy) hy
  refine ⟨piece_lies hs hpt hya,fun x' hi hx' => ?_,fun p hp=>?_⟩
  ·rw [← hps,List.getElem?_map,Option.map_eq_some_iff] at hx'
   obtain ⟨y', hy', rfl⟩:=hx'
   obtain ⟨k,k1,k2,k3⟩:=num i y hy
   obtain ⟨k', k1', k2', k3'⟩:=num (i - 1) y' hy'
   have f:=g2 k k3 (i - 1) y' (by omega) hy'
   have hne:k' ≠ k:=fun e=>by rw [e,f] at k3'; cases k3'
   have hnl : ¬ k<k' := fun q=>by
    obtain ⟨j', z,a1,a2,a3⟩:=(h6 (i - 1) y' (hlt _ _ hy') hy').2.2 k (by rw [k2']; exact q) (bit_lt hs hpt hya k3)
    have:=g2 k k3 j' z (by omega) a2
    rw [a3] at this
    cases this
   exact (pos_mono hs k1' k1).1 (by omega)
  ·have e:(ldP y).1.toNat=y.1:=by unfold ldP; simp
   rw [e] at hp ⊢
   exact g1 p hp
 ·have cov:coverP (bdL w d c).length ps:=fun m hm=>by
   have : ¬ ∀ (j:Nat) (y:Pc),j<ps.length→ps[j]? = some y→y.2.2.2.1.testBit m=false:=fun q=>by
    have:=(h3 m).2 ⟨hm,q⟩
    rw [hop] at this
    simp at this
   obtain ⟨j,y,hj,hy⟩ : ∃ (j:Nat) (y:Pc),ps[j]? = some y∧y.2.2.2.1.testBit m=true:=by
    refine Classical.byContradiction fun q=>this fun j y _ hy=>?_
    cases hh:y.2.2.2.1.testBit m with
    | false=>rfl
    | true=>exact absurd ⟨j,y,hy,hh⟩ q
   refine ⟨j,y,hj,hy,fun j' y' hj' hy' => ?_⟩
   rcases Nat.lt_trichotomy j' j with r | r | r
   ·have:=(h6 j y (hlt _ _ hj) hj).2.1 m hy j' y' r hj'
    rw [hy'] at this
    cases this
   ·exact r
   ·have:=(h6 j' y' (hlt _ _ hj') hj').2.1 m hy' j y r hj
    rw [hy] at this
    cases this
  have:=(cover_iff hs hpt hin).1 cov
  rw [hps] at this
  exact this
set_option maxRecDepth 100000
def gcl (w:Int) (n:Nat):List (List V):=(List.range n).map fun (i:Nat)=>[iv ((i % w.toNat:Nat):Int),iv ((i / w.toNat:Nat):Int),iv 0]
def gkn (w:Int) (n:Nat):List (List V):=(List.range n).flatMap fun (i:Nat)=>[[iv ((i % w.toNat:Nat):Int),iv ((i / w.toNat:Nat):Int),iv 0,u8v 4,u8v 1],[iv ((i % w.toNat:Nat):Int),iv ((i / w.toNat:Nat):Int),iv 0,u8v 5,u8v 2]]
noncomputable def sh42n (x:Pt) (y:Nat):St:=⟨mkT [(1,V.ptr (Id.p 0) 0 0),(2,V.ptr (Id.p 1) 0 0),(3,V.ptr (Id.p 2) 0 0),(11,iv x.2.1),(12,iv (y:Int))],⟨[(0,O.rows 4 false [ptr4 x]),(1,O.rows 3 false [[nilS,nilS,iv (0:Int)]]),(2,O.rows 3 false [[nilS,nilS,iv (IntKind.i64.wrap (x.1 * x.2.1))]])],3,[]⟩⟩
noncomputable def sh42s (x:Pt) (y n:Nat):St:=⟨mkT [(1,V.ptr (Id.p 0) 0 0),(2,V.ptr (Id.p 1) 0 0),(3,V.ptr (Id.p 2) 0 0),(11,iv x.2.1),(12,iv (y:Int))],⟨[(0,O.rows 4 false [ptr4 x]),(1,O.rows 3 false [[nilS,nilS,iv (0:Int)]]),(2,O.rows 3 false [[V.sl (Id.p 3) 0 n,V.sl (Id.p 4) 0 (2 * n),iv (IntKind.i64.wrap (x.1 * x.2.1))]]),(3,O.rows 3 true (gcl x.1 n)),(4,O.rows 5 true (gkn x.1 n))],5,[]⟩⟩
noncomputable def sh42p (x:Pt) (y k:Nat):St:=⟨mkT [(1,V.ptr (Id.p 0) 0 0),(2,V.ptr (Id.p 1) 0 0),(3,V.ptr (Id.p 2) 0 0),(4,iv (y:Int)),(11,iv x.2.1),(12,iv (y:Int)),(16,iv x.1),(17,iv (k:Int))],⟨[(0,O.rows 4 false [ptr4 x]),(1,O.rows 3 false [[nilS,nilS,iv (0:Int)]]),(2,O.rows 3 false [[nilS,nilS,iv (IntKind.i64.wrap (x.1 * x.2.1))]])],3,[]⟩⟩
noncomputable def sh42q (x:Pt) (y k n:Nat):St:=⟨mkT [(1,V.ptr (Id.p 0) 0 0),(2,V.ptr (Id.p 1) 0 0),(3,V.ptr (Id.p 2) 0 0),(4,iv (y:Int)),(11,iv x.2.1),(12,iv (y:Int)),(16,iv x.1),(17,iv (k:Int))],⟨[(0,O.rows 4 false [ptr4 x]),(1,O.rows 3 false [[nilS,nilS,iv (0:Int)]]),(2,O.rows 3 false [[V.sl (Id.p 3) 0 n,V.sl (Id.p 4) 0 (2 * n),iv (IntKind.i64.wrap (x.1 * x.2.1))]]),(3,O.rows 3 true (gcl x.1 n)),(4,O.rows 5 true (gkn x.1 n))],5,[]⟩⟩
set_option maxRecDepth 10000
theorem sub_all {α:Type} {l:List α} {n:Nat} (h:l.length=n):sub l 0 n=l:=by subst h; simp [sub]
theorem gcl_len (w:Int) (n:Nat):(gcl w n).length=n:=by simp [gcl]
theorem gcl_snoc (w:Int) (n:Nat):gcl w (n+1)=gcl w n++[[iv ((n % w.toNat:Nat):Int),iv ((n / w.toNat:Nat):Int),iv 0]]:=by
 unfold gcl
 rw [List.range_succ,List.map_append]
 rfl
theorem gkn_snoc (w:Int) (n:Nat):gkn w (n+1)=gkn w n++[[iv ((n % w.toNat:Nat):Int),iv ((n / w.toNat:Nat):Int),iv 0,u8v 4,u8v 1],[iv ((n % w.toNat:Nat):Int),iv ((n / w.toNat:Nat):Int),iv 0,u8v 5,u8v 2]]:=by
 unfold gkn
 rw [List.range_succ,List.flatMap_append]
 rfl
theorem gkn_len (w:Int) : ∀ n:Nat,(gkn w n).length=2 * n
 | 0=>rfl
 | n+1=>by rw [gkn_snoc,List.length_append,gkn_len w n]; rfl
theorem take_len {α:Type} {l:List α} {n:Nat} (h:l.length=n):List.take n l=l:=by subst h; exact List.take_length
theorem grid_mod {y k W:Nat} (h:k<W):(y * W+k) % W=k:=by rw [Nat.mul_comm,Nat.mul_add_mod,Nat.mod_eq_of_lt h]
theorem grid_div {y k W:Nat} (h:k<W):(y * W+k) / W=y:=by rw [Nat.mul_comm,Nat.mul_add_div (by omega),Nat.div_eq_of_lt h,Nat.add_zero]
theorem hJ' {J:St→Prop} {s s' : St} (he:s=s') (h:J s'):J s:=he ▸ h
noncomputable def sh42o (x:Pt) (y:Nat):St:=match y with | 0=>sh42n x 0 | y+1=>sh42s x (y+1) ((y+1) * x.1.toNat)
noncomputable def sh42i (x:Pt) (k:Nat):St:=match k with | 0=>sh42p x 0 0 | k+1=>sh42q x 0 (k+1) (k+1)
theorem step42 {x:Pt} {y k:Nat} (h:k<x.1.toNat):gcl x.1 (y * x.1.toNat+k+1)=List.take (y * x.1.toNat+k) (gcl x.1 (y * x.1.toNat+k))++[[iv (k:Int),iv (y:Int),iv 0]]∧gkn x.1 (y * x.1.toNat+k+1)=List.take (2 * (y * x.1.toNat+k)) (gkn x.1 (y * x.1.toNat+k))++[[iv (k:Int),iv (y:Int),iv 0,u8v 4,u8v 1],[iv (k:Int),iv (y:Int),iv 0,u8v 5,u8v 2]]:=by
 rw [take_len (gcl_len _ _),take_len (gkn_len _ _),gcl_snoc,gkn_snoc,grid_mod h,grid_div h]
 exact ⟨rfl,rfl⟩
theorem eq42 {x:Pt} {R:V→Prop}:(La 0 [(1:Tmp),(2:Tmp),(3:Tmp),(11:Tmp),(12:Tmp)] (WY Tryd.prog cfK 2994 (Env.mk (Bs.mk 0 []) 0 none 41 68 0) (cdAt [1,1,0,1,0,0] (bodyOf Tryd.f68))) (Qblk 0 (Qthen (WY Tryd.prog cfK 2997 (Env.mk (Bs.mk 0 []) 0 none 41 68 0) (cdAt [1,1,1] (bodyOf Tryd.f68)) (QendX Tryd.prog Tryd.f68 fun v h=>R (frzW h v))) (QendX Tryd.prog Tryd.f68 fun v h=>R (frzW h v)))) (St.mk (mkT [(1,V.ptr (Id.p 0) 0 0),(2,V.ptr (Id.p 1) 0 0),(3,V.ptr (Id.p 2) 0 0),(11,iv x.2.1),(12,iv (0:Int))]) (Hp.mk [(0,O.rows 4 false [[iv x.1,iv x.2.1,iv x.2.2.1,V.raw (Value.int IntKind.u8 (↑x.2.2.2:Int))]]),(1,O.rows 3 false [[nilS,nilS,iv (0:Int)]]),(2,O.rows 3 false [[nilS,nilS,iv (IntKind.i64.wrap (x.1 * x.2.1))]])] 3 [])))=WY0 Tryd.prog cfK 3000 68 Tryd.f68 [.agg (ptr4 x)] R:=by kernel_rfl
theorem kind42 {x:Pt} {R:V→Prop} (hx:POK x) (hR : ∀ n:Nat,(n:Int)=x.1 * x.2.1→n≤64→R (.agg [.lst 3 (gcl x.1 n),.lst 5 (gkn x.1 n),iv (n:Int)])):K0G Tryd.prog glX 68 [.agg (ptr4 x)] R:=by
 refine K0_by hmX hcK 3000 Tryd.func68 eq42 ?_
 obtain ⟨⟨x1,x2⟩,⟨x3,x4⟩,_,_⟩:=hx
 have hW:((x.1.toNat:Nat):Int)=x.1:=Int.toNat_of_nonneg (by omega)
 have hD:((x.2.1.toNat:Nat):Int)=x.2.1:=Int.toNat_of_nonneg (by omega)
 have hW8:x.1.toNat≤8:=by omega
 have hD8:x.2.1.toNat≤8:=by omega
 have hWD:x.1.toNat * x.2.1.toNat≤8 * 8:=Nat.mul_le_mul hW8 hD8
 have hp:((x.2.1.toNat * x.1.toNat:Nat):Int)=x.1 * x.2.1:=by rw [Int.natCast_mul,hW,hD,Int.mul_comm]
 have hb : ∀ y k:Nat,(y:Int)<x.2.1→k<x.1.toNat→y * x.1.toNat+k≤64:=fun y k hy hk=>by
  have:y * x.1.toNat≤7 * 8:=Nat.mul_le_mul (by omega) hW8
  omega
 have fin : ∀ y:Nat, ¬ (y:Int)<x.2.1→(y:Int)≤x.2.1→R (.agg [.lst 3 (sub (gcl x.1 (y * x.1.toNat)) 0 (y * x.1.toNat)),.lst 5 (sub (gkn x.1 (y * x.1.toNat)) 0 (2 * (y * x.1.toNat))),iv (IntKind.i64.wrap (x.1 * x.2.1))]):=fun y h1 h2=>by
  have hy:y=x.2.1.toNat:=by omega
  subst hy
  have hq:((x.2.1.toNat * x.1.toNat:Nat):Int)≤64:=by rw [Nat.mul_comm]; omega
  have hz:(0:Int)≤((x.2.1.toNat * x.1.toNat:Nat):Int):=Int.natCast_nonneg _
  rw [hp] at hq hz
  rw [sub_all (gcl_len _ _),sub_all (gkn_len _ _),wr (by omega) (by omega),← hp]
  exact hR _ hp (by rw [Nat.mul_comm]; omega)
 refine La.of (σ:=Nat) (fun y=>sh42o x y) (fun y=>(y:Int)≤x.2.1) (fun y=>x.2.1.toNat - y) 0 (by kernel_rfl) (by simp; omega) ?_
 intro y g1 J hJ
 cases y with
 | zero =>
  refine see (p:=ifB (decide ((↑(0:Nat):Int)<x.2.1)) (La 0 [(1:Tmp),(2:Tmp),(3:Tmp),(4:Tmp),(11:Tmp),(12:Tmp),(16:Tmp),(17:Tmp)] (WY Tryd.prog cfK 2986 (Env.mk (Bs.mk 0 []) 0 none 41 68 2) (cdAt [1,1,0,1,0,0,1,1,0,0,1,1,0,0] (bodyOf Tryd.f68))) (Qblk 2 (Qblk 1 (Qthen (WY Tryd.prog cfK 2991 (Env.mk (Bs.mk 0 []) 0 none 41 68 0) (cdAt [1,1,0,1,0,0,1,1,1] (bodyOf Tryd.f68)) (Qla 0 [(1:Tmp),(2:Tmp),(3:Tmp),(11:Tmp),(12:Tmp)] J (Qblk 0 (Qthen (WY Tryd.prog cfK 2997 (Env.mk (Bs.mk 0 []) 0 none 41 68 0) (cdAt [1,1,1] (bodyOf Tryd.f68)) (QendX Tryd.prog Tryd.f68 fun v h=>R (frzW h v))) (QendX Tryd.prog Tryd.f68 fun v h=>R (frzW h v)))))) (Qla 0 [(1:Tmp),(2:Tmp),(3:Tmp),(11:Tmp),(12:Tmp)] J (Qblk 0 (Qthen (WY Tryd.prog cfK 2997 (Env.mk (Bs.mk 0 []) 0 none 41 68 0) (cdAt [1,1,1] (bodyOf Tryd.f68)) (QendX Tryd.prog Tryd.f68 fun v h=>R (frzW h v))) (QendX Tryd.prog Tryd.f68 fun v h=>R (frzW h v)))))))) (St.mk (mkT [(1,V.ptr (Id.p 0) 0 0),(2,V.ptr (Id.p 1) 0 0),(3,V.ptr (Id.p 2) 0 0),(4,iv (0:Int)),(11,iv x.2.1),(12,iv (0:Int)),(16,iv x.1),(17,iv (0:Int))]) (Hp.mk [(0,O.rows 4 false [[iv x.1,iv x.2.1,iv x.2.2.1,V.raw (Value.int IntKind.u8 (↑x.2.2.2:Int))]]),(1,O.rows 3 false [[nilS,nilS,iv (0:Int)]]),(2,O.rows 3 false [[nilS,nilS,iv (IntKind.i64.wrap (x.1 * x.2.1))]])] 3 []))) (R (V.agg [nilS,nilS,iv (IntKind.i64.wrap (x.1 * x.2.1))]))) (by kernel_rfl) ?_
  refine ifB_t (decide_eq_true (by omega)) ?_
  refine La.of (σ:=Nat) (fun k=>sh42i x k) (fun k=>k≤x.1.toNat) (fun k=>x.1.toNat - k) 0 (by kernel_rfl) (by simp) ?_
  intro k g2 J2 hJ2
  cases k with
  | zero =>
   refine see (p:=ifB (decide ((↑(0:Nat):Int)<x.1)) (J2 (St.mk (mkT [(1,V.ptr (Id.p 0) 0 0),(2,V.ptr (Id.p 1) 0 0),(3,V.ptr (Id.p 2) 0 0),(4,iv (0:Int)),(11,iv x.2.1),(12,iv (0:Int)),(16,iv x.1),(17,iv (1:Int))]) (Hp.mk [(0,O.rows 4 false [[iv x.1,iv x.2.1,iv x.2.2.1,V.raw (Value.int IntKind.u8 (↑x.2.2.2:Int))]]),(1,O.rows 3 false [[nilS,nilS,iv (0:Int)]]),(2,O.rows 3 false [[V.sl (Id.p 3) 0 1,V.sl (Id.p 4) 0 2,iv (IntKind.i64.wrap (x.1 * x.2.1))]]),(3,O.rows 3 true [[iv (0:Int),iv (0:Int),iv (0:Int)]]),(4,O.rows 5 true [[iv (0:Int),iv (0:Int),iv (0:Int),V.raw (Value.int IntKind.u8 (4:Int)),V.raw (Value.int IntKind.u8 (1:Int))],[iv (0:Int),iv (0:Int),iv (0:Int),V.raw (Value.int IntKind.u8 (5:Int)),V.raw (Value.int IntKind.u8 (2:Int))]])] 5 []))) (J (St.mk (mkT [(1,V.ptr (Id.p 0) 0 0),(2,V.ptr (Id.p 1) 0 0),(3,V.ptr (Id.p 2) 0 0),(11,iv x.2.1),(12,iv (1:Int))]) (Hp.mk [(0,O.rows 4 false [[iv x.1,iv x.2.1,iv x.2.2.1,V.raw (Value.int IntKind.u8 (↑x.2.2.2:Int))]]),(1,O.rows 3 false [[nilS,nilS,iv (0:Int)]]),(2,O.rows 3 false [[nilS,nilS,iv (IntKind.i64.wrap (x.1 * x.2.1))]])] 3 [])))) (by kernel_rfl) ?_
   refine ifB_t (decide_eq_true (by omega)) ?_
   have st:=step42 (x:=x) (y:=0) (k:=0) (by omega)
   refine hJ' ?_ (hJ2 1 (by omega) (by omega))
   simp only [sh42i,sh42q]
   simp only [Nat.zero_mul,Nat.zero_add] at st
   simp only [Nat.zero_add]
   rw [st.1,st.2]
   rfl
  | succ k =>
   refine see (p:=ifB (decide ((↑(k+1):Int)<x.1)) (need ((k+1+1) * 24≤140737488355328) (need ((2 * (k+1)+2) * 32≤140737488355328) (J2 (St.mk (mkT [(1,V.ptr (Id.p 0) 0 0),(2,V.ptr (Id.p 1) 0 0),(3,V.ptr (Id.p 2) 0 0),(4,iv (0:Int)),(11,iv x.2.1),(12,iv (0:Int)),(16,iv x.1),(17,iv (IntKind.i64.wrap ((↑(k+1):Int)+(1:Int))))]) (Hp.mk [(0,O.rows 4 false [[iv x.1,iv x.2.1,iv x.2.2.1,V.raw (Value.int IntKind.u8 (↑x.2.2.2:Int))]]),(1,O.rows 3 false [[nilS,nilS,iv (0:Int)]]),(2,O.rows 3 false [[V.sl (Id.p 3) 0 (k+1+1),V.sl (Id.p 4) 0 (2 * (k+1)+2),iv (IntKind.i64.wrap (x.1 * x.2.1))]]),(3,O.rows 3 true (List.take (k+1) (gcl x.1 (k+1))++[[iv (↑(k+1):Int),iv (0:Int),iv (0:Int)]])),(4,O.rows 5 true (List.take (2 * (k+1)) (gkn x.1 (k+1))++[[iv (↑(k+1):Int),iv (0:Int),iv (0:Int),V.raw (Value.int IntKind.u8 (4:Int)),V.raw (Value.int IntKind.u8 (1:Int))],[iv (↑(k+1):Int),iv (0:Int),iv (0:Int),V.raw (Value.int IntKind.u8 (5:Int)),V.raw (Value.int IntKind.u8 (2:Int))]]))] 5 []))))) (J (St.mk (mkT [(1,V.ptr (Id.p 0) 0 0),(2,V.ptr (Id.p 1) 0 0),(3,V.ptr (Id.p 2) 0 0),(11,iv x.2.1),(12,iv (1:Int))]) (Hp.mk [(0,O.rows 4 false [[iv x.1,iv x.2.1,iv x.2.2.1,V.raw (Value.int IntKind.u8 (↑x.2.2.2:Int))]]),(1,O.rows 3 false [[nilS,nilS,iv (0:Int)]]),(2,O.rows 3 false [[V.sl (Id.p 3) 0 (k+1),V.sl (Id.p 4) 0 (2 * (k+1)),iv (IntKind.i64.wrap (x.1 * x.2.1))]]),(3,O.rows 3 true (gcl x.1 (k+1))),(4,O.rows 5 true (gkn x.1 (k+1)))] 5 [])))) (by kernel_rfl) ?_
   refine ifB_mk (fun c=>?_) (fun c=>?_)
   ·have c:k+1<x.1.toNat:=by have:=of_decide_eq_true c; omega
    refine need_mk ⟨by omega,need_mk ⟨by omega,?_⟩⟩
    have st:=step42 (x:=x) (y:=0) (k:=k+1) c
    simp only [Nat.zero_mul,Nat.zero_add] at st
    rw [wr1i (n:=100) (by omega) (by omega)]
    refine hJ' ?_ (hJ2 (k+2) (by omega) (by omega))
    simp only [sh42i,sh42q]
    rw [st.1,st.2]
    rfl
   ·have c:k+1=x.1.toNat:=by have:=of_decide_eq_false c; omega
    refine hJ' ?_ (hJ 1 (by omega) (by omega))
    simp only [sh42o,sh42s]
    rw [show (0+1) * x.1.toNat=k+1 from by omega]
    rfl
 | succ y =>
  refine see (p:=ifB (decide ((↑(y+1):Int)<x.2.1)) (La 0 [(1:Tmp),(2:Tmp),(3:Tmp),(4:Tmp),(11:Tmp),(12:Tmp),(16:Tmp),(17:Tmp)] (WY Tryd.prog cfK 2986 (Env.mk (Bs.mk 0 []) 0 none 41 68 2) (cdAt [1,1,0,1,0,0,1,1,0,0,1,1,0,0] (bodyOf Tryd.f68))) (Qblk 2 (Qblk 1 (Qthen (WY Tryd.prog cfK 2991 (Env.mk (Bs.mk 0 []) 0 none 41 68 0) (cdAt [1,1,0,1,0,0,1,1,1] (bodyOf Tryd.f68)) (Qla 0 [(1:Tmp),(2:Tmp),(3:Tmp),(11:Tmp),(12:Tmp)] J (Qblk 0 (Qthen (WY Tryd.prog cfK 2997 (Env.mk (Bs.mk 0 []) 0 none 41 68 0) (cdAt [1,1,1] (bodyOf Tryd.f68)) (QendX Tryd.prog Tryd.f68 fun v h=>R (frzW h v))) (QendX Tryd.prog Tryd.f68 fun v h=>R (frzW h v)))))) (Qla 0 [(1:Tmp),(2:Tmp),(3:Tmp),(11:Tmp),(12:Tmp)] J (Qblk 0 (Qthen (WY Tryd.prog cfK 2997 (Env.mk (Bs.mk 0 []) 0 none 41 68 0) (cdAt [1,1,1] (bodyOf Tryd.f68)) (QendX Tryd.prog Tryd.f68 fun v h=>R (frzW h v))) (QendX Tryd.prog Tryd.f68 fun v h=>R (frzW h v)))))))) (St.mk (mkT [(1,V.ptr (Id.p 0) 0 0),(2,V.ptr (Id.p 1) 0 0),(3,V.ptr (Id.p 2) 0 0),(4,iv (↑(y+1):Int)),(11,iv x.2.1),(12,iv (↑(y+1):Int)),(16,iv x.1),(17,iv (0:Int))]) (Hp.mk [(0,O.rows 4 false [[iv x.1,iv x.2.1,iv x.2.2.1,V.raw (Value.int IntKind.u8 (↑x.2.2.2:Int))]]),(1,O.rows 3 false [[nilS,nilS,iv (0:Int)]]),(2,O.rows 3 false [[V.sl (Id.p 3) 0 ((y+1) * x.1.toNat),V.sl (Id.p 4) 0 (2 * ((y+1) * x.1.toNat)),iv (IntKind.i64.wrap (x.1 * x.2.1))]]),(3,O.rows 3 true (gcl x.1 ((y+1) * x.1.toNat))),(4,O.rows 5 true (gkn x.1 ((y+1) * x.1.toNat)))] 5 []))) (R (V.agg [V.lst 3 (sub (gcl x.1 ((y+1) * x.1.toNat)) 0 ((y+1) * x.1.toNat)),V.lst 5 (sub (gkn x.1 ((y+1) * x.1.toNat)) 0 (2 * ((y+1) * x.1.toNat))),iv (IntKind.i64.wrap (x.1 * x.2.1))]))) (by kernel_rfl) ?_
  refine ifB_mk (fun e=>?_) (fun e=>fin (y+1) (of_decide_eq_false e) g1)
  have e:=of_decide_eq_true e
  refine La.of (σ:=Nat) (fun k=>sh42q x (y+1) k ((y+1) * x.1.toNat+k)) (fun k=>k≤x.1.toNat) (fun k=>x.1.toNat - k) 0 (by kernel_rfl) (by simp) ?_
  intro k g2 J2 hJ2
  refine see (p:=ifB (decide ((↑k:Int)<x.1)) (need (((y+1) * x.1.toNat+k+1) * 24≤140737488355328) (need ((2 * ((y+1) * x.1.toNat+k)+2) * 32≤140737488355328) (J2 (St.mk (mkT [(1,V.ptr (Id.p 0) 0 0),(2,V.ptr (Id.p 1) 0 0),(3,V.ptr (Id.p 2) 0 0),(4,iv (↑(y+1):Int)),(11,iv x.2.1),(12,iv (↑(y+1):Int)),(16,iv x.1),(17,iv (IntKind.i64.wrap ((↑k:Int)+(1:Int))))]) (Hp.mk [(0,O.rows 4 false [[iv x.1,iv x.2.1,iv x.2.2.1,V.raw (Value.int IntKind.u8 (↑x.2.2.2:Int))]]),(1,O.rows 3 false [[nilS,nilS,iv (0:Int)]]),(2,O.rows 3 false [[V.sl (Id.p 3) 0 ((y+1) * x.1.toNat+k+1),V.sl (Id.p 4) 0 (2 * ((y+1) * x.1.toNat+k)+2),iv (IntKind.i64.wrap (x.1 * x.2.1))]]),(3,O.rows 3 true (List.take ((y+1) * x.1.toNat+k) (gcl x.1 ((y+1) * x.1.toNat+k))++[[iv (↑k:Int),iv (↑(y+1):Int),iv (0:Int)]])),(4,O.rows 5 true (List.take (2 * ((y+1) * x.1.toNat+k)) (gkn x.1 ((y+1) * x.1.toNat+k))++[[iv (↑k:Int),iv (↑(y+1):Int),iv (0:Int),V.raw (Value.int IntKind.u8 (4:Int)),V.raw (Value.int IntKind.u8 (1:Int))],[iv (↑k:Int),iv (↑(y+1):Int),iv (0:Int),V.raw (Value.int IntKind.u8 (5:Int)),V.raw (Value.int IntKind.u8 (2:Int))]]))] 5 []))))) (J (St.mk (mkT [(1,V.ptr (Id.p 0) 0 0),(2,V.ptr (Id.p 1) 0 0),(3,V.ptr (Id.p 2) 0 0),(11,iv x.2.1),(12,iv (IntKind.i64.wrap ((↑(y+1):Int)+(1:Int))))]) (Hp.mk [(0,O.rows 4 false [[iv x.1,iv x.2.1,iv x.2.2.1,V.raw (Value.int IntKind.u8 (↑x.2.2.2:Int))]]),(1,O.rows 3 false [[nilS,nilS,iv (0:Int)]]),(2,O.rows 3 false [[V.sl (Id.p 3) 0 ((y+1) * x.1.toNat+k),V.sl (Id.p 4) 0 (2 * ((y+1) * x.1.toNat+k)),iv (IntKind.i64.wrap (x.1 * x.2.1))]]),(3,O.rows 3 true (gcl x.1 ((y+1) * x.1.toNat+k))),(4,O.rows 5 true (gkn x.1 ((y+1) * x.1.toNat+k)))] 5 [])))) (by kernel_rfl) ?_
  refine ifB_mk (fun c=>?_) (fun c=>?_)
  ·have c:k<x.1.toNat:=by have:=of_decide_eq_true c; omega
   have hb:=hb (y+1) k e c
   refine need_mk ⟨by omega,need_mk ⟨by omega,?_⟩⟩
   have st:=step42 (x:=x) (y:=y+1) (k:=k) c
   rw [wr1i (n:=100) (by omega) (by omega)]
   refine hJ' ?_ (hJ2 (k+1) (by omega) (by omega))
   simp only [sh42q,← Nat.add_assoc]
   rw [st.1,st.2]
   rfl
  ·have c:k=x.1.toNat:=by have:=of_decide_eq_false c; omega
   rw [wr1i (i:=y+1) (n:=100) (by omega) (by omega)]
   refine hJ' ?_ (hJ (y+2) (by omega) (by omega))
   simp only [sh42o,sh42s]
   rw [show (y+1+1) * x.1.toNat=(y+1) * x.1.toNat+k from by rw [Nat.succ_mul,c]]
   rfl
set_option maxRecDepth 100000
def knd (x:Pt):List V:=[.lst 3 (gcl x.1 (x.1 * x.2.1).toNat),.lst 5 (gkn x.1 (x.1 * x.2.1).toNat),iv ((x.1 * x.2.1).toNat:Int)]
def kndl (l:List Pt):List (List V):=l.map knd
noncomputable def sh19n (l:List Pt) (k:Nat):St:=⟨mkT [(5,nilS),(13,V.lst 4 (ptl l)),(14,iv ((ptl l).length:Int)),(15,iv (k:Int))],⟨[],0,[]⟩⟩
noncomputable def sh19s (l q:List Pt) (k:Nat):St:=⟨mkT [(5,V.sl (Id.p 0) 0 q.length),(13,V.lst 4 (ptl l)),(14,iv ((ptl l).length:Int)),(15,iv (k:Int))],⟨[(0,O.rows 3 true (kndl q))],1,[]⟩⟩
set_option maxRecDepth 10000
theorem kndl_len (l:List Pt):(kndl l).length=l.length:=by simp [kndl]
theorem take_snoc {l:List Pt} {k:Nat} {x:Pt} (h:l[k]? = some x):l.take (k+1)=l.take k++[x]:=by rw [List.take_add_one,h]; rfl
theorem kndl_snoc (l:List Pt) (x:Pt):kndl (l++[x])=kndl l++[knd x]:=by simp [kndl]
def FitK (l:List Pt):Prop := ∀ (i:Nat) (x:Pt),l[i]? = some x→x.1 * x.2.1≤24
noncomputable def sh19 (l:List Pt) (k:Nat):St:=match k with | 0=>sh19n l 0 | k+1=>sh19s l (l.take (k+1)) (k+1)
theorem area {x:Pt} (h:POK x):1≤x.1 * x.2.1∧x.1 * x.2.1≤64:=by
 have a1:1 * 1≤x.1 * x.2.1:=Int.mul_le_mul h.1.1 h.2.1.1 (by omega) (by have:=h.1.1; omega)
 have a2:x.1 * x.2.1≤8 * 8:=Int.mul_le_mul (by have:=h.1.2; have:=h.2.1.2; omega) h.2.1.2 (by have:=h.2.1.1; omega) (by omega)
 omega
theorem eq19 {l:List Pt} {R:V→Prop}:(K0G Tryd.prog glX 18 [V.lst 4 (ptl l)] fun v=>onIntK IntKind.i64 v fun n=>ifB (n != (0:Int)) (R (V.tup [nilS,iv n])) (La 0 [(5:Tmp),(13:Tmp),(14:Tmp),(15:Tmp)] (WY Tryd.prog cfK 2993 (Env.mk (Bs.mk 0 []) 0 none 29 33 0) (cdAt [1,1,1,0,1,0,0] (bodyOf Tryd.f33))) (Qblk 0 (Qthen (WY Tryd.prog cfK 2996 (Env.mk (Bs.mk 0 []) 0 none 29 33 0) (cdAt [1,1,1,1] (bodyOf Tryd.f33)) (QendX Tryd.prog Tryd.f33 fun v h=>R (frzW h v))) (QendX Tryd.prog Tryd.f33 fun v h=>R (frzW h v)))) (St.mk (mkT [(5,nilS),(13,V.lst 4 (ptl l)),(14,iv (↑(ptl l).length:Int)),(15,iv (0:Int))]) (Hp.mk [] 0 []))))=WY0 Tryd.prog cfK 3000 33 Tryd.f33 [.lst 4 (ptl l)] R:=by kernel_rfl
theorem kinds19 {l:List Pt} {R:V→Prop} (h1 : ¬ PtOK l→R (.tup [nilS,iv 71])) (h2:PtOK l → ¬ FitK l→R (.tup [nilS,iv 2])) (h0:PtOK l→FitK l→R (.tup [.lst 3 (kndl l),iv 0])):K0G Tryd.prog glX 33 [.lst 4 (ptl l)] R:=by
 refine K0_by hmX hcK 3000 Tryd.func33 eq19 ?_
 refine check13 (fun q=>onIntK_iv (ifB_f rfl ?_)) (fun q=>onIntK_iv (ifB_t rfl (h1 q)))
 have h0:=h0 q
 have h2:=h2 q
 obtain ⟨⟨q1,q2⟩,q3,q4⟩:=q
 refine La.of (σ:=Nat) (fun k=>sh19 l k) (fun k=>k≤l.length ∧ ∀ (i:Nat) (x:Pt),i<k→l[i]? = some x→x.1 * x.2.1≤24) (fun k=>l.length - k) 0 (by kernel_rfl) ⟨by simp,fun i x hi=>by omega⟩ ?_
 rintro k ⟨g1,g2⟩ J hJ
 have go : ∀ x:Pt,l[k]? = some x→x.1 * x.2.1≤24→J (sh19s l (l.take (k+1)) (k+1)):=fun x hx hs=>hJ (k+1) ⟨by have:=(List.getElem?_eq_some_iff.1 hx).1; omega,fun i y hi hy=>by
  rcases Nat.lt_succ_iff_lt_or_eq.1 hi with r | r
  ·exact g2 i y r hy
  ·subst r; rw [hx] at hy; cases hy; exact hs⟩ (by have:=(List.getElem?_eq_some_iff.1 hx).1; omega)
 cases k with
 | zero =>
  refine see (p:=ifB (decide ((↑(0:Nat):Int)<(↑(ptl l).length:Int))) (onSome (ptl l)[0]? fun row=>onCons (List.drop 0 row) fun u r=>onIntK IntKind.i64 u fun n=>onCons r fun u r=>onIntK IntKind.i64 u fun n_1=>onCons r fun u r=>onIntK IntKind.i64 u fun n_2=>onCons r fun u r=>onIntK IntKind.u8 u fun n_3=>ifB (decide (IntKind.i64.wrap (n * n_1) > (24:Int))) (R (V.tup [nilS,iv (2:Int)])) (K0G Tryd.prog glX 68 [V.agg [iv n,iv n_1,iv n_2,V.raw (Value.int IntKind.u8 n_3)]] fun v=>onAgg v fun cs=>onCons cs fun u r=>onLst u fun s es=>onCons r fun u r=>onLst u fun s_1 es_1=>onCons r fun u r=>onIntK IntKind.i64 u fun n=>onNil r (J (St.mk (mkT [(5,V.sl (Id.p 0) 0 1),(13,V.lst 4 (ptl l)),(14,iv (↑(ptl l).length:Int)),(15,iv (1:Int))]) (Hp.mk [(0,O.rows 3 true [[V.lst s es,V.lst s_1 es_1,iv n]])] 1 []))))) (R (V.tup [nilS,iv (0:Int)]))) (by kernel_rfl) ?_
  refine ifB_t (by rw [ptl_length]; exact decide_eq_true (by simp; omega)) ?_
  obtain ⟨x,hx⟩:=getI (l:=l) (k:=0) (by omega)
  have hp:=q3 0 x hx
  have ha:=area hp
  refine onSome_mk (ptl_get hx) (onCons_cons (onIntK_iv (onCons_cons (onIntK_iv (onCons_cons (onIntK_iv (onCons_cons (onIntK_u8 ?_))))))))
  rw [wr (by omega) (by omega)]
  refine ifB_mk (fun c=>h2 fun f=>?_) (fun c=>?_)
  ·have:=f 0 x hx; have:=of_decide_eq_true c; omega
  have c:=of_decide_eq_false c
  refine kind42 (x:=x) hp (fun n hn _=>onAgg_agg (onCons_cons (onLst_lst (onCons_cons (onLst_lst (onCons_cons (onIntK_iv (onNil_nil ?_))))))))
  have hn' : n=(x.1 * x.2.1).toNat:=by omega
  subst hn'
  have e:l.take 1=[x]:=by rw [take_snoc hx]; rfl
  refine hJ' ?_ (go x hx (by omega))
  rw [e]
  rfl
 | succ k =>
  refine see (p:=ifB (decide ((↑(k+1):Int)<(↑(ptl l).length:Int))) (onSome (ptl l)[k+1]? fun row=>onCons (List.drop 0 row) fun u r=>onIntK IntKind.i64 u fun n=>onCons r fun u r=>onIntK IntKind.i64 u fun n_1=>onCons r fun u r=>onIntK IntKind.i64 u fun n_2=>onCons r fun u r=>onIntK IntKind.u8 u fun n_3=>ifB (decide (IntKind.i64.wrap (n * n_1) > (24:Int))) (R (V.tup [nilS,iv (2:Int)])) (K0G Tryd.prog glX 68 [V.agg [iv n,iv n_1,iv n_2,V.raw (Value.int IntKind.u8 n_3)]] fun v=>onAgg v fun cs=>onCons cs fun u r=>onLst u fun s es=>onCons r fun u r=>onLst u fun s_1 es_1=>onCons r fun u r=>onIntK IntKind.i64 u fun n=>onNil r (need (((List.take (k+1) l).length+1) * 56≤140737488355328) (J (St.mk (mkT [(5,V.sl (Id.p 0) 0 ((List.take (k+1) l).length+1)),(13,V.lst 4 (ptl l)),(14,iv (↑(ptl l).length:Int)),(15,iv (IntKind.i64.wrap ((↑(k+1):Int)+(1:Int))))]) (Hp.mk [(0,O.rows 3 true (List.take (List.take (k+1) l).length (kndl (List.take (k+1) l))++[[V.lst s es,V.lst s_1 es_1,iv n]]))] 1 [])))))) (R (V.tup [V.lst 3 (sub (kndl (List.take (k+1) l)) 0 (List.take (k+1) l).length),iv (0:Int)]))) (by kernel_rfl) ?_
  refine ifB_mk (fun hb=>?_) (fun hb=>?_) <;> rw [ptl_length] at hb
  ·have hlt:k+1<l.length:=by have:=of_decide_eq_true hb; omega
   obtain ⟨x,hx⟩:=getI hlt
   have hp:=q3 (k+1) x hx
   have ha:=area hp
   refine onSome_mk (ptl_get hx) (onCons_cons (onIntK_iv (onCons_cons (onIntK_iv (onCons_cons (onIntK_iv (onCons_cons (onIntK_u8 ?_))))))))
   rw [wr (n:=x.1 * x.2.1) (by omega) (by omega)]
   refine ifB_mk (fun c=>h2 fun f=>?_) (fun c=>?_)
   ·have:=f (k+1) x hx; have:=of_decide_eq_true c; omega
   have c:=of_decide_eq_false c
   refine kind42 (x:=x) hp (fun n hn _=>onAgg_agg (onCons_cons (onLst_lst (onCons_cons (onLst_lst (onCons_cons (onIntK_iv (onNil_nil ?_))))))))
   have hn' : n=(x.1 * x.2.1).toNat:=by omega
   subst hn'
   have hl:(l.take (k+1)).length=k+1:=by rw [List.length_take]; omega
   refine need_mk ⟨by rw [hl]; omega,?_⟩
   rw [wr1i (n:=100) (by omega) (by omega)]
   refine hJ' ?_ (go x hx (by omega))
   rw [take_snoc hx,take_len (kndl_len _)]
   simp only [sh19s]
   rw [kndl_snoc,List.length_append]
   rfl
  ·have hk:k+1=l.length:=by have:=of_decide_eq_false hb; omega
   rw [hk,List.take_length,sub_all (kndl_len _)]
   exact h0 fun i x hx=>g2 i x (by have:=(List.getElem?_eq_some_iff.1 hx).1; omega) hx
set_option maxRecDepth 100000
def kpE:FuncId→Nat→Option (List Tmp):=slotsOf [(34,0,[0,4,5,6000000]),(34,2,[0,4,5,6,7,6000000]),(34,4,[0,4,5,6,7,8,6000000])]
noncomputable def cfE:Cfg:={ cfgM Tryd.prog glX (fun _=>0) (fun _=>none) (inN []) kpE with fz:=fun f t=>Nat.beq f 34&&Nat.beq t 80 }
noncomputable def sh20n (l:List Pt) (k:Nat):St:=⟨mkT [(0,V.lst 4 (ptl l)),(4,nilS),(5,iv (k:Int))],⟨[],0,[]⟩⟩
noncomputable def sh20s (l q:List Pt) (k:Nat):St:=⟨mkT [(0,V.lst 4 (ptl l)),(4,V.sl (Id.p 0) 0 q.length),(5,iv (k:Int))],⟨[(0,O.rows 3 true (kndl q))],1,[]⟩⟩
noncomputable def kYn0 (l:List Pt) (k:Nat) (a:Int) (y:Nat):St:=⟨mkT [(0,V.lst 4 (ptl l)),(4,nilS),(5,iv (k:Int)),(6,V.ptr (Id.p 0) 0 0),(7,iv (y:Int))],⟨[(0,O.rows 3 false [[nilS,nilS,iv a]])],1,[]⟩⟩
noncomputable def kYn1 (l:List Pt) (k:Nat) (w a:Int) (y n:Nat):St:=⟨mkT [(0,V.lst 4 (ptl l)),(4,nilS),(5,iv (k:Int)),(6,V.ptr (Id.p 0) 0 0),(7,iv (y:Int))],⟨[(0,O.rows 3 false [[V.sl (Id.p 1) 0 n,V.sl (Id.p 2) 0 (2 * n),iv a]]),(1,O.rows 3 true (gcl w n)),(2,O.rows 5 true (gkn w n))],3,[]⟩⟩
noncomputable def kXn0 (l:List Pt) (k:Nat) (a:Int) (y:Nat) (x:Nat):St:=⟨mkT [(0,V.lst 4 (ptl l)),(4,nilS),(5,iv (k:Int)),(6,V.ptr (Id.p 0) 0 0),(7,iv (y:Int)),(8,iv (x:Int))],⟨[(0,O.rows 3 false [[nilS,nilS,iv a]])],1,[]⟩⟩
noncomputable def kXn1 (l:List Pt) (k:Nat) (w a:Int) (y n:Nat) (x:Nat):St:=⟨mkT [(0,V.lst 4 (ptl l)),(4,nilS),(5,iv (k:Int)),(6,V.ptr (Id.p 0) 0 0),(7,iv (y:Int)),(8,iv (x:Int))],⟨[(0,O.rows 3 false [[V.sl (Id.p 1) 0 n,V.sl (Id.p 2) 0 (2 * n),iv a]]),(1,O.rows 3 true (gcl w n)),(2,O.rows 5 true (gkn w n))],3,[]⟩⟩
noncomputable def kYs0 (l:List Pt) (q:List Pt) (k:Nat) (a:Int) (y:Nat):St:=⟨mkT [(0,V.lst 4 (ptl l)),(4,V.sl (Id.p 0) 0 q.length),(5,iv (k:Int)),(6,V.ptr (Id.p 1) 0 0),(7,iv (y:Int))],⟨[(0,O.rows 3 true (kndl q)),(1,O.rows 3 false [[nilS,nilS,iv a]])],2,[]⟩⟩
noncomputable def kYs1 (l:List Pt) (q:List Pt) (k:Nat) (w a:Int) (y n:Nat):St:=⟨mkT [(0,V.lst 4 (ptl l)),(4,V.sl (Id.p 0) 0 q.length),(5,iv (k:Int)),(6,V.ptr (Id.p 1) 0 0),(7,iv (y:Int))],⟨[(0,O.rows 3 true (kndl q)),(1,O.rows 3 false [[V.sl (Id.p 2) 0 n,V.sl (Id.p 3) 0 (2 * n),iv a]]),(2,O.rows 3 true (gcl w n)),(3,O.rows 5 true (gkn w n))],4,[]⟩⟩
noncomputable def kXs0 (l:List Pt) (q:List Pt) (k:Nat) (a:Int) (y:Nat) (x:Nat):St:=⟨mkT [(0,V.lst 4 (ptl l)),(4,V.sl (Id.p 0) 0 q.length),(5,iv (k:Int)),(6,V.ptr (Id.p 1) 0 0),(7,iv (y:Int)),(8,iv (x:Int))],⟨[(0,O.rows 3 true (kndl q)),(1,O.rows 3 false [[nilS,nilS,iv a]])],2,[]⟩⟩
noncomputable def kXs1 (l:List Pt) (q:List Pt) (k:Nat) (w a:Int) (y n:Nat) (x:Nat):St:=⟨mkT [(0,V.lst 4 (ptl l)),(4,V.sl (Id.p 0) 0 q.length),(5,iv (k:Int)),(6,V.ptr (Id.p 1) 0 0),(7,iv (y:Int)),(8,iv (x:Int))],⟨[(0,O.rows 3 true (kndl q)),(1,O.rows 3 false [[V.sl (Id.p 2) 0 n,V.sl (Id.p 3) 0 (2 * n),iv a]]),(2,O.rows 3 true (gcl w n)),(3,O.rows 5 true (gkn w n))],4,[]⟩⟩
end Go.Proofs.YtkkgicjioajimaaDoor
