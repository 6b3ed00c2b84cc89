/- A part of the proof. -/
import Derived.Test.YtkkgicjioajimaaDoorXA7G2
namespace Go.Proofs.YtkkgicjioajimaaDoor.Clean
set_option linter.unusedSimpArgs false
set_option linter.unusedVariables false
theorem Nu.add_old {ν:Nu} {b:Id} {r s n:Nat} {x:Nat×Nat×Nat} (hb:ν.at_ b=some x):(ν.add r s n).at_ b=some x:=by
 have:=ν.lt b x hb
 simp only [Nu.add]
 rw [if_neg (Id.ne_new this)]
 exact hb
theorem Nu.del_old {ν:Nu} {b b' : Id} {x:Nat×Nat×Nat} (hne:b' ≠ b) (hb:ν.at_ b' = some x):(ν.del b).at_ b' = some x:=by
 simp only [Nu.del]
 rw [if_neg hne]
 exact hb
section
variable {F:Nat→Prop} {w:World} {ν:Nu} {h:Hp}
theorem closedL_mem : ∀ {l:List V},closedL l=true → ∀ {u:V},u∈l→u.closed=true
 | [],_,u,hu=>by simp at hu
 | a::l,hcl,u,hu=>by
  simp only [closedL,Bool.and_eq_true] at hcl
  simp at hu
  rcases hu with rfl | hu
  ·exact hcl.1
  ·exact closedL_mem hcl.2 hu
theorem rowsC_ri {p:Bool} {c:Array Value} {s o:Nat} {es:List (List V)} (h1:rowsC (ri F w) c s es o):rowsC (repO F w ν p) c s es o:=by
 rw [rowsC_iff] at h1 ⊢
 intro i row hrow
 obtain ⟨g1,g2⟩:=h1 i row hrow
 refine ⟨g1,fun j v hj=>?_⟩
 obtain ⟨x,g3,g4,g5⟩:=g2 j v hj
 refine ⟨x,g3,g4,?_⟩
 unfold repO
 cases p
 ·exact ri_rep v x g5
 ·exact g5
theorem rowsC_and {p q:Bool} {c:Array Value} {s o:Nat} {es:List (List V)} (h1:rowsC (repO F w ν p) c s es o):rowsC (repO F w ν (p&&q)) c s es o:=by
 rw [rowsC_iff] at h1 ⊢
 intro i row hrow
 obtain ⟨g1,g2⟩:=h1 i row hrow
 exact ⟨g1,fun j v hj=>let ⟨x,g3,g4,g5⟩:=g2 j v hj; ⟨x,g3,g4,repO_and g5⟩⟩
theorem fill_rows {ρV:Operand→V} {ρ:Operand→Value} (hρ : ∀ x,rep F w ν (ρV x) (ρ x)) (hk:HeapOK ν F h w) {p:Bool} {s:Nat} {K:List (List V)→Prop} :
  ∀ (parts:List (Nat×Operand)) (es:List (List V)) (c:Array Value),rowsC (repO F w ν p) c s es 0→c.size=es.length * s →
   fillRows p s h es (parts.map fun p=>(p.1,ρV p.2)) K →
   ∃ es' c', K es' ∧ Instr.fill (fun i=>some (i * s,s)) c (parts.map fun p=>(p.1,ρ p.2))=some c' ∧ rowsC (repO F w ν p) c' s es' 0∧c'.size=es'.length * s∧es'.length=es.length
 | [],es,c,h1,h2,hf=>⟨es,c,by simpa [fillRows] using hf,by simp [Instr.fill],h1,h2,rfl⟩
 | (i,x)::parts,es,c,h1,h2,hf=>by
  simp only [List.map,fillRows,onSome_iff,guardB_iff,Bool.and_eq_true] at hf
  obtain ⟨cs,hcs,⟨⟨⟨hl,hlt⟩,ho⟩,hcl⟩,hf⟩:=hf
  have hl:=beq_eq hl
  have hlt:i<es.length:=Nat.le_of_ble_eq_true hlt
  have hcells:=rep_cells (hρ x) hcs hk ho
  have hvl:(ρ x).cells.size=s:=by have:=repL_length hcells; simp at this; omega
  have hseg:(i+1) * s≤es.length * s:=Nat.mul_le_mul_right _ hlt
  rw [Nat.add_mul,Nat.one_mul] at hseg
  let c' : Array Value:=(ρ x).cells.zipIdx.foldl (fun cs (c,j)=>cs.setIfInBounds (i * s+j) c) c
  have hfold:=foldl_set (i * s) (ρ x).cells.toList 0 c
  have hc' : c' = ((ρ x).cells.toList.zipIdx 0).foldl (fun (cs:Array Value) (p:Value×Nat)=>cs.setIfInBounds (i * s+p.2) p.1) c:=by
   simp only [c', ← Array.foldl_toList,Array.toList_zipIdx]
  rw [← hc'] at hfold
  rw [rowsC_iff] at h1
  have hrow:rowsC (repO F w ν p) c' s (es.set i cs) 0:=by
   rw [rowsC_iff]
   intro i' r' hr'
   rw [List.getElem?_set] at hr'
   by_cases hii:i=i'
   ·subst hii
    simp [hlt] at hr'
    subst hr'
    refine ⟨hl,fun j u hj=>?_⟩
    have hjs:j<cs.length:=(List.getElem?_eq_some_iff.1 hj).1
    obtain ⟨z,z1,z2⟩:=repL_get hcells j u hj
    rw [Nat.zero_add,hfold.2,if_pos ⟨by omega,by simp [hvl]; omega,by omega⟩]
    refine ⟨z,by rw [show i * s+j - (i * s+0)=j by omega]; exact z1,rep_one hk z2 ?_,repO_of z2 (fun hp=>closedL_mem (by simpa [hp] using hcl) (List.mem_of_getElem? hj))⟩
    simp only [allOne,List.all_eq_true] at ho
    exact ho _ (List.mem_of_getElem? hj)
   ·rw [if_neg hii] at hr'
    obtain ⟨k1,k2⟩:=h1 i' r' hr'
    refine ⟨k1,fun j u hj=>?_⟩
    obtain ⟨z,z1,z2⟩:=k2 j u hj
    refine ⟨z,?_,z2⟩
    have hjs:j<s:=by have:=(List.getElem?_eq_some_iff.1 hj).1; omega
    have hvl' : (ρ x).cells.toList.length=s:=by simpa using hvl
    rw [hfold.2]
    rcases Nat.lt_or_gt_of_ne hii with hlt' | hgt
    ·have:=Nat.mul_le_mul_right s (show i+1≤i' from hlt')
     rw [Nat.add_mul,Nat.one_mul] at this
     rw [if_neg (by omega)]; exact z1
    ·have:=Nat.mul_le_mul_right s (show i' + 1≤i from hgt)
     rw [Nat.add_mul,Nat.one_mul] at this
     rw [if_neg (by omega)]; exact z1
  obtain ⟨es', c'', q1,q2,q3,q4,q5⟩:=fill_rows hρ hk parts (es.set i cs) c' hrow (by rw [hfold.1,h2]; simp) hf
  refine ⟨es', c'', q1,?_,q3,q4,by rw [q5]; simp⟩
  have hcond : ¬ ((ρ x).cells.size≠s∨i * s+(ρ x).cells.size > c.size):=by omega
  simp only [List.map,Instr.fill]
  rw [if_neg (by simp only [Bool.or_eq_true,decide_eq_true_eq]; exact hcond)]
  exact q2
theorem repO_ri {p:Bool} {v:V} {x:Value} (hr:ri F w v x):repO F w ν p v x:=by
 cases p
 ·exact ri_rep v x hr
 ·exact hr
theorem zero_rows {z:List V} {x:Value} (hz:riL F w z x.cells.toList) (hs:x.cells.size=z.length) (hone : ∀ u∈x.cells.toList,u.oneCell' = true) (len:Nat) (zc:Array Value) (hzc:len * z.length≠0→zc=x.cells) :
  rowsC (ri F w) ((Array.range (len * z.length)).map (fun q=>zc[q % zc.size]!)) z.length (List.replicate len z) 0:=by
 rw [rowsC_iff]
 intro i r hr
 rw [List.getElem?_replicate] at hr
 split at hr
 ·rename_i hi
  simp at hr
  subst hr
  refine ⟨rfl,fun j v hj=>?_⟩
  have hjl:j<z.length:=(List.getElem?_eq_some_iff.1 hj).1
  have hseg:=Nat.mul_le_mul_right z.length (show i+1≤len from hi)
  rw [Nat.add_mul,Nat.one_mul] at hseg
  have hzc' := hzc (by omega)
  have hz' := riL_repL (ν:=⟨fun _=>none,0,fun _=>0,by simp,fun _=>false,by simp⟩) _ _ hz
  obtain ⟨y,y1,y2⟩:=repL_get hz' j v hj
  have hcl : ∀ {vs:List V} {xs:List Value},riL F w vs xs → ∀ (j:Nat) (v:V) (y:Value),vs[j]? = some v→xs[j]? = some y→ri F w v y:=by
   intro vs
   induction vs with
   | nil=>intro xs _ j v y hv; simp at hv
   | cons a vs ih =>
    intro xs hxs j v y hv hy
    simp only [riL] at hxs
    obtain ⟨b,bs,rfl,q1,q2⟩:=hxs
    cases j with
    | zero=>simp at hv hy; subst hv; subst hy; exact q1
    | succ j=>simp at hv hy; exact ih q2 j v y hv hy
  refine ⟨y,?_,hone y (List.mem_of_getElem? y1),hcl hz j v y hj y1⟩
  have hq:(0+i * z.length+j) % zc.size=j:=by
   rw [hzc', hs,Nat.zero_add,Nat.mul_comm,Nat.mul_add_mod,Nat.mod_eq_of_lt hjl]
  have hlt:0+i * z.length+j<len * z.length:=by omega
  have hjz:j<zc.size:=by rw [hzc', hs]; exact hjl
  have hy:x.cells[j]? = some y:=by simpa using y1
  rw [Array.getElem?_map,Array.getElem?_range,if_pos hlt]
  simp only [Option.map_some,hq]
  rw [getElem!_pos zc j hjz]
  subst hzc'
  rw [Array.getElem?_eq_getElem hjz] at hy
  exact hy
 ·simp at hr
theorem one_of_all {z:List V} {x:Value} (hk:HeapOK ν F h w) (hz:riL F w z x.cells.toList) (ho:allOne h z=true) (hs:x.cells.size=z.length) : ∀ u∈x.cells.toList,u.oneCell' = true:=by
 intro u hu
 obtain ⟨j,hj⟩:=List.mem_iff_getElem?.1 hu
 have hjl:j<z.length:=by have:=(List.getElem?_eq_some_iff.1 hj).1; simp at this; omega
 obtain ⟨y,q1,q2⟩:=repL_get (riL_repL (ν:=ν) _ _ hz) j z[j] (List.getElem?_eq_getElem hjl)
 rw [hj] at q1
 simp at q1
 subst q1
 simp only [allOne,List.all_eq_true] at ho
 exact rep_one hk q2 (ho _ (List.getElem_mem hjl))
theorem e_buildSlice {P:Program} {ρV:Operand→V} {ρ:Operand→Value} (hρ : ∀ x,rep F w ν (ρV x) (ρ x)) (hk:HeapOK ν F h w) {t:TypeId} {len:Nat} {parts:Array (Nat×Operand)} {tch:Id→Bool} {k:V→Hp→Prop}
  (hh:wBuildSlice P h t len (parts.toList.map fun p=>(p.1,ρV p.2)) k):EV P F ν w tch (Instr.buildSlice t len (parts.map fun (i,x)=>(i,ρ x))) k:=by
 unfold wBuildSlice at hh
 rw [onSome_iff] at hh
 obtain ⟨d,hd,hh⟩:=hh
 split at hh
 ·rename_i e
  simp only [onSome_iff,guardB_iff,Bool.and_eq_true,zeroRow,Option.bind_eq_some_iff] at hh
  obtain ⟨inf,hi,z,⟨x,hx,hz⟩,⟨⟨hl,ho⟩,hle⟩,hf⟩:=hh
  have hl:=beq_eq hl
  have hle:=Nat.le_of_ble_eq_true hle
  obtain ⟨hzc,hzs⟩:=ofValue_cells (F:=F) (w:=w) hz ho
  have h0:=zero_rows hzc hzs (one_of_all hk hzc ho hzs) len (if len * z.length=0 then #[] else x.cells) (fun hne=>by rw [if_neg hne])
  obtain ⟨es', c', q1,q2,q3,q4,q5⟩:=fill_rows hρ hk (p:=partsClosed (parts.toList.map fun p=>(p.1,ρV p.2))) (s:=z.length) parts.toList _ _ (rowsC_ri h0) (by simp) (by rw [hl]; exact hf)
  have hn:=heap_new (w' := { w with heap:=w.heap.push (.cells c' e) }) hk (partsClosed (parts.toList.map fun p=>(p.1,ρV p.2))) inf.size es' c' e rfl (by rw [← hl]; omega) (by rw [← hl]; exact q3)
  have hlen:es'.length=len:=by rw [q5]; simp
  refine ⟨.slice (some ⟨w.heap.size,0,none⟩) len len,_,_,.sl (.p h.nxt) 0 len,_,?_,q1,hn.1,?_,hn.2,fun b y hb _=>still_new hk b y hb⟩
  ·have hmap:(parts.map fun (i,x)=>(i,ρ x)).toList=parts.toList.map fun p=>(p.1,ρ p.2):=by simp
   have hmul : ¬ (16777216<len * inf.size):=by omega
   have hq2:=q2
   rw [hl] at hq2
   by_cases hz0:len * inf.size=0
   ·simp only [hz0,if_true] at hq2
    simp [Instr.buildSlice,run_underlying hd,sizeOf,typeInfo,hi,hz0,hmul]
    simp at hq2
    rw [hq2]
    simp [newRow_run]
   ·simp only [hz0,if_false] at hq2
    simp [Instr.buildSlice,run_underlying hd,sizeOf,typeInfo,zeroValue,hi,hx,hz0,hmul]
    rw [hq2]
    simp [newRow_run]
  ·simp only [rep]
   refine ⟨⟨by simp only [Nu.add,hk.nxt]; exact Id.lt_new _ _,fun hq=>by simp [Nu.add,hk.nxt] at hq⟩,fun r s n hat=>?_⟩
   simp only [Nu.add,hk.nxt,if_true] at hat
   simp at hat
   obtain ⟨rfl,rfl,rfl⟩:=hat
   refine ⟨by omega,len,Nat.le_refl _,by simp,c', e,(0,0),?_,by rw [q4,hlen,← hl]; simp⟩
   show (w.heap.push _)[w.heap.size]? = _
   rw [Array.getElem?_push,if_pos rfl]
 ·exact hh.elim
def RowsW (R:V→Value→Prop) (w:World) (r o s:Nat) (es:List (List V)):Prop :=
 ∀ i row,es[i]? = some row→row.length=s ∧ ∀ j v,row[j]? = some v → ∃ x,w.cell? ⟨r,o+i * s+j,none⟩=some x∧x.oneCell' = true∧R v x
theorem RowsW.list {R:V→Value→Prop} {r o s:Nat} {es:List (List V)} (hs:s≠0) (hr:RowsW R w r o s es) :
  ∃ news:List Value,news.length=es.length * s∧(∀ j u,news[j]? = some u→w.cell? ⟨r,o+j,none⟩=some u)∧(∀ u∈news,u.oneCell' = true)∧rowsC R news.toArray s es 0:=by
 have cell : ∀ j,j<es.length * s → ∃ x,w.cell? ⟨r,o+j,none⟩=some x∧x.oneCell' = true:=by
  intro j hj
  have hi:j / s<es.length:=Nat.div_lt_of_lt_mul (by rw [Nat.mul_comm]; exact hj)
  have hm:j % s<s:=Nat.mod_lt _ (Nat.pos_of_ne_zero hs)
  obtain ⟨g1,g2⟩:=hr (j / s) es[j / s] (List.getElem?_eq_getElem hi)
  obtain ⟨x,g3,g4,_⟩:=g2 (j % s) es[j / s][j % s] (List.getElem?_eq_getElem (by omega))
  refine ⟨x,?_,g4⟩
  rw [← g3]
  congr 2
  have:=Nat.div_add_mod j s
  rw [Nat.mul_comm] at this
  omega
 refine ⟨(List.range (es.length * s)).map fun j=>(w.cell? ⟨r,o+j,none⟩).getD undef,by simp,fun j u hj=>?_,fun u hu=>?_,?_⟩
 ·rw [List.getElem?_map] at hj
  by_cases hlt:j<es.length * s
  ·obtain ⟨x,hx,_⟩:=cell j hlt
   rw [List.getElem?_range hlt] at hj
   simp [hx] at hj
   rw [hx,hj]
  ·rw [List.getElem?_eq_none (by simpa using hlt)] at hj
   simp at hj
 ·simp only [List.mem_map,List.mem_range] at hu
  obtain ⟨j,hj,rfl⟩:=hu
  obtain ⟨x,hx,h1⟩:=cell j hj
  simpa [hx] using h1
 ·rw [rowsC_iff]
  intro i row hrow
  obtain ⟨g1,g2⟩:=hr i row hrow
  refine ⟨g1,fun j v hj=>?_⟩
  obtain ⟨x,g3,g4,g5⟩:=g2 j v hj
  refine ⟨x,?_,g4,g5⟩
  have hjs:j<s:=by have:=(List.getElem?_eq_some_iff.1 hj).1; omega
  have hil:=(List.getElem?_eq_some_iff.1 hrow).1
  have hseg:=Nat.mul_le_mul_right s (show i+1≤es.length from hil)
  rw [Nat.add_mul,Nat.one_mul] at hseg
  have hlt:0+i * s+j<es.length * s:=by omega
  simp only [List.getElem?_toArray,List.getElem?_map,List.getElem?_range hlt,Option.map_some]
  rw [show o+(0+i * s+j)=o+i * s+j by omega,g3]
  rfl
theorem rowsC_append {R:V→Value→Prop} {s:Nat} {a b:List Value} {es fs:List (List V)} (hl:a.length=es.length * s) (h1:rowsC R a.toArray s es 0) (h2:rowsC R b.toArray s fs 0):rowsC R (a++b).toArray s (es++fs) 0:=by
 rw [rowsC_iff] at h1 h2 ⊢
 intro i row hrow
 by_cases hi:i<es.length
 ·rw [List.getElem?_append_left hi] at hrow
  obtain ⟨g1,g2⟩:=h1 i row hrow
  refine ⟨g1,fun j v hj=>?_⟩
  obtain ⟨x,g3,g4⟩:=g2 j v hj
  refine ⟨x,?_,g4⟩
  have:=lt_of_some g3
  simp only [List.getElem?_toArray] at g3 ⊢
  rw [List.getElem?_append_left (by simpa using this)]
  exact g3
 ·rw [List.getElem?_append_right (by omega)] at hrow
  obtain ⟨g1,g2⟩:=h2 _ row hrow
  refine ⟨g1,fun j v hj=>?_⟩
  obtain ⟨x,g3,g4⟩:=g2 j v hj
  refine ⟨x,?_,g4⟩
  simp only [List.getElem?_toArray] at g3 ⊢
  have hm:i * s=es.length * s+(i - es.length) * s:=by rw [← Nat.add_mul]; congr 1; omega
  rw [List.getElem?_append_right (by omega),← g3]
  congr 1
  omega
theorem rowsC_more {R:V→Value→Prop} {s:Nat} {c c' : Array Value} {es:List (List V)} (h1:rowsC R c s es 0) (hm : ∀ (q:Nat) x,c[q]? = some x→q<es.length * s→c'[q]? = some x):rowsC R c' s es 0:=by
 rw [rowsC_iff] at h1 ⊢
 intro i row hrow
 obtain ⟨g1,g2⟩:=h1 i row hrow
 refine ⟨g1,fun j v hj=>?_⟩
 obtain ⟨x,g3,g4⟩:=g2 j v hj
 have hjs:j<s:=by have:=(List.getElem?_eq_some_iff.1 hj).1; omega
 have hil:=(List.getElem?_eq_some_iff.1 hrow).1
 have hseg:=Nat.mul_le_mul_right s (show i+1≤es.length from hil)
 rw [Nat.add_mul,Nat.one_mul] at hseg
 exact ⟨x,hm _ x g3 (by omega),g4⟩
theorem rowsW_own (hk:HeapOK ν F h w) {b:Id} {r s n:Nat} {p:Bool} {es:List (List V)} (hb:h.get b=some (.rows s p es)) (hat:ν.at_ b=some (r,s,n)):RowsW (repO F w ν p) w r 0 s es:=by
 obtain ⟨_,g2,c,el,g3,g4,g5⟩:=hk.blkR hb hat
 rw [rowsC_iff] at g5
 intro i row hrow
 obtain ⟨k1,k2⟩:=g5 i row hrow
 refine ⟨k1,fun j v hj=>?_⟩
 obtain ⟨x,k3,k4⟩:=k2 j v hj
 exact ⟨x,by rw [cell_of_row w r _ c el (0,0) g3]; exact k3,k4⟩
theorem RowsW.sub {R:V→Value→Prop} {r o s:Nat} {es:List (List V)} (hr:RowsW R w r o s es) (lo n:Nat):RowsW R w r (o+lo * s) s (sub es lo n):=by
 intro i row hrow
 simp only [Clean.sub,List.getElem?_take,List.getElem?_drop] at hrow
 split at hrow
 ·obtain ⟨k1,k2⟩:=hr _ row hrow
  refine ⟨k1,fun j v hj=>?_⟩
  obtain ⟨x,k3,k4⟩:=k2 j v hj
  refine ⟨x,?_,k4⟩
  rw [← k3]
  congr 2
  rw [Nat.add_mul]; omega
 ·simp at hrow
theorem src_rows {P:Program} (hk:HeapOK ν F h w) {s:Nat} (hs:s≠0) {y:V} {y' : Value} (hy:rep F w ν y y') {tx e' : TypeId} (htx:P.underlying tx=some (.slice e')) {K:Bool→List (List V)→Prop} (hh:wRows h s y K) :
  ∃ q ys news,K q ys∧Src P s tx y' ys.length news w∧rowsC (repO F w ν q) news.toArray s ys 0:=by
 unfold wRows at hh
 split at hh
 ·rename_i s' es
  rw [guardB_iff] at hh
  simp only [rep,ri] at hy
  rcases hy with ⟨rfl,rfl⟩ | ⟨⟨r,o,sp⟩,cap,hcap,rfl,hr⟩
  ·exact ⟨true,[],[],hh.2,Src.ofNil w htx 0,by simp [rowsC]⟩
  ·by_cases hne:es=[]
   ·subst hne
    refine ⟨true,[],[],hh.2,Src.ofSlice w htx ⟨r,o,sp⟩ 0 cap [] (by simp) (by simp) (by simp),by simp [rowsC]⟩
   ·obtain ⟨hsp,hF,hrows⟩:=hr.resolve_left hne
    simp only at hsp hF hrows
    subst hsp
    have:=emp_or' hh.1 hne
    subst this
    have hrw:RowsW (ri F w) w r o s' es:=by rw [riRows_iff] at hrows; exact hrows
    obtain ⟨news,g1,g2,g3,g4⟩:=hrw.list hs
    exact ⟨true,es,news,hh.2,Src.ofSlice w htx ⟨r,o,none⟩ es.length cap news g1 (fun j u hj=>by rw [add_lit]; exact g2 j u hj) g3,g4⟩
 ·rename_i b lo len
  rw [onRows_iff] at hh
  obtain ⟨s', p,es,hb,hh⟩:=hh
  simp only [guardB_iff] at hh
  obtain ⟨hs', hK⟩:=hh
  have hs' := beq_eq hs'
  subst hs'
  simp only [rep] at hy
  by_cases hph:ν.ph b=true
  ·obtain ⟨rfl,rfl,rfl⟩:=hy.1.2 hph
   exact ⟨p,_,[],hK,by simpa [sub] using Src.ofNil w htx 0,by simp [sub,rowsC]⟩
  obtain ⟨⟨r,s'', n⟩,hat⟩:=hk.domP b _ hb (by simpa using hph)
  obtain ⟨rfl,g2,_⟩:=hk.blkR hb hat
  obtain ⟨hle,cap,hcap,⟨o', ho', rfl⟩,_⟩:=hy.2 r s' n hat
  have hrw:RowsW (repO F w ν p) w r o' s' (sub es lo len):=by
   rcases ho' with h | ⟨h,_⟩
   ·rw [h]; simpa using (rowsW_own hk hb hat).sub lo len
   ·intro i row hrow
    have:len=0:=by omega
    subst this
    simp [sub] at hrow
  have hlen:(sub es lo len).length=len:=by simp [sub]; omega
  obtain ⟨news,q1,q2,q3,q4⟩:=hrw.list hs
  refine ⟨p,_,news,hK,?_,q4⟩
  rw [hlen]
  rw [hlen] at q1
  exact Src.ofSlice w htx ⟨r,o', none⟩ len cap news q1 (fun j u hj=>by rw [add_lit]; simpa using q2 j u hj) q3
 ·rename_i c
  simp only [rep] at hy
  subst hy
  exact ⟨true,[],[],hh,Src.ofNil w htx c,by simp [rowsC]⟩
 ·exact hh.elim
theorem grownCap_size (w:World) (need old:Nat) (e:TypeId):need≤grownCap w need old e:=grownCap_ge w need old e
theorem zeroCells_size (zero:Array Value) (n:Nat):(Builtin.zeroCells zero n).size=n * zero.size:=by simp [Builtin.zeroCells]
theorem heap_phput (hk:HeapOK ν F h w) {b:Id} {s:Nat} {p0:Bool} {es0:List (List V)} (hb:h.get b=some (.rows s p0 es0)) {p:Bool} (hpo:putOK b p=true) (hp:ν.ph b=true):HeapOK ν F (h.put b (.rows s p [])) w∧Evo ν F w ν F w:=by
 refine ⟨⟨?_,?_,hk.inj,hk.frz,by rw [put_nxt]; exact hk.nxt,put_cnt hk _ _⟩,Evo.refl ν F w⟩
 ·intro b' r s' n hat
  have hne:b' ≠ b:=fun he=>by have:=ν.phx b' _ hat; rw [he,hp] at this; cases this
  obtain ⟨o,g1,g2⟩:=hk.blk b' r s' n hat
  exact ⟨o,by rw [Hp.get_put hb hpo,if_neg hne]; exact g1,g2⟩
 ·intro b' o' ho
  rw [Hp.get_put hb hpo] at ho
  by_cases he:b' = b
  ·rw [if_pos he] at ho
   simp at ho
   exact .inr ⟨by rw [he]; exact hp,s,p,ho.symm⟩
  ·rw [if_neg he] at ho; exact hk.dom b' o' ho
theorem nil_append {P:Program} (hk:HeapOK ν F h w) {t tx ty e:TypeId} {inf:TypeInfo} {z:List V} {zx:Value} (hd:P.underlying t=some (.slice e)) (hi:P.info? e=some inf) (hzx:inf.zero=some zx) (hz:(V.ofValue zx).cells=some z) (hl:z.length=inf.size)
  (hs0:inf.size≠0) (hb0:inf.bytes≠0) {y' : Value} {ys:List (List V)} {news:List Value} (hsrc:Src P inf.size tx y' ys.length news w) {p:Bool} (hnews:rowsC (repO F w ν p) news.toArray inf.size ys 0) (hroom:ys.length * inf.bytes≤140737488355328) :
  ∃ x w' ν', (Builtin.append_ #[t,tx] ty #[.slice none 0 0,y']).run P w = .ok x w' ∧ HeapOK ν' F (h.add (.rows inf.size p ys)) w' ∧ rep F w' ν' (.sl (.p h.nxt) 0 ys.length) x∧Evo ν F w ν' F w' ∧ (∀ b y,ν.at_ b=some y→w'.heap[y.1]? = w.heap[y.1]? ∧ ν'.at_ b=some y):=by
 have hnl:news.length=ys.length * inf.size:=hsrc.newsLen
 by_cases hne:ys=[]
 ·subst hne
  have hn0:news=[]:=List.eq_nil_of_length_eq_zero (by simpa using hnl)
  subst hn0
  obtain ⟨kh,eh⟩:=heap_ph hk inf.size p
  refine ⟨.slice none 0 0,w,ν.addPh,?_,kh,?_,eh,fun b y hb=>⟨rfl,?_⟩⟩
  ·rcases hsrc.kind with ⟨e', htx⟩ | htx <;> (have hc:=hsrc.cells; simp only [List.length_nil] at hc; simp [Builtin.append_,run_underlying hd,run_underlying htx,sizeOf,typeInfo,hi,hsrc.len,hc])
  ·simp only [rep,List.length_nil]
   refine ⟨⟨by simp [Nu.addPh,hk.nxt,Id.lt],by simp⟩,fun r s n hat=>?_⟩
   simp [Nu.addPh,hk.nxt] at hat
  ·have:=ν.lt b _ hb
   simp only [Nu.addPh]
   rw [if_neg (Id.ne_new this)]; exact hb
 ·have hpos:0<ys.length:=List.length_pos_iff.2 hne
  have h63:((0+ys.length:Nat):Int)≤9223372036854775807:=by
   have:ys.length≤ys.length * inf.bytes:=Nat.le_mul_of_pos_right _ (Nat.pos_of_ne_zero hb0)
   omega
  have hgr:=run_append_grow_src (P:=P) w t tx ty e inf zx hd hi hzx none 0 0 [] (run_firstCells_none w.drew inf.size 0 0 0) y' ys.length news hsrc (by omega) h63 (growslice_fits (by omega) (by simpa using hroom))
  obtain ⟨ks,es2⟩:=heap_same (w' := w.drew) hk rfl rfl rfl rfl
  have hzsize:zx.cells.size=inf.size:=by
   have:zx.cells.size=z.length:=by
    cases zx <;> simp only [V.ofValue,V.cells,Option.some.injEq,reduceCtorEq] at hz <;> subst hz <;> simp [Value.cells]
   omega
  have hg:=grownCap_size w (0+ys.length) 0 e
  simp only [Nat.zero_add,List.nil_append] at hg hgr
  have hcsize:(news.toArray++Builtin.zeroCells zx.cells (grownCap w ys.length 0 e - ys.length)).size=grownCap w ys.length 0 e * inf.size:=by
   rw [Array.size_append,zeroCells_size,hzsize]
   simp only [List.size_toArray,hnl]
   rw [← Nat.add_mul]
   congr 1
   omega
  have hn:=heap_new (w' := w.drew.alloc (.cells (news.toArray++Builtin.zeroCells zx.cells (grownCap w ys.length 0 e - ys.length)) e)) ks p inf.size ys _ e rfl
   (by rw [hcsize]; exact Nat.mul_le_mul_right _ hg)
   (by
    refine rowsC_more (c:=news.toArray) ?_ (fun q u hq _=>?_)
    ·exact rowsC_evo hk es2 hnews
    ·rw [Array.getElem?_append_left (lt_of_some hq)]; exact hq)
  refine ⟨_,_,_,hgr,hn.1,?_,es2.trans hn.2,fun b' y hb' => ?_⟩
  ·simp only [rep]
   refine ⟨⟨by simp only [Nu.add,hk.nxt]; exact Id.lt_new _ _,fun hq=>by simp [Nu.add,hk.nxt] at hq⟩,fun r' s' n' hat' => ?_⟩
   simp only [Nu.add,hk.nxt,if_true] at hat'
   simp at hat'
   obtain ⟨rfl,rfl,rfl⟩:=hat'
   exact ⟨by omega,_,hg,by simp,_,e,(0,0),heap_alloc_new _ _,by rw [hcsize]; simp⟩
  ·obtain ⟨q1,q2⟩:=still_new (c:=news.toArray++Builtin.zeroCells zx.cells (grownCap w ys.length 0 e - ys.length)) (el:=e) (s:=inf.size) (n:=ys.length) ks b' y hb'
   exact ⟨q1,q2⟩
theorem heap_below {F' : Nat→Prop} {w' : World} (hk:HeapOK ν F h w) (hb:BelowD w.heap.size w w') (h1 : ∀ r,F r→F' r) (h2 : ∀ r,F' r→F r∨w.heap.size≤r) (h3 : ∀ r,F' r→r<w'.heap.size) :
  HeapOK ν F' h w' ∧ Evo ν F w ν F' w' := by
 have own_lt : ∀ r,ν.own r→r<w.heap.size:=fun r ho=>hk.own_lt ho
 have e:Evo ν F w ν F' w' := ⟨hb.os,hb.tape,hb.output,hb.size,fun r hr _=>hb.block r hr,h1,fun r hr=>(h2 r hr).elim .inl (fun h => .inr (.inr h)),fun r hr => .inl hr,fun _ _ _ h=>h,Nat.le_refl _,fun _=>Nat.le_refl _,fun _ _ h=>h,
  fun b r s n hat _ c el fr hc=>⟨c,by rw [hb.block r (lt_of_some hc)]; exact hc,rfl⟩,hb.drawn⟩
 refine ⟨⟨fun b r s n hat=>?_,hk.dom,hk.inj,fun r hr=>⟨h3 r hr,fun ho=>?_⟩,hk.nxt,hk.cnt⟩,e⟩
 ·obtain ⟨o,g1,g2⟩:=hk.blk b r s n hat
  exact ⟨o,g1,obl_evo hk e (hb.block r (hk.at_lt hat)) g2⟩
 ·rcases h2 r hr with h | h
  ·exact (hk.frz r h).2 ho
  ·have:=own_lt r ho; omega
theorem lsx_append {P:Program} (hk:HeapOK ν F h w) {t tx ty e:TypeId} {inf:TypeInfo} {z:List V} {zx:Value} (hd:P.underlying t=some (.slice e)) (hi:P.info? e=some inf) (hzx:inf.zero=some zx) (hz:(V.ofValue zx).cells=some z) (hl:z.length=inf.size)
  (hs0:inf.size≠0) (hb0:inf.bytes≠0) {y' : Value} {ys:List (List V)} {news:List Value} (hsrc:Src P inf.size tx y' ys.length news w) (hnews:rowsC (ri F w) news.toArray inf.size ys 0) {s:Nat} {es:List (List V)} {x' : Value} (hsz:es≠[]→s=inf.size) (hx:ri F w (.lsx s es) x') (hroom:(es.length+ys.length) * inf.bytes≤140737488355328) :
  ∃ u w' F', (Builtin.append_ #[t,tx] ty #[x', y']).run P w = .ok u w' ∧ HeapOK ν F' h w' ∧ rep F' w' ν (.lst inf.size (es++ys)) u∧Evo ν F w ν F' w' ∧ (∀ b y,ν.at_ b=some y→w'.heap[y.1]? = w.heap[y.1]? ∧ ν.at_ b=some y):=by
 have hnl:news.length=ys.length * inf.size:=hsrc.newsLen
 obtain ⟨base,olds,rfl,ho,hold,horows⟩ : ∃ (base:Option Addr) (olds:List Value),x' = .slice base es.length es.length∧olds.length=es.length * inf.size∧(Builtin.firstCells inf.size es.length (.slice base es.length es.length)).run P w.drew = .ok olds.toArray w.drew∧rowsC (ri F w) olds.toArray inf.size es 0:=by
  simp only [ri] at hx
  rcases hx with ⟨rfl,rfl⟩ | ⟨⟨r,o,sp⟩,rfl,hr⟩
  ·exact ⟨none,[],rfl,by simp,run_firstCells_none w.drew inf.size 0 0 0,by simp [rowsC]⟩
  ·by_cases hne:es=[]
   ·subst hne
    exact ⟨_,[],rfl,by simp,run_firstCells_some (P:=P) w.drew inf.size 0 ⟨r,o,sp⟩ 0 0 [] (by simp) (by simp),by simp [rowsC]⟩
   ·obtain ⟨hsp,hF,hrows⟩:=hr.resolve_left hne
    simp only at hsp hF hrows
    subst hsp
    have:=hsz hne
    subst this
    have hrw:RowsW (ri F w) w r o inf.size es:=by rw [riRows_iff] at hrows; exact hrows
    obtain ⟨olds,g1,g2,g3,g4⟩:=hrw.list hs0
    exact ⟨_,olds,rfl,g1,run_firstCells_some (P:=P) w.drew inf.size es.length ⟨r,o,none⟩ es.length es.length olds g1 (fun j u hj=>by rw [add_lit]; exact g2 j u hj),g4⟩
 by_cases hne:ys=[]
 ·subst hne
  have hn0:news=[]:=List.eq_nil_of_length_eq_zero (by simpa using hnl)
  subst hn0
  refine ⟨.slice base es.length es.length,w,F,?_,hk,?_,Evo.refl _ _ _,fun b y hb=>⟨rfl,hb⟩⟩
  ·rcases hsrc.kind with ⟨e', htx⟩ | htx <;> (have hc:=hsrc.cells; simp only [List.length_nil] at hc; cases base <;> simp [Builtin.append_,run_underlying hd,run_underlying htx,sizeOf,typeInfo,hi,hsrc.len,hc,storeCells])
  ·rw [List.append_nil]
   simp only [rep,ri] at hx ⊢
   rcases hx with ⟨rfl,h2⟩ | ⟨a,h2,h3⟩
   ·exact .inl ⟨rfl,h2⟩
   ·refine .inr ⟨a,es.length,Nat.le_refl _,h2,?_⟩
    by_cases he:es=[]
    ·exact .inl he
    ·have:=hsz he
     subst this
     exact h3
 ·have hpos:0<ys.length:=List.length_pos_iff.2 hne
  have h63:((es.length+ys.length:Nat):Int)≤9223372036854775807:=by
   have:es.length+ys.length≤(es.length+ys.length) * inf.bytes:=Nat.le_mul_of_pos_right _ (Nat.pos_of_ne_zero hb0)
   omega
  have hgr:=run_append_grow_src (P:=P) w t tx ty e inf zx hd hi hzx base es.length es.length olds hold y' ys.length news hsrc (by omega) h63 (growslice_fits (by omega) (by simpa using hroom))
  have hzsize:zx.cells.size=inf.size:=by
   have:zx.cells.size=z.length:=by
    cases zx <;> simp only [V.ofValue,V.cells,Option.some.injEq,reduceCtorEq] at hz <;> subst hz <;> simp [Value.cells]
   omega
  have hg:=grownCap_size w (es.length+ys.length) es.length e
  obtain ⟨cells,hcells⟩ : ∃ c,c=(olds++news).toArray++Builtin.zeroCells zx.cells (grownCap w (es.length+ys.length) es.length e - (es.length+ys.length)):=⟨_,rfl⟩
  rw [← hcells] at hgr
  have hcr:rowsC (ri F w) cells inf.size (es++ys) 0:=by
   rw [hcells]
   refine rowsC_more (c:=(olds++news).toArray) (rowsC_append ho horows hnews) (fun q u hq _=>?_)
   rw [Array.getElem?_append_left (lt_of_some hq)]; exact hq
  have hbel:BelowD w.heap.size w (w.drew.alloc (.cells cells e)):=by
   refine ⟨⟨rfl,rfl,rfl,?_,fun k hk=>?_⟩,Nat.le_succ _⟩
   ·show w.heap.size≤(w.heap.push _).size; simp
   ·show (w.heap.push _)[k]? = _; rw [Array.getElem?_push,if_neg (by omega)]
  have hlast:(w.drew.alloc (.cells cells e)).heap[w.heap.size]? = some (.cells cells e (0,0)):=by
   show (w.heap.push _)[w.heap.size]? = _; rw [Array.getElem?_push,if_pos rfl]
  obtain ⟨kh,ke⟩:=heap_below (F' := fun r=>F r∨r=w.heap.size) hk hbel (fun r h => .inl h) (fun r h=>h.imp id (fun h=>by omega)) (fun r h=>by
   show r<(w.heap.push _).size
   rw [Array.size_push]
   rcases h with h | h
   ·have:=(hk.frz r h).1; omega
   ·omega)
  refine ⟨_,_,_,hgr,kh,?_,ke,fun b y hb=>⟨hbel.block _ ?_,hb⟩⟩
  ·simp only [rep,ri]
   refine .inr ⟨⟨w.heap.size,0,none⟩,_,by rw [List.length_append]; exact hg,by rw [List.length_append],.inr ⟨rfl,.inr rfl,?_⟩⟩
   rw [riRows_iff]
   rw [rowsC_iff] at hcr
   intro i row hrow
   obtain ⟨k1,k2⟩:=hcr i row hrow
   refine ⟨k1,fun j v hj=>?_⟩
   obtain ⟨y,k3,k4,k5⟩:=k2 j v hj
   refine ⟨y,?_,k4,ri_mono (fun q hq => .inl hq) (fun q hq=>?_) v y k5⟩
   ·simp only [World.cell?,hlast]
    exact k3
   ·exact hbel.block q (hk.frz q hq).1
  ·exact hk.at_lt hb
theorem e_append {P:Program} (hk:HeapOK ν F h w) {t tx ty e' : TypeId} (htx:P.underlying tx=some (.slice e')) {x y:V} {x' y' : Value} {tch:Id→Bool} {k:V→Hp→Prop} (hx:rep F w ν x x') (hy:rep F w ν y y')
  (ht : ∀ b lo len,x = .sl b lo len → ∀ b', tch b' = false→b' ≠ b) (hh:wAppend P h t x y k):EVF P F ν w tch (Builtin.append_ #[t,tx] ty #[x', y']) k:=by
 unfold wAppend at hh
 rw [onSome_iff] at hh
 obtain ⟨d,hd,hh⟩:=hh
 split at hh
 ·rename_i e
  simp only [onSome_iff,guardB_iff,Bool.and_eq_true,zeroRow,Option.bind_eq_some_iff] at hh
  obtain ⟨inf,hi,z,⟨zx,hzx,hz⟩,⟨⟨hl,hsz⟩,hby⟩,hh⟩:=hh
  have hl:=beq_eq hl
  have hs0:inf.size≠0:=fun h0=>by simp [h0] at hsz
  have hb0:inf.bytes≠0:=fun h0=>by simp [h0] at hby
  obtain ⟨q,ys,news,hh2,hsrc,hnews⟩:=src_rows (P:=P) hk hs0 hy htx hh
  clear hh
  have hh:=hh2
  clear hh2
  split at hh
  ·refine EV.toF ?_
   rename_i b lo len
   rw [onRows_iff] at hh
   obtain ⟨s,p,es,hb,hh⟩:=hh
   try simp only [guardB_iff,need_iff] at hh
   obtain ⟨hs', hroom,hK⟩:=hh
   obtain ⟨hne,hK,hK2⟩:(lo≠0→0<ys.length)∧k (.sl (.p h.nxt) lo (len+ys.length)) ((h.del b).add (.rows s (p&&q) (es.take (lo+len)++ys)))∧k (.sl (.p h.nxt) 0 (len+ys.length)) ((h.del b).add (.rows s (p&&q) (sub es lo len++ys))):=by
    cases lo with
    | zero =>
     have hK:k (.sl (.p h.nxt) 0 (len+ys.length)) ((h.del b).add (.rows s (p&&q) (es.take len++ys))):=hK
     rw [Nat.zero_add,show sub es 0 len=es.take len from by simp [sub]]
     exact ⟨fun h=>absurd rfl h,hK,hK⟩
    | succ n =>
     have hK:(!ys.isEmpty)=true∧_:=hK
     obtain ⟨hK0,hK⟩:=hK
     exact ⟨fun _=>List.length_pos_iff.2 (fun h=>by rw [h] at hK0; cases hK0),hK⟩
   have hs' := beq_eq hs'
   subst hs'
   simp only [rep] at hx
   by_cases hph:ν.ph b=true
   ·obtain ⟨rfl,rfl,rfl⟩:=hx.1.2 hph
    obtain ⟨s', p', he⟩ : ∃ s' p', O.rows inf.size p es = .rows s' p' []:=by
     rcases hk.dom b _ hb with ⟨⟨r,s'', n⟩,hat⟩ | ⟨_,h⟩
     ·obtain ⟨_,cap,_,⟨_,_,hbad⟩,_⟩:=hx.2 r s'' n hat
      cases hbad
     ·exact h
    simp only [O.rows.injEq] at he
    obtain ⟨_,_,rfl⟩:=he
    obtain ⟨kd,ed⟩:=heap_del hk b
    obtain ⟨u,w', ν', g1,g2,g3,g4,g5⟩:=nil_append (P:=P) (h:=h.del b) kd hd hi hzx hz (by omega) hs0 hb0 hsrc (p:=p&&q) (rowsC_evo hk ed (by have:=rowsC_and (q:=p) hnews; rwa [Bool.and_comm q p] at this)) (by simpa using hroom) (t:=t) (tx:=tx) (ty:=ty)
    refine ⟨u,w', ν', .sl (.p h.nxt) 0 ys.length,_,g1,by simpa using hK,g2,by simpa using g3,ed.trans g4,fun b' y hb' htc=>?_⟩
    have hne:=ht b 0 0 rfl b' htc
    exact g5 b' y (Nu.del_old hne hb')
   obtain ⟨⟨r,s'', n⟩,hat⟩:=hk.domP b _ hb (by simpa using hph)
   obtain ⟨rfl,g2,c,el,g3,g4,g5⟩:=hk.blkR hb hat
   obtain ⟨hle,cap,hcap,⟨o', ho', rfl⟩,c2,el2,fr2,hc2,hcs2⟩:=hx.2 r inf.size _ hat
   rw [g3] at hc2
   simp at hc2
   obtain ⟨rfl,rfl,rfl⟩:=hc2
   have htake:(es.take (lo+len)).length=lo+len:=by simp; omega
   have hnl:news.length=ys.length * inf.size:=hsrc.newsLen
   by_cases hfit:len+ys.length≤cap
   ·
    have ho:=ho'.resolve_right (fun h=>by have:=hne h.2; omega)
    subst ho
    have hbound:(lo+len) * inf.size+0+news.length≤c.size:=by
     have:=Nat.mul_le_mul_right inf.size hfit
     rw [Nat.add_mul] at this hcs2 ⊢
     omega
    have hrun:=run_storeCells_at (P:=P) r ((lo+len) * inf.size) el news 0 c w g3 hbound hsrc.one
    simp only [Nat.add_zero] at hrun hbound
    let c' : Array Value:=(c.toList.take ((lo+len) * inf.size)++news++c.toList.drop ((lo+len) * inf.size+news.length)).toArray
    have hc'get : ∀ q,c'[q]? = if q<(lo+len) * inf.size then c[q]? else if q<(lo+len) * inf.size+news.length then news[q - (lo+len) * inf.size]? else c[q]? := by
     intro q
     have:=splice c.toList news ((lo+len) * inf.size) q (by simpa using hbound)
     simp only [c', List.getElem?_toArray,this]
     simp
    have hc'size:c'.size=c.size:=by
     simp only [c', List.size_toArray,List.length_append,List.length_take,List.length_drop,Array.length_toList]
     omega
    have hrows:rowsC (repO F w ν (p&&q)) c' inf.size (es.take (lo+len)++ys) 0:=by
     rw [rowsC_iff]
     intro i row hrow
     by_cases hil:i<lo+len
     ·rw [List.getElem?_append_left (by omega),List.getElem?_take,if_pos hil] at hrow
      have g5' := rowsC_and (q:=q) g5
      rw [rowsC_iff] at g5'
      obtain ⟨k1,k2⟩:=g5' i row hrow
      refine ⟨k1,fun j v hj=>?_⟩
      obtain ⟨u,k3,k4⟩:=k2 j v hj
      refine ⟨u,?_,k4⟩
      have hjs:j<inf.size:=by have:=(List.getElem?_eq_some_iff.1 hj).1; omega
      have hseg:=Nat.mul_le_mul_right inf.size (show i+1≤lo+len from hil)
      rw [Nat.add_mul,Nat.one_mul] at hseg
      rw [hc'get,if_pos (by omega)]
      exact k3
     ·rw [List.getElem?_append_right (by omega),htake] at hrow
      have hnews:=rowsC_and (q:=p) hnews
      rw [Bool.and_comm q p] at hnews
      rw [rowsC_iff] at hnews
      obtain ⟨k1,k2⟩:=hnews _ row hrow
      refine ⟨k1,fun j v hj=>?_⟩
      obtain ⟨u,k3,k4⟩:=k2 j v hj
      refine ⟨u,?_,k4⟩
      have hjs:j<inf.size:=by have:=(List.getElem?_eq_some_iff.1 hj).1; omega
      have hm:i * inf.size=(lo+len) * inf.size+(i - (lo+len)) * inf.size:=by rw [← Nat.add_mul]; congr 1; omega
      have hlt:=lt_of_some k3
      simp only [List.getElem?_toArray,List.size_toArray] at k3 hlt
      rw [hc'get,if_neg (by omega),if_pos (by omega),← k3]
      congr 1
      omega
    have hmv:=heap_move (w' := w.setRow r c') hk (b0:=b) (r0:=r) (s0:=inf.size) (n0:=n) (p:=p&&q) (es' := es.take (lo+len)++ys) (c:=c) (c' := c') (el:=el) hat g3 (setRow_heap w r c c' el (0,0) g3)
     (fun q hq=>setRow_other w r q c' hq) (setRow_size w r c') rfl rfl rfl (by
      rw [hc'size,List.length_append,htake,Nat.add_mul,Nat.add_mul]
      have:=Nat.mul_le_mul_right inf.size hfit
      rw [Nat.add_mul] at this hcs2
      omega) hrows
    refine ⟨.slice (some ⟨r,lo * inf.size,none⟩) (len+ys.length) cap,_,_,.sl (.p h.nxt) lo (len+ys.length),_,?_,hK,hmv.1,?_,hmv.2,fun b' y hb' htc=>?_⟩
    ·have hst:(storeCells ⟨r,lo * inf.size+len * inf.size,none⟩ news).run P w = .ok () (w.setRow r c'):=by rw [← Nat.add_mul]; exact hrun
     simp [Builtin.append_,run_underlying hd,run_underlying htx,sizeOf,typeInfo,hi,hsrc.len,hfit,hsrc.cells,add_lit,hst]
    ·simp only [rep]
     refine ⟨⟨by simp only [Nu.add,Nu.del,hk.nxt]; exact Id.lt_new _ _,fun hq=>by simp [Nu.add,Nu.del,hk.nxt] at hq⟩,fun r' s' n' hat' => ?_⟩
     simp only [Nu.add,Nu.del,hk.nxt,if_true] at hat'
     simp at hat'
     obtain ⟨rfl,rfl,rfl⟩:=hat'
     exact ⟨by omega,cap,hfit,⟨_,.inl rfl,rfl⟩,c', el,(0,0),setRow_heap w r c c' el (0,0) g3,by rw [hc'size]; exact hcs2⟩
    ·have hne:=ht b lo len rfl b' htc
     obtain ⟨r', s', n'⟩:=y
     refine ⟨setRow_other w r r' c' (fun heq=>hne (hk.inj b' b r' s' n' inf.size n hb' (by rw [heq]; exact hat))),?_⟩
     exact Nu.add_old (Nu.del_old hne hb')
   ·
    have hold0:RowsW (repO F w ν p) w r o' inf.size (sub es lo len):=by
     rcases ho' with h | ⟨h,_⟩
     ·rw [h]; simpa using (rowsW_own hk hb hat).sub lo len
     ·intro i row hrow
      have:len=0:=by omega
      subst this
      simp [sub] at hrow
    have htake:(sub es lo len).length=len:=by simp [sub]; omega
    obtain ⟨olds,o1,o2,o3,o4⟩:=hold0.list hs0
    rw [htake] at o1
    have hold:=run_firstCells_some (P:=P) w.drew inf.size len ⟨r,o', none⟩ len cap olds o1 (fun j u hj=>by rw [add_lit]; exact o2 j u hj)
    have h63:((len+ys.length:Nat):Int)≤9223372036854775807:=by
     have:len+ys.length≤(len+ys.length) * inf.bytes:=Nat.le_mul_of_pos_right _ (Nat.pos_of_ne_zero hb0)
     omega
    have hgr:=run_append_grow_src (P:=P) w t tx ty e inf zx hd hi hzx (some ⟨r,o', none⟩) len cap olds hold y' ys.length news hsrc (by omega) h63 (growslice_fits (by omega) hroom)
    have hzs:=(ofValue_cells (F:=F) (w:=w) (h:=h) hz)
    obtain ⟨kd,ed⟩:=heap_del hk b
    obtain ⟨ks,es2⟩:=heap_same (w' := w.drew) kd rfl rfl rfl rfl
    have hzsize:zx.cells.size=inf.size:=by
     have:zx.cells.size=z.length:=by
      cases zx <;> simp only [V.ofValue,V.cells,Option.some.injEq,reduceCtorEq] at hz <;> subst hz <;> simp [Value.cells]
     omega
    have hg:=grownCap_size w (len+ys.length) cap e
    have hcsize:((olds++news).toArray++Builtin.zeroCells zx.cells (grownCap w (len+ys.length) cap e - (len+ys.length))).size=grownCap w (len+ys.length) cap e * inf.size:=by
     rw [Array.size_append,zeroCells_size,hzsize]
     simp only [List.size_toArray,List.length_append,o1,hnl]
     rw [← Nat.add_mul,← Nat.add_mul]
     congr 1
     omega
    have hn:=heap_new (w' := w.drew.alloc (.cells ((olds++news).toArray++Builtin.zeroCells zx.cells (grownCap w (len+ys.length) cap e - (len+ys.length))) e)) ks (p&&q) inf.size (sub es lo len++ys) _ e rfl
     (by rw [hcsize,List.length_append,htake]; exact Nat.mul_le_mul_right _ hg)
     (by
      have e1:Evo ν F w (ν.del b) F w.drew:=ed.trans es2
      refine rowsC_more (c:=(olds++news).toArray) (rowsC_append (by rw [o1,htake]) ?_ ?_) (fun q u hq _=>?_)
      ·exact rowsC_evo hk e1 (rowsC_and (q:=q) o4)
      ·have:=rowsC_and (q:=p) hnews
       rw [Bool.and_comm q p] at this
       exact rowsC_evo hk e1 this
      ·rw [Array.getElem?_append_left (lt_of_some hq)]; exact hq)
    refine ⟨_,_,_,.sl (.p h.nxt) 0 (len+ys.length),_,hgr,hK2,hn.1,?_,ed.trans (es2.trans hn.2),fun b' y hb' htc=>?_⟩
    ·simp only [rep]
     refine ⟨⟨by simp only [Nu.add,Nu.del,hk.nxt]; exact Id.lt_new _ _,fun hq=>by simp [Nu.add,Nu.del,hk.nxt] at hq⟩,fun r' s' n' hat' => ?_⟩
     simp only [Nu.add,Nu.del,hk.nxt,if_true] at hat'
     simp at hat'
     obtain ⟨rfl,rfl,rfl⟩:=hat'
     refine ⟨by simp; omega,_,hg,by simp,_,e,(0,0),heap_alloc_new _ _,by rw [hcsize]; simp⟩
    ·have hne:=ht b lo len rfl b' htc
     have hb'' : (ν.del b).at_ b' = some y:=by simp only [Nu.del]; rw [if_neg hne]; exact hb'
     obtain ⟨q1,q2⟩:=still_new (c:=(olds++news).toArray++Builtin.zeroCells zx.cells (grownCap w (len+ys.length) cap e - (len+ys.length))) (el:=e) (s:=inf.size) (n:=(sub es lo len++ys).length) ks b' y hb''
     exact ⟨q1,q2⟩
  ·refine EV.toF ?_
   simp only [need_iff] at hh
   obtain ⟨hroom,hK⟩:=hh
   simp only [rep] at hx
   subst hx
   obtain ⟨u,w', ν', g1,g2,g3,g4,g5⟩:=nil_append (P:=P) hk hd hi hzx hz (by omega) hs0 hb0 hsrc (p:=q) hnews hroom (t:=t) (tx:=tx) (ty:=ty)
   exact ⟨u,w', ν', .sl (.p h.nxt) 0 ys.length,_,g1,hK,g2,g3,g4,fun b y hb _=>g5 b y hb⟩
  ·
   rename_i s es
   simp only [guardB_iff,need_iff,Bool.and_eq_true] at hh
   obtain ⟨⟨hse,hq⟩,hroom,hK⟩:=hh
   subst hq
   simp only [rep] at hx
   obtain ⟨u,w', F', g1,g2,g3,g4,g5⟩:=lsx_append (P:=P) hk hd hi hzx hz (by omega) hs0 hb0 hsrc hnews (emp_or' hse) hx hroom (t:=t) (tx:=tx) (ty:=ty)
   exact ⟨F', u,w', ν,.lst inf.size (es++ys),_,g1,hK,g2,g3,g4,fun b y hb _=>g5 b y hb⟩
  ·exact hh.elim
 ·exact hh.elim
theorem e_appendZ {P:Program} (hk:HeapOK ν F h w) {t tx ty:TypeId} {kx:IntKind} (htx:P.underlying tx=some (.int kx)) {x y:V} {x' y' : Value} {tch:Id→Bool} {k:V→Hp→Prop} (hx:rep F w ν x x') (hy:rep F w ν y y')
  (hh:wAppendZ P h t x y k):EV P F ν w tch (Builtin.append_ #[t,tx] ty #[x', y']) k:=by
 unfold wAppendZ at hh
 split at hh
 ·rename_i ky n
  simp only [rep] at hx hy
  subst hx; subst hy
  simp only [onNat_iff,onSome_iff] at hh
  obtain ⟨n,rfl,d,hd,hh⟩:=hh
  split at hh
  ·rename_i e
   simp only [onSome_iff,guardB_iff,need_iff,Bool.and_eq_true,zeroRow,Option.bind_eq_some_iff] at hh
   obtain ⟨inf,hi,z,⟨zx,hzx,hz⟩,⟨⟨⟨hl,hsz⟩,hby⟩,ho⟩,hroom,hK⟩:=hh
   have hl:=beq_eq hl
   have hs0:inf.size≠0:=fun h0=>by simp [h0] at hsz
   have hb0:inf.bytes≠0:=fun h0=>by simp [h0] at hby
   have hle:n≤n * inf.bytes:=Nat.le_mul_of_pos_right _ (Nat.pos_of_ne_zero hb0)
   have hw:IntKind.i64.wrap (n:Int)=n:=by rw [IntKind.wrap_i64]; omega
   by_cases hn0:n=0
   ·subst hn0
    obtain ⟨kh,eh⟩:=heap_ph hk inf.size true
    refine ⟨.slice none 0 0,w,ν.addPh,.sl (.p h.nxt) 0 0,_,?_,by simpa using hK,by simpa using kh,?_,eh,fun b y hb _=>⟨rfl,?_⟩⟩
    ·simp [Builtin.append_,run_underlying hd,run_underlying htx,sizeOf,typeInfo,hi,asInt,asIntOf,hw]
     rw [show IntKind.i64.wrap 0=0 by rw [IntKind.wrap_i64]; omega]
     simp
    ·simp only [rep]
     refine ⟨⟨by simp [Nu.addPh,hk.nxt,Id.lt],by simp⟩,fun r s n hat=>?_⟩
     simp [Nu.addPh,hk.nxt] at hat
    ·have:=ν.lt b _ hb
     simp only [Nu.addPh]
     rw [if_neg (Id.ne_new this)]; exact hb
   ·have hneg : ¬ ((n:Int)<0):=by omega
    have h63' : ¬ (9223372036854775807<(n:Int)):=by omega
    have h48i : ¬ (281474976710656<(n:Int) * (inf.bytes:Int)):=by
     rw [← Int.natCast_mul]; omega
    have hfit:Builtin.nextslicecap n 0 * inf.bytes≤281474976710656:=growslice_fits (by omega) hroom
    have h48' : ¬ (281474976710656<Builtin.nextslicecap n 0 * inf.bytes):=by omega
    have hns:n * inf.size≠0:=Nat.mul_ne_zero hn0 hs0
    obtain ⟨hzc,hzs⟩:=ofValue_cells (F:=F) (w:=w) hz ho
    have hzsize:zx.cells.size=inf.size:=by omega
    have hg:=grownCap_size w n 0 e
    have hgr:(Builtin.append_ #[t,tx] ty #[.slice none 0 0,.int ky n]).run P w = .ok (.slice (some ⟨w.heap.size,0,none⟩) n (grownCap w n 0 e))
      (w.drew.alloc (.cells (Builtin.zeroCells zx.cells n++Builtin.zeroCells zx.cells (grownCap w n 0 e - n)) e)):=by
     have hf:=run_firstCells_none (P:=P) w.drew inf.size 0 0 0
     simp [Builtin.append_,run_underlying hd,run_underlying htx,sizeOf,typeInfo,zeroValue,hi,hzx,asInt,asIntOf,hw,hneg,h63', h48i,h48', hn0,hs0,Question.forced,newRow,grownCap,hf]
     intro h0
     exact (hns h0).elim
    obtain ⟨ks,es2⟩:=heap_same (w' := w.drew) hk rfl rfl rfl rfl
    have hcsize:(Builtin.zeroCells zx.cells n++Builtin.zeroCells zx.cells (grownCap w n 0 e - n)).size=grownCap w n 0 e * inf.size:=by
     rw [Array.size_append,zeroCells_size,zeroCells_size,hzsize,← Nat.add_mul]
     congr 1
     omega
    have h0:=zero_rows hzc hzs (one_of_all hk hzc ho hzs) n zx.cells (fun _=>rfl)
    rw [hl] at h0
    have hzcell:Builtin.zeroCells zx.cells n=(Array.range (n * inf.size)).map (fun q=>zx.cells[q % zx.cells.size]!):=by
     simp [Builtin.zeroCells,hzsize]
    have hn:=heap_new (w' := w.drew.alloc (.cells (Builtin.zeroCells zx.cells n++Builtin.zeroCells zx.cells (grownCap w n 0 e - n)) e)) ks true inf.size (List.replicate n z) _ e rfl
     (by rw [hcsize,List.length_replicate]; exact Nat.mul_le_mul_right _ hg)
     (by
      refine rowsC_more (c:=Builtin.zeroCells zx.cells n) ?_ (fun q u hq _=>?_)
      ·refine rowsC_evo hk es2 (rowsC_ri (p:=true) ?_)
       rw [hzcell]; exact h0
      ·rw [Array.getElem?_append_left (lt_of_some hq)]; exact hq)
    refine ⟨_,_,_,.sl (.p h.nxt) 0 n,_,hgr,hK,hn.1,?_,es2.trans hn.2,fun b' y hb' _=>?_⟩
    ·simp only [rep]
     refine ⟨⟨by simp only [Nu.add,hk.nxt]; exact Id.lt_new _ _,fun hq=>by simp [Nu.add,hk.nxt] at hq⟩,fun r' s' n' hat' => ?_⟩
     simp only [Nu.add,hk.nxt,if_true] at hat'
     simp at hat'
     obtain ⟨rfl,rfl,rfl⟩:=hat'
     exact ⟨by omega,_,hg,by simp,_,e,(0,0),heap_alloc_new _ _,by rw [hcsize]; simp⟩
    ·obtain ⟨q1,q2⟩:=still_new (c:=Builtin.zeroCells zx.cells n++Builtin.zeroCells zx.cells (grownCap w n 0 e - n)) (el:=e) (s:=inf.size) (n:=(List.replicate n z).length) ks b' y hb'
     exact ⟨q1,q2⟩
  ·exact hh.elim
 ·exact hh.elim
theorem e_makeSlice {P:Program} (hk:HeapOK ν F h w) {t:TypeId} {l c:V} {l' c' : Value} {tch:Id→Bool} {k:V→Hp→Prop} (hl:rep F w ν l l') (hc:rep F w ν c c')
  (hh:wMakeSlice P h t l c k):EV P F ν w tch (Instr.makeSlice t l' c') k:=by
 unfold wMakeSlice at hh
 split at hh
 ·rename_i kl l kc c
  simp only [rep] at hl hc
  subst hl; subst hc
  simp only [onNat_iff,onSome_iff] at hh
  obtain ⟨n,rfl,m,rfl,d,hd,hh⟩:=hh
  split at hh
  ·rename_i e
   simp only [onSome_iff,guardB_iff,need_iff,Bool.and_eq_true,zeroRow,Option.bind_eq_some_iff] at hh
   obtain ⟨inf,hi,z,⟨x,hx,hz⟩,⟨hzl,ho⟩,hnm,hby,h63,hK⟩:=hh
   have hzl:=beq_eq hzl
   obtain ⟨hzc,hzs⟩:=ofValue_cells (F:=F) (w:=w) hz ho
   have hby' : (inf.bytes:Int) * (m:Int)≤281474976710656:=by
    have h1:((inf.bytes * m:Nat):Int)≤281474976710656:=by omega
    rwa [Int.natCast_mul] at h1
   have hrun:=run_make (P:=P) w t e inf x hd hi hx kl kc n m (by omega) (by omega) hby' (by omega)
   simp only [Int.toNat_natCast] at hrun
   have h0:=zero_rows hzc hzs (one_of_all hk hzc ho hzs) m x.cells (fun _=>rfl)
   have h1:rowsC (repO F w ν (flatZ z)) (madeCells x.cells (m * inf.size)) inf.size (List.replicate n z) 0:=by
    rw [hzl] at h0
    rw [rowsC_iff] at h0 ⊢
    intro i row hrow
    rw [List.getElem?_replicate] at hrow
    split at hrow
    ·obtain ⟨ha,hb⟩:=h0 i row (by rw [List.getElem?_replicate,if_pos (by omega)]; exact hrow)
     exact ⟨ha,fun j v hj=>by obtain ⟨y,hy,h1,hr⟩:=hb j v hj; exact ⟨y,hy,h1,repO_ri hr⟩⟩
    ·simp at hrow
   have hn:=heap_new (w' := w.alloc (.cells (madeCells x.cells (m * inf.size)) e)) hk (flatZ z) inf.size (List.replicate n z) (madeCells x.cells (m * inf.size)) e rfl (by rw [size_madeCells,List.length_replicate]; exact Nat.mul_le_mul_right _ hnm) h1
   refine ⟨_,_,_,.sl (.p h.nxt) 0 n,_,hrun,hK,hn.1,?_,hn.2,fun b y hb _=>still_new hk b y hb⟩
   simp only [rep]
   refine ⟨⟨by simp only [Nu.add,hk.nxt]; exact Id.lt_new _ _,fun hq=>by simp [Nu.add,hk.nxt] at hq⟩,fun r s n' hat=>?_⟩
   simp only [Nu.add,hk.nxt,if_true] at hat
   simp at hat
   obtain ⟨rfl,rfl,rfl⟩:=hat
   exact ⟨by omega,m,hnm,by simp,_,e,(0,0),heap_alloc_new _ _,by rw [size_madeCells]; simp⟩
  ·exact hh.elim
 ·exact hh.elim
theorem src_first {P:Program} (hk:HeapOK ν F h w) {s:Nat} (hs:s≠0) {y:V} {y' : Value} (hy:rep F w ν y y') {K:Bool→List (List V)→Prop} (hh:wRows h s y K) :
  ∃ q ys,K q ys∧(∀ w' : World,(Builtin.lenOf y').run P w' = .ok ys.length w') ∧ ∀ m,m≤ys.length → ∃ news:List Value,(Builtin.firstCells s m y').run P w = .ok news.toArray w∧news.length=m * s∧(∀ u∈news,u.oneCell' = true) ∧
   rowsC (repO F w ν q) news.toArray s (ys.take m) 0:=by
 have key : ∀ {R:V→Value→Prop} {r o:Nat} {es:List (List V)} (n cap:Nat),RowsW R w r o s es → ∀ m,m≤es.length → ∃ news:List Value,(Builtin.firstCells s m (.slice (some ⟨r,o,none⟩) n cap)).run P w = .ok news.toArray w∧news.length=m * s∧(∀ u∈news,u.oneCell' = true)∧rowsC R news.toArray s (es.take m) 0:=by
  intro R r o es n cap hr m hm
  have h1:=hr.sub 0 m
  have hsub:sub es 0 m=es.take m:=by simp [sub]
  rw [hsub,Nat.zero_mul,Nat.add_zero] at h1
  obtain ⟨news,o1,o2,o3,o4⟩:=h1.list hs
  rw [List.length_take,Nat.min_eq_left hm] at o1
  exact ⟨news,run_firstCells_some (P:=P) w s m ⟨r,o,none⟩ n cap news o1 (fun j u hj=>by rw [add_lit]; exact o2 j u hj),o1,o3,o4⟩
 have empty : ∀ (a:Option Addr) (n cap:Nat),(Builtin.firstCells s 0 (.slice a n cap)).run P w = .ok #[] w:=by
  intro a n cap
  cases a with
  | none=>exact run_firstCells_none w s 0 n cap
  | some a=>exact run_firstCells_some (P:=P) w s 0 a n cap [] (by simp) (by simp)
 have none_ : ∀ (q:Bool) (a:Option Addr) (n cap:Nat) m,m≤([]:List (List V)).length → ∃ news:List Value,(Builtin.firstCells s m (.slice a n cap)).run P w = .ok news.toArray w∧news.length=m * s∧(∀ u∈news,u.oneCell' = true) ∧
   rowsC (repO F w ν q) news.toArray s (([]:List (List V)).take m) 0:=by
  intro q a n cap m hm
  have:m=0:=by simpa using hm
  subst this
  exact ⟨[],by simpa using empty a n cap,by simp,by simp,by simp [rowsC]⟩
 unfold wRows at hh
 split at hh
 ·rename_i s' es
  rw [guardB_iff] at hh
  simp only [rep,ri] at hy
  rcases hy with ⟨rfl,rfl⟩ | ⟨⟨r,o,sp⟩,cap,hcap,rfl,hr⟩
  ·exact ⟨true,[],hh.2,fun w' => by simp [Builtin.lenOf],none_ true none 0 0⟩
  ·by_cases hne:es=[]
   ·subst hne
    exact ⟨true,[],hh.2,fun w' => by simp [Builtin.lenOf],none_ true _ _ cap⟩
   ·obtain ⟨hsp,hF,hrows⟩:=hr.resolve_left hne
    simp only at hsp hF hrows
    subst hsp
    have:=emp_or' hh.1 hne
    subst this
    have hrw:RowsW (ri F w) w r o s' es:=by rw [riRows_iff] at hrows; exact hrows
    exact ⟨true,es,hh.2,fun w' => by simp [Builtin.lenOf],key _ cap hrw⟩
 ·rename_i b lo len
  rw [onRows_iff] at hh
  obtain ⟨s', p,es,hb,hh⟩:=hh
  simp only [guardB_iff] at hh
  obtain ⟨hs', hK⟩:=hh
  have hs' := beq_eq hs'
  subst hs'
  simp only [rep] at hy
  by_cases hph:ν.ph b=true
  ·obtain ⟨rfl,rfl,rfl⟩:=hy.1.2 hph
   exact ⟨p,_,hK,fun w' => by simp [Builtin.lenOf,sub],by simpa [sub] using none_ p none 0 0⟩
  obtain ⟨⟨r,s'', n⟩,hat⟩:=hk.domP b _ hb (by simpa using hph)
  obtain ⟨rfl,g2,_⟩:=hk.blkR hb hat
  obtain ⟨hle,cap,hcap,⟨o', ho', rfl⟩,_⟩:=hy.2 r s' n hat
  have hrw:RowsW (repO F w ν p) w r o' s' (sub es lo len):=by
   rcases ho' with h | ⟨h,_⟩
   ·rw [h]; simpa using (rowsW_own hk hb hat).sub lo len
   ·intro i row hrow
    have:len=0:=by omega
    subst this
    simp [sub] at hrow
  have hlen:(sub es lo len).length=len:=by simp [sub]; omega
  exact ⟨p,_,hK,fun w' => by simp [Builtin.lenOf,hlen],key _ cap hrw⟩
 ·rename_i c
  simp only [rep] at hy
  subst hy
  exact ⟨true,[],hh,fun w' => by simp [Builtin.lenOf],none_ true _ _ c⟩
 ·exact hh.elim
theorem e_copy {P:Program} (hk:HeapOK ν F h w) {ts:List TypeId} {t ty:TypeId} {x y:V} {x' y' : Value} {tch:Id→Bool} {k:V→Hp→Prop} (hx:rep F w ν x x') (hy:rep F w ν y y')
  (ht : ∀ b lo len,x = .sl b lo len → ∀ b', tch b' = false→b' ≠ b) (hh:wCopy P h t x y k):EV P F ν w tch (Builtin.copy_ (t::ts).toArray ty #[x', y']) k:=by
 unfold wCopy at hh
 rw [onSome_iff] at hh
 obtain ⟨d,hd,hh⟩:=hh
 split at hh
 ·rename_i e
  simp only [onSome_iff,guardB_iff] at hh
  obtain ⟨inf,hi,hsz,hh⟩:=hh
  have hs0:inf.size≠0:=fun h0=>by simp [h0] at hsz
  obtain ⟨q,ys,hh2,hlen,hfirst⟩:=src_first (P:=P) hk hs0 hy hh
  clear hh
  have hh:=hh2
  clear hh2
  split at hh
  ·rename_i b lo len
   rw [onRows_iff] at hh
   obtain ⟨s,p,es,hb,hh⟩:=hh
   try simp only [guardB_iff] at hh
   obtain ⟨hs', hpo,hK⟩:=hh
   have hs' := beq_eq hs'
   subst hs'
   simp only [rep] at hx
   by_cases hph:ν.ph b=true
   ·obtain ⟨rfl,rfl,rfl⟩:=hx.1.2 hph
    obtain ⟨s', p', he⟩ : ∃ s' p', O.rows inf.size p es = .rows s' p' []:=by
     rcases hk.dom b _ hb with ⟨⟨r,s'', n⟩,hat⟩ | ⟨_,h⟩
     ·obtain ⟨_,cap,_,⟨_,_,hbad⟩,_⟩:=hx.2 r s'' n hat
      cases hbad
     ·exact h
    simp only [O.rows.injEq] at he
    obtain ⟨_,_,rfl⟩:=he
    obtain ⟨news,n1,n2,n3,n4⟩:=hfirst 0 (by omega)
    have hn:news=[]:=List.eq_nil_of_length_eq_zero (by simpa using n2)
    subst hn
    obtain ⟨kh,eh⟩:=heap_phput hk hb hpo hph
    refine ⟨.int .i64 0,w,ν,_,_,?_,by simpa using hK,by simpa using kh,by simp [rep],eh,fun b' y hb' _=>⟨rfl,hb'⟩⟩
    simp [Builtin.copy_,run_underlying hd,sizeOf,typeInfo,hi,hlen,n1,goInt,storeCells]
   obtain ⟨⟨r,s'', n⟩,hat⟩:=hk.domP b _ hb (by simpa using hph)
   obtain ⟨rfl,g2,c,el,g3,g4,g5⟩:=hk.blkR hb hat
   obtain ⟨hle,cap,hcap,⟨o', ho', rfl⟩,c2,el2,fr2,hc2,hcs2⟩:=hx.2 r inf.size n hat
   obtain ⟨m,hm⟩ : ∃ m,m=min ys.length len:=⟨_,rfl⟩
   rw [← hm] at hK
   have hmy:m≤ys.length:=by omega
   have hml:m≤len:=by omega
   obtain ⟨news,n1,n2,n3,n4⟩:=hfirst m hmy
   rcases ho' with rfl | ⟨h0,_⟩
   rotate_left
   ·have hm0:m=0:=by omega
    subst hm0
    have hn:news=[]:=List.eq_nil_of_length_eq_zero (by simpa using n2)
    subst hn
    have hes:es.take lo++ys.take 0++es.drop (lo+0)=es:=by simp
    have hset:=heap_set (w' := w) hk hb hpo (p:=p&&q) (es:=es) (es' := es.take lo++ys.take 0++es.drop (lo+0)) (c:=c) (c' := c) (el:=el) (b0:=b) (r0:=r) (s0:=inf.size) (by rw [g2]; exact hat)
     (by rw [hes]) g3 g3 rfl (fun q hq=>rfl) rfl rfl rfl rfl (by rw [g2]; exact g4) (by rw [hes]; exact rowsC_and (q:=q) g5)
    refine ⟨.int .i64 (0:Nat),w,ν,_,_,?_,hK,hset.1,by simp only [rep],hset.2,fun b' y hb' _=>⟨rfl,hb'⟩⟩
    simp [Builtin.copy_,run_underlying hd,sizeOf,typeInfo,hi,hlen,← hm,n1,goInt,storeCells]
   have hytake:(ys.take m).length=m:=by simp; omega
   have hetake:(es.take lo).length=lo:=by simp; omega
   have hseg:=Nat.mul_le_mul_right inf.size (show lo+m≤n by omega)
   rw [Nat.add_mul] at hseg
   have hbound:lo * inf.size+0+news.length≤c.size:=by omega
   have hrun:=run_storeCells_at (P:=P) r (lo * inf.size) el news 0 c w g3 hbound n3
   simp only [Nat.add_zero] at hrun hbound
   let c' : Array Value:=(c.toList.take (lo * inf.size)++news++c.toList.drop (lo * inf.size+news.length)).toArray
   have hc'get : ∀ q,c'[q]? = if q<lo * inf.size then c[q]? else if q<lo * inf.size+news.length then news[q - lo * inf.size]? else c[q]? := by
    intro q
    have:=splice c.toList news (lo * inf.size) q (by simpa using hbound)
    simp only [c', List.getElem?_toArray,this]
    simp
   have hc'size:c'.size=c.size:=by
    simp only [c', List.size_toArray,List.length_append,List.length_take,List.length_drop,Array.length_toList]
    omega
   have hesp : ∀ i,(es.take lo++ys.take m++es.drop (lo+m))[i]? = if i<lo then es[i]? else if i<lo+m then (ys.take m)[i - lo]? else es[i]? := fun i=>by
    have:=splice es (ys.take m) lo i (by omega)
    rw [hytake] at this
    exact this
   have hset:=heap_set (w' := w.setRow r c') hk hb hpo (p:=p&&q) (es:=es) (es' := es.take lo++ys.take m++es.drop (lo+m)) (c:=c) (c' := c') (el:=el) (b0:=b) (r0:=r) (s0:=inf.size) (by rw [g2]; exact hat)
    (by simp only [List.length_append,hetake,hytake,List.length_drop]; omega) g3 (setRow_heap w r c c' el (0,0) g3) hc'size (fun q hq=>setRow_other w r q c' hq) (setRow_size w r c') rfl rfl rfl (by rw [g2]; exact g4) (by
     have g5:=rowsC_and (q:=q) g5
     have n4:=rowsC_and (q:=p) n4
     rw [Bool.and_comm q p] at n4
     rw [rowsC_iff] at g5 n4 ⊢
     intro i row hrow
     rw [hesp] at hrow
     have old:es[i]? = some row → ¬ (lo≤i∧i<lo+m)→row.length=inf.size ∧ ∀ j v,row[j]? = some v → ∃ x,c'[0+i * inf.size+j]? = some x∧x.oneCell' = true∧repO F w ν (p&&q) v x:=by
      intro hrow hout
      obtain ⟨k1,k2⟩:=g5 i row hrow
      refine ⟨k1,fun j v hj=>?_⟩
      obtain ⟨u,k3,k4⟩:=k2 j v hj
      refine ⟨u,?_,k4⟩
      have hjs:j<inf.size:=by have:=(List.getElem?_eq_some_iff.1 hj).1; omega
      rw [hc'get]
      by_cases hil:i<lo
      ·have:=Nat.mul_le_mul_right inf.size (show i+1≤lo from hil)
       rw [Nat.add_mul,Nat.one_mul] at this
       rw [if_pos (by omega)]; exact k3
      ·have:=Nat.mul_le_mul_right inf.size (show lo+m≤i by omega)
       rw [Nat.add_mul] at this
       rw [if_neg (by omega),if_neg (by omega)]; exact k3
     by_cases hil:i<lo
     ·rw [if_pos hil] at hrow; exact old hrow (by omega)
     ·rw [if_neg hil] at hrow
      by_cases him:i<lo+m
      ·rw [if_pos him] at hrow
       obtain ⟨k1,k2⟩:=n4 _ row hrow
       refine ⟨k1,fun j v hj=>?_⟩
       obtain ⟨u,k3,k4⟩:=k2 j v hj
       refine ⟨u,?_,k4⟩
       have hjs:j<inf.size:=by have:=(List.getElem?_eq_some_iff.1 hj).1; omega
       have hm:i * inf.size=lo * inf.size+(i - lo) * inf.size:=by rw [← Nat.add_mul]; congr 1; omega
       have hlt:=lt_of_some k3
       simp only [List.getElem?_toArray,List.size_toArray] at k3 hlt
       rw [hc'get,if_neg (by omega),if_pos (by omega),← k3]
       congr 1
       omega
      ·rw [if_neg him] at hrow; exact old hrow (by omega))
   refine ⟨.int .i64 m,w.setRow r c', ν,_,_,?_,hK,hset.1,by simp only [rep],hset.2,fun b' y hb' htc=>⟨?_,hb'⟩⟩
   ·have hst:(storeCells ⟨r,lo * inf.size,none⟩ news).run P w = .ok () (w.setRow r c'):=hrun
    simp [Builtin.copy_,run_underlying hd,sizeOf,typeInfo,hi,hlen,← hm,n1,hst,goInt]
   ·have hne:=ht b lo len rfl b' htc
    obtain ⟨r', s', n'⟩:=y
    exact setRow_other w r r' c' (fun heq=>hne (hk.inj b' b r' s' n' inf.size n hb' (by rw [heq]; exact hat)))
  ·simp only [rep,ri] at hx
   obtain ⟨news,n1,n2,n3,n4⟩:=hfirst 0 (by omega)
   have hn:news=[]:=List.eq_nil_of_length_eq_zero (by simpa using n2)
   subst hn
   refine ⟨.int .i64 0,w,ν,_,_,?_,hh,hk,by simp only [rep],Evo.refl ν F w,fun b' y hb' _=>⟨rfl,hb'⟩⟩
   rcases hx with ⟨_,rfl⟩ | ⟨a,cap,_,rfl,_⟩
   ·simp [Builtin.copy_,run_underlying hd,sizeOf,typeInfo,hi,hlen,n1,goInt,storeCells]
   ·simp [Builtin.copy_,run_underlying hd,sizeOf,typeInfo,hi,hlen,n1,goInt,storeCells]
  ·exact hh.elim
 ·exact hh.elim
theorem heap_freeze (hk:HeapOK ν F h w) {b:Id} {s:Nat} {p:Bool} {es:List (List V)} (hb:h.get b=some (.rows s p es)) (hcl:(p || es.all closedL)=true) :
  ∃ F', HeapOK (ν.del b) F' (h.del b) w∧Evo ν F w (ν.del b) F' w ∧ ∀ lo len x,rep F w ν (.sl b lo len) x→rep F' w (ν.del b) (.lst s (sub es lo len)) x:=by
 obtain ⟨hd,ed⟩:=heap_del hk b
 rcases hk.dom b _ hb with ⟨⟨r,s', n⟩,hat⟩ | ⟨hp,s', p', he⟩
 ·obtain ⟨rfl,g2,c,el,g3,g4,g5⟩:=hk.blkR hb hat
  have hrl:=lt_of_some g3
  have old : ∀ b' y,(ν.del b).at_ b' = some y→b' ≠ b∧ν.at_ b' = some y:=fun b' y hy=>by
   simp only [Nu.del] at hy
   by_cases h0:b' = b
   ·simp [h0] at hy
   ·rw [if_neg h0] at hy; exact ⟨h0,hy⟩
  have hno : ¬ (ν.del b).own r:=by
   rintro ⟨b', s', n', hb'⟩
   obtain ⟨h0,h1⟩:=old b' _ hb'
   exact h0 (hk.inj b' b r s' n' s n h1 hat)
  have e' : Evo ν F w (ν.del b) (fun q=>F q∨q=r) w:={ ed with
   fmono:=fun q hq => .inl hq
   fnew:=fun q hq=>hq.elim .inl (fun hq => .inr (.inl (hq ▸ ⟨b,s,n,hat⟩))) }
  refine ⟨_,⟨fun b' r' s' n' hy=>?_,hd.dom,hd.inj,fun q hq=>?_,hd.nxt,hd.cnt⟩,e', fun lo len x hx=>?_⟩
  ·obtain ⟨h0,h1⟩:=old b' _ hy
   obtain ⟨o,k1,k2⟩:=hk.blk b' r' s' n' h1
   exact ⟨o,by rw [Hp.get_del,if_neg h0]; exact k1,obl_evo hk e' rfl k2⟩
  ·rcases hq with hq | hq
   ·exact hd.frz q hq
   ·exact hq ▸ ⟨hrl,hno⟩
  ·simp only [rep] at hx
   obtain ⟨h1,cap,h2,⟨o', ho', rfl⟩,_⟩:=hx.2 r s n hat
   have hlen:(sub es lo len).length=len:=by simp [sub]; omega
   simp only [rep,ri]
   rcases ho' with rfl | ⟨h0,_⟩
   rotate_left
   ·exact .inr ⟨⟨r,o', none⟩,cap,by rw [hlen]; exact h2,by rw [hlen],.inl (List.eq_nil_of_length_eq_zero (by omega))⟩
   refine .inr ⟨⟨r,lo * s,none⟩,cap,by rw [hlen]; exact h2,by rw [hlen],.inr ⟨rfl,.inr rfl,?_⟩⟩
   have hrw:=(rowsW_own hk hb hat).sub lo len
   rw [riRows_iff]
   intro i row hrow
   obtain ⟨k1,k2⟩:=hrw i row hrow
   refine ⟨k1,fun j v hj=>?_⟩
   obtain ⟨y,k3,k4,k5⟩:=k2 j v hj
   refine ⟨y,by simpa using k3,k4,ri_mono (fun q hq => .inl hq) (fun _ _=>rfl) v y ?_⟩
   unfold repO at k5
   cases p with
   | true=>exact k5
   | false =>
    simp only [Bool.false_or,List.all_eq_true] at hcl
    have hmem:row∈es:=by
     simp only [sub] at hrow
     exact List.mem_of_mem_drop (List.mem_of_mem_take (List.mem_of_getElem? hrow))
    exact rep_ri v y (closedL_mem (hcl row hmem) (List.mem_of_getElem? hj)) k5
 ·simp only [O.rows.injEq] at he
  obtain ⟨_,_,rfl⟩:=he
  refine ⟨F,hd,ed,fun lo len x hx=>?_⟩
  simp only [rep] at hx
  obtain ⟨_,_,rfl⟩:=hx.1.2 hp
  simp [rep,ri,sub]
theorem onMem_of {B:Nat} {v:V} {k:V→Prop} (h:onMem B v (k (.raw (.slice none 0 0))) fun j len=>k (.sl (.m B j) 0 len)):k v:=by
 unfold onMem at h
 split at h
 ·rename_i hv
  unfold memV at hv
  split at hv
  ·exact h
  ·split at hv
   ·rename_i B' j
    cases hc:(B'.beq B&&Nat.beq _ 0) with
    | true=>rw [hc] at hv; cases hv
    | false=>rw [hc] at hv; cases hv
   ·cases hv
  ·cases hv
 ·rename_i jl hv
  unfold memV at hv
  split at hv
  ·cases hv
  ·rename_i b lo len
   split at hv
   ·rename_i B' j
    cases hc:(B'.beq B&&Nat.beq lo 0) with
    | true =>
     rw [hc] at hv
     rw [Bool.and_eq_true] at hc
     have h1:B' = B:=Nat.eq_of_beq_eq_true hc.1
     have h2:lo=0:=Nat.eq_of_beq_eq_true hc.2
     subst h1; subst h2
     cases hv
     exact h
    | false=>rw [hc] at hv; cases hv
   ·cases hv
  ·cases hv
 ·exact h.elim
theorem memNew_of {C:Calling} {o:Oper} {v:V} {k:V→Prop} (h:memNew C o v k):k v:=by
 unfold memNew at h
 cases hl:isLoad o.op with
 | false =>
  rw [hl,cond_false] at h
  cases hg:isBin o.op&&genOn C o.dst with
  | false=>rw [hg] at h; exact h
  | true =>
   rw [hg,cond_true] at h
   obtain ⟨kk,n,rfl,h⟩:=h
   exact h
 | true =>
  rw [hl,cond_true] at h
  split at h
  ·exact onMem_of h
  ·cases hi:intOn C o.dst with
   | false=>rw [hi] at h; exact h
   | true =>
    rw [hi,cond_true,onIntK_iff] at h
    obtain ⟨n,rfl,h⟩:=h
    exact h
theorem fz_new {C:Calling} {o:Oper} {F0:Nat→Prop} {w0:World} {ν0:Nu} {tch:Id→Bool} {v:V} {x:Value} {k:V→Hp→Prop} (hf:fzNew C ν0.nxt o v h k) (hk:HeapOK ν F h w) (hr:rep F w ν v x) (he:Evo ν0 F0 w0 ν F w)
  (hu : ∀ b y,ν0.at_ b=some y→tch b=false→w.heap[y.1]? = w0.heap[y.1]? ∧ ν.at_ b=some y) :
  ∃ ν' F' v' h', k v' h' ∧ HeapOK ν' F' h' w∧rep F' w ν' v' x∧Evo ν0 F0 w0 ν' F' w ∧ ∀ b y,ν0.at_ b=some y→tch b=false→w.heap[y.1]? = w0.heap[y.1]? ∧ ν'.at_ b=some y:=by
 unfold fzNew at hf
 cases hcut:isCut o.op with
 | true =>
  rw [hcut] at hf
  simp only [cond_true] at hf
  refine ⟨ν,F,_,h,hf,hk,?_,he,hu⟩
  cases v <;> simp only [unx] <;> try exact hr
  rename_i s es
  cases fzOn C o.dst with
  | true=>exact hr
  | false =>
   simp only [cond_false]
   simp only [rep,ri] at hr ⊢
   rcases hr with h | ⟨a,h1,h2⟩
   ·exact .inl h
   ·exact .inr ⟨a,es.length,Nat.le_refl _,h1,h2⟩
 | false =>
 rw [hcut] at hf
 simp only [cond_false] at hf
 cases hc:fzDoes C o with
 | false=>rw [hc,cond_false] at hf; exact ⟨ν,F,v,h,memNew_of hf,hk,hr,he,hu⟩
 | true =>
 rw [hc] at hf
 simp only [cond_true] at hf
 split at hf
 ·rename_i b lo len
  cases hn:Nat.ble ν0.nxt b with
  | false=>rw [hn] at hf; exact ⟨ν,F,_,h,hf,hk,hr,he,hu⟩
  | true =>
   rw [hn] at hf
   simp only [cond_true] at hf
   rw [onRows_iff] at hf
   obtain ⟨s,p,es,hb,hf⟩:=hf
   simp only [guardB_iff] at hf
   obtain ⟨F', g1,g2,g3⟩:=heap_freeze hk hb hf.1
   have hle:=Nat.le_of_ble_eq_true hn
   refine ⟨_,F', _,_,hf.2,g1,g3 _ _ _ hr,he.trans g2,fun b' y hy ht=>?_⟩
   obtain ⟨q1,q2⟩:=hu b' y hy ht
   have:=ν0.lt b' _ hy
   refine ⟨q1,Nu.del_old (fun he=>?_) q2⟩
   rw [he] at this
   exact absurd (show b<ν0.nxt from this) (by omega)
 ·exact ⟨ν,F,v,h,hf,hk,hr,he,hu⟩
end
end Go.Proofs.YtkkgicjioajimaaDoor.Clean
