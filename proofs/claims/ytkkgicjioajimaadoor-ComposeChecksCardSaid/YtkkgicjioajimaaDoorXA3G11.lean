/- A part of the proof. -/
import Derived.Test.YtkkgicjioajimaaDoorXA3G10
namespace Go.Proofs.YtkkgicjioajimaaDoor
open Go Go.Proofs.YtkkgicjioajimaaDoor.Clean
set_option linter.unusedVariables false
set_option linter.unusedSimpArgs false
set_option maxRecDepth 10000
abbrev Pc:=Nat×C3×Bool×Nat×Nat
def pcK (x:Pc):V := .agg [iv (x.1:Int),iv x.2.1.1,iv x.2.1.2.1,iv x.2.1.2.2,bv x.2.2.1]
def pcR (x:Pc):List V:=[iv (x.1:Int),iv x.2.1.1,iv x.2.1.2.1,iv x.2.1.2.2,bv x.2.2.1,u16v x.2.2.2.1,u16v x.2.2.2.2]
def pieE (l:List Pc):List (V×V):=l.map fun x=>(pcK x,V.agg (pcR x))
def onePc (L:List C3) (C:Nat→Nat) (l:List Pt) (k:Nat) (t:C3) (i:Nat) (b:Bool):List Pc:=match l[i]? with
 | some p=>match fitS L C p k t b with
  | some s=>[(i,t,b,s,tchN L s)]
  | none=>[]
 | none=>[]
def plPc (L:List C3) (C:Nat→Nat) (l:List Pt) (k:Nat) (t:C3) (i:Nat):List Pc:=onePc L C l k t i false++onePc L C l k t i true
def upPc (L:List C3) (C:Nat→Nat) (l:List Pt) (k:Nat) (t:C3) (i:Nat):List Pc:=(List.range i).flatMap (plPc L C l k t)
def cellPc (L:List C3) (C:Nat→Nat) (l:List Pt) (k:Nat):List Pc:=match L[k]? with
 | some t=>upPc L C l k t l.length
 | none=>[]
def allPc (L:List C3) (C:Nat→Nat) (l:List Pt) (n:Nat):List Pc:=(List.range n).flatMap (cellPc L C l)
def turnPc (L:List C3) (C:Nat→Nat) (l:List Pt) (k:Nat) (t:C3) (i:Nat):Nat→List Pc
 | 0=>[]
 | 1=>onePc L C l k t i false
 | _=>plPc L C l k t i
theorem upPc_succ (L:List C3) (C:Nat→Nat) (l:List Pt) (k:Nat) (t:C3) (i:Nat):upPc L C l k t (i+1)=upPc L C l k t i++plPc L C l k t i:=by
 unfold upPc; rw [List.range_succ,List.flatMap_append]; simp
theorem allPc_succ (L:List C3) (C:Nat→Nat) (l:List Pt) (n:Nat):allPc L C l (n+1)=allPc L C l n++cellPc L C l n:=by
 unfold allPc; rw [List.range_succ,List.flatMap_append]; simp
theorem mem_onePc {L:List C3} {C:Nat→Nat} {l:List Pt} {k i:Nat} {t:C3} {b:Bool} {x:Pc} (h:x∈onePc L C l k t i b):x.1=i∧x.2.1=t∧x.2.2.1=b:=by
 unfold onePc at h
 split at h
 ·split at h
  ·simp at h; subst h; exact ⟨rfl,rfl,rfl⟩
  ·simp at h
 ·simp at h
theorem mem_upPc {L:List C3} {C:Nat→Nat} {l:List Pt} {k i:Nat} {t:C3} {x:Pc} (h:x∈upPc L C l k t i):x.1<i∧x.2.1=t:=by
 unfold upPc at h
 rw [List.mem_flatMap] at h
 obtain ⟨j,hj,hx⟩:=h
 rw [List.mem_range] at hj
 unfold plPc at hx
 rcases List.mem_append.1 hx with hx | hx
 ·obtain ⟨e1,e2,_⟩:=mem_onePc hx; exact ⟨by omega,e2⟩
 ·obtain ⟨e1,e2,_⟩:=mem_onePc hx; exact ⟨by omega,e2⟩
theorem mem_allPc {L:List C3} {C:Nat→Nat} {l:List Pt} {n:Nat} {x:Pc} (h:x∈allPc L C l n) : ∃ k t,k<n∧L[k]? = some t∧x.2.1=t∧x.1<l.length:=by
 unfold allPc at h
 rw [List.mem_flatMap] at h
 obtain ⟨k,hk,hx⟩:=h
 unfold cellPc at hx
 split at hx
 ·rename_i t ht
  have:=mem_upPc hx
  exact ⟨k,t,List.mem_range.1 hk,ht,this.2,this.1⟩
 ·simp at hx
theorem eq100 (x y:Pc):eqC Tryd.prog 8 100 (pcK x) (pcK y)=some (((x.1:Int)==(y.1:Int))&&((x.2.1.1==y.2.1.1&&(x.2.1.2.1==y.2.1.2.1&&(x.2.1.2.2==y.2.1.2.2&&true)))&&((x.2.2.1==y.2.2.1)&&true))):=by kernel_rfl
def sameL (x y:Pc):Prop:=x.1=y.1∧x.2.1=y.2.1∧x.2.2.1=y.2.2.1
instance (x y:Pc):Decidable (sameL x y):=by unfold sameL; exact inferInstance
theorem eq100b (x y:Pc):(((x.1:Int)==(y.1:Int))&&((x.2.1.1==y.2.1.1&&(x.2.1.2.1==y.2.1.2.1&&(x.2.1.2.2==y.2.1.2.2&&true)))&&((x.2.2.1==y.2.2.1)&&true)))=decide (sameL x y):=by
 rw [Bool.eq_iff_iff]
 obtain ⟨a,⟨b,c,d⟩,e,f,g⟩:=x
 obtain ⟨a', ⟨b', c', d'⟩,e', f', g'⟩:=y
 simp [sameL]
 omega
theorem find_pie (x:Pc) : ∀ (l:List Pc) (j:Nat),findK Tryd.prog 100 (pcK x) (pieE l) j=some ((l.findIdx? fun y=>decide (sameL x y)).map fun n=>(j+n,pcK (l.getD n x),V.agg (pcR (l.getD n x))))
 | [],j=>rfl
 | y::l,j=>by
  unfold pieE
  rw [List.map_cons,findK_cons (eq100 x y),eq100b,List.findIdx?_cons]
  by_cases e:sameL x y
  ·simp [e]
  ·have ih:=find_pie x l (j+1)
   unfold pieE at ih
   simp only [e,decide_false,cond_false,ih,Bool.false_eq_true,if_false,Option.map_map]
   congr 2
   funext n
   simp only [Function.comp_apply,Prod.mk.injEq,List.getD_cons_succ,and_true]
   omega
theorem onPie_new {l:List Pc} {x:Pc} {K:Nat→V→V→Prop} {N:Prop} (h : ∀ y∈l, ¬ sameL x y) (hN:N):onFind (findK Tryd.prog 100 (pcK x) (pieE l) 0) K N:=by
 rw [find_pie]
 have:(l.findIdx? fun y=>decide (sameL x y))=none:=by
  rw [List.findIdx?_eq_none_iff]
  intro y hy
  simpa using h y hy
 rw [this]
 exact hN
theorem good_num (L:List C3) (tk:List Nat) (B:Nat) (o:Bool):(numE L).all (goodE tk B o)=true:=by
 rw [List.all_eq_true]
 intro e he
 obtain ⟨p,_,rfl⟩:=List.mem_map.1 he
 rfl
theorem good_pie (l:List Pc) (tk:List Nat) (B:Nat) (o:Bool):(pieE l).all (goodE tk B o)=true:=by
 rw [List.all_eq_true]
 intro e he
 obtain ⟨p,_,rfl⟩:=List.mem_map.1 he
 rfl
theorem cl_num (L:List C3):(numE L).all closedE=true:=by
 rw [List.all_eq_true]
 intro e he
 obtain ⟨p,_,rfl⟩:=List.mem_map.1 he
 rfl
theorem cl_pie (l:List Pc):(pieE l).all closedE=true:=by
 rw [List.all_eq_true]
 intro e he
 obtain ⟨p,_,rfl⟩:=List.mem_map.1 he
 rfl
theorem trM_num (L:List C3) (tk:List Nat) (B n:Nat):trM tk B n (numE L)=numE L:=by
 unfold trM
 refine (List.map_congr_left (g:=id) fun e he=>?_).trans (List.map_id _)
 obtain ⟨p,_,rfl⟩:=List.mem_map.1 he
 rfl
theorem trM_pie (l:List Pc) (tk:List Nat) (B n:Nat):trM tk B n (pieE l)=pieE l:=by
 unfold trM
 refine (List.map_congr_left (g:=id) fun e he=>?_).trans (List.map_id _)
 obtain ⟨p,_,rfl⟩:=List.mem_map.1 he
 rfl
theorem pie_app (l:List Pc) (x:Pc):pieE l++[(pcK x,V.agg (pcR x))]=pieE (l++[x]):=by simp [pieE]
theorem sub_full (L:List C3):sub (fullR L) 0 L.length=fullR L:=by
 unfold sub
 rw [List.drop_zero,List.take_of_length_le (by simp [fullR])]
theorem fmpV_num (L:List C3):fmpV (numE L) = .fmp (numE L):=by
 have:=cl_num L
 unfold fmpV
 rw [show ((numE L).all fun kv=>kv.1.closed&&kv.2.closed)=true from this]; rfl
theorem fmpV_pie (l:List Pc):fmpV (pieE l) = .fmp (pieE l):=by
 have:=cl_pie l
 unfold fmpV
 rw [show ((pieE l).all fun kv=>kv.1.closed&&kv.2.closed)=true from this]; rfl
def CellP (ms:List (Option (List (List V)))) (m:List Pc) (row:List V):Prop:=(m=[]∧row=[nilS])∨(m≠[] ∧ ∃ j,row=[.sl (.m 0 j) 0 m.length]∧memb ms j=some (m.map pcR))
structure BegOK (N:Nat) (f:Nat→List Pc) (r:List (List V)) (ms:List (Option (List (List V)))):Prop where
 len:r.length=N
 cell : ∀ n,n<N → ∃ row,r[n]? = some row∧CellP ms (f n) row
 apart : ∀ g g' j n n' : Nat,r[g]? = some [V.sl (.m 0 j) 0 n]→r[g']? = some [V.sl (.m 0 j) 0 n']→g=g'
theorem BegOK.row {N:Nat} {f:Nat→List Pc} {r:List (List V)} {ms:List (Option (List (List V)))} (h:BegOK N f r ms) {row:List V} (hm:row∈r) : ∃ m,CellP ms m row:=by
 obtain ⟨g,hg,rfl⟩:=List.getElem_of_mem hm
 obtain ⟨row,h1,h2⟩:=h.cell g (by rw [← h.len]; exact hg)
 rw [List.getElem?_eq_getElem hg] at h1
 cases h1
 exact ⟨_,h2⟩
theorem BegOK.good {N:Nat} {f:Nat→List Pc} {r:List (List V)} {ms:List (Option (List (List V)))} (h:BegOK N f r ms) (tk:List Nat):r.all (goodR tk 0 true)=true:=by
 rw [List.all_eq_true]
 intro row hrow
 obtain ⟨m,hm⟩:=h.row hrow
 rcases hm with ⟨_,rfl⟩ | ⟨_,j,rfl,_⟩ <;> rfl
theorem BegOK.tr {N:Nat} {f:Nat→List Pc} {r:List (List V)} {ms:List (Option (List (List V)))} (h:BegOK N f r ms) (tk:List Nat) (n:Nat):trR tk 0 n r=r:=by
 unfold trR
 refine (List.map_congr_left (g:=id) fun row hrow=>?_).trans (List.map_id _)
 obtain ⟨m,hm⟩:=h.row hrow
 rcases hm with ⟨_,rfl⟩ | ⟨_,j,rfl,_⟩ <;> rfl
theorem BegOK.congr {N:Nat} {f f' : Nat→List Pc} {r:List (List V)} {ms:List (Option (List (List V)))} (h:BegOK N f r ms) (hf : ∀ n,n<N→f n=f' n):BegOK N f' r ms :=
 ⟨h.len,fun n hn=>by rw [← hf n hn]; exact h.cell n hn,h.apart⟩
theorem memb_none {ms:List (Option (List (List V)))} {es:List (List V)}:memb ms ms.length≠some es:=fun h=>absurd (memb_lt h) (Nat.lt_irrefl _)
theorem memb_app {ms l:List (Option (List (List V)))} {j:Nat} {es:List (List V)} (h:memb ms j=some es):memb (ms++l) j=some es:=by
 have hj:=memb_lt h
 unfold memb at h ⊢
 rw [List.getElem?_append_left hj]; exact h
theorem memb_last {ms l:List (Option (List (List V)))} {x:Option (List (List V))}:memb (ms++x::l) ms.length=x:=by
 unfold memb
 rw [List.getElem?_append_right (Nat.le_refl _),Nat.sub_self]; rfl
theorem BegOK.push {N:Nat} {f:Nat→List Pc} {r:List (List V)} {ms ms' : List (Option (List (List V)))} (h:BegOK N f r ms) {k:Nat} (hk:k<N) {x:Pc} {J:Nat} (hJ:memb ms' J=some ((f k++[x]).map pcR)) (hJn : ∀ es,memb ms J≠some es)
  (hkp : ∀ g j n es,g≠k→r[g]? = some [V.sl (.m 0 j) 0 n]→memb ms j=some es→memb ms' j=some es):BegOK N (fun n=>if n=k then f k++[x] else f n) (r.set k [V.sl (.m 0 J) 0 ((f k).length+1)]) ms' := by
 have old : ∀ g j n,r[g]? = some [V.sl (.m 0 j) 0 n]→j≠J:=fun g j n hr he=>by
  have hg:g<N:=by rw [← h.len]; exact (List.getElem?_eq_some_iff.1 hr).1
  obtain ⟨row,h1,h2⟩:=h.cell g hg
  rw [hr] at h1
  cases h1
  rcases h2 with ⟨_,h3⟩ | ⟨_,j', h3,h4⟩
  ·cases h3
  ·cases h3
   subst he
   exact hJn _ h4
 refine ⟨by rw [List.length_set]; exact h.len,fun g hg=>?_,fun g1 g2 j n n' h1 h2=>?_⟩
 ·by_cases he:g=k
  ·subst he
   rw [if_pos rfl]
   exact ⟨_,by rw [List.getElem?_set_self (by rw [h.len]; exact hg)],.inr ⟨by simp,J,by simp,hJ⟩⟩
  ·rw [if_neg he]
   obtain ⟨row,h1,h2⟩:=h.cell g hg
   refine ⟨row,by rw [List.getElem?_set_ne (fun e=>he e.symm)]; exact h1,?_⟩
   rcases h2 with h2 | ⟨h3,j,h4,h5⟩
   ·exact .inl h2
   ·exact .inr ⟨h3,j,h4,hkp g j _ _ he (by rw [h1,h4]) h5⟩
 ·by_cases e1:g1=k
  ·by_cases e2:g2=k
   ·rw [e1,e2]
   ·subst e1
    rw [List.getElem?_set_ne (fun e=>e2 e.symm)] at h2
    rw [List.getElem?_set_self (by rw [h.len]; exact hk)] at h1
    cases h1
    exact (old _ _ _ h2 rfl).elim
  ·by_cases e2:g2=k
   ·subst e2
    rw [List.getElem?_set_ne (fun e=>e1 e.symm)] at h1
    rw [List.getElem?_set_self (by rw [h.len]; exact hk)] at h2
    cases h2
    exact (old _ _ _ h1 rfl).elim
   ·rw [List.getElem?_set_ne (fun e=>e1 e.symm)] at h1
    rw [List.getElem?_set_ne (fun e=>e2 e.symm)] at h2
    exact h.apart _ _ _ _ _ h1 h2
theorem cellOn {N:Nat} {f:Nat→List Pc} {r:List (List V)} {ms:List (Option (List (List V)))} (h:BegOK N f r ms) {k:Nat} (hk:k<N) {P:Prop} {Q:Nat→Nat→Prop} (hp:f k=[]→r[k]? = some [nilS]→P) (hq : ∀ j,f k≠[]→r[k]? = some [.sl (.m 0 j) 0 (f k).length]→memb ms j=some ((f k).map pcR)→Q j (f k).length) :
  onSome r[0+k]? fun row=>onSome row[0]? fun v=>onMem 0 v P Q:=by
 obtain ⟨row,h1,h2⟩:=h.cell k hk
 rw [Nat.zero_add]
 rcases h2 with ⟨h2,rfl⟩ | ⟨h2,j,rfl,h3⟩
 ·exact onSome_mk h1 (onSome_mk (x:=nilS) rfl (hp h2 h1))
 ·exact onSome_mk h1 (onSome_mk (x := .sl (.m 0 j) 0 (f k).length) rfl (hq j h2 h1 h3))
theorem good_set {N:Nat} {f:Nat→List Pc} {r:List (List V)} {ms:List (Option (List (List V)))} (h:BegOK N f r ms) {k a b n:Nat} {row:List V} (hr:r[k]? = some row):(r.set k (V.sl (Id.p a) 0 n::(List.append []) (List.drop 1 row))).all (goodR [a,b] 0 true)=true:=by
 have hrow:row.drop 1=[]:=by
  obtain ⟨m,hm⟩:=h.row (List.mem_of_getElem? hr)
  rcases hm with ⟨_,rfl⟩ | ⟨_,j,rfl,_⟩ <;> rfl
 rw [hrow,List.all_eq_true]
 intro x hx
 rcases List.mem_or_eq_of_mem_set hx with hx | rfl
 ·exact List.all_eq_true.1 (h.good [a,b]) x hx
 ·have:posOf [a,b] a=some 0:=by simp [posOf]
  simp [goodR,goodV,this]
theorem tr_set {N:Nat} {f:Nat→List Pc} {r:List (List V)} {ms:List (Option (List (List V)))} (h:BegOK N f r ms) {k a b n L:Nat} {row:List V} (hr:r[k]? = some row):trR [a,b] 0 L (r.set k (V.sl (Id.p a) 0 n::(List.append []) (List.drop 1 row)))=r.set k [V.sl (.m 0 L) 0 n]:=by
 have hrow:row.drop 1=[]:=by
  obtain ⟨m,hm⟩:=h.row (List.mem_of_getElem? hr)
  rcases hm with ⟨_,rfl⟩ | ⟨_,j,rfl,_⟩ <;> rfl
 have h1:=h.tr [a,b] L
 unfold trR at h1 ⊢
 rw [hrow,List.map_set,h1]
 have:posOf [a,b] a=some 0:=by simp [posOf]
 simp [trMv,this]
def begC (m:List Pc):V:=match m with
 | []=>nilS
 | _ => .lst 7 (m.map pcR)
def begR (N:Nat) (f:Nat→List Pc):List (List V):=(List.range N).map fun n=>[begC (f n)]
theorem beg_end {N:Nat} {f:Nat→List Pc} {r:List (List V)} {ms:List (Option (List (List V)))} {τ:Clean.Id→Tr} (h:BegOK N f r ms) (hτ : ∀ j es,memb ms j=some es→τ (.m 0 j) = .frz 7 es):sub (List.map (trL τ) r) 0 N=begR N f:=by
 have hl:=h.len
 have h1:sub (List.map (trL τ) r) 0 N=List.map (trL τ) r:=by
  unfold sub
  rw [List.drop_zero,List.take_of_length_le (by simp [hl])]
 rw [h1]
 refine List.ext_getElem? fun g=>?_
 by_cases hg:g<N
 ·obtain ⟨row,h2,h3⟩:=h.cell g hg
  rw [List.getElem?_map,h2,begR,List.getElem?_map,List.getElem?_range hg]
  show some (trL τ row)=some [begC (f g)]
  generalize f g=m at h3
  rcases h3 with ⟨rfl,rfl⟩ | ⟨h4,j,rfl,h5⟩
  ·rfl
  ·have h6:trL τ [V.sl (.m 0 j) 0 m.length]=[V.lst 7 (sub (m.map pcR) 0 m.length)]:=by simp [trL,V.tr,hτ j _ h5]
   have h7:sub (m.map pcR) 0 m.length=m.map pcR:=by unfold sub; rw [List.drop_zero,List.take_of_length_le (by simp)]
   rw [h6,h7]
   cases m with
   | nil=>exact (h4 rfl).elim
   | cons a t=>rfl
 ·rw [List.getElem?_eq_none (by simp; omega),List.getElem?_eq_none (by simp [begR]; omega)]
def wallAt (L:List C3) (k:Nat) (t:C3) (x y:Int):List WL:=match pos L (t.1+x,t.2.1+y,t.2.2),pos L (t.1,t.2.1,t.2.2+1),pos L (t.1+x,t.2.1+y,t.2.2+1) with
 | some a,some b,some c=>[((k:Int),(a:Int),(b:Int),(c:Int))]
 | _,_,_=>[]
def wallJ (L:List C3) (k:Nat) (t:C3):Nat→List WL
 | 0=>[]
 | 1=>wallAt L k t 1 0
 | _=>wallAt L k t 1 0++wallAt L k t 0 1
def wallK (L:List C3) (k:Nat):List WL:=match L[k]? with
 | some t=>wallJ L k t 2
 | none=>[]
def wallU (L:List C3) (n:Nat):List WL:=(List.range n).flatMap (wallK L)
theorem wallU_succ (L:List C3) (n:Nat):wallU L (n+1)=wallU L n++wallK L n:=by
 unfold wallU; rw [List.range_succ,List.flatMap_append]; simp
def wlV (ws:List WL):V:=match ws with
 | []=>nilS
 | _ => .lst 4 (wlR ws)
end Go.Proofs.YtkkgicjioajimaaDoor
