/- A part of the proof. -/
import Derived.Test.YtkkgicjioajimaaDoorXA7G5
namespace Go.Proofs.YtkkgicjioajimaaDoor.Clean
set_option linter.unusedSimpArgs false
set_option linter.unusedVariables false
section
variable {P:Program} {ops:Array Oper} {Q:Exit→Act→World→Prop} {md:Region.Mode}
def wpAnyS (P:Program) (md:Region.Mode) (ops:Array Oper) (Q:Exit→Act→World→Prop) (S:Array Bool→World→Prop):Nat→Array Bool→Act→World→Prop
 | 0,listed,a,w=>Region.ready md ops listed=[]∧Q .normal a w
 | fuel+1,listed,a,w=>(Region.ready md ops listed=[]→Q .normal a w) ∧
   ∀ i∈Region.ready md ops listed,wpOp P ops Q i (fun a' w' => S (listed.setIfInBounds i true) w' ∧ wpAnyS P md ops Q S fuel (listed.setIfInBounds i true) a' w') a w
theorem wpAny_of_S {S:Array Bool→World→Prop} : ∀ (fuel:Nat) (listed:Array Bool) (a:Act) (w:World),wpAnyS P md ops Q S fuel listed a w→wpAny P md ops Q fuel listed a w
 | 0,_,_,_,h=>h
 | fuel+1,_,_,_,h=>⟨h.1,fun i hi=>wpOp_mono (fun a' w' h' => wpAny_of_S fuel _ a' w' h'.2) (h.2 i hi)⟩
theorem wpAnyS_mono {S S' : Array Bool→World→Prop} (hS : ∀ l w,S l w→S' l w) : ∀ (fuel:Nat) (listed:Array Bool) (a:Act) (w:World),wpAnyS P md ops Q S fuel listed a w→wpAnyS P md ops Q S' fuel listed a w
 | 0,_,_,_,h=>h
 | fuel+1,_,_,_,h=>⟨h.1,fun i hi=>wpOp_mono (fun a' w' h' => ⟨hS _ _ h'.1,wpAnyS_mono hS fuel _ a' w' h'.2⟩) (h.2 i hi)⟩
def ClosedL (md:Region.Mode) (ops:Array Oper) (listed:Array Bool):Prop :=
 ∀ (j:Nat) oj,ops[j]? = some oj→listed.getD j false=true → ∀ e∈oj.after,Region.binds md e=true→listed.getD e.on false=true
theorem ClosedL.step {listed:Array Bool} {i:Nat} (hc:ClosedL md ops listed) (hi:i∈Region.ready md ops listed):ClosedL md ops (listed.setIfInBounds i true):=by
 intro j oj hj hl e he hb
 obtain ⟨h0,oi,hoi,hall⟩:=mem_ready.1 hi
 by_cases hij:i=j
 ·subst hij
  rw [hoi] at hj
  simp at hj
  subst hj
  exact getD_set_true (hall e he hb)
 ·rw [getD_set_ne false hij] at hl
  exact getD_set_true (hc j oj hj hl e he hb)
theorem wpAnyS_first {S:Array Bool→World→Prop} {i:Nat} {oi:Oper} {v:Value} {φ:World→Prop} (hi:ops[i]? = some oi) (hsel : ∀ (j:Nat) (o:Oper) cs b,ops[j]? = some o→o.op ≠ .select cs b)
  (hQ : ∀ c a w,Q (.panic c) (a.put oi.dst v) w→Q (.panic c) a w)
  (hSi : ∀ listed w,S (listed.setIfInBounds i true) w↔S listed w)
  (hφ : ∀ listed w,S listed w→ClosedL md ops listed→listed.getD i true=false→φ w) :
  ∀ (fuel:Nat) (listed:Array Bool) (a:Act) (w:World),
   (∀ j oj,ops[j]? = some oj→j≠i→listed.getD j true=false→(∀ e∈oj.after,Region.binds md e=true→e.on≠i)→oi.apart ops oj=true) →
   i∈Region.ready md ops listed→ClosedL md ops listed→YieldsIf P ops φ oi v a→S listed w →
   wpAnyS P md ops Q S fuel (listed.setIfInBounds i true) (a.put oi.dst v) w→wpAnyS P md ops Q S (fuel+1) listed a w:=by
 intro fuel
 induction fuel with
 | zero =>
  intro listed a w _ hr hc hy hS H
  refine ⟨fun h=>(by rw [h] at hr; cases hr),fun j hj=>?_⟩
  have hφw:=hφ listed w hS hc (mem_ready.1 hr).1
  by_cases hji:j=i
  ·subst hji
   exact yif_wpOp hi hy hφw ⟨(hSi _ _).2 hS,H⟩
  ·have:=ready_mono hj hji
   rw [H.1] at this
   cases this
 | succ fuel ih =>
  intro listed a w hfree hr hc hy hS H
  refine ⟨fun h=>(by rw [h] at hr; cases hr),fun j hj=>?_⟩
  have hφw:=hφ listed w hS hc (mem_ready.1 hr).1
  by_cases hji:j=i
  ·subst hji
   exact yif_wpOp hi hy hφw ⟨(hSi _ _).2 hS,H⟩
  ·have h1:=H.2 j (ready_mono hj hji)
   obtain ⟨hjun,oj,hoj,hall⟩:=mem_ready.1 hj
   have hnot : ∀ e∈oj.after,Region.binds md e=true→e.on≠i:=fun e he hb heq=>by
    have h1:=hall e he hb
    have h0:=(mem_ready.1 hr).1
    rw [heq] at h1
    rcases Nat.lt_or_ge i listed.size with h' | h'
    ·simp [h'] at h0 h1; rw [h0] at h1; cases h1
    ·simp [Array.getElem?_eq_none h'] at h1
   have h2:=wpOp_putIf hoj (hfree j oj hoj hji hjun hnot) (fun cs b=>hsel i oi cs b hi) (fun cs b=>hsel j oj cs b hoj) hQ hy h1
   have hfree' : ∀ k ok,ops[k]? = some ok→k≠i→(listed.setIfInBounds j true).getD k true=false →
     (∀ e∈ok.after,Region.binds md e=true→e.on≠i)→oi.apart ops ok=true:=fun k ok hk hki hun hno=>by
    refine hfree k ok hk hki ?_ hno
    by_cases hjk:j=k
    ·subst hjk; exact hjun
    ·rw [getD_set_ne true hjk] at hun; exact hun
   refine wpOp_mono (fun a' w' h3=>?_) h2
   obtain ⟨hy', hS', hK⟩:=h3
   rw [Array.setIfInBounds_comm _ _ (Ne.symm hji)] at hS' hK
   have hS'' := (hSi _ _).1 hS'
   exact ⟨hS'', ih (listed.setIfInBounds j true) a' w' hfree' (ready_mono hr (Ne.symm hji)) (hc.step hj) hy' hS'' hK⟩
end
theorem testBit_or_pow (m i t:Nat):(m ||| 2 ^ i).testBit t=(m.testBit t || decide (i=t)):=by
 rw [Nat.testBit_or,Nat.testBit_two_pow]
theorem onMask_bit (o:Oper) (t:Nat):(onMask o).testBit t=true ↔ ∃ e∈o.after,Region.binds .any e=true∧e.on=t:=by
 have key : ∀ (l:List Edge) (m:Nat),(l.foldl (fun m e=>bif Region.binds .any e then m ||| 2 ^ e.on else m) m).testBit t=true↔m.testBit t=true ∨ ∃ e∈l,Region.binds .any e=true∧e.on=t:=by
  intro l
  induction l with
  | nil=>intro m; simp
  | cons e l ih =>
   intro m
   rw [List.foldl_cons,ih]
   cases hb:Region.binds .any e
   ·simp [hb]
   ·simp only [cond_true,testBit_or_pow,Bool.or_eq_true,decide_eq_true_eq,List.mem_cons,exists_eq_or_imp,hb,true_and]
    constructor
    ·rintro ((h | h) | h)
     ·exact .inl h
     ·exact .inr (.inl h)
     ·exact .inr (.inr h)
    ·rintro (h | h | h)
     ·exact .inl (.inl h)
     ·exact .inl (.inr h)
     ·exact .inr h
 unfold onMask
 rw [key]
 simp
theorem befMask_bit (acc:List Nat) (o:Oper) (t:Nat) (h:(befMask acc o).testBit t=true) : ∃ e∈o.after,Region.binds .any e=true∧(e.on=t∨(acc.getD e.on 0).testBit t=true):=by
 have key : ∀ (l:List Edge) (m:Nat),(l.foldl (fun m e=>bif Region.binds .any e then m ||| 2 ^ e.on ||| acc.getD e.on 0 else m) m).testBit t=true →
   m.testBit t=true ∨ ∃ e∈l,Region.binds .any e=true∧(e.on=t∨(acc.getD e.on 0).testBit t=true):=by
  intro l
  induction l with
  | nil=>intro m h; exact .inl h
  | cons e l ih =>
   intro m h
   rw [List.foldl_cons] at h
   rcases ih _ h with h | ⟨e', he', hb,h⟩
   ·cases hb:Region.binds .any e
    ·simp [hb] at h; exact .inl h
    ·simp only [hb,cond_true,Nat.testBit_or,Bool.or_eq_true,Nat.testBit_two_pow,decide_eq_true_eq] at h
     rcases h with (h | h) | h
     ·exact .inl h
     ·exact .inr ⟨e,by simp,hb,.inl h⟩
     ·exact .inr ⟨e,by simp,hb,.inr h⟩
   ·exact .inr ⟨e', by simp [he'],hb,h⟩
 unfold befMask at h
 rcases key _ _ h with h | ⟨e,he,h⟩
 ·simp at h
 ·exact ⟨e,by simpa using he,h⟩
theorem befs_fold : ∀ (l:List Oper) (acc:List Nat),
  (l.foldl (fun acc o=>acc++[befMask acc o]) acc).length=acc.length+l.length ∧
  (∀ k,k<acc.length→(l.foldl (fun acc o=>acc++[befMask acc o]) acc).getD k 0=acc.getD k 0) ∧
  ∀ k o,l[k]? = some o → ∃ pre:List Nat,pre.length=acc.length+k∧(∀ t,t<pre.length→pre.getD t 0=(l.foldl (fun acc o=>acc++[befMask acc o]) acc).getD t 0) ∧
   (l.foldl (fun acc o=>acc++[befMask acc o]) acc).getD (acc.length+k) 0=befMask pre o
 | [],acc=>by simp
 | o::l,acc=>by
  obtain ⟨h1,h2,h3⟩:=befs_fold l (acc++[befMask acc o])
  simp only [List.foldl_cons]
  refine ⟨by rw [h1]; simp; omega,fun k hk=>?_,fun k o' ho' => ?_⟩
  ·rw [h2 k (by simp; omega)]
   simp [List.getD,List.getElem?_append_left hk]
  ·cases k with
   | zero =>
    simp at ho'
    subst ho'
    refine ⟨acc,by simp,fun t ht=>?_,?_⟩
    ·rw [h2 t (by simp; omega)]
     simp [List.getD,List.getElem?_append_left ht]
    ·rw [h2 _ (by simp)]
     simp [List.getD]
   | succ k =>
    obtain ⟨pre,p1,p2,p3⟩:=h3 k o' (by simpa using ho')
    refine ⟨pre,by rw [p1]; simp; omega,p2,?_⟩
    rw [← p3]
    congr 1
    simp
    omega
theorem seqN_eq (n:Nat) (k:Nat→List Nat):seqN n k=k n:=by cases n <;> rfl
theorem befsGo_eq : ∀ (ops:List Oper) (acc:List Nat),befsGo ops acc=ops.foldl (fun acc o=>acc++[befMask acc o]) acc
 | [],acc=>rfl
 | o::r,acc=>by rw [befsGo,seqN_eq,befsGo_eq r]; rfl
theorem befsOf_eq (ops:List Oper):befsOf ops=ops.foldl (fun acc o=>acc++[befMask acc o]) []:=befsGo_eq ops []
theorem befs_bit {ops:Array Oper} {j:Nat} {oj:Oper} (hj:ops[j]? = some oj) {t:Nat} (h:((befsOf ops.toList).getD j 0).testBit t=true) :
  ∃ e∈oj.after,Region.binds .any e=true∧(e.on=t∨(e.on<j∧((befsOf ops.toList).getD e.on 0).testBit t=true)):=by
 obtain ⟨_,_,h3⟩:=befs_fold ops.toList []
 obtain ⟨pre,p1,p2,p3⟩:=h3 j oj (by simpa using hj)
 simp only [List.length_nil,Nat.zero_add] at p1 p3
 rw [befsOf_eq] at h ⊢
 rw [p3] at h
 obtain ⟨e,he,hb,hh⟩:=befMask_bit pre oj t h
 refine ⟨e,he,hb,?_⟩
 rcases hh with hh | hh
 ·exact .inl hh
 ·by_cases hlt:e.on<pre.length
  ·rw [p2 _ hlt] at hh
   exact .inr ⟨by omega,hh⟩
  ·simp [List.getD,List.getElem?_eq_none (Nat.le_of_not_lt hlt)] at hh
theorem bef_listed {ops:Array Oper} {listed:Array Bool} (hs:listed.size=ops.size) (hc:ClosedL .any ops listed) : ∀ (n j:Nat),j<n→listed.getD j false=true → ∀ t,((befsOf ops.toList).getD j 0).testBit t=true→listed.getD t false=true
 | 0,j,hj,_,_,_=>by omega
 | n+1,j,hj,hl,t,ht=>by
  have hlt:j<ops.size:=by
   rw [← hs]
   rcases Nat.lt_or_ge j listed.size with h | h
   ·exact h
   ·simp [Array.getElem?_eq_none h] at hl
  obtain ⟨e,he,hb,h⟩:=befs_bit (Array.getElem?_eq_getElem hlt) ht
  have hle:=hc j _ (Array.getElem?_eq_getElem hlt) hl e he hb
  rcases h with rfl | ⟨hlt', h⟩
  ·exact hle
  ·exact bef_listed hs hc n e.on (by omega) hle t h
def Rel (ops:Array Oper) (m:Nat) (listed:Array Bool):Prop:=listed.size=ops.size ∧ ∀ j,listed.getD j false=m.testBit j
theorem Rel.step {ops:Array Oper} {m i:Nat} {listed:Array Bool} (h:Rel ops m listed) (hi:i<ops.size):Rel ops (m ||| 2 ^ i) (listed.setIfInBounds i true):=by
 refine ⟨by simp [h.1],fun j=>?_⟩
 rw [testBit_or_pow,← h.2 j]
 by_cases hij:i=j
 ·subst hij
  have:i<listed.size:=by rw [h.1]; exact hi
  simp [this]
 ·rw [getD_set_ne false hij]; simp [hij]
theorem isReady_iff {ops:Array Oper} {m:Nat} {listed:Array Bool} (h:Rel ops m listed) {i:Nat} {o:Oper} (hi:ops[i]? = some o):isReady m i (onMask o)=true↔i∈Region.ready .any ops listed:=by
 have hlt:i<listed.size:=by rw [h.1]; exact lt_of_some hi
 rw [mem_ready]
 simp only [isReady,Bool.and_eq_true,Bool.not_eq_true', hi,Option.some.injEq,exists_eq_left']
 have h1:listed.getD i true=listed.getD i false:=by simp [hlt]
 rw [h1,← h.2 i]
 refine and_congr_right fun _=>?_
 constructor
 ·intro hb e he hbd
  have:=beq_eq hb
  rw [h.2,← Bool.and_true (m.testBit e.on)]
  have hon:(onMask o).testBit e.on=true:=(onMask_bit o e.on).2 ⟨e,he,hbd,rfl⟩
  have:=congrArg (fun x=>x.testBit e.on) this
  simp only [Nat.testBit_and,hon,Bool.true_and] at this
  simp [this]
 ·intro hall
  have:onMask o &&& m=onMask o:=by
   apply Nat.eq_of_testBit_eq
   intro t
   rw [Nat.testBit_and]
   cases ho:(onMask o).testBit t
   ·simp
   ·obtain ⟨e,he,hbd,rfl⟩:=(onMask_bit o t).1 ho
    have:=hall e he hbd
    rw [h.2] at this
    simp [this]
  rw [this]
  simp
theorem prepAll_mem {ops:Array Oper} {p:Prep} (h:p∈prepAll ops.toList):ops[p.i]? = some p.o∧p.quiet=quietOp p.o.op∧p.on=onMask p.o∧p.bef=(befsOf ops.toList).getD p.i 0:=by
 simp only [prepAll,List.mem_map,Prod.exists] at h
 obtain ⟨o,i,hm,rfl⟩:=h
 have:=List.mem_zipIdx_iff_getElem?.1 hm
 exact ⟨by simpa using this,rfl,rfl,rfl⟩
theorem prepAll_of {ops:Array Oper} {i:Nat} {o:Oper} (h:ops[i]? = some o):(⟨i,o,quietOp o.op,onMask o,(befsOf ops.toList).getD i 0⟩:Prep)∈prepAll ops.toList:=by
 simp only [prepAll,List.mem_map,Prod.exists]
 exact ⟨o,i,List.mem_zipIdx_iff_getElem?.2 (by simpa using h),rfl⟩
theorem readyOnes_filter (m:Nat) : ∀ ps:List Prep,readyOnes m ps=ps.filter fun p=>isReady m p.i p.on
 | []=>rfl
 | p::r=>by
  simp only [readyOnes,List.filter_cons,readyOnes_filter m r]
  cases isReady m p.i p.on <;> simp
theorem firstQuiet_some {m:Nat} : ∀ {ps:List Prep} {p:Prep},firstQuiet m ps=some p→p∈ps∧p.quiet=true∧isReady m p.i p.on=true
 | [],p,h=>by simp [firstQuiet] at h
 | q::r,p,h=>by
  simp only [firstQuiet] at h
  cases hq:q.quiet&&isReady m q.i q.on
  ·rw [hq] at h
   obtain ⟨h1,h2⟩:=firstQuiet_some h
   exact ⟨by simp [h1],h2⟩
  ·rw [hq] at h
   simp at h
   subst h
   simp only [Bool.and_eq_true] at hq
   exact ⟨by simp,hq⟩
theorem ready_map {ops:Array Oper} {m:Nat} {listed:Array Bool} (h:Rel ops m listed):Region.ready .any ops listed=(readyOnes m (prepAll ops.toList)).map (·.i):=by
 have hp:(prepAll ops.toList).map (·.i)=List.range ops.size:=by
  simp only [prepAll,List.map_map]
  have:((fun p:Prep=>p.i) ∘ fun (x:Oper×Nat)=>(⟨x.2,x.1,quietOp x.1.op,onMask x.1,(befsOf ops.toList).getD x.2 0⟩:Prep))=Prod.snd:=rfl
  show List.map ((fun p:Prep=>p.i) ∘ fun (x:Oper×Nat)=>(⟨x.2,x.1,quietOp x.1.op,onMask x.1,(befsOf ops.toList).getD x.2 0⟩:Prep)) ops.toList.zipIdx=_
  rw [this,List.zipIdx_map_snd]
  simp [List.range_eq_range']
 have hmem : ∀ i,i∈Region.ready .any ops listed→i<ops.size:=fun i hi=>by
  obtain ⟨_,o,ho,_⟩:=mem_ready.1 hi
  exact lt_of_some ho
 rw [readyOnes_filter]
 have hr:Region.ready .any ops listed=(List.range ops.size).filter fun i=>decide (i∈Region.ready .any ops listed):=by
  have:Region.ready .any ops listed=(List.range ops.size).filter fun i => !listed.getD i true&&((ops[i]?).map (·.after.all fun e => !Region.binds .any e || listed.getD e.on false)).getD false:=rfl
  conv=>lhs; rw [this]
  apply List.filter_congr
  intro i hi
  have:i∈Region.ready .any ops listed↔(!listed.getD i true&&((ops[i]?).map (·.after.all fun e => !Region.binds .any e || listed.getD e.on false)).getD false)=true:=by
   rw [this,List.mem_filter]; simp [List.mem_range.1 hi]
  rw [Bool.eq_iff_iff,decide_eq_true_eq]
  exact this.symm
 rw [hr,← hp,List.filter_map]
 congr 1
 apply List.filter_congr
 intro p hpm
 obtain ⟨h1,_,h3,_⟩:=prepAll_mem hpm
 rw [Bool.eq_iff_iff]
 simp only [Function.comp,decide_eq_true_eq]
 rw [h3,isReady_iff h h1]
def SH (ops:Array Oper) (HR:List (Nat×(World→Prop))) (listed:Array Bool) (w:World):Prop :=
 ∀ p∈HR,(∀ (j:Nat) oj,ops[j]? = some oj→quietOp oj.op=false→((befsOf ops.toList).getD j 0).testBit p.1=true→listed.getD j false=false)→p.2 w
theorem SH.quiet {ops:Array Oper} {HR:List (Nat×(World→Prop))} {i:Nat} {oi:Oper} (hi:ops[i]? = some oi) (hq:quietOp oi.op=true) (listed:Array Bool) (w:World):SH ops HR (listed.setIfInBounds i true) w↔SH ops HR listed w:=by
 have key : ∀ (j:Nat) oj,ops[j]? = some oj→quietOp oj.op=false→(listed.setIfInBounds i true).getD j false=listed.getD j false:=fun j oj hj hqj=>by
  have hne:i≠j:=fun h=>by subst h; rw [hi] at hj; simp at hj; subst hj; rw [hq] at hqj; cases hqj
  exact getD_set_ne false hne
 constructor
 ·intro h p hp hc
  exact h p hp fun j oj hj hqj hb=>by rw [key j oj hj hqj]; exact hc j oj hj hqj hb
 ·intro h p hp hc
  exact h p hp fun j oj hj hqj hb=>by rw [← key j oj hj hqj]; exact hc j oj hj hqj hb
theorem regionOK_spec {ops:Array Oper} (h:regionOK ops (prepAll ops.toList)=true) {listed:Array Bool} (hs:listed.size=ops.size) (hc:ClosedL .any ops listed) {i:Nat} {oi:Oper} (hi:ops[i]? = some oi) (hq:quietOp oi.op=true)
  (hr:i∈Region.ready .any ops listed):Region.noSelect ops=true ∧ ∀ (j:Nat) oj,ops[j]? = some oj→j≠i→listed.getD j true=false→(∀ e∈oj.after,Region.binds .any e=true→e.on≠i)→oi.apart ops oj=true:=by
 simp only [regionOK,Bool.and_eq_true,List.all_eq_true] at h
 refine ⟨h.1,fun j oj hj hne hun hno=>?_⟩
 have h1:=h.2 _ (prepAll_of hi)
 simp only [hq,Bool.not_true,Bool.false_or,List.all_eq_true] at h1
 have h2:=h1 _ (prepAll_of hj)
 simp only [Bool.or_eq_true] at h2
 have hjl:j<listed.size:=by rw [hs]; exact lt_of_some hj
 have hun' : listed.getD j false=false:=by simpa [hjl] using hun
 rcases h2 with ((h2 | h2) | h2) | h2
 ·exact (hne (beq_eq h2)).elim
 ·exfalso
  obtain ⟨e,he,hb,hh⟩:=befs_bit hi h2
  obtain ⟨_,o', ho', hall⟩:=mem_ready.1 hr
  rw [hi] at ho'
  simp at ho'
  subst ho'
  have hle:=hall e he hb
  rcases hh with rfl | ⟨_,hh⟩
  ·rw [hun'] at hle; cases hle
  ·have:=bef_listed hs hc _ e.on (Nat.lt_succ_self _) hle j hh
   rw [hun'] at this; cases this
 ·obtain ⟨e,he,hb,rfl⟩:=(onMask_bit oj i).1 h2
  exact (hno e he hb rfl).elim
 ·exact h2
section
variable {D:List Deferred} {F:Nat→Prop} {w:World} {ν:Nu} {N:Nat} {st:St} {a:Act}
theorem unx_rep {c:Bool} {v:V} {x:Value} (hr:rep F w ν v x):rep F w ν (unx c v) x:=by
 cases v <;> simp only [unx] <;> try exact hr
 rename_i s es
 cases c
 ·simp only [cond_false,rep,ri] at hr ⊢
  rcases hr with h | ⟨a,h1,h2⟩
  ·exact .inl h
  ·exact .inr ⟨a,_,Nat.le_refl _,h1,h2⟩
 ·exact hr
theorem fzNew_quiet {C:Calling} {n:Nat} {o:Oper} {v:V} {x:Value} {h:Hp} {k:V→Hp→Prop} (hq:quietOp o.op=true) (hr:rep F w ν v x) (hf:fzNew C n o v h k) : ∃ v', k v' h∧rep F w ν v' x:=by
 unfold fzNew at hf
 cases hc:isCut o.op with
 | true=>rw [hc,cond_true] at hf; exact ⟨_,hf,unx_rep hr⟩
 | false =>
  have:fzDoes C o=false:=by simp [fzDoes,hq]
  rw [hc,cond_false,this,cond_false] at hf
  exact ⟨_,memNew_of hf,hr⟩
theorem fzNew_alloc {C:Calling} {n:Nat} {o:Oper} {v:V} {h:Hp} {k:V→Hp→Prop} (ha:allocOp o.op=true):fzNew C n o v h k=k v h:=by
 have hc:isCut o.op=false:=by
  obtain ⟨dst,op,type,pos,after,guard⟩:=o
  cases op <;> simp_all [allocOp,isCut]
 have hl:isLoad o.op=false:=by
  obtain ⟨dst,op,type,pos,after,guard⟩:=o
  cases op <;> simp_all [allocOp,isLoad]
 have hb:isBin o.op=false:=by
  obtain ⟨dst,op,type,pos,after,guard⟩:=o
  cases op <;> simp_all [allocOp,isBin]
 simp [fzNew,fzDoes,memNew,ha,hc,hl,hb]
theorem quiet_sound {P:Program} {C:Calling} {ops:Array Oper} {o:Oper} (hq:quietOp o.op=true) {k:St→Prop} (hst:StOK D C.glob N ν F st a w) (hw:wOper P C N ops.toList (fun _=>true) o st k) :
  ∃ x st', k st' ∧ StOK D C.glob N ν F st' (a.put o.dst x) w ∧ ∃ fp,(∀ b,fp=some b→readsB (ev C.glob st.tm) o.op=some b)∧YieldsIf P ops (fun w' => Agree F ν fp w w') o x a:=by
 have run : ∀ tm,SlotOK C.glob F w ν tm a.tmps→Region.wanted o (yielded ops a.tmps)=true→(∀ b,readsB (ev C.glob tm) o.op=some b→readsB (ev C.glob st.tm) o.op=some b)→wop P C (ev C.glob tm) st.h o.type o.op (fun v h=>fzNew C st.h.nxt o v h fun v h=>putT N tm o.dst v fun tm=>k ⟨tm,h⟩) →
   ∃ x st', k st' ∧ StOK D C.glob N ν F st' (a.put o.dst x) w ∧ ∃ fp,(∀ b,fp=some b→readsB (ev C.glob st.tm) o.op=some b)∧YieldsIf P ops (fun w' => Agree F ν fp w w') o x a:=fun tm hs hwt hrd hw=>by
  obtain ⟨x,v,h1,h2,h3⟩:=q_sound (P:=P) (C:=C) (o:=o) (ev_rep (a:=a) hs) hst.heap hq hw
  obtain ⟨v', h1,h2⟩:=fzNew_quiet hq h2 h1
  obtain ⟨tm', q1,q2,q3,q4⟩:=put_ok (d:=o.dst) hs hst.size h2 h1
  exact ⟨x,⟨tm', st.h⟩,q1,⟨hst.heap,q3,q4.trans hst.defers,q2⟩,readsB (ev C.glob tm) o.op,hrd,.inl ⟨hwt,h3⟩⟩
 have pass : ∀ tm,SlotOK C.glob F w ν tm a.tmps→Region.wanted o (yielded ops a.tmps)=false→putT N tm o.dst (.raw (.tuple #[])) (fun tm=>k ⟨tm,st.h⟩) →
   ∃ x st', k st' ∧ StOK D C.glob N ν F st' (a.put o.dst x) w ∧ ∃ fp,(∀ b,fp=some b→readsB (ev C.glob st.tm) o.op=some b)∧YieldsIf P ops (fun w' => Agree F ν fp w w') o x a:=fun tm hs hwt hw=>by
  obtain ⟨tm', q1,q2,q3,q4⟩:=put_ok (d:=o.dst) (x:=undef) hs hst.size (by simp [rep,undef]) hw
  exact ⟨undef,⟨tm', st.h⟩,q1,⟨hst.heap,q3,q4.trans hst.defers,q2⟩,none,(fun b h=>by cases h),.inr ⟨hwt,rfl⟩⟩
 unfold wOper at hw
 cases hg:o.guard with
 | none =>
  simp only [hg,guardB_iff,true_and] at hw
  exact run st.tm hst.slot (by unfold Region.wanted; rw [hg]) (fun b h=>h) hw
 | some gw =>
  obtain ⟨j,want⟩:=gw
  simp only [hg,onSome_iff,guardV_iff,ifB_iff] at hw
  obtain ⟨d,hd,v,hv,⟨cs,rfl,hp⟩ | ⟨b,rfl,h1,h2⟩⟩:=hw
  ·obtain ⟨x,hx,hr⟩:=hst.slot.1 d _ hv
   simp only [rep] at hr
   subst hr
   exact pass st.tm hst.slot (wanted_tuple hg hd hx) hp
  obtain ⟨x,hx,hr⟩:=hst.slot.1 d _ hv
  simp only [rep] at hr
  subst hr
  have hwt:=wanted_some hg hd hx
  have hrd : ∀ (tm' : T V) (c:Bool),(∀ t,tm'.get t=if t=d then some (.raw (.bool c)) else st.tm.get t) → ∀ b', readsB (ev C.glob tm') o.op=some b' → readsB (ev C.glob st.tm) o.op=some b' := by
   intro tm' c hget b' hb'
   have evs : ∀ x:Operand,ev C.glob tm' x=ev C.glob st.tm x∨ev C.glob tm' x = .raw (.bool c):=fun x=>by
    cases x with
    | tmp t' =>
     simp only [ev,hget]
     by_cases htd:t' = d
     ·subst htd; right; simp
     ·left; simp [htd]
    | const v=>exact .inl rfl
    | global g=>exact .inl rfl
    | func f=>exact .inl rfl
   unfold readsB at hb' ⊢
   split at hb'
   ·rename_i t x heq
    rcases evs x with he | he
    ·rw [he] at hb'; exact hb'
    ·rw [he] at hb'; cases hb'
   ·rename_i t x i ok heq
    rcases evs x with he | he
    ·rw [he] at hb'; exact hb'
    ·rw [he] at hb'; cases hb'
   ·rename_i t t' x heq
    rcases evs x with he | he
    ·rw [he] at hb'; exact hb'
    ·rw [he] at hb'; cases hb'
   ·rename_i cl heq
    obtain ⟨callee,args,ts⟩:=cl
    simp only at hb' ⊢
    cases hl:args.toList with
    | nil=>rw [hl] at hb'; simp at hb'
    | cons x xs =>
     rw [hl] at hb'
     simp only [List.map] at hb' ⊢
     rcases evs x with he | he
     ·rw [he] at hb'
      split at hb'
      ·rename_i hx2
       simp only [List.cons.injEq] at hx2
       rw [hx2.1]
       exact hb'
      ·cases hb'
     ·rw [he] at hb'
      split at hb'
      ·rename_i hx2
       simp at hx2
      ·cases hb'
   ·exact hb'
  cases b
  ·obtain ⟨tm', q1,q2,q3⟩:=put_same hst.slot hx (by simp only [rep]) (h2 rfl)
   cases want
   ·simp only [guardB_iff,true_and] at q1
    exact run tm' q2 (by rw [hwt]; rfl) (hrd tm' _ q3) q1
   ·exact pass tm' q2 (by rw [hwt]; rfl) q1
  ·obtain ⟨tm', q1,q2,q3⟩:=put_same hst.slot hx (by simp only [rep]) (h1 rfl)
   cases want
   ·exact pass tm' q2 (by rw [hwt]; rfl) q1
   ·simp only [guardB_iff,true_and] at q1
    exact run tm' q2 (by rw [hwt]; rfl) (hrd tm' _ q3) q1
def Ag (P:Program) (ops:Array Oper) (tm:T V) (q:Nat) (φ:World→Prop) (S:Array Value→Prop):Prop :=
 ∀ o,ops[q]? = some o→o.guard=none → ∃ (a0:Act) (x:Value),S (a0.put o.dst x).tmps ∧ ∀ w', (execOp a0.eval o).run P w' = .ok (.value x) w' → φ w'
def Inv (P:Program) (G:Nat→Option (List V)) (ops:Array Oper) (HR:List (Nat×(World→Prop))) (held:List (Nat×Id×T V)) (listed:Array Bool) (ν:Nu) (F:Nat→Prop) (w:World):Prop :=
 (∀ x∈held, ∃ tmps,SlotOK G F w ν x.2.2 tmps) ∧ ∀ p∈HR,(∀ (j:Nat) oj,ops[j]? = some oj→quietOp oj.op=false→((befsOf ops.toList).getD j 0).testBit p.1=true→listed.getD j false=false) →
  ∃ fp,(∀ w', Agree F ν fp w w' → p.2 w') ∧ ∀ b,fp=some b → ∃ tm,(p.1,b,tm)∈held∧Ag P ops tm p.1 p.2 (SlotOK G F w ν tm)
structure Early where
 i:Nat
 r:Nat
 cs:Array Value
 e:TypeId
 X:Nat→Value
def Early.run (P:Program) (x:Early) (c:Sem Next):Prop := ∀ w' : World,c.run P w' = .ok (.value (x.X w'.heap.size)) { w' with heap:=w'.heap.push (.cells x.cs x.e) }
structure EOK (P:Program) (ops:Array Oper) (ν:Nu) (F:Nat→Prop) (s0:Nat) (a:Act) (w:World) (x:Early):Prop where
 op : ∃ o d,ops[x.i]? = some o∧allocOp o.op=true∧Region.wanted o (yielded ops a.tmps)=true∧o.dst=some d∧a.tmps[d]? = some (x.X x.r)∧x.run P (execOp a.eval o)
 lo:s0≤x.r
 hi:x.r<w.heap.size
 own : ¬ν.own x.r
 frz : ¬F x.r
 cell:w.heap[x.r]? = some (.cells x.cs x.e (0,0))
theorem alloc_noselect {o:Oper} (h:allocOp o.op=true) : ∀ cs b,o.op ≠ .select cs b:=fun cs b he=>by rw [he] at h; simp [allocOp] at h
theorem eval_tmps {a a' : Act} (h:a'.tmps=a.tmps):a'.eval=a.eval:=by
 funext x
 cases x <;> simp [Act.eval,h]
theorem EOK.next {P:Program} {ops:Array Oper} {ν:Nu} {F:Nat→Prop} {s0:Nat} {a a' : Act} {w w' : World} {ν' : Nu} {F' : Nat→Prop} {x:Early} {oj:Oper} {v:Value} (hx:EOK P ops ν F s0 a w x) (he:Evo ν F w ν' F' w')
  (ha:a'.tmps=(a.put oj.dst v).tmps) (hap : ∀ o,ops[x.i]? = some o→o.apart ops oj=true):EOK P ops ν' F' s0 a' w' x:=by
 obtain ⟨o,d,h1,h2,h3,h4,h5,h6⟩:=hx.op
 obtain ⟨q1,q2,q3⟩:=Oper.apart_spec (hap o h1)
 refine ⟨⟨o,d,h1,h2,by rw [ha]; exact (wanted_put o a oj.dst v q3).trans h3,h4,?_,?_⟩,hx.lo,Nat.lt_of_lt_of_le hx.hi he.size,fun h=>?_,fun h=>?_,by rw [he.old _ hx.hi hx.own]; exact hx.cell⟩
 ·rw [ha]
  unfold Act.put
  cases hd:oj.dst with
  | none=>exact h5
  | some d' =>
   have hne:d' ≠ d:=fun h=>q2 d h4 (by rw [hd,h])
   simp only
   rw [Array.getElem?_setIfInBounds_ne hne]
   exact h5
 ·rw [eval_tmps ha,execOp_put o (alloc_noselect h2) a oj.dst v q3]
  exact h6
 ·exact (he.onew _ h).elim hx.own (fun h=>absurd hx.hi (by omega))
 ·rcases he.fnew _ h with h | h | h
  ·exact hx.frz h
  ·exact hx.own h
  ·exact absurd hx.hi (by omega)
def ClosedM (ops:Array Oper) (m:Nat):Prop := ∀ (j:Nat) oj,ops[j]? = some oj→m.testBit j=true → ∀ e∈oj.after,Region.binds .any e=true→m.testBit e.on=true
theorem isReady_bits {m i on:Nat}:isReady m i on=true↔m.testBit i=false ∧ ∀ t,on.testBit t=true→m.testBit t=true:=by
 simp only [isReady,Bool.and_eq_true,Bool.not_eq_true']
 refine and_congr_right fun _=>?_
 constructor
 ·intro hb t ht
  have:=congrArg (fun x=>x.testBit t) (beq_eq hb)
  simp only [Nat.testBit_and,ht,Bool.true_and] at this
  exact this
 ·intro hall
  have:on &&& m=on:=by
   apply Nat.eq_of_testBit_eq
   intro t
   rw [Nat.testBit_and]
   cases ho:on.testBit t
   ·simp
   ·simp [hall t ho]
  rw [this]
  simp
theorem bef_mask {ops:Array Oper} {m:Nat} (hc:ClosedM ops m) : ∀ (n j:Nat) (oj:Oper),j<n→ops[j]? = some oj→(∀ e∈oj.after,Region.binds .any e=true→m.testBit e.on=true) → ∀ t,((befsOf ops.toList).getD j 0).testBit t=true→m.testBit t=true
 | 0,j,_,hj,_,_,_,_=>by omega
 | n+1,j,oj,hj,hoj,hall,t,ht=>by
  obtain ⟨e,he,hb,h⟩:=befs_bit hoj ht
  have hle:=hall e he hb
  rcases h with rfl | ⟨hlt', h⟩
  ·exact hle
  ·have hlt:e.on<ops.size:=by have:=lt_of_some hoj; omega
   exact bef_mask hc n e.on _ (by omega) (Array.getElem?_eq_getElem hlt) (fun e' he' hb' => hc e.on _ (Array.getElem?_eq_getElem hlt) hle e' he' hb') t h
theorem ready_bef {ops:Array Oper} {m i:Nat} {o:Oper} (hc:ClosedM ops m) (hi:ops[i]? = some o) (hr:isReady m i (onMask o)=true) {t:Nat} (ht:((befsOf ops.toList).getD i 0).testBit t=true):m.testBit t=true :=
 bef_mask hc (i+1) i o (by omega) hi (fun e he hb=>(isReady_bits.1 hr).2 _ ((onMask_bit o e.on).2 ⟨e,he,hb,rfl⟩)) t ht
theorem ClosedM.step {ops:Array Oper} {m i:Nat} {o:Oper} (hc:ClosedM ops m) (hi:ops[i]? = some o) (hr:isReady m i (onMask o)=true):ClosedM ops (m ||| 2 ^ i):=by
 intro j oj hj hm e he hb
 rw [testBit_or_pow,Bool.or_eq_true,decide_eq_true_eq] at hm ⊢
 rcases hm with hm | rfl
 ·exact .inl (hc j oj hj hm e he hb)
 ·rw [hi] at hj
  simp at hj
  subst hj
  exact .inl ((isReady_bits.1 hr).2 _ ((onMask_bit o e.on).2 ⟨e,he,hb,rfl⟩))
theorem ClosedL.mask {ops:Array Oper} {m:Nat} {listed:Array Bool} (h:Rel ops m listed) (hc:ClosedL .any ops listed):ClosedM ops m:=by
 intro j oj hj hm e he hb
 rw [← h.2] at hm ⊢
 exact hc j oj hj hm e he hb
def Room (ops:Array Oper) (m g:Nat):Prop := ∀ L:List Nat,L.Nodup→(∀ j∈L,j<ops.size∧m.testBit j=false)→L.length≤g
theorem Room.step {ops:Array Oper} {m g i:Nat} (h:Room ops m (g+1)) (hi:i<ops.size) (hm:m.testBit i=false):Room ops (m ||| 2 ^ i) g:=by
 intro L hn hL
 have:=h (i::L) (List.nodup_cons.2 ⟨fun hmem=>by have:=(hL i hmem).2; rw [testBit_or_pow] at this; simp at this,hn⟩) (fun j hj=>by
  simp at hj
  rcases hj with rfl | hj
  ·exact ⟨hi,hm⟩
  ·have:=hL j hj
   rw [testBit_or_pow] at this
   simp at this
   exact ⟨this.1,this.2.1⟩)
 simpa using this
theorem Room.pos {ops:Array Oper} {m g i:Nat} (h:Room ops m g) (hi:i<ops.size) (hm:m.testBit i=false) : ∃ g', g=g' + 1:=by
 have:=h [i] (by simp) (fun j hj=>by simp at hj; subst hj; exact ⟨hi,hm⟩)
 cases g with
 | zero=>simp at this
 | succ g=>exact ⟨g,rfl⟩
theorem room_start (ops:Array Oper):Room ops 0 ops.size:=by
 have key : ∀ (n:Nat) (L:List Nat),L.Nodup→(∀ j∈L,j<n)→L.length≤n:=by
  intro n
  induction n with
  | zero =>
   intro L _ h
   cases L with
   | nil=>simp
   | cons x L=>have:=h x (by simp); omega
  | succ n ih =>
   intro L hn h
   have h1:=ih (L.erase n) (hn.erase n) (fun j hj=>by
    have:=h j (List.mem_of_mem_erase hj)
    have hne:j≠n:=fun he=>by subst he; exact (List.Nodup.not_mem_erase hn) hj
    omega)
   by_cases hm:n∈L
   ·have:=List.length_erase_of_mem hm
    omega
   ·rw [List.erase_of_not_mem hm] at h1
    omega
 exact fun L hn hL=>key _ L hn (fun j hj=>(hL j hj).1)
theorem wpAnyS_done {P:Program} {ops:Array Oper} {Q:Exit→Act→World→Prop} {md:Region.Mode} {S:Array Bool→World→Prop} {g:Nat} {listed:Array Bool} {a:Act} {w:World} (hr:Region.ready md ops listed=[]) (hq:Q .normal a w) :
  wpAnyS P md ops Q S g listed a w:=by
 cases g with
 | zero=>exact ⟨hr,hq⟩
 | succ g=>exact ⟨fun _=>hq,fun i hi=>by rw [hr] at hi; cases hi⟩
theorem wpOp_form {P:Program} {ops:Array Oper} {Q:Exit→Act→World→Prop} {K:Act→World→Prop} {i:Nat} {o:Oper} {a:Act} {w:World} (hi:ops[i]? = some o) (h:wpOp P ops Q i K a w) :
  wpOp P ops Q i (fun a' w' => K a' w' ∧ ∃ v,a'.tmps=(a.put o.dst v).tmps) a w:=by
 unfold wpOp at *
 simp only [hi] at *
 split
 ·rename_i hw
  simp only [hw,if_true] at h
  refine ⟨h.1,?_⟩
  have h:=h.2
  generalize (execOp a.eval o).run P w=r at *
  cases r with
  | ok n w' =>
   cases n <;> simp only [upo] at h ⊢
   case value u=>exact ⟨h,u,rfl⟩
   case skip=>exact ⟨h,_,rfl⟩
   case enter f args =>
    refine Calls.mono h fun e w'' he=>?_
    cases e with
    | returned u=>exact ⟨he,u,rfl⟩
    | panicked c=>exact he
    | outgrown=>exact he
   case round l f tmps assign body =>
    refine RoundIn.mono h fun e w'' he=>?_
    cases e with
    | returned u=>exact ⟨he,u,rfl⟩
    | panicked c=>exact he
    | outgrown=>exact he
  | halt x w' =>
   cases x <;> simp only [upo] at h ⊢
   case panic u=>exact h
 ·rename_i hw
  simp only [hw] at h
  exact ⟨h,undef,rfl⟩
theorem firstQuiet_none {m:Nat} : ∀ {ps:List Prep},firstQuiet m ps=none → ∀ q∈ps, ¬ (q.quiet=true∧isReady m q.i q.on=true)
 | [],_=>by simp
 | q::r,hn=>by
  intro q' hq'
  simp only [firstQuiet] at hn
  cases hb:q.quiet&&isReady m q.i q.on with
  | true=>rw [hb] at hn; simp at hn
  | false =>
   rw [hb] at hn
   simp at hq'
   rcases hq' with rfl | hq'
   ·intro ⟨h1,h2⟩; simp [h1,h2] at hb
   ·exact firstQuiet_none hn q' hq'
theorem wantsQ_spec {ops:Array Oper} {G:Nat→Option (List V)} {tm:T V} {o:Oper} {p:Prop} (hs:SlotOK G F w ν tm a.tmps) (h:wantsQ ops.toList tm o p):p∧Region.wanted o (yielded ops a.tmps)=true:=by
 unfold wantsQ at h
 cases hg:o.guard with
 | none =>
  rw [hg] at h
  exact ⟨h,by unfold Region.wanted; rw [hg]⟩
 | some gw =>
  obtain ⟨j,want⟩:=gw
  simp only [hg,onSome_iff,guardB_iff] at h
  obtain ⟨d,hd,v,hv,hb,hp⟩:=h
  refine ⟨hp,?_⟩
  obtain ⟨x,hx,hr⟩:=hs.1 d _ hv
  unfold isB at hb
  split at hb
  ·simp only [rep] at hr
   subst hr
   rw [wanted_some hg hd hx]; exact hb
  ·cases hb
theorem wOper_run {P:Program} {C:Calling} {ops:Array Oper} {o:Oper} {chk:(Operand→V)→Bool} {k:St→Prop} (hst:StOK D C.glob N ν F st a w) (hwt:Region.wanted o (yielded ops a.tmps)=true) (hw:wOper P C N ops.toList chk o st k) :
  ∃ tm,SlotOK C.glob F w ν tm a.tmps∧wop P C (ev C.glob tm) st.h o.type o.op fun v h=>fzNew C st.h.nxt o v h fun v h=>putT N tm o.dst v fun tm=>k ⟨tm,h⟩:=by
 unfold wOper at hw
 cases hg:o.guard with
 | none =>
  simp only [hg,guardB_iff] at hw
  exact ⟨st.tm,hst.slot,hw.2⟩
 | some gw =>
  obtain ⟨j,want⟩:=gw
  simp only [hg,onSome_iff,guardV_iff,ifB_iff] at hw
  obtain ⟨d,hd,v,hv,⟨cs,rfl,hp⟩ | ⟨b,rfl,h1,h2⟩⟩:=hw
  ·obtain ⟨x,hx,hr⟩:=hst.slot.1 d _ hv
   simp only [rep] at hr
   subst hr
   rw [wanted_tuple hg hd hx] at hwt; cases hwt
  obtain ⟨x,hx,hr⟩:=hst.slot.1 d _ hv
  simp only [rep] at hr
  subst hr
  rw [wanted_some hg hd hx] at hwt
  cases b
  ·obtain ⟨tm', q1,q2,_⟩:=put_same hst.slot hx (by simp only [rep]) (h2 rfl)
   cases want
   ·simp only [guardB_iff] at q1
    exact ⟨tm', q2,q1.2⟩
   ·cases hwt
  ·obtain ⟨tm', q1,q2,_⟩:=put_same hst.slot hx (by simp only [rep]) (h1 rfl)
   cases want
   ·cases hwt
   ·simp only [guardB_iff] at q1
    exact ⟨tm', q2,q1.2⟩
theorem wait_peel {P:Program} {C:Calling} {ops:Array Oper} : ∀ {qs:List Prep} {st:St} {k:St→Prop},StOK D C.glob N ν F st a w→(∀ q∈qs,allocOp q.o.op=true)→wWait P C N ops.toList qs st k →
  ∃ st2,k st2∧StOK D C.glob N ν F st2 a w∧(∀ q∈qs,(∃ x:Early,x.run P (execOp a.eval q.o))∧Region.wanted q.o (yielded ops a.tmps)=true)∧(∀ q∈qs, ∀ d,q.o.dst=some d→st2.tm.get d=some .junk) ∧ ∀ d,st.tm.get d=some .junk→st2.tm.get d=some .junk
 | [],st,k,hst,_,h=>⟨st,h,hst,by simp,by simp,fun _ h=>h⟩
 | q::qs,st,k,hst,hal,h=>by
  simp only [wWait] at h
  obtain ⟨h,hwq⟩:=wantsQ_spec hst.slot h
  obtain ⟨cs,e,s,p,es,X,Y,h1,h2,h3,h4,h5⟩:=alloc_op (P:=P) (C:=C) (ev_rep (a:=a) hst.slot) hst.heap (hal q (by simp)) h
  cases hd:q.o.dst with
  | none =>
   simp only [hd,putT] at h4
   obtain ⟨st2,g1,g2,g3,g4,g5⟩:=wait_peel hst (fun q' hq' => hal q' (by simp [hq'])) h4
   refine ⟨st2,g1,g2,fun q' hq' => ?_,fun q' hq' d hd' => ?_,g5⟩
   ·simp at hq'
    rcases hq' with rfl | hq'
    ·exact ⟨⟨⟨0,0,cs,e,X⟩,h1⟩,hwq⟩
    ·exact g3 q' hq'
   ·simp at hq'
    rcases hq' with rfl | hq'
    ·rw [hd] at hd'; cases hd'
    ·exact g4 q' hq' d hd'
  | some d =>
   simp only [hd,putT,guardB_iff,Bool.and_eq_true] at h4
   obtain ⟨⟨hlt,hdm⟩,h4⟩:=h4
   have hlt:d<N:=Nat.le_of_ble_eq_true hlt
   have hdm:d<1000000:=Nat.le_of_ble_eq_true hdm
   have hst' : StOK D C.glob N ν F ⟨T.setF (some .junk) 20 st.tm d,st.h⟩ a w:=⟨hst.heap,hst.size,hst.defers,⟨fun t u ht=>by
    rw [get_set hdm] at ht
    by_cases htd:t=d
    ·subst htd
     rw [if_pos rfl] at ht
     simp at ht
     subst ht
     exact ⟨_,Array.getElem?_eq_getElem (by rw [hst.size]; exact hlt),by simp only [rep]⟩
    ·rw [if_neg htd] at ht
     exact hst.slot.1 t u ht,hst.slot.2⟩⟩
   obtain ⟨st2,g1,g2,g3,g4,g5⟩:=wait_peel hst' (fun q' hq' => hal q' (by simp [hq'])) h4
   refine ⟨st2,g1,g2,fun q' hq' => ?_,fun q' hq' d' hd' => ?_,fun t ht=>g5 t ?_⟩
   ·simp at hq'
    rcases hq' with rfl | hq'
    ·exact ⟨⟨⟨0,0,cs,e,X⟩,h1⟩,hwq⟩
    ·exact g3 q' hq'
   ·simp at hq'
    rcases hq' with rfl | hq'
    ·rw [hd] at hd'
     simp at hd'
     subst hd'
     exact g5 d (by rw [get_set hdm,if_pos rfl])
    ·exact g4 q' hq' d' hd'
   ·rw [get_set hdm]
    by_cases htd:t=d
    ·rw [if_pos htd]
    ·rw [if_neg htd]; exact ht
theorem nodup_inj {α:Type} {f:α→Nat} : ∀ {l:List α},(l.map f).Nodup → ∀ {p q:α},p∈l→q∈l→f p=f q→p=q
 | [],_,p,q,hp,_,_=>by cases hp
 | x::l,h,p,q,hp,hq,hf=>by
  rw [List.map_cons,List.nodup_cons] at h
  simp only [List.mem_cons] at hp hq
  rcases hp with rfl | hp <;> rcases hq with rfl | hq
  ·rfl
  ·exact (h.1 (hf ▸ List.mem_map_of_mem hq)).elim
  ·exact (h.1 (hf ▸ List.mem_map_of_mem hp)).elim
  ·exact nodup_inj h.2 hp hq hf
structure EIn (ops:Array Oper) (m mm:Nat) (E:List Early):Prop where
 bit : ∀ j,mm.testBit j=(m.testBit j || E.any fun x=>x.i==j)
 out : ∀ x∈E,m.testBit x.i=false
 nd:(E.map (·.i)).Nodup
 ndr:(E.map (·.r)).Nodup
 rdy : ∀ x∈E, ∃ o,ops[x.i]? = some o∧isReady m x.i (onMask o)=true
 ap : ∀ x∈E, ∀ o,ops[x.i]? = some o → ∀ (j:Nat) oj,ops[j]? = some oj→mm.testBit j=false→((befsOf ops.toList).getD j 0).testBit x.i=false→o.apart ops oj=true
theorem isReady_mono {m i k on:Nat} (h:isReady m i on=true) (hne:k≠i):isReady (m ||| 2 ^ k) i on=true:=by
 rw [isReady_bits] at h ⊢
 refine ⟨by rw [testBit_or_pow]; simp [h.1,hne],fun t ht=>by rw [testBit_or_pow]; simp [h.2 t ht]⟩
theorem EIn.sub {ops:Array Oper} {m mm:Nat} {E:List Early} (h:EIn ops m mm E) {j:Nat} (hj:m.testBit j=true):mm.testBit j=true:=by rw [h.bit]; simp [hj]
theorem EIn.mem {ops:Array Oper} {m mm:Nat} {E:List Early} (h:EIn ops m mm E) {x:Early} (hx:x∈E):mm.testBit x.i=true:=by
 rw [h.bit,Bool.or_eq_true]; right; rw [List.any_eq_true]; exact ⟨x,hx,by simp⟩
theorem EIn.both {ops:Array Oper} {m mm i:Nat} {E:List Early} (h:EIn ops m mm E) (hi:mm.testBit i=false):EIn ops (m ||| 2 ^ i) (mm ||| 2 ^ i) E:=by
 have hne : ∀ x∈E,i≠x.i:=fun x hx he=>by have:=h.mem hx; rw [← he,hi] at this; cases this
 refine ⟨fun j=>?_,fun x hx=>?_,h.nd,h.ndr,fun x hx=>?_,fun x hx o ho j oj hj hm hb=>h.ap x hx o ho j oj hj ?_ hb⟩
 ·rw [testBit_or_pow,testBit_or_pow,h.bit]
  cases m.testBit j <;> cases (E.any fun x=>x.i==j) <;> cases (decide (i=j)) <;> rfl
 ·rw [testBit_or_pow,h.out x hx]; simp [hne x hx]
 ·obtain ⟨o,ho,hr⟩:=h.rdy x hx
  exact ⟨o,ho,isReady_mono hr (hne x hx)⟩
 ·rw [testBit_or_pow] at hm
  simp at hm
  exact hm.1
def AgainOK (P:Program) (G:Nat→Option (List V)) (ops:Array Oper) (ν:Nu) (F:Nat→Prop) (w:World) (q:Nat) (b:Id) (tm:T V):Prop :=
 ∃ o d z,ops[q]? = some o∧isLookupO o.op=true∧o.guard=none∧o.dst=some d∧d ∉ o.looksAt ops∧tm.get d=some (.raw z) ∧
  ∀ a1:Act,SlotOK G F w ν tm a1.tmps → ∀ w', Agree F ν (some b) w w' → (execOp a1.eval o).run P w' = .ok (.value z) w'
theorem lookup_noselect {o:Oper} (h:isLookupO o.op=true) : ∀ cs b,o.op ≠ .select cs b:=fun cs b he=>by rw [he] at h; simp [isLookupO] at h
theorem lookup_quiet {o:Op} (h:isLookupO o=true):quietOp o=true:=by
 cases o <;> simp [isLookupO,quietOp] at h ⊢
theorem Inv.next {P:Program} {G:Nat→Option (List V)} {ops:Array Oper} {HR:List (Nat×(World→Prop))} {held held' : List (Nat×Id×T V)} {listed listed' : Array Bool} {ν ν' : Nu} {F F' : Nat→Prop} {w w' : World} (h:Inv P G ops HR held listed ν F w)
  (hl : ∀ j,listed.getD j false=true→listed'.getD j false=true)
  (hS : ∀ tm tmps,SlotOK G F w ν tm tmps→SlotOK G F' w' ν' tm tmps) (hsub : ∀ x∈held', x∈held)
  (hh : ∀ (q:Nat) b tm,(q,b,tm)∈held→(∀ (j:Nat) oj,ops[j]? = some oj→quietOp oj.op=false→((befsOf ops.toList).getD j 0).testBit q=true→listed'.getD j false=false)→(q,b,tm)∈held' ∧ ((∀ r s n,ν.at_ b=some (r,s,n)→w'.heap[r]? = w.heap[r]? ∧ ν'.at_ b=some (r,s,n))∨AgainOK P G ops ν' F' w' q b tm))
  (hF : ∀ r,F r→F' r∧w'.heap[r]? = w.heap[r]?):Inv P G ops HR held' listed' ν' F' w' := by
 refine ⟨fun x hx=>let ⟨tmps,ht⟩:=h.1 x (hsub x hx); ⟨tmps,hS _ _ ht⟩,?_⟩
 intro p hp hact
 obtain ⟨fp,q1,q2⟩:=h.2 p hp (fun j oj hj hq hb=>by
  cases hlj:listed.getD j false with
  | false=>rfl
  | true=>have:=hl j hlj; rw [hact j oj hj hq hb] at this; cases this)
 have q3 : ∀ b,fp=some b → ∃ tm,(p.1,b,tm)∈held' ∧ Ag P ops tm p.1 p.2 (SlotOK G F' w' ν' tm):=fun b hb=>by
  obtain ⟨tm,g1,g2⟩:=q2 b hb
  refine ⟨tm,(hh p.1 b tm g1 hact).1,fun o ho hn=>?_⟩
  obtain ⟨a0,x,z1,z2⟩:=g2 o ho hn
  exact ⟨a0,x,hS _ _ z1,z2⟩
 refine ⟨fp,fun w'' hag=>?_,q3⟩
 by_cases hall : ∀ b r s n,fp=some b→ν.at_ b=some (r,s,n)→w'.heap[r]? = w.heap[r]? ∧ ν'.at_ b=some (r,s,n)
 ·refine q1 w'' ⟨fun r hr=>?_,fun b r s n hb hat=>?_⟩
  ·rw [hag.1 r (hF r hr).1]; exact (hF r hr).2
  ·obtain ⟨z1,z2⟩:=hall b r s n hb hat
   rw [hag.2 b r s n hb z2]; exact z1
 ·cases fp with
  | none=>exact (hall fun b r s n hb=>by cases hb).elim
  | some b =>
   obtain ⟨tm,g1,g2⟩:=q2 b rfl
   rcases (hh p.1 b tm g1 hact).2 with hz | hz
   ·exact (hall fun b' r s n hb hat=>by cases hb; exact hz r s n hat).elim
   ·obtain ⟨o,d,z,e1,e2,e3,e4,e5,e6,e7⟩:=hz
    obtain ⟨a0,x,z1,z2⟩:=g2 o e1 e3
    have hs' := hS _ _ z1
    obtain ⟨y,y1,y2⟩:=hs'.1 d _ e6
    simp only [rep] at y2
    subst y2
    have hxz:x=y:=by
     rw [e4] at y1
     simp only [Act.put] at y1
     rw [Array.getElem?_setIfInBounds_self] at y1
     split at y1
     ·simpa using y1
     ·cases y1
    subst hxz
    refine z2 w'' ?_
    have:=e7 (a0.put o.dst x) hs' w'' hag
    rwa [execOp_put o (lookup_noselect e2) a0 o.dst x (fun d' hd' => by rw [e4] at hd'; simp at hd'; exact hd' ▸ e5)] at this
theorem sameVal_raw {a b:V} {k:Prop} (h:sameVal a b k):k ∧ ∃ z,a = .raw z∧b = .raw z:=by
 unfold sameVal at h
 split at h
 ·rw [guardB_iff,need_iff] at h
  obtain ⟨h1,h2,h3⟩:=h
  exact ⟨h3,_,rfl,by rw [h2,eq_of_beq h1]⟩
 ·rw [guardB_iff] at h
  exact ⟨h.2,_,rfl,by rw [eq_of_beq h.1]⟩
 ·exact h.elim
theorem someId_eq {o:Option Id} {b:Id} (h:someId o b=true):o=some b:=by
 unfold someId at h
 split at h
 ·rw [Id.beq_iff.1 h]
 ·cases h
theorem wAgain_sound {P:Program} {C:Calling} {ops:Array Oper} {c:Prep} {st0:St} {ν:Nu} {F:Nat→Prop} {w:World} {h:Hp} {tm:T V} (hk:HeapOK ν F h w) :
  ∀ {l:List (Nat×Id×T V)} {k:Prop},(∀ x∈l,againQ C ops.toList c st0 x=true)→(∀ x∈l, ∃ tmps,SlotOK C.glob F w ν x.2.2 tmps)→wAgain P C ops.toList l ⟨tm,h⟩ k → ∀ (a:Act),k ∧ ∀ x∈l,AgainOK P C.glob ops ν F w x.1 x.2.1 x.2.2
 | [],k,_,_,hw,_=>⟨hw,fun x hx=>by cases hx⟩
 | x::r,k,hq,hs,hw,a=>by
  simp only [wAgain,wAgain1,onSome_iff,guardB_iff] at hw
  obtain ⟨o,ho,d,hd,v0,hv,hrd,hw⟩:=hw
  have hrd:=someId_eq hrd
  rw [Array.getElem?_toList] at ho
  have hx:=hq x (by simp)
  simp only [againQ,asksAgain,Array.getElem?_toList,ho,hd,Bool.and_eq_true,Option.isNone_iff_eq_none,Bool.not_eq_true'] at hx
  obtain ⟨⟨_,⟨hlk,hgn⟩,hla⟩,_⟩:=hx
  have hla:d ∉ o.looksAt ops:=by simpa using hla
  obtain ⟨tmps,ht⟩:=hs x (by simp)
  have go : ∀ a1:Act,SlotOK C.glob F w ν x.2.2 a1.tmps→QN P F ν w (some x.2.1) (execOp a1.eval o) (fun v=>sameVal v0 v (wAgain P C ops.toList r ⟨tm,h⟩ k)):=fun a1 h1=>by
   have:=q_sound (P:=P) (C:=C) (o:=o) (ev_rep (a:=a1) h1) hk (lookup_quiet hlk) hw
   rw [hrd] at this
   exact this
  obtain ⟨y,v,g1,g2,g3⟩:=go { a with tmps:=tmps } ht
  obtain ⟨gk,z,e1,e2⟩:=sameVal_raw g1
  subst e1; subst e2
  obtain ⟨ih1,ih2⟩:=wAgain_sound hk (fun x hx=>hq x (by simp [hx])) (fun x hx=>hs x (by simp [hx])) gk a
  refine ⟨ih1,fun x' hx' => ?_⟩
  simp only [List.mem_cons] at hx'
  rcases hx' with rfl | hx'
  ·refine ⟨o,d,z,ho,hlk,hgn,hd,hla,hv,fun a1 h1 w' hag=>?_⟩
   obtain ⟨y', v', k1,k2,k3⟩:=go a1 h1
   obtain ⟨_,z', e1,e2⟩:=sameVal_raw k1
   subst e2
   simp only [V.raw.injEq] at e1
   subst e1
   simp only [rep] at k2
   subst k2
   exact k3 w' hag
  ·exact ih2 x' hx'
theorem SHof {P:Program} {G:Nat→Option (List V)} {ops:Array Oper} {HR:List (Nat×(World→Prop))} {held:List (Nat×Id×T V)} {listed:Array Bool} {ν:Nu} {F:Nat→Prop} {w:World} (h:Inv P G ops HR held listed ν F w):SH ops HR listed w :=
 fun p hp hact=>let ⟨fp,q1,_⟩:=h.2 p hp hact; q1 w (Agree.refl fp)
theorem getD_step {l:Array Bool} {i j:Nat} (h:l.getD j false=true):(l.setIfInBounds i true).getD j false=true:=getD_set_true h
theorem canWait_spec {ops:Array Oper} {m:Nat} {c a:Prep} (h:canWait ops m (prepAll ops.toList) c a=true):allocOp a.o.op=true∧(∃ d,a.o.dst=some d∧d ∉ a.o.looksAt ops) ∧
  ∀ (j:Nat) oj,ops[j]? = some oj→m.testBit j=false→j≠a.i→(((onMask oj).testBit a.i=true∨((befsOf ops.toList).getD j 0).testBit a.i=true)→((befsOf ops.toList).getD j 0).testBit c.i=true) ∧
   (a.bef.testBit j=true∨((befsOf ops.toList).getD j 0).testBit a.i=true∨a.o.apart ops oj=true):=by
 simp only [canWait,Bool.and_eq_true,List.all_eq_true] at h
 obtain ⟨⟨h1,h3⟩,h4⟩:=h
 refine ⟨h1,?_,fun j oj hj hm hne=>?_⟩
 ·cases hd:a.o.dst with
  | none=>rw [hd] at h3; simp at h3
  | some d=>rw [hd] at h3; exact ⟨d,rfl,by simpa using h3⟩
 ·have:=h4 _ (prepAll_of hj)
  simp only [Bool.or_eq_true,Bool.and_eq_true,Bool.not_eq_true'] at this
  rcases this with (h | h) | ⟨h5,h6⟩
  ·rw [hm] at h; cases h
  ·exact (hne (beq_eq h)).elim
  ·refine ⟨fun hb=>?_,by
    rcases h6 with (h6 | h6) | h6
    ·exact .inl h6
    ·exact .inr (.inl h6)
    ·exact .inr (.inr h6)⟩
   rcases h5 with h5 | h5
   ·simp only [Bool.or_eq_false_iff] at h5
    rcases hb with hb | hb
    ·rw [h5.1] at hb; cases hb
    ·rw [h5.2] at hb; cases hb
   ·exact h5
theorem draw_sound' {P:Program} {C:Calling} (hC:C.ok P) {X:Ask} {U:Id→Bool} (hX:X.keeps C U) {ops:Array Oper} (hok:regionOK ops (prepAll ops.toList)=true) {Q:Exit→Act→World→Prop} (hQp : ∀ c a w, ¬ Q (.panic c) a w) {k:St→Prop} {ν0:Nu} {F0:Nat→Prop} {w0:World}
  (hQ : ∀ ν F st a w,StOK D C.glob N ν F st a w→EvoU U ν0 F0 w0 ν F w→k st→Q .normal a w) :
  ∀ (f m:Nat) (held:List (Nat×Id×T V)) (HR:List (Nat×(World→Prop))) (E:List Early) (mm g:Nat) (listed:Array Bool) (ν:Nu) (F:Nat→Prop) (st:St) (a:Act) (w:World),Rel ops mm listed→EIn ops m mm E→Room ops mm g→ClosedM ops m →
   ClosedL .any ops listed→StOK D C.glob N ν F st a w→EvoU U ν0 F0 w0 ν F w→Inv P C.glob ops HR held listed ν F w→(∀ x∈E,EOK P ops ν F w0.heap.size a w x)→wDraw P C X N ops.toList (prepAll ops.toList) f m held st k→wpAnyS P .any ops Q (SH ops HR) g listed a w:=by
 have finish : ∀ (m:Nat) (HR:List (Nat×(World→Prop))) (E:List Early) (mm g:Nat) (listed:Array Bool) (ν:Nu) (F:Nat→Prop) (st:St) (a:Act) (w:World),Rel ops mm listed→EIn ops m mm E→StOK D C.glob N ν F st a w→EvoU U ν0 F0 w0 ν F w →
   readyOnes m (prepAll ops.toList)=[]→k st→wpAnyS P .any ops Q (SH ops HR) g listed a w:=by
  intro m HR E mm g listed ν F st a w hrel hE hst he h0 hw
  have hnil : ∀ (i:Nat) o,ops[i]? = some o→isReady m i (onMask o)=true→False:=fun i o hi hr=>by
   have:(⟨i,o,quietOp o.op,onMask o,(befsOf ops.toList).getD i 0⟩:Prep)∈readyOnes m (prepAll ops.toList):=by
    rw [readyOnes_filter,List.mem_filter]; exact ⟨prepAll_of hi,hr⟩
   rw [h0] at this; cases this
  have hE0:E=[]:=by
   cases E with
   | nil=>rfl
   | cons x E =>
    obtain ⟨o,ho,hr⟩:=hE.rdy x (by simp)
    exact (hnil _ o ho hr).elim
  subst hE0
  have hmm:m=mm:=by
   apply Nat.eq_of_testBit_eq
   intro j
   rw [hE.bit]; simp
  subst hmm
  refine wpAnyS_done ?_ (hQ ν F st a w hst he hw)
  rw [ready_map hrel,h0]; rfl
 intro f
 induction f with
 | zero =>
  intro m held HR E mm g listed ν F st a w hrel hE hroom hcm hc hst he hinv hek hw
  simp only [wDraw] at hw
  split at hw
  ·rename_i h0
   exact finish m HR E mm g listed ν F st a w hrel hE hst he h0 hw
  ·exact hw.elim
 | succ f IH =>
  intro m held HR E mm g listed ν F st a w hrel hE hroom hcm hc hst he hinv hek hw
  simp only [wDraw] at hw
  have listed_of : ∀ j,listed.getD j false=mm.testBit j:=hrel.2
  split at hw
  ·
   rename_i p hp
   obtain ⟨hpm,hpq,hpr⟩:=firstQuiet_some hp
   obtain ⟨hi,hq,hon,hbef⟩:=prepAll_mem hpm
   rw [hq] at hpq
   rw [hon] at hpr
   have hlt:p.i<ops.size:=lt_of_some hi
   have hpE : ∀ x∈E,x.i≠p.i:=fun x hx he' => by
    obtain ⟨o,d,h1,h2,_⟩:=(hek x hx).op
    rw [he', hi] at h1
    simp at h1
    subst h1
    cases hop:p.o.op <;> rw [hop] at h2 hpq <;> simp [allocOp,quietOp] at h2 hpq
   have hpmm:mm.testBit p.i=false:=by
    rw [hE.bit,(isReady_bits.1 hpr).1,Bool.false_or,List.any_eq_false]
    intro x hx
    simpa using hpE x hx
   have hprm:isReady mm p.i (onMask p.o)=true:=isReady_bits.2 ⟨hpmm,fun t ht=>hE.sub ((isReady_bits.1 hpr).2 t ht)⟩
   have hready:=(isReady_iff hrel hi).1 hprm
   obtain ⟨g', rfl⟩:=hroom.pos hlt hpmm
   obtain ⟨x,st', hk,hst', fp,hfp,hy⟩:=quiet_sound hpq hst hw
   obtain ⟨hsel,hfree⟩:=regionOK_spec hok hrel.1 hc hi hpq hready
   let φ:World→Prop:=fun w' => Agree F ν fp w w' ∨ Region.wanted p.o (yielded ops a.tmps)=true∧(execOp a.eval p.o).run P w' = .ok (.value x) w'
   have hy:YieldsIf P ops φ p.o x a:=by
    rcases hy with ⟨h1,h2⟩ | h
    ·exact .inl ⟨h1,fun w' hw' => hw'.elim (h2 w') (fun h=>h.2)⟩
    ·exact .inr h
   have hinv' : Inv P C.glob ops ((p.i,φ)::HR) (match readsB (ev C.glob st.tm) p.o.op with | some b=>(p.i,b,st'.tm)::held | none=>held) (listed.setIfInBounds p.i true) ν F w:=by
    have hkeep : ∀ (j:Nat) oj,ops[j]? = some oj→quietOp oj.op=false→(listed.setIfInBounds p.i true).getD j false=listed.getD j false:=fun j oj hj hqj=>by
     have hne:p.i≠j:=fun h=>by subst h; rw [hi] at hj; simp at hj; subst hj; rw [hpq] at hqj; cases hqj
     exact getD_set_ne false hne
    refine ⟨fun y hy=>?_,?_⟩
    ·split at hy
     ·simp only [List.mem_cons] at hy
      rcases hy with rfl | hy
      ·exact ⟨_,hst'.slot⟩
      ·exact hinv.1 y hy
     ·exact hinv.1 y hy
    intro p' hp' hact
    have hmem : ∀ y,y∈held→y∈(match readsB (ev C.glob st.tm) p.o.op with | some b=>(p.i,b,st'.tm)::held | none=>held):=fun y hy=>by
     split
     ·simp [hy]
     ·exact hy
    simp only [List.mem_cons] at hp'
    rcases hp' with rfl | hp'
    ·refine ⟨fp,fun w' h => .inl h,fun b hb=>?_⟩
     rw [hfp b hb]
     refine ⟨st'.tm,by simp,fun o ho hn=>?_⟩
     rw [hi] at ho
     simp only [Option.some.injEq] at ho
     subst ho
     exact ⟨a,x,hst'.slot,fun w' hw' => .inr ⟨by unfold Region.wanted; rw [hn],hw'⟩⟩
    ·obtain ⟨fp', g1,g2⟩:=hinv.2 p' hp' (fun j oj hj hqj hb=>by rw [← hkeep j oj hj hqj]; exact hact j oj hj hqj hb)
     exact ⟨fp', g1,fun b hb=>let ⟨tm,z1,z2⟩:=g2 b hb; ⟨tm,hmem _ z1,z2⟩⟩
   have ih:=IH (m ||| 2 ^ p.i) _ ((p.i,φ)::HR) E (mm ||| 2 ^ p.i) g' (listed.setIfInBounds p.i true) ν F st' (a.put p.o.dst x) w (hrel.step hlt) (hE.both hpmm) (hroom.step hlt hpmm) (hcm.step hi hpr) (hc.step hready) hst' he hinv'
    (fun y hy=>(hek y hy).next (oj:=p.o) (v:=x) (Evo.refl ν F w) rfl (fun o ho=>hE.ap y hy o ho p.i p.o hi hpmm (by
     cases hb:((befsOf ops.toList).getD p.i 0).testBit y.i with
     | false=>rfl
     | true =>
      have:=ready_bef hcm hi hpr hb
      rw [hE.out y hy] at this; cases this))) hk
   have hmain:=wpAnyS_first (S:=SH ops ((p.i,φ)::HR)) (φ:=φ) hi (Region.noSelect_spec hsel) (fun c a w h=>(hQp c _ w h).elim) (fun l w=>SH.quiet hi hpq l w)
    (fun l w' hSl hcl hun=>by
     refine hSl (p.i,φ) (by simp) (fun j oj hj hqj hb=>?_)
     cases hlj:l.getD j false with
     | false=>rfl
     | true =>
      exfalso
      have hls:p.i<l.size:=by
       rcases Nat.lt_or_ge p.i l.size with h | h
       ·exact h
       ·simp [Array.getElem?_eq_none h] at hun
      obtain ⟨e,he,hbd,hh⟩:=befs_bit hj hb
      have hle:=hcl j oj hj hlj e he hbd
      have hun' : l.getD p.i false=false:=by simpa [hls] using hun
      have key : ∀ n t,t<n→l.getD t false=true→((befsOf ops.toList).getD t 0).testBit p.i=true→l.getD p.i false=true:=by
       intro n
       induction n with
       | zero=>intro t ht; omega
       | succ n ihn =>
        intro t ht hlt' hbt
        by_cases hts:t<ops.size
        ·obtain ⟨e', he', hbd', hh'⟩:=befs_bit (Array.getElem?_eq_getElem hts) hbt
         have hle' := hcl t _ (Array.getElem?_eq_getElem hts) hlt' e' he' hbd'
         rcases hh' with h' | ⟨h1', h2'⟩
         ·rw [← h']; exact hle'
         ·exact ihn e'.on (by omega) hle' h2'
        ·have hl0:(befsOf ops.toList).length=ops.size:=by
          have:=(befs_fold ops.toList []).1
          rw [befsOf_eq]
          simpa using this
         simp [List.getD,List.getElem?_eq_none (show (befsOf ops.toList).length≤t by omega)] at hbt
      rcases hh with h' | ⟨_,h2'⟩
      ·rw [h', hun'] at hle; cases hle
      ·have:=key _ e.on (Nat.lt_succ_self _) hle h2'
       rw [hun'] at this; cases this)
    g' listed a w hfree hready hc hy (by
     intro p' hp' hact
     have hact' : ∀ (j:Nat) oj,ops[j]? = some oj→quietOp oj.op=false→((befsOf ops.toList).getD j 0).testBit p'.1=true→(listed.setIfInBounds p.i true).getD j false=false:=fun j oj hj hqj hb=>by
      have hne:p.i≠j:=fun h=>by subst h; rw [hi] at hj; simp at hj; subst hj; rw [hpq] at hqj; cases hqj
      rw [getD_set_ne false hne]
      exact hact j oj hj hqj hb
     obtain ⟨fp', g1,_⟩:=hinv'.2 p' hp' hact'
     exact g1 w (Agree.refl fp')) ih
   exact wpAnyS_mono (fun l w h p' hp' hact=>h p' (List.mem_cons_of_mem _ hp') hact) (g' + 1) listed a w hmain
  ·rename_i hnone
   have main : ∀ (c:Prep) (others:List Prep),c∈readyOnes m (prepAll ops.toList)→(∀ q∈readyOnes m (prepAll ops.toList),q.i=c.i∨(q∈others∧canWait ops m (prepAll ops.toList) c q=true))→(∀ q∈others,q∈readyOnes m (prepAll ops.toList)∧q.i≠c.i) →
     (wWait P C N ops.toList others st fun st=>wOper P C N ops.toList (fun ρ=>X ρ st.h c.o.op&&(held.filter fun x => !c.bef.testBit x.1).all fun x => !touches C ρ st.h c.o.op x.2.1 || againQ C ops.toList c st x) c.o st
      fun st' => wAgain P C ops.toList ((held.filter fun x => !c.bef.testBit x.1).filter (againQ C ops.toList c st)) st' (wDraw P C X N ops.toList (prepAll ops.toList) f (m ||| 2 ^ c.i) (held.filter fun x => !c.bef.testBit x.1) st' k)) →
     wpAnyS P .any ops Q (SH ops HR) g listed a w:=by
    intro c others hc0 hall hoth hw
    have hcm' := hc0
    rw [readyOnes_filter,List.mem_filter] at hcm'
    obtain ⟨hcp,hcr⟩:=hcm'
    obtain ⟨hci,hcq,hcon,hcbef⟩:=prepAll_mem hcp
    rw [hcon] at hcr
    have hclt:c.i<ops.size:=lt_of_some hci
    have hcqf:quietOp c.o.op=false:=by
     cases hqq:quietOp c.o.op with
     | false=>rfl
     | true=>exact (firstQuiet_none hnone c hcp ⟨by rw [hcq]; exact hqq,by rw [hcon]; exact hcr⟩).elim
    have hwaits : ∀ q∈others,canWait ops m (prepAll ops.toList) c q=true:=fun q hq=>by
     obtain ⟨h1,h2⟩:=hoth q hq
     exact ((hall q h1).resolve_left h2).2
    obtain ⟨st2,hw2,hst2,hruns,hjunk,_⟩:=wait_peel hst (fun q hq=>(canWait_spec (hwaits q hq)).1) hw
    have oth_of : ∀ (i:Nat) o,ops[i]? = some o→isReady m i (onMask o)=true→i≠c.i→(⟨i,o,quietOp o.op,onMask o,(befsOf ops.toList).getD i 0⟩:Prep)∈others:=fun i o hi hr hne=>by
     have:(⟨i,o,quietOp o.op,onMask o,(befsOf ops.toList).getD i 0⟩:Prep)∈readyOnes m (prepAll ops.toList):=by
      rw [readyOnes_filter,List.mem_filter]; exact ⟨prepAll_of hi,hr⟩
     exact ((hall _ this).resolve_left hne).1
    let held' := held.filter fun x => !c.bef.testBit x.1
    have hheld : ∀ {listed' : Array Bool},listed'.getD c.i false=true → ∀ (q:Nat) b tm,(q,b,tm)∈held→(∀ (j:Nat) oj,ops[j]? = some oj→quietOp oj.op=false→((befsOf ops.toList).getD j 0).testBit q=true→listed'.getD j false=false)→(q,b,tm)∈held' := by
     intro listed' hl q b tm hq hact
     refine List.mem_filter.2 ⟨hq,?_⟩
     cases hb:c.bef.testBit q with
     | false=>simp
     | true =>
      rw [hcbef] at hb
      have:=hact c.i c.o hci hcqf hb
      rw [hl] at this; cases this
    by_cases hcE : ∃ x∈E,x.i=c.i
    ·
     obtain ⟨x,hx,hxi⟩:=hcE
     have hxk:=hek x hx
     obtain ⟨o,d,h1,h2,h3,h4,h5,h6⟩:=hxk.op
     rw [hxi,hci] at h1
     simp at h1
     subst h1
     obtain ⟨tm2,hslot2,hw2⟩:=wOper_run hst2 h3 hw2
     obtain ⟨cs,e,s,p,es,X', Y,g1,g2,g3,g4,g5⟩:=alloc_op (P:=P) (C:=C) (ev_rep (a:=a) hslot2) hst2.heap h2 hw2
     rw [fzNew_alloc h2] at g4
     have hnoag:(held.filter fun x => !c.bef.testBit x.1).filter (againQ C ops.toList c st2)=[]:=by
      rw [List.filter_eq_nil_iff]
      intro y _
      have:isEntryO c.o.op=false:=by
       cases hop:c.o.op <;> rw [hop] at h2 <;> simp [allocOp,isEntryO] at h2 ⊢
      simp [againQ,asksAgain,this]
     simp only [hnoag,wAgain] at g4
     have same : ∀ w' : World,X' w'.heap.size=x.X w'.heap.size∧cs=x.cs∧e=x.e:=fun w' => by
      have:=(g1 w').symm.trans (h6 w')
      have q1:X' w'.heap.size=x.X w'.heap.size:=by
       injection this with z1 z2
       injection z1
      have q2:w'.heap.push (Obj.cells cs e)=w'.heap.push (Obj.cells x.cs x.e):=by
       injection this with z1 z2
       exact congrArg World.heap z2
      have q3:=congrArg (fun l=>l[w'.heap.size]?) q2
      simp only [Array.getElem?_push,if_true,Option.some.injEq,Obj.cells.injEq] at q3
      exact ⟨q1,q3.1,q3.2.1⟩
     obtain ⟨_,rfl,rfl⟩:=same w
     have hX:X' x.r=x.X x.r:=by
      have:=(same { w with heap:=w.heap.extract 0 x.r }).1
      have hs:(w.heap.extract 0 x.r).size=x.r:=by simp; have:=hxk.hi; omega
      simp only [hs] at this
      exact this
     have hheap:=heap_adopt hst2.heap hxk.cell hxk.own hxk.frz g2 g3
     have hslot:SlotOK C.glob F w (ν.add x.r s es.length) tm2 a.tmps:=⟨fun t u ht=>let ⟨y,y1,y2⟩:=hslot2.1 t u ht; ⟨y,y1,rep_add u y y2⟩,hslot2.2⟩
     rw [h4] at g4
     obtain ⟨tm', q1,q2,q3⟩:=put_same (x:=x.X x.r) hslot h5 (by
      rw [← hX]
      refine g5 _ _ _ _ _ (by simp only [Nu.add,hst2.heap.nxt]; omega) (by simp [Nu.add,hst2.heap.nxt]) (fun y hy=>?_) hxk.cell
      simp only [Nu.add,hst2.heap.nxt,if_true] at hy
      simpa using hy.symm) g4
     have hE' : EIn ops (m ||| 2 ^ c.i) mm (E.filter fun y => !(y.i==c.i)):=by
      refine ⟨fun j=>?_,fun y hy=>?_,hE.nd.sublist (List.filter_sublist.map _),hE.ndr.sublist (List.filter_sublist.map _),fun y hy=>?_,fun y hy=>hE.ap y (List.mem_filter.1 hy).1⟩
      ·rw [hE.bit,testBit_or_pow]
       by_cases hj:c.i=j
       ·subst hj
        simp only [decide_true,Bool.or_true,Bool.true_or]
        rw [Bool.or_eq_true]; right
        rw [List.any_eq_true]; exact ⟨x,hx,by simp [hxi]⟩
       ·simp only [hj,decide_false,Bool.or_false]
        congr 1
        rw [Bool.eq_iff_iff,List.any_eq_true,List.any_eq_true]
        constructor
        ·rintro ⟨y,hy,hyj⟩
         have hyj' : y.i=j:=by simpa using hyj
         exact ⟨y,List.mem_filter.2 ⟨hy,by simp [hyj', Ne.symm hj]⟩,hyj⟩
        ·rintro ⟨y,hy,hyj⟩
         exact ⟨y,(List.mem_filter.1 hy).1,hyj⟩
      ·obtain ⟨hy1,hy2⟩:=List.mem_filter.1 hy
       have hy2' : y.i≠c.i:=by simpa using hy2
       rw [testBit_or_pow,hE.out y hy1]; simp [Ne.symm hy2']
      ·obtain ⟨hy1,hy2⟩:=List.mem_filter.1 hy
       have hy2' : y.i≠c.i:=by simpa using hy2
       obtain ⟨o', ho', hr'⟩:=hE.rdy y hy1
       exact ⟨o', ho', isReady_mono hr' (Ne.symm hy2')⟩
     refine IH (m ||| 2 ^ c.i) held' HR _ mm g listed (ν.add x.r s es.length) F ⟨tm', st2.h.add (.rows s p es)⟩ a w hrel hE' hroom (hcm.step hci hcr) hc ⟨hheap,hst2.size,hst2.defers,q2⟩ (evoU_adopt he hxk.lo) ?_ (fun y hy=>?_) q1
     ·refine hinv.next (fun j h=>h) (fun tm tmps hs=>⟨fun t u ht=>let ⟨y,y1,y2⟩:=hs.1 t u ht; ⟨y,y1,rep_add u y y2⟩,hs.2⟩) (fun y hy=>(List.mem_filter.1 hy).1) (fun q b tm hq hact=>⟨hheld (by rw [listed_of,← hxi]; exact hE.mem hx) q b tm hq hact,.inl fun r s n hat=>⟨rfl,Nu.add_old hat⟩⟩) (fun r hr=>⟨hr,rfl⟩)
     ·obtain ⟨hy1,hy2⟩:=List.mem_filter.1 hy
      have hy2' : y.i≠c.i:=by simpa using hy2
      have hyk:=hek y hy1
      have hr:y.r≠x.r:=fun hr=>by
       have:=nodup_inj hE.ndr hy1 hx hr
       subst this
       exact hy2' hxi
      exact ⟨hyk.op,hyk.lo,hyk.hi,own_add hyk.own hr,hyk.frz,hyk.cell⟩
    ·
     have inner : ∀ (g:Nat) (E:List Early) (mm:Nat) (listed:Array Bool) (a:Act) (w:World),(∀ x∈E,x.i≠c.i)→Rel ops mm listed→EIn ops m mm E→Room ops mm g→ClosedL .any ops listed→StOK D C.glob N ν F st2 a w→EvoU U ν0 F0 w0 ν F w →
       Inv P C.glob ops HR held listed ν F w→(∀ x∈E,EOK P ops ν F w0.heap.size a w x)→(∀ q∈others,mm.testBit q.i=false→(∃ x:Early,x.run P (execOp a.eval q.o))∧Region.wanted q.o (yielded ops a.tmps)=true)→wpAnyS P .any ops Q (SH ops HR) g listed a w:=by
      intro g
      induction g with
      | zero =>
       intro E mm listed a w hcE hrel hE hroom hc hst2 he hinv hek hruns
       have hcmm:mm.testBit c.i=false:=by
        rw [hE.bit,(isReady_bits.1 hcr).1,Bool.false_or,List.any_eq_false]
        intro x hx
        simpa using hcE x hx
       obtain ⟨g', hg⟩:=hroom.pos hclt hcmm
       cases hg
      | succ g ihg =>
       intro E mm listed a w hcE hrel hE hroom hc hst2 he hinv hek hruns
       have hcmm:mm.testBit c.i=false:=by
        rw [hE.bit,(isReady_bits.1 hcr).1,Bool.false_or,List.any_eq_false]
        intro x hx
        simpa using hcE x hx
       have hcready:c.i∈Region.ready .any ops listed:=(isReady_iff hrel hci).1 (isReady_bits.2 ⟨hcmm,fun t ht=>hE.sub ((isReady_bits.1 hcr).2 t ht)⟩)
       have hcmask:ClosedM ops mm:=hc.mask hrel
       refine ⟨fun h=>(by rw [h] at hcready; cases hcready),fun i hi=>?_⟩
       obtain ⟨oi,hoi⟩ : ∃ oi,ops[i]? = some oi:=by
        obtain ⟨_,o,ho,_⟩:=mem_ready.1 hi
        exact ⟨o,ho⟩
       have hilt:i<ops.size:=lt_of_some hoi
       have hir:=(isReady_iff hrel hoi).2 hi
       have himm:=(isReady_bits.1 hir).1
       have him:m.testBit i=false:=by
        cases h:m.testBit i with
        | false=>rfl
        | true=>rw [hE.sub h] at himm; cases himm
       have hnoE : ∀ x∈E,(onMask oi).testBit x.i=false∧((befsOf ops.toList).getD i 0).testBit x.i=false:=by
        intro x hx
        obtain ⟨o,ho,hr⟩:=hE.rdy x hx
        have hq:=oth_of x.i o ho hr (hcE x hx)
        have hne:i≠x.i:=fun h=>by have:=hE.mem hx; rw [← h,himm] at this; cases this
        have h1:=((canWait_spec (hwaits _ hq)).2.2 i oi hoi him hne).1
        have no : ∀ b,b=true→((onMask oi).testBit x.i=true∨((befsOf ops.toList).getD i 0).testBit x.i=true)→False:=fun b _ h=>by
         have:=ready_bef hcmask hoi hir (h1 h)
         rw [hcmm] at this; cases this
        refine ⟨?_,?_⟩
        ·cases h:(onMask oi).testBit x.i with
         | false=>rfl
         | true=>exact (no true rfl (.inl h)).elim
        ·cases h:((befsOf ops.toList).getD i 0).testBit x.i with
         | false=>rfl
         | true=>exact (no true rfl (.inr h)).elim
       have hirm:isReady m i (onMask oi)=true:=by
        refine isReady_bits.2 ⟨him,fun t ht=>?_⟩
        have:=(isReady_bits.1 hir).2 t ht
        rw [hE.bit,Bool.or_eq_true] at this
        rcases this with h | h
        ·exact h
        ·rw [List.any_eq_true] at h
         obtain ⟨x,hx,hxt⟩:=h
         have hxt' : x.i=t:=by simpa using hxt
         have:=(hnoE x hx).1
         rw [hxt', ht] at this; cases this
       have hap : ∀ x∈E, ∀ o,ops[x.i]? = some o→o.apart ops oi=true:=fun x hx o ho=>hE.ap x hx o ho i oi hoi himm (hnoE x hx).2
       by_cases hic:i=c.i
       ·subst hic
        have:oi=c.o:=by rw [hci] at hoi; simpa using hoi.symm
        subst this
        refine wpOp_mono (fun a' w' hn=>?_) (wpOp_form hci (oper_sound (tch:=fun b => !(U b || (held'.filter fun x => !againQ C ops.toList c st2 x).any fun x=>x.2.1.beq b)) hC hci hst2 (fun ρ b hck hb=>?_) hw2))
        ·obtain ⟨⟨ν', F', st', g1,g2,g3,g4⟩,v,hv⟩:=hn
         obtain ⟨g3,hag⟩:=wAgain_sound g1.heap (fun x hx=>(List.mem_filter.1 hx).2) (fun x hx=>let ⟨tmps,ht⟩:=hinv.1 x (List.mem_filter.1 (List.mem_filter.1 hx).1).1; ⟨tmps,ht.evo hst2.heap g2⟩) g3 a'
         have hinv' : Inv P C.glob ops HR held' (listed.setIfInBounds c.i true) ν' F' w' := by
          refine hinv.next (fun j h=>getD_step h) (fun tm tmps hs=>hs.evo hst2.heap g2) (fun y hy=>(List.mem_filter.1 hy).1) (fun q b tm hq hact=>?_) (fun r hr=>⟨g2.fmono r hr,g2.old r (hst2.heap.frz r hr).1 (hst2.heap.frz r hr).2⟩)
          have hm:=hheld (listed' := listed.setIfInBounds c.i true) (by simp [show c.i<listed.size by rw [hrel.1]; exact hclt]) q b tm hq hact
          refine ⟨hm,?_⟩
          cases hagq:againQ C ops.toList c st2 (q,b,tm) with
          | true=>exact .inr (hag (q,b,tm) (List.mem_filter.2 ⟨hm,hagq⟩))
          | false =>
           exact .inl fun r s n hat=>g4 b (r,s,n) hat (by
            simp only [Bool.not_eq_false', Bool.or_eq_true,List.any_eq_true]
            exact .inr ⟨_,List.mem_filter.2 ⟨hm,by rw [hagq]; rfl⟩,by simp⟩)
         exact ⟨SHof hinv', IH (m ||| 2 ^ c.i) held' HR E (mm ||| 2 ^ c.i) g _ ν' F' st' a' w' (hrel.step hclt) (hE.both hcmm) (hroom.step hclt hcmm) (hcm.step hci hcr) (hc.step hcready) g1 (he.trans ⟨g2,fun b y hy hb=>g4 b y hy (by simp [hb])⟩) hinv'
          (fun x hx=>(hek x hx).next g2 hv (hap x hx)) g3⟩
        ·simp only [Bool.not_eq_false', Bool.or_eq_true,List.any_eq_true] at hb
         simp only [Bool.and_eq_true] at hck
         rcases hb with hb | ⟨x,hx,hxb⟩
         ·exact hX _ _ _ b hck.1 hb
         ·have:=List.all_eq_true.1 hck.2 x (List.mem_filter.1 hx).1
          have hna:=(List.mem_filter.1 hx).2
          rw [← Id.beq_iff.1 hxb]
          simp only [Bool.not_eq_true'] at hna
          simpa [hna] using this
       ·
        have hq:=oth_of i oi hoi hirm hic
        obtain ⟨s1,⟨d,s3,s4⟩,s5⟩:=canWait_spec (hwaits _ hq)
        simp only at s1 s3 s4 s5
        obtain ⟨⟨x,hxr⟩,hwant⟩:=hruns _ hq himm
        simp only at hxr hwant
        have hdN:d<a.tmps.size:=by
         obtain ⟨y,hy,_⟩:=hst2.slot.1 d _ (hjunk _ hq d s3)
         exact lt_of_some hy
        obtain ⟨hgrow,hevo⟩:=heap_grow (w' := { w with heap:=w.heap.push (.cells x.cs x.e) }) hst2.heap _ rfl
        let a' := a.put oi.dst (x.X w.heap.size)
        let w' : World:={ w with heap:=w.heap.push (.cells x.cs x.e) }
        have hst' : StOK D C.glob N ν F st2 a' w' := by
         refine ⟨hgrow,by simp [a', Act.put,s3,hst2.size],by simp [a', Act.put,s3,hst2.defers],⟨fun t u ht=>?_,(hst2.slot.evo hst2.heap hevo).2⟩⟩
         obtain ⟨y,y1,y2⟩:=(hst2.slot.evo hst2.heap hevo).1 t u ht
         by_cases htd:t=d
         ·subst htd
          have:u = .junk:=by
           have:=hjunk _ hq t s3
           rw [ht] at this; simpa using this
          subst this
          exact ⟨x.X w.heap.size,by simp [a', Act.put,s3,hdN],by simp only [rep]⟩
         ·refine ⟨y,?_,y2⟩
          simp only [a', Act.put,s3]
          rw [Array.getElem?_setIfInBounds_ne (Ne.symm htd)]
          exact y1
        have hself:x.run P (execOp a'.eval oi):=by
         have:execOp a'.eval oi=execOp a.eval oi:=execOp_put oi (alloc_noselect s1) a oi.dst _ (fun d' hd' => by rw [s3] at hd'; simp at hd'; exact hd' ▸ s4)
         rw [this]; exact hxr
        have hinv' : Inv P C.glob ops HR held (listed.setIfInBounds i true) ν F w' :=
         hinv.next (fun j h=>getD_step h) (fun tm tmps hs=>hs.evo hst2.heap hevo) (fun y hy=>hy) (fun q b tm hq hact=>⟨hq,.inl fun r s n hat=>⟨by
          have z:=hst2.heap.at_lt hat
          show (w.heap.push _)[r]? = _
          rw [Array.getElem?_push,if_neg (by omega)],hat⟩⟩) (fun r hr=>⟨hr,by
          show (w.heap.push _)[r]? = _
          rw [Array.getElem?_push,if_neg (by have:=(hst2.heap.frz r hr).1; omega)]⟩)
        let x' : Early:={ x with i:=i,r:=w.heap.size }
        have hE' : EIn ops m (mm ||| 2 ^ i) (x' :: E):=by
         have hne : ∀ y∈E,y.i≠i:=fun y hy h=>by have:=hE.mem hy; rw [h,himm] at this; cases this
         refine ⟨fun j=>?_,fun y hy=>?_,?_,?_,fun y hy=>?_,fun y hy o ho j oj hj hm hb=>?_⟩
         ·rw [testBit_or_pow,hE.bit,List.any_cons]
          have:(x'.i==j)=decide (i=j):=by
           show (i==j)=_
           by_cases h:i=j <;> simp [h]
          rw [this]
          cases m.testBit j <;> cases (E.any fun x=>x.i==j) <;> cases (decide (i=j)) <;> rfl
         ·simp at hy
          rcases hy with rfl | hy
          ·exact him
          ·exact hE.out y hy
         ·rw [List.map_cons,List.nodup_cons]
          refine ⟨fun h=>?_,hE.nd⟩
          obtain ⟨y,hy,hyi⟩:=List.mem_map.1 h
          exact hne y hy hyi
         ·rw [List.map_cons,List.nodup_cons]
          refine ⟨fun h=>?_,hE.ndr⟩
          obtain ⟨y,hy,hyi⟩:=List.mem_map.1 h
          have:=(hek y hy).hi
          have hyi' : y.r=w.heap.size:=hyi
          omega
         ·simp at hy
          rcases hy with rfl | hy
          ·exact ⟨oi,hoi,hirm⟩
          ·exact hE.rdy y hy
         ·rw [testBit_or_pow] at hm
          simp at hm
          simp at hy
          rcases hy with rfl | hy
          ·have hoe:o=oi:=by rw [show x'.i=i from rfl,hoi] at ho; simpa using ho.symm
           subst hoe
           have hjm:m.testBit j=false:=by
            cases h:m.testBit j with
            | false=>rfl
            | true=>rw [hE.sub h] at hm; exact absurd hm.1 (by simp)
           rcases (s5 j oj hj hjm (Ne.symm hm.2)).2 with h | h | h
           ·have:=ready_bef hcmask hoi hir h
            rw [hm.1] at this; cases this
           ·rw [show x'.i=i from rfl,h] at hb; cases hb
           ·exact h
          ·exact hE.ap y hy o ho j oj hj hm.1 hb
        have hek' : ∀ y∈x' :: E,EOK P ops ν F w0.heap.size a' w' y:=by
         intro y hy
         simp at hy
         rcases hy with rfl | hy
         ·refine ⟨⟨oi,d,hoi,s1,(wanted_put oi a oi.dst _ (fun d' hd' => by rw [s3] at hd'; simp at hd'; exact hd' ▸ s4)).trans hwant,s3,by simp [a', x', Act.put,s3,hdN],hself⟩,he.1.size,by simp [x', w'],fun h=>?_,fun h=>?_,by
           show (w.heap.push _)[w.heap.size]? = _
           rw [Array.getElem?_push,if_pos rfl]⟩
          ·obtain ⟨b,s,n,hb⟩:=h
           exact absurd (hst2.heap.at_lt hb) (Nat.lt_irrefl _)
          ·exact absurd (hst2.heap.frz _ h).1 (Nat.lt_irrefl _)
         ·exact (hek y hy).next hevo rfl (hap y hy)
        have hruns' : ∀ q∈others,(mm ||| 2 ^ i).testBit q.i=false→(∃ x:Early,x.run P (execOp a'.eval q.o))∧Region.wanted q.o (yielded ops a'.tmps)=true:=by
         intro q hqo hqm
         rw [testBit_or_pow] at hqm
         simp at hqm
         obtain ⟨⟨y,hy⟩,hyw⟩:=hruns q hqo hqm.1
         obtain ⟨t1,t3,t4⟩:=canWait_spec (hwaits q hqo)
         have hqr:=(hoth q hqo).1
         rw [readyOnes_filter,List.mem_filter] at hqr
         obtain ⟨hqi,_,hqon,hqbef⟩:=prepAll_mem hqr.1
         have hqrdy:isReady m q.i (onMask q.o)=true:=by rw [← hqon]; exact hqr.2
         have hqap:q.o.apart ops oi=true:=by
          rcases (t4 i oi hoi him hqm.2).2 with h | h | h
          ·rw [hqbef] at h
           have:=ready_bef hcm hqi hqrdy h
           rw [him] at this; cases this
          ·have:=ready_bef hcmask hoi hir h
           rw [hqm.1] at this; cases this
          ·exact h
         refine ⟨⟨y,?_⟩,(wanted_put q.o a oi.dst _ (Oper.apart_spec hqap).2.2).trans hyw⟩
         have:execOp a'.eval q.o=execOp a.eval q.o:=execOp_put q.o (alloc_noselect t1) a oi.dst _ (Oper.apart_spec hqap).2.2
         rw [this]; exact hy
        have hrec:=ihg (x' :: E) (mm ||| 2 ^ i) (listed.setIfInBounds i true) a' w' (fun y hy=>by
         simp at hy
         rcases hy with rfl | hy
         ·exact hic
         ·exact hcE y hy) (hrel.step hilt) hE' (hroom.step hilt himm) (hc.step hi) hst' (he.trans ⟨hevo,fun b y hy _=>⟨by
          obtain ⟨r,s,n⟩:=y
          have z:=hst2.heap.at_lt hy
          show (w.heap.push _)[r]? = _
          rw [Array.getElem?_push,if_neg (by omega)],hy⟩⟩) hinv' hek' hruns'
        unfold wpOp
        simp only [hoi]
        rw [if_pos hwant]
        refine ⟨nodefer_of (hxr w),?_⟩
        rw [hxr w]
        exact ⟨SHof hinv', hrec⟩
     exact inner g E mm listed a w (fun x hx h=>hcE ⟨x,hx,h⟩) hrel hE hroom hc hst2 he hinv hek (fun q hq _=>hruns q hq)
   split at hw
   ·rename_i h0
    exact finish m HR E mm g listed ν F st a w hrel hE hst he h0 hw
   ·rename_i p h0
    exact main p [] (by rw [h0]; simp) (fun q hq=>by rw [h0] at hq; simp at hq; exact .inl (by rw [hq])) (fun q hq=>by cases hq) hw
   ·rename_i h1 h2
    rw [onSome_iff] at hw
    obtain ⟨c,hpick,hw⟩:=hw
    have hcm' := List.mem_of_find?_eq_some hpick
    have hall:=List.find?_some hpick
    simp only [List.all_eq_true,Bool.or_eq_true,Array.toArray_toList] at hall
    refine main c _ hcm' (fun q hq=>?_) (fun q hq=>?_) hw
    ·by_cases hqc:q.i=c.i
     ·exact .inl hqc
     ·refine .inr ⟨List.mem_filter.2 ⟨hq,by
       cases hb:q.i.beq c.i with
       | false=>rfl
       | true=>exact (hqc (beq_eq hb)).elim⟩,(hall q hq).resolve_left fun h=>hqc (beq_eq h)⟩
    ·obtain ⟨q1,q2⟩:=List.mem_filter.1 hq
     exact ⟨q1,fun h=>by rw [h] at q2; simp at q2⟩
theorem draw_sound {P:Program} {C:Calling} (hC:C.ok P) {X:Ask} {U:Id→Bool} (hX:X.keeps C U) {ops:Array Oper} (hok:regionOK ops (prepAll ops.toList)=true) {Q:Exit→Act→World→Prop} (hQp : ∀ c a w, ¬ Q (.panic c) a w) {k:St→Prop} {ν0:Nu} {F0:Nat→Prop} {w0:World}
  (hQ : ∀ ν F st a w,StOK D C.glob N ν F st a w→EvoU U ν0 F0 w0 ν F w→k st→Q .normal a w)
  (listed:Array Bool) (ν:Nu) (F:Nat→Prop) (st:St) (a:Act) (w:World) (hrel:Rel ops 0 listed) (hc:ClosedL .any ops listed) (hst:StOK D C.glob N ν F st a w) (he:EvoU U ν0 F0 w0 ν F w)
  (hw:wDraw P C X N ops.toList (prepAll ops.toList) ops.size 0 [] st k):wpAnyS P .any ops Q (SH ops []) ops.size listed a w :=
 draw_sound' hC hX hok hQp hQ ops.size 0 [] [] [] 0 ops.size listed ν F st a w hrel ⟨fun j=>by simp,fun x hx=>(by cases hx),by simp,by simp,fun x hx=>(by cases hx),fun x hx=>(by cases hx)⟩ (room_start ops)
  (fun j oj hj hm=>by simp at hm) hc hst he ⟨fun x hx=>(by cases hx),fun p hp=>(by cases hp)⟩ (fun x hx=>(by cases hx)) hw
end
end Go.Proofs.YtkkgicjioajimaaDoor.Clean
