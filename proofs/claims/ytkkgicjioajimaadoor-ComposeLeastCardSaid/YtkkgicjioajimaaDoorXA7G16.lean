/- A part of the proof. -/
import Derived.ProofKit
import Derived.Deep.Slices
import Derived.Carry
import Derived.OpenShut
import Derived.MakeChecks
import Derived.FnData
import Derived.Deep.Strs
import Derived.Test.YtkkgicjioajimaaDoorXA7G7
namespace Go.Proofs.YtkkgicjioajimaaDoor.Clean
open Go.Deep
set_option linter.unusedSimpArgs false
set_option linter.unusedVariables false
section
variable {H:Type} (enc:TypeId×Value→H) (P:Program) (w:World)
def FW (r:Nat):Prop:=r<w.heap.size
def Opens (t:TypeId) {α:Type} (f:α→List V) (ok:α→Prop):Prop :=
 ∀ fuel cs x,DataW.trod enc P w 0 (fun _=>true) true fuel t cs=some x → ∃ a,riL (FW w) w (f a) cs∧ok a ∧ ∀ u∈cs,u.oneCell' = true
def OpensF (total:Nat) (off:Nat) (fs:List Field) {α:Type} (f:α→List V) (ok:α→Prop):Prop :=
 ∀ n (cs:List Value),cs.length=total→(∀ fd∈fs, ∃ x,DataW.trod enc P w 0 (fun _=>true) true n fd.type ((cs.drop fd.offset).take (P.cellsOf fd.type))=some x) →
  ∃ a,riL (FW w) w (f a) (cs.drop off)∧ok a ∧ ∀ u∈cs.drop off,u.oneCell' = true
end
section
variable {H:Type} {enc:TypeId×Value→H} {P:Program} {w:World}
theorem riL_append : ∀ {vs us:List V} {xs ys:List Value},riL (FW w) w vs xs→riL (FW w) w us ys→riL (FW w) w (vs++us) (xs++ys)
 | [],us,xs,ys,h,k=>by simp only [riL] at h; subst h; simpa using k
 | v::vs,us,xs,ys,h,k=>by
  simp only [riL] at h
  obtain ⟨x,zs,rfl,h2,h3⟩:=h
  simp only [List.cons_append,riL]
  exact ⟨x,zs++ys,rfl,h2,riL_append h3 k⟩
theorem riL_one {v:V} {x:Value} (h:ri (FW w) w v x):riL (FW w) w [v] [x]:=by simp only [riL]; exact ⟨x,[],rfl,h,rfl⟩
theorem riL_get : ∀ {vs:List V} {xs:List Value},riL (FW w) w vs xs → ∀ (i:Nat) v,vs[i]? = some v → ∃ x,xs[i]? = some x∧ri (FW w) w v x
 | [],xs,h,i,v,hi=>by simp at hi
 | u::vs,xs,h,i,v,hi=>by
  simp only [riL] at h
  obtain ⟨x,ys,rfl,h2,h3⟩:=h
  cases i with
  | zero=>simp at hi; subst hi; exact ⟨x,rfl,h2⟩
  | succ i=>simp at hi; simpa using riL_get h3 i v hi
theorem riL_length : ∀ {vs:List V} {xs:List Value},riL (FW w) w vs xs→xs.length=vs.length
 | [],xs,h=>by simp only [riL] at h; simp [h]
 | v::vs,xs,h=>by simp only [riL] at h; obtain ⟨x,ys,rfl,_,h3⟩:=h; simp [riL_length h3]
theorem opens_int {t:TypeId} {k:IntKind} (ht:P.underlying t=some (.int k)):Opens enc P w t (fun n:Int=>[.raw (.int k n)]) (fun n=>(Lit.int k n).wf=true):=by
 intro fuel cs x h
 obtain ⟨n,rfl,_,hw⟩:=DataW.trod_int ht h
 exact ⟨n,riL_one (by simp [ri]),hw,by simp [Value.oneCell']⟩
theorem opens_bool {t:TypeId} (ht:P.underlying t=some .bool):Opens enc P w t (fun b:Bool=>[.raw (.bool b)]) (fun _=>True):=by
 intro fuel cs x h
 obtain ⟨n,rfl,_⟩:=DataW.trod_bool ht h
 exact ⟨n,riL_one (by simp [ri]),trivial,by simp [Value.oneCell']⟩
theorem opens_slice {t e:TypeId} {s:Nat} {α:Type} {f:α→List V} {ok:α→Prop} (ht:P.underlying t=some (.slice e)) (hs:P.cellsOf e=s) (hpos:s≠0) (ho:Opens enc P w e f ok) :
  Opens enc P w t (fun l:List α=>[.lst s (l.map f)]) (fun l=>l.length≤maxLen ∧ ∀ a∈l,ok a):=by
 intro fuel cs x h
 rcases open_slice ht h with ⟨rfl,_⟩ | ⟨a,len,cap,m,n,D,Pl,rfl,_,hl,hm,hmm,_,hx⟩
 ·exact ⟨[],riL_one (by simp [ri]),by simp,by simp [Value.oneCell']⟩
 ·simp only [if_true] at hmm
  subst hmm
  rw [hs] at hx
  have each : ∀ i,i<len → ∃ q:α,(∃ cs', w.cells? 0 (a.add (i * s)) s=some cs' ∧ riL (FW w) w (f q) cs' ∧ ∀ u∈cs', u.oneCell' = true)∧ok q:=by
   intro i hi
   obtain ⟨cs', h1,h2⟩:=hx i (by omega)
   obtain ⟨q,h3,h4,h5⟩:=ho _ _ _ h2
   exact ⟨q,⟨cs', h1,h3,h5⟩,h4⟩
  obtain ⟨q,hq⟩ : ∃ q:Nat→Option α, ∀ i,i<len → ∃ y,q i=some y∧(∃ cs', w.cells? 0 (a.add (i * s)) s=some cs' ∧ riL (FW w) w (f y) cs' ∧ ∀ u∈cs', u.oneCell' = true)∧ok y:=by
   refine Classical.axiomOfChoice (r:=fun i (o:Option α)=>i<len → ∃ y,o=some y∧(∃ cs', w.cells? 0 (a.add (i * s)) s=some cs' ∧ riL (FW w) w (f y) cs' ∧ ∀ u∈cs', u.oneCell' = true)∧ok y) ?_
   intro i
   by_cases hi:i<len
   ·obtain ⟨y,hy⟩:=each i hi
    exact ⟨some y,fun _=>⟨y,rfl,hy⟩⟩
   ·exact ⟨none,fun h=>(hi h).elim⟩
  let l:List α:=(List.range len).filterMap q
  have hl' : l.length=len ∧ ∀ i,i<len→l[i]? = q i:=by
   have key : ∀ k,k≤len→((List.range k).filterMap q).length=k ∧ ∀ i,i<k→((List.range k).filterMap q)[i]? = q i:=by
    intro k
    induction k with
    | zero=>intro _; simp
    | succ k ih =>
     intro hk
     obtain ⟨h1,h2⟩:=ih (by omega)
     obtain ⟨y,hy,_⟩:=hq k (by omega)
     have:(List.range (k+1)).filterMap q=(List.range k).filterMap q++[y]:=by rw [List.range_succ,List.filterMap_append]; simp [hy]
     rw [this]
     refine ⟨by simp [h1],fun i hi=>?_⟩
     by_cases hik:i<k
     ·rw [List.getElem?_append_left (by omega)]; exact h2 i hik
     ·have:i=k:=by omega
      subst this
      rw [List.getElem?_append_right (by omega),h1,hy]; simp
   exact key len (Nat.le_refl _)
  refine ⟨l,riL_one ?_,⟨by omega,fun b hb=>?_⟩,by simp [Value.oneCell']⟩
  ·simp only [ri]
   refine .inr ⟨a,m,by simp [hl'.1]; exact hl,by simp [hl'.1],?_⟩
   by_cases h0:len=0
   ·left
    have:l=[]:=List.eq_nil_of_length_eq_zero (by omega)
    simp [this]
   ·right
    have cell : ∀ (i:Nat) (cs' : List Value),i<len→w.cells? 0 (a.add (i * s)) s=some cs' → ∀ j,j<s→w.cell? (a.add (i * s+j))=cs'[j]? ∧ cs'.length=s:=by
     intro i cs' hi hc j hj
     obtain ⟨_,hlen,hcc⟩:=World.cells?_some hc
     have:=hcc j hj
     rw [add_add] at this
     exact ⟨this,hlen⟩
    obtain ⟨y0,hy0,⟨cs0,c1,_,_⟩,_⟩:=hq 0 (by omega)
    have hc0:=(cell 0 cs0 (by omega) c1 0 (by omega))
    have hsome : ∃ u,w.cell? a=some u:=by
     have h1:=hc0.1
     rw [Nat.zero_mul,Nat.zero_add] at h1
     have:a.add 0=a:=by simp [Addr.add]
     rw [this] at h1
     rw [h1]
     exact ⟨cs0[0]'(by omega),List.getElem?_eq_getElem (by omega)⟩
    obtain ⟨u0,hu0⟩:=hsome
    have hspot:a.spot=none:=by
     unfold World.cell? at hu0
     split at hu0
     ·split at hu0
      ·cases hu0
      ·rename_i h; simpa using h
     ·cases hu0
    obtain ⟨ab,ao,asp⟩:=a
    simp only at hspot
    subst hspot
    refine ⟨rfl,World.block_lt_of_cell? w _ hu0,?_⟩
    rw [riRows_iff]
    intro i row hrow
    rw [List.getElem?_map,Option.map_eq_some_iff] at hrow
    obtain ⟨b,hb,rfl⟩:=hrow
    have hi:i<len:=by have:=(List.getElem?_eq_some_iff.1 hb).1; omega
    obtain ⟨y,hy,⟨cs', g1,g2,g3⟩,_⟩:=hq i hi
    rw [hl'.2 i hi,hy] at hb
    simp at hb
    subst hb
    have hlen' := riL_length g2
    obtain ⟨_,hclen,_⟩:=World.cells?_some g1
    refine ⟨by omega,fun j v hj=>?_⟩
    obtain ⟨z,z1,z2⟩:=riL_get g2 j v hj
    have hjs:j<s:=by have:=(List.getElem?_eq_some_iff.1 z1).1; omega
    refine ⟨z,?_,g3 z (List.mem_of_getElem? z1),z2⟩
    have:=(cell i cs' hi g1 j hjs).1
    rw [add_lit,← Nat.add_assoc] at this
    rw [this]; exact z1
  ·obtain ⟨i,hi⟩:=List.mem_iff_getElem?.1 hb
   have hil:i<len:=by have:=(List.getElem?_eq_some_iff.1 hi).1; omega
   obtain ⟨y,hy,_,hok⟩:=hq i hil
   rw [hl'.2 i hil,hy] at hi
   simp at hi
   exact hi ▸ hok
theorem opensF_nil {total:Nat}:OpensF enc P w total total [] (fun _:Unit=>[]) (fun _=>True):=by
 intro n cs hl _
 rw [List.drop_of_length_le (by omega)]
 exact ⟨(),by simp [riL],trivial,by simp⟩
theorem opensF_cons {total off k:Nat} {fd:Field} {fs:List Field} {α β:Type} {f:α→List V} {g:β→List V} {ok:α→Prop} {ok' : β→Prop} (ho:fd.offset=off) (hk:P.cellsOf fd.type=k)
  (h1:Opens enc P w fd.type f ok) (h2:OpensF enc P w total (off+k) fs g ok'):OpensF enc P w total off (fd::fs) (fun x:α×β=>f x.1++g x.2) (fun x=>ok x.1∧ok' x.2):=by
 intro n cs hl hf
 obtain ⟨x,hx⟩:=hf fd (by simp)
 rw [ho,hk] at hx
 obtain ⟨a,a1,a2,a3⟩:=h1 _ _ _ hx
 obtain ⟨b,b1,b2,b3⟩:=h2 n cs hl (fun fd' h' => hf fd' (by simp [h']))
 have hsplit:cs.drop off=(cs.drop off).take k++cs.drop (off+k):=by rw [← List.drop_drop,List.take_append_drop]
 refine ⟨(a,b),?_,⟨a2,b2⟩,?_⟩
 ·rw [hsplit]; exact riL_append a1 b1
 ·rw [hsplit]
  intro u hu
  rcases List.mem_append.1 hu with hu | hu
  ·exact a3 u hu
  ·exact b3 u hu
theorem opens_struct {t:TypeId} {fs:Array Field} {total:Nat} {α:Type} {f:α→List V} {ok:α→Prop} (ht:P.underlying t=some (.struct fs)) (hc:P.cellsOf t=total) (h:OpensF enc P w total 0 fs.toList f ok):Opens enc P w t f ok:=by
 intro fuel cs x hx
 obtain ⟨xs,n,_,_,hl,hxl,hf⟩:=DataW.trod_struct ht hx
 have:=h n cs (by omega) (fun fd hfd=>by
  obtain ⟨i,hi⟩:=List.mem_iff_getElem?.1 hfd
  have hi' : fs[i]? = some fd:=by simpa using hi
  have:=hf i fd hi'
  have hil:i<xs.length:=by rw [hxl]; exact lt_of_some hi'
  rw [List.getElem?_eq_getElem hil] at this
  exact ⟨_,this⟩)
 simpa using this
theorem arg_slice {t e:TypeId} {v:Value} {d:DataW H} {p:List MemPlace} {r:Reach} {b0:Nat} {α:Type} {f:α→V} {ok:α→Prop} (ht:P.underlying t=some (.slice e)) (hval:Value.okWide P w r b0 t v) (h:DataW.Trod enc P w 0 (fun _=>true) true t v d p)
  (ho:Opens enc P w t (fun a=>[f a]) ok) : ∃ a,ri (FW w) w (f a) v∧ok a:=by
 obtain ⟨a,len,cap,rfl⟩:=WideShapes.okWide_slice ht hval
 obtain ⟨fuel,hf⟩:=h
 obtain ⟨y,h1,h2,_⟩:=ho _ _ _ hf
 simp only [Value.cells,riL] at h1
 obtain ⟨x,xs,hx,h3,_⟩:=h1
 simp at hx
 exact ⟨y,by rw [hx.1]; exact h3,h2⟩
theorem arg_struct {t:TypeId} {fs:Array Field} {v:Value} {d:DataW H} {p:List MemPlace} {r:Reach} {b0:Nat} {α:Type} {f:α→List V} {ok:α→Prop} (ht:P.underlying t=some (.struct fs)) (hval:Value.okWide P w r b0 t v) (h:DataW.Trod enc P w 0 (fun _=>true) true t v d p)
  (ho:Opens enc P w t f ok) : ∃ a,ri (FW w) w (.agg (f a)) v∧ok a:=by
 obtain ⟨cs,rfl,_⟩:=WideShapes.okWide_struct ht hval
 obtain ⟨fuel,hf⟩:=h
 obtain ⟨y,h1,h2,_⟩:=ho _ _ _ hf
 exact ⟨y,by simp only [ri]; exact ⟨cs,rfl,h1⟩,h2⟩
end
end Go.Proofs.YtkkgicjioajimaaDoor.Clean
namespace Go.Proofs.YtkkgicjioajimaaDoor.Clean
set_option linter.unusedVariables false
set_option linter.unusedSimpArgs false
mutual
def litC {H:Type} (P:Program):Nat→TypeId→DataW H→Option (List V)
 | 0,_,_=>none
 | f+1,t,d=>match P.underlying t with
  | some (.int k)=>match d with
   | .lit (.int k' n)=>some [.raw (.int k n)]
   | _=>none
  | some (.struct fs)=>match d with
   | .agg xs=>litF P f (P.cellsOf t) fs.toList xs 0
   | _=>none
  | some (.array n e)=>match d with
   | .agg xs=>if P.cellsOf t=n * P.cellsOf e then litA P f e xs else none
   | _=>none
  | _=>none
def litF {H:Type} (P:Program):Nat→Nat→List Field→List (DataW H)→Nat→Option (List V)
 | 0,_,_,_,_=>none
 | _+1,n,[],[],o=>if n=o then some [] else none
 | f+1,n,fd::fs,x::xs,o=>if fd.offset=o then (litC P f fd.type x).bind fun a=>(litF P f n fs xs (o+P.cellsOf fd.type)).bind fun b=>if a.length=P.cellsOf fd.type then some (a++b) else none else none
 | _,_,_,_,_=>none
def litA {H:Type} (P:Program):Nat→TypeId→List (DataW H)→Option (List V)
 | 0,_,_=>none
 | _+1,_,[]=>some []
 | f+1,e,x::xs=>(litC P f e x).bind fun a=>(litA P f e xs).bind fun b=>if a.length=P.cellsOf e then some (a++b) else none
end
section
variable {H:Type} {enc:TypeId×Value→H} {P:Program} {w:World} {b0:Nat} {sp:Nat→Bool} {held:Bool}
def CellsOK (w:World) (vs:List V) (cs:List Value):Prop:=cs.length=vs.length ∧ ∀ (i:Nat) v x,vs[i]? = some v→cs[i]? = some x→x.oneCell' = true∧ri (FW w) w v x
theorem CellsOK.append {vs us:List V} {cs ds:List Value} (h:CellsOK w vs cs) (k:CellsOK w us ds):CellsOK w (vs++us) (cs++ds):=by
 refine ⟨by simp [h.1,k.1],fun i v x hv hx=>?_⟩
 by_cases hi:i<vs.length
 ·rw [List.getElem?_append_left hi] at hv
  rw [List.getElem?_append_left (by rw [h.1]; exact hi)] at hx
  exact h.2 i v x hv hx
 ·rw [List.getElem?_append_right (by omega)] at hv
  rw [List.getElem?_append_right (by rw [h.1]; omega),h.1] at hx
  exact k.2 _ v x hv hx
theorem take_split (cs:List Value) (o n:Nat):cs.drop o=(cs.drop o).take n++cs.drop (o+n):=by rw [← List.drop_drop,List.take_append_drop]
theorem lit_ok (f:Nat) :
  (∀ (t:TypeId) (d:DataW H) (vs:List V),litC P f t d=some vs → ∀ fuel cs x,DataW.trod enc P w b0 sp held fuel t cs=some x→x.1=d→CellsOK w vs cs) ∧
  (∀ (fs:List Field) (xs:List (DataW H)) (o:Nat) (vs:List V) (cs:List Value),litF P f cs.length fs xs o=some vs → ∀ m (ys:List (DataW H×List MemPlace)),ys.map (·.1)=xs→(∀ (i:Nat) fd,fs[i]? = some fd→DataW.trod enc P w b0 sp held m fd.type ((cs.drop fd.offset).take (P.cellsOf fd.type))=ys[i]?)→CellsOK w vs (cs.drop o)) ∧
  (∀ (e:TypeId) (xs:List (DataW H)) (o:Nat) (vs:List V) (cs:List Value),litA P f e xs=some vs→cs.length=o+xs.length * P.cellsOf e → ∀ m (ys:List (DataW H×List MemPlace)),ys.map (·.1)=xs→(∀ (i:Nat),i<xs.length→DataW.trod enc P w b0 sp held m e ((cs.drop (o+i * P.cellsOf e)).take (P.cellsOf e))=ys[i]?)→CellsOK w vs (cs.drop o)):=by
 induction f with
 | zero=>exact ⟨fun t d vs h=>by simp [litC] at h,fun fs xs o vs cs h=>by simp [litF] at h,fun e xs o vs cs h=>by simp [litA] at h⟩
 | succ f ih =>
  obtain ⟨ihC,ihF,ihA⟩:=ih
  refine ⟨fun t d vs h fuel cs x hx hd=>?_,fun fs xs o vs cs h m ys hys hf=>?_,fun e xs o vs cs h hl m ys hys hf=>?_⟩
  ·simp only [litC] at h
   split at h
   ·rename_i k hk
    split at h
    ·rename_i k' n
     cases h
     obtain ⟨m,rfl,h2,_⟩:=DataW.trod_int hk hx
     have hxd:x.1 = .lit (.int k m):=by rw [h2]
     rw [hd] at hxd
     simp only [DataW.lit.injEq,Lit.int.injEq] at hxd
     obtain ⟨_,rfl⟩:=hxd
     refine ⟨rfl,fun i v x hv hx=>?_⟩
     cases i with
     | zero=>simp at hv hx; subst hv; subst hx; exact ⟨rfl,by simp [ri]⟩
     | succ i=>simp at hv
    ·cases h
   ·rename_i fs hs
    split at h
    ·rename_i xs
     obtain ⟨ys,n,_,hy,hl,hyl,hf⟩:=DataW.trod_struct hs hx
     have hxs:ys.map (·.1)=xs:=by
      have:=hd
      rw [hy] at this
      simpa using this
     rw [← hl] at h
     have:=ihF fs.toList xs 0 vs cs h n ys hxs (fun i fd hi=>hf i fd (by simpa using hi))
     simpa using this
    ·cases h
   ·rename_i n e ha
    split at h
    ·rename_i xs
     split at h
     ·rename_i hn
      obtain ⟨ys,m,_,hy,hl,hyl,hf⟩:=DataW.trod_array ha hx
      have hxs:ys.map (·.1)=xs:=by
       have:=hd
       rw [hy] at this
       simpa using this
      have hxl:xs.length=n:=by rw [← hxs]; simpa using hyl
      have:=ihA e xs 0 vs cs h (by rw [hl,hn,hxl]; omega) m ys hxs (fun i hi=>by rw [Nat.zero_add]; exact hf i (by omega))
      simpa using this
     ·cases h
    ·cases h
   ·cases h
  ·cases fs with
   | nil =>
    cases xs with
    | nil =>
     simp only [litF] at h
     split at h
     ·rename_i hn
      cases h
      subst hn
      refine ⟨by simp,fun i v x hv hx=>by simp at hv⟩
     ·cases h
    | cons x xs=>simp [litF] at h
   | cons fd fs =>
    cases xs with
    | nil=>simp [litF] at h
    | cons x xs =>
     simp only [litF] at h
     split at h
     ·rename_i ho
      cases ha:litC P f fd.type x with
      | none=>rw [ha] at h; cases h
      | some a =>
       cases hb:litF P f cs.length fs xs (o+P.cellsOf fd.type) with
       | none=>rw [ha,hb] at h; cases h
       | some b =>
        rw [ha,hb] at h
        simp only [Option.bind_some] at h
        split at h
        ·rename_i hal
         cases h
         cases ys with
         | nil=>simp at hys
         | cons y ys =>
          simp only [List.map_cons,List.cons.injEq] at hys
          have h0:=hf 0 fd rfl
          rw [ho] at h0
          rw [take_split cs o (P.cellsOf fd.type)]
          exact (ihC _ _ _ ha _ _ _ h0 hys.1).append (ihF fs xs _ b cs hb m ys hys.2 (fun i fd' hi=>hf (i+1) fd' (by simpa using hi)))
        ·cases h
     ·cases h
  ·cases xs with
   | nil =>
    simp only [litA,Option.some.injEq] at h
    subst h
    refine ⟨by simp at hl ⊢; omega,fun i v x hv hx=>by simp at hv⟩
   | cons x xs =>
    simp only [litA] at h
    cases ha:litC P f e x with
    | none=>rw [ha] at h; cases h
    | some a =>
     cases hb:litA P f e xs with
     | none=>rw [ha,hb] at h; cases h
     | some b =>
      rw [ha,hb] at h
      simp only [Option.bind_some] at h
      split at h
      ·rename_i hal
       cases h
       cases ys with
       | nil=>simp at hys
       | cons y ys =>
        simp only [List.map_cons,List.cons.injEq] at hys
        have h0:=hf 0 (by simp)
        rw [Nat.zero_mul,Nat.add_zero] at h0
        rw [take_split cs o (P.cellsOf e)]
        refine (ihC _ _ _ ha _ _ _ h0 hys.1).append (ihA e xs _ b cs hb (by rw [hl,List.length_cons,Nat.add_mul]; omega) m ys hys.2 (fun i hi=>?_))
        have:=hf (i+1) (by simpa using hi)
        rw [Nat.add_mul,Nat.one_mul] at this
        rw [show o+P.cellsOf e+i * P.cellsOf e=o+(i * P.cellsOf e+P.cellsOf e) by omega]
        simpa using this
      ·cases h
end
structure LaidOne (P:Program) (g:Nat) (n:String) (d:DataW Unit) (vs:List V):Prop where
 name:P.globalNamed n=some g
 cells:(((P.globals[g]?).map (·.type)).bind fun t=>litC P 64 t d)=some vs
theorem riCells_of {F:Nat→Prop} {w:World} {b:Nat} : ∀ (vs:List V) (o:Nat),(∀ i v,vs[i]? = some v → ∃ x,w.cell? ⟨b,o+i,none⟩=some x∧x.oneCell' = true∧ri F w v x)→riCells F w b vs o
 | [],o,_=>by simp only [riCells]
 | v::vs,o,h=>by
  simp only [riCells]
  refine ⟨by simpa using h 0 v rfl,riCells_of vs (o+1) fun i v hi=>?_⟩
  have:=h (i+1) v (by simpa using hi)
  rwa [show o+(i+1)=o+1+i by omega] at this
theorem laid_adr {P:Program} {w:World} {laid:List (String×DataW Unit)} (hp:(laid.all fun x=>x.2.handleName?.isNone)=true) (h:laidMetH P laid w) {g:Nat} {n:String} {d:DataW Unit} {vs:List V} (hm:(n,d)∈laid) (ho:LaidOne P g n d vs) (hne:vs≠[]) :
  ri (FW w) w (.adr vs 0) (.pointer (some ⟨g,0,none⟩)):=by
 rw [MakeChecks.laidMetH_plain _ _ _ hp] at h
 obtain ⟨ps,hl,_⟩:=h
 have key : ∀ (l:List (String×DataW Unit)) (ps:List MemPlace),DataW.LaidVars P w l ps→(n,d)∈l → ∃ t cs fuel p,(P.globals[g]?).map (·.type)=some t∧w.var? P n=some cs∧DataW.trod (fun _=>()) P w 0 (fun _=>true) false fuel t cs.toList=some (d,p):=by
  intro l
  induction l with
  | nil=>intro ps _ hm; cases hm
  | cons a r ih =>
   obtain ⟨n', d'⟩:=a
   intro ps hl hm
   obtain ⟨g', t,cs,fuel,p,q,h1,h2,h3,h4,h5,_⟩:=hl
   rcases List.mem_cons.1 hm with he | he
   ·cases he
    obtain rfl:=Option.some.inj (ho.name.symm.trans h1)
    exact ⟨t,cs,fuel,p,h2,h3,h4⟩
   ·exact ih q h5 he
 obtain ⟨t,cs,fuel,p,h1,h2,h3⟩:=key laid ps hl hm
 have k2:=ho.cells
 rw [h1,Option.bind_some] at k2
 have hc:=(lit_ok 64).1 _ _ _ k2 _ _ _ h3 rfl
 have hv:=World.var?_cell ho.name h2
 simp only [ri]
 have cell : ∀ i v,vs[i]? = some v → ∃ x,w.cell? ⟨g,0+i,none⟩=some x∧x.oneCell' = true∧ri (FW w) w v x:=by
  intro i v hi
  have hlt:i<vs.length:=(List.getElem?_eq_some_iff.1 hi).1
  have hlt' : i<cs.toList.length:=by rw [hc.1]; exact hlt
  obtain ⟨q1,q2⟩:=hc.2 i v _ hi (List.getElem?_eq_getElem hlt')
  refine ⟨cs.toList[i],?_,q1,q2⟩
  rw [Nat.zero_add,hv i]
  simp at hlt' ⊢
 refine ⟨g,0,by simp,?_,riCells_of vs 0 cell⟩
 obtain ⟨v,r,rfl⟩:=List.exists_cons_of_ne_nil hne
 obtain ⟨x,hx,_⟩:=cell 0 v rfl
 show g<w.heap.size
 simp only [World.cell?] at hx
 cases hh:w.heap[0+g]? with
 | none=>rw [Nat.zero_add] at hh; rw [hh] at hx; simp at hx
 | some o=>rw [Nat.zero_add] at hh; exact lt_of_some hh
end Go.Proofs.YtkkgicjioajimaaDoor.Clean
