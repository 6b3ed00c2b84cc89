/- A part of the proof. -/
import Derived.Shelf.SlSortCmp.WholeK
import Derived.Test.YtbionhgjgcpogaaGreatDoorProg
import Derived.Shelf.SlLaysF0
import Derived.Shelf.SlGeneric
import Derived.Test.YtbionhgjgcpogaaGreatDoorXP9G10
import Derived.Test.YtbionhgjgcpogaaGreatDoorXP9G11
namespace Go.Proofs.YtbionhgjgcpogaaGreatDoor.Clean
open Go.Proofs Go.Shelf Go.RowKit Go.Lib Go.Sort
set_option linter.unusedVariables false
set_option linter.unusedSimpArgs false
set_option maxRecDepth 10000
def rowV (vs:List Value):List V:=vs.map V.raw
section
variable {ν:Nu} {F:Nat→Prop} {h:Hp} {w w' : World}
theorem heap_growA {os:Array Obj} (k:HeapOK ν F h w) (hw:w' = grow w os):HeapOK ν F h w' ∧ Evo ν F w ν F w' := by
  have hpre : ∀ r,r<w.heap.size→w'.heap[r]? = w.heap[r]? := fun r hlt=>by
    subst hw; show (w.heap++os)[r]? = _; rw [Array.getElem?_append_left hlt]
  have hsize:w.heap.size≤w'.heap.size:=by subst hw; show _≤(w.heap++os).size; simp
  have e:Evo ν F w ν F w' := ⟨by rw [hw]; rfl,by rw [hw]; rfl,by rw [hw]; rfl,hsize,fun r hlt _=>hpre r hlt,fun _ h=>h,fun _ h => .inl h,fun _ h => .inl h,fun _ _ _ h=>h,Nat.le_refl _,fun _=>Nat.le_refl _,fun _ _ h=>h,
    fun b r s n hb _ c e fr hc=>⟨c,by rw [hpre r (lt_of_some hc)]; exact hc,rfl⟩,by subst hw; exact Nat.le_refl _⟩
  refine ⟨⟨fun b r s n hb=>?_,k.dom,k.inj,fun r hr=>⟨Nat.lt_of_lt_of_le (k.frz r hr).1 hsize,(k.frz r hr).2⟩,k.nxt,k.cnt⟩,e⟩
  obtain ⟨o,g1,g2⟩:=k.blk b r s n hb
  exact ⟨o,g1,obl_evo k e (hpre r (k.at_lt hb)) g2⟩
theorem world_grow {W w' : World} (h1:w'.os=W.os) (h2:w'.tape=W.tape) (h3:w'.output=W.output) (h4:W.drawn≤w'.drawn) (h5:W.heap.size≤w'.heap.size) (h6 : ∀ r,r<W.heap.size→w'.heap[r]? = W.heap[r]?) : ∃ q os', w' = grow (W.drewN q) os' := by
  refine ⟨w'.drawn - W.drawn,w'.heap.extract W.heap.size w'.heap.size,?_⟩
  obtain ⟨heap,tape,drawn,os,out⟩:=w'
  simp only at h1 h2 h3 h4 h5 h6
  have hh:heap=W.heap++heap.extract W.heap.size heap.size:=by
    refine Array.ext_getElem? fun i=>?_
    by_cases hi:i<W.heap.size
    · rw [Array.getElem?_append_left hi,h6 i hi]
    · rw [Array.getElem?_append_right (by omega),Array.getElem?_extract]
      split
      · rw [show W.heap.size+(i - W.heap.size)=i from by omega]
      · rw [Array.getElem?_eq_none (by omega)]
  show World.mk heap tape drawn os out=World.mk (W.heap++heap.extract W.heap.size heap.size) W.tape (W.drawn+(drawn - W.drawn)) W.os W.output
  rw [← hh,← h1,← h2,← h3,show W.drawn+(drawn - W.drawn)=drawn from by omega]
variable {α:Type} [Inhabited α]
theorem flat_get {enc:α→List Value} {k:Nat} (hk : ∀ x,(enc x).length=k) (l:List α) {i j:Nat} {x:α} (hx:l[i]? = some x) (hj:j<k):(flatK enc k l.toArray)[i * k+j]! = (enc x)[j]! ∧ i * k+j<l.length * k:=by
  have hi:=(List.getElem?_eq_some_iff.1 hx).1
  have lt:i * k+j<l.length * k:=by
    have:=Nat.mul_le_mul_right k (show i+1≤l.length from hi); rw [Nat.add_mul,Nat.one_mul] at this; omega
  refine ⟨?_,lt⟩
  rw [get_flatK _ _ _ _ (by simpa using lt)]
  have e1:(i * k+j) / k=i:=(blk_iff k i _ (by omega)).1 ⟨by omega,by omega⟩
  have e2:(i * k+j) % k=j:=by rw [Nat.mod_eq_sub_div_mul,e1]; omega
  rw [e1,e2]
  have:l.toArray[i]! = x:=by
    rw [getElem!_pos _ i (by simpa using hi)]
    have:=(List.getElem?_eq_some_iff.1 hx).2
    simpa using this
  rw [this]
theorem holds_of {enc:α→List Value} {k:Nat} (hk : ∀ x,(enc x).length=k) {l:List α} {r:Nat} {c:Array Value} {el:TypeId} {p:Bool} (hc:w.heap[r]? = some (.cells c el (0,0))) (hr:rowsC (repO F w ν p) c k (l.map fun x=>rowV (enc x)) 0):HoldsK enc k w r 0 l.toArray:=by
  intro t ht
  rw [size_flatK] at ht
  have ht:t<l.length * k:=by simpa using ht
  have k0 : 0 < k := by rcases Nat.eq_zero_or_pos k with h | h
                        · subst h; simp at ht
                        · exact h
  have hi:t / k<l.length:=Nat.div_lt_of_lt_mul (by rw [Nat.mul_comm]; exact ht)
  have hj:t % k<k:=Nat.mod_lt _ k0
  have et:t / k * k+t % k=t:=Nat.div_add_mod' t k
  obtain ⟨x,hx⟩ : ∃ x,l[t / k]? = some x:=⟨_,List.getElem?_eq_getElem hi⟩
  have hf:=(flat_get hk l hx hj).1
  rw [et] at hf
  obtain ⟨_,q⟩:=rowsC_iff.1 hr (t / k) (rowV (enc x)) (by rw [List.getElem?_map,hx]; rfl)
  have hje:t % k<(enc x).length:=by rw [hk]; exact hj
  obtain ⟨y,y1,_,y2⟩:=q (t % k) (V.raw (enc x)[t % k]!) (by rw [rowV,List.getElem?_map,List.getElem?_eq_getElem hje]; simp [hje])
  have hy:y=(enc x)[t % k]! := by
    unfold repO at y2
    split at y2 <;> simpa [ri,rep] using y2
  rw [Nat.zero_add,et] at y1
  constructor
  · show w.cell? ⟨r,0+t,none⟩=some (flatK enc k l.toArray)[t]!
    rw [hf,← hy,Nat.zero_add]
    simp [World.cell?,hc,y1]
  · rw [Nat.zero_add]
    simp [World.frozen?,hc]
theorem sort_world {enc:α→List Value} {k:Nat} (hk : ∀ x,(enc x).length=k) (h1 : ∀ x, ∀ v∈enc x,v.oneCell' = true) {l:List α} {b r n' : Nat} {p:Bool} (hh:HeapOK ν F h w) (hget:h.get (.p b)=some (.rows k p (l.map fun x=>rowV (enc x)))) (hat:ν.at_ (.p b)=some (r,k,n')) (m:Nat) (dk:Array α) (os:Array Obj) (hs:dk.size=l.length) :
    HeapOK ν F (h.put (.p b) (.rows k p (dk.toList.map fun x=>rowV (enc x)))) (sortWorldK enc k w r 0 m dk os)∧Evo ν F w ν F (sortWorldK enc k w r 0 m dk os) ∧ ∀ q,q≠r→q<w.heap.size→(sortWorldK enc k w r 0 m dk os).heap[q]? = w.heap[q]? := by
  obtain ⟨_,g2,c,e,hc,hn,hr⟩:=hh.blkR hget hat
  obtain ⟨k1,e1⟩:=heap_same (w' := Sort.ahead w m) hh rfl rfl rfl rfl (Nat.le_add_right _ _)
  have hsz:(flatK enc k dk).size=l.length * k:=by rw [size_flatK,hs]
  have g2:l.length=n' := by simpa using g2
  have hc' : (putRowK enc k (Sort.ahead w m) r 0 dk).heap[r]? = some (.cells (putCells id 0 (flatK enc k dk) c) e (0,0)):=by
    show (w.heap.modify r (onCells (putCells id 0 (flatK enc k dk))))[r]? = _
    rw [Array.getElem?_modify,if_pos rfl,hc]; rfl
  have hoth : ∀ q,q≠r→(putRowK enc k (Sort.ahead w m) r 0 dk).heap[q]? = w.heap[q]? := fun q hq=>by
    show (w.heap.modify r (onCells (putCells id 0 (flatK enc k dk))))[q]? = _
    rw [Array.getElem?_modify,if_neg (Ne.symm hq)]
  have hrow:rowsC (repO F (Sort.ahead w m) ν p) (putCells id 0 (flatK enc k dk) c) k (dk.toList.map fun x=>rowV (enc x)) 0:=by
    refine rowsC_iff.2 fun i row hrow=>?_
    rw [List.getElem?_map,Option.map_eq_some_iff] at hrow
    obtain ⟨x,hx,rfl⟩:=hrow
    refine ⟨by rw [rowV,List.length_map,hk],fun j v hj=>?_⟩
    rw [rowV,List.getElem?_map,Option.map_eq_some_iff] at hj
    obtain ⟨y,hy,rfl⟩:=hj
    have hjk:j<k:=by rw [← hk x]; exact (List.getElem?_eq_some_iff.1 hy).1
    obtain ⟨f1,f2⟩:=flat_get hk dk.toList hx hjk
    rw [Array.toArray_toList] at f1
    rw [Array.length_toList,hs] at f2
    have hy' : (enc x)[j]! = y:=by
      rw [getElem!_pos _ j (by rw [hk]; exact hjk)]
      exact (List.getElem?_eq_some_iff.1 hy).2
    refine ⟨y,?_,h1 x y (List.mem_of_getElem? hy),?_⟩
    · rw [Nat.zero_add]
      simp only [putCells,Array.getElem?_mapIdx]
      rw [Array.getElem?_eq_getElem (show i * k+j<c.size by rw [← g2] at hn; omega)]
      simp only [Option.map_some,Nat.zero_le,true_and,Nat.zero_add,hsz,f2,if_true,Nat.sub_zero,id,f1,hy']
    · unfold repO
      split <;> simp [ri,rep]
  have hcp:(putCells id 0 (flatK enc k dk) c).size=c.size:=by simp [putCells]
  obtain ⟨k2,e2⟩:=heap_set (w' := putRowK enc k (Sort.ahead w m) r 0 dk) (es:=l.map fun x=>rowV (enc x)) (es' := dk.toList.map fun x=>rowV (enc x)) (p:=p) k1 hget rfl (by rw [List.length_map,g2]; exact hat) (by simp [hs]) hc hc' hcp hoth (by show (w.heap.modify _ _).size=_; rw [Array.size_modify]; rfl) rfl rfl rfl (by rw [List.length_map,g2]; exact hn) hrow (Nat.le_refl _)
  obtain ⟨k3,e3⟩:=heap_growA (w' := sortWorldK enc k w r 0 m dk os) k2 rfl
  refine ⟨k3,(e1.trans e2).trans e3,fun q hq hlt=>?_⟩
  show ((putRowK enc k (Sort.ahead w m) r 0 dk).heap++os)[q]? = _
  rw [Array.getElem?_append_left (by show q<(w.heap.modify _ _).size; rw [Array.size_modify]; exact hlt),hoth q hq]
end
section
variable {ν:Nu} {F:Nat→Prop} {h:Hp} {w w' : World} {α:Type} [Inhabited α]
theorem repL_raws {vs:List Value}:repL F w ν (rowV vs) vs:=by
  induction vs with
  | nil=>simp [rowV,repL]
  | cons a t ih=>simp only [rowV,List.map_cons,repL] at ih ⊢; exact ⟨a,t,rfl,by simp [rep],ih⟩
theorem perm_of {d d' : Array α} (h:PermIn 0 d.size d d'):d'.toList.Perm d.toList:=by
  obtain ⟨h1,_,h3⟩:=h
  have e1:d'.extract 0 d.size=d' := by rw [← h1]; simp
  have e2:d.extract 0 d.size=d:=by simp
  rw [e1,e2] at h3
  exact h3
theorem K_sort {P:Program} {G:Nat→Option (List V)} {ρ:Ren} (L:SlLaysF0.n6 P ρ) {k:Nat} (aE : ∀ w,(isAgg (ρ.t 24)).run P w = .ok true w) (zE : ∀ w,(Go.sizeOf (ρ.t 24)).run P w = .ok k w) {enc:α→List Value} (hk : ∀ x,(enc x).length=k) (h1 : ∀ x, ∀ v∈enc x,v.oneCell' = true) {cf:α→α→Int} (hO:SWO (ltOf cf))
    {g:FuncId} {caps:List V} {h:Hp} {b:Nat} {p:Bool} {l:List α} (hl0:l≠[]) (hlt:l.length<4611686018427387904) (hget:h.get (.p b)=some (.rows k p (l.map fun x=>rowV (enc x))))
    (eg : ∀ args w,(callFunc g args).run P w = .ok (.enter g args) w)
    (hcmp : ∀ l' : List α,l'.length=l.length → ∀ x y,K P G g ([.agg (rowV (enc x)),.agg (rowV (enc y))]++caps) (h.put (.p b) (.rows k p (l'.map fun x=>rowV (enc x)))) (fun b' => !b'.low h.nxt) fun v _=>v = .raw (.int .i64 (cf x y))) (hfs:h.fs=[]) :
    K P G (ρ.f 6) [.sl (.p b) 0 l.length,.fn (.func g) [] caps] h (fun b' => (Id.p b).beq b') fun v h' => v = .tup [] ∧ ∃ l' : List α,l'.Perm l∧(∀ (i j:Nat) (x y:α),i<j→l'[i]? = some x→l'[j]? = some y → ¬ cf y x<0)∧h' = h.put (.p b) (.rows k p (l'.map fun x=>rowV (enc x))):=by
  intro ν F w xs hh hG hl
  simp only [repL,rep] at hl
  obtain ⟨x1,_,rfl,hx1,x2,_,rfl,⟨fa,cs,rfl,has,hcs⟩,rfl⟩:=hl
  obtain ⟨⟨r,k', n'⟩,hat⟩ : ∃ x,ν.at_ (.p b)=some x:=by
    rcases hh.dom _ _ hget with h | ⟨_,s,p', h⟩
    · exact h
    · simp at h
      exact (hl0 h.2.2).elim
  obtain ⟨rfl,g2,c,e,hc,hn,hr⟩:=hh.blkR hget hat
  have g2:l.length=n' := by simpa using g2
  obtain ⟨-, cap,hcap,⟨o,ho,rfl⟩, -⟩:=hx1.2 _ _ _ hat
  have ho:o=0:=by
    rcases ho with ho | ho
    · simpa using ho
    · exact absurd rfl ho.2
  subst ho
  have has:fa = #[]:=by
    have:fa.toList=[]:=by simpa [repL] using has
    exact Array.toList_eq_nil_iff.1 this
  subst has
  have hblk:r<w.heap.size:=hh.at_lt hat
  have key:CmpLays P g cs enc k cf r 0 l.toArray.size w:=by
    intro m os dk hs x y
    have hs:dk.size=l.length:=by simpa using hs
    obtain ⟨q1,q2,_⟩:=sort_world (enc:=enc) hk h1 hh hget hat m dk os hs
    have hG' : GlobOK G F (sortWorldK enc k w r 0 m dk os):=fun g cs hg=>HeapOK.riEvo hh q2 (hG g cs hg)
    have hargs:repL F (sortWorldK enc k w r 0 m dk os) ν ([.agg (rowV (enc x)),.agg (rowV (enc y))]++caps) ([.agg (enc x).toArray,.agg (enc y).toArray]++cs.toList):=by
      simp only [List.cons_append,List.nil_append,repL,rep]
      exact ⟨_,_,rfl,⟨_,rfl,by simpa using repL_raws⟩,_,_,rfl,⟨_,rfl,by simpa using repL_raws⟩,repL_evo hh q2 _ _ hcs⟩
    have:=hcmp dk.toList (by simpa using hs) x y ν F _ _ q1 hG' hargs
    have harr:([.agg (enc x).toArray,.agg (enc y).toArray]++cs.toList:List Value).toArray = #[.agg (enc x).toArray,.agg (enc y).toArray]++cs:=by simp
    rw [harr] at this
    refine this.mono fun e' w' ⟨v,u,ν', F', h', z1,z2,z3,z4,z5,z6⟩=>?_
    subst z1; subst z2
    have hv:v = .int .i64 (cf x y):=by simpa [rep] using z4
    refine ⟨by rw [hv],world_grow z5.os z5.tape z5.output z5.drawn z5.size fun q hq=>?_⟩
    by_cases ho:ν.own q
    · obtain ⟨b', s', n'', hb'⟩:=ho
      refine (z6 b' _ hb' ?_).1
      have hlt:=ν.lt _ _ hb'
      cases b' with
      | p a =>
        have:a<h.nxt:=by have h2:a<ν.nxt:=hlt; rw [hh.nxt] at h2; exact h2
        show (!Nat.blt a h.nxt)=false
        rw [show Nat.blt a h.nxt=true from Nat.ble_eq_true_of_le this]; rfl
      | m B j =>
        have h2:j<ν.cnt B:=hlt
        rw [hh.cnt B,hfs] at h2
        exact absurd h2 (Nat.not_lt_zero _)
    · exact z5.old q hq ho
  have hH:HoldsK enc k w r 0 l.toArray:=holds_of hk hc hr
  have main:=AnyQ.slices_SortFunc L k aE zE enc hk h1 cf hO g cs r 0 cap l.toArray w eg key hH hblk (by simpa using hlt)
  refine main.mono fun e' w' ⟨he,d', n,os,hp,hs,hw⟩=>?_
  subst he; subst hw
  have hsz:d'.size=l.length:=by simpa using hp.1
  obtain ⟨q1,q2,q3⟩:=sort_world (enc:=enc) hk h1 hh hget hat n d' os hsz
  refine ⟨.tuple #[],.tup [],ν,F,_,rfl,⟨rfl,d'.toList,by simpa using perm_of hp,fun i j x y hij hx hy=>?_,rfl⟩,q1,by simp [rep,repL],q2,fun b' y hy hb' => ⟨?_,hy⟩⟩
  · have hj:j<l.length:=by rw [← hsz]; simpa using (List.getElem?_eq_some_iff.1 hy).1
    have:=hs i j (Nat.zero_le _) hij (by simpa using hj)
    have e1:d'[i]! = x:=by
      rw [getElem!_pos d' i (by omega)]
      have:=(List.getElem?_eq_some_iff.1 hx).2
      simpa using this
    have e2:d'[j]! = y:=by
      rw [getElem!_pos d' j (by omega)]
      have:=(List.getElem?_eq_some_iff.1 hy).2
      simpa using this
    rw [e1,e2] at this
    unfold ltOf at this
    exact of_decide_eq_false this
  · obtain ⟨r', s', n''⟩:=y
    refine q3 r' (fun he=>?_) (hh.at_lt hy)
    subst he
    have:=hh.inj b' _ _ _ _ _ _ hy hat
    subst this
    simp at hb'
end
end Go.Proofs.YtbionhgjgcpogaaGreatDoor.Clean
namespace Go.Proofs.YtbionhgjgcpogaaGreatDoor
open Go Go.Proofs.YtbionhgjgcpogaaGreatDoor.Clean
set_option linter.unusedVariables false
set_option maxRecDepth 100000
def rtP (c:V) (f:FuncId) (args:List V) (us:Us) (v:V) (k:V→Prop):Prop:=bif inN [82] f then sameV v c (k c) else onTup v fun vs=>onNil vs (k (.tup []))
def poP (f:FuncId) (args:List V) (h:Hp) (us:Us):Hp:=bif inN [82] f then h else h.put (.p 0) (.rows (bif inN [129] f then 3 else 5) true (us.getD 0 []))
def moP (f:FuncId):Nat:=bif inN [82,129,104] f then 3 else 0
def kpP:FuncId→Nat→Option (List Tmp):=slotsOf [(95,0,[3,5,6,7,8,26,27,28]),(95,2,[5,6,7,8,47,48,49])]
noncomputable def cfP (c:V):Cfg:={ cfgG Tryz.prog glX moP poP (rtP c) (inN []) kpP with clean:=fun g=>true }
def chAr (k:Int):List V:=[fZ,iv k,fN,iv 0,fN,iv 0]
def chBr (k s:Int):List V:=[fZ,iv k,fX,iv s,fN,iv 0]
def chCr (k j:Int):List V:=[fZ,iv k,fX,iv 1,fZ,iv j]
noncomputable def sh95a (cr:List V) (q:Kd) (by_:Cl) (L:List Cl) (K:List Kn) (i:Nat):St:=⟨mkT [(3,V.ptr (Id.p 0) 0 0),(5,V.ptr (Id.p 1) 0 0),(6,V.ptr (Id.p 2) 0 0),(7,V.ptr (Id.p 3) 0 0),(8,V.ptr (Id.p 4) 0 0),(26,V.lst 3 (cll q.1)),(27,iv ((cll q.1).length:Int)),(28,iv (i:Int))],⟨[(0,O.rows 3 false [kdr q]),(1,O.rows 3 false [clr by_]),(2,O.rows 2 false [[nilS,nilS]]),(3,O.rows 6 false [cr]),(4,O.rows 2 false [[V.sl (Id.p 5) 0 (cll q.1).length,V.sl (Id.p 6) 0 (knl q.2.1).length]]),(5,O.rows 3 true (cll L)),(6,O.rows 5 true (knl K))],7,[]⟩⟩
noncomputable def sh95b (cr:List V) (q:Kd) (by_:Cl) (L:List Cl) (K:List Kn) (i:Nat):St:=⟨mkT [(5,V.ptr (Id.p 0) 0 0),(6,V.ptr (Id.p 1) 0 0),(7,V.ptr (Id.p 2) 0 0),(8,V.ptr (Id.p 3) 0 0),(47,V.lst 5 (knl q.2.1)),(48,iv ((knl q.2.1).length:Int)),(49,iv (i:Int))],⟨[(0,O.rows 3 false [clr by_]),(1,O.rows 2 false [[nilS,nilS]]),(2,O.rows 6 false [cr]),(3,O.rows 2 false [[V.sl (Id.p 4) 0 (cll q.1).length,V.sl (Id.p 5) 0 (knl q.2.1).length]]),(4,O.rows 3 true (cll L)),(5,O.rows 5 true (knl K))],6,[]⟩⟩
noncomputable def cfS:Cfg:=cfgM Tryz.prog glX moZ tyZ (fun _=>true) (fun _ _=>none)
end Go.Proofs.YtbionhgjgcpogaaGreatDoor
namespace Go.Proofs.YtbionhgjgcpogaaGreatDoor
open Go Go.Shelf
set_option linter.unusedVariables false
set_option maxRecDepth 100000
def LSc_ren:Go.Shelf.Ren:=⟨fun | 6=>129 | 15=>133 | 14=>145 | 28=>154 | 29=>155 | 20=>166 | 21=>167 | 22=>168 | 23=>169 | 24=>170 | 25=>171 | 26=>172 | 27=>173 | 46=>182 | 47=>175 | 48=>176 | 49=>183 | 50=>184 | 57=>187 | n=>n,fun | 22=>22 | 24=>28 | 25=>158 | 3=>3 | 39=>192 | 0=>0 | 53=>210 | 55=>212 | 4=>4 | 46=>203 | 45=>202 | 50=>207 | 5=>5 | 9=>9 | 66=>224 | 70=>228 | 76=>234 | 77=>235 | n=>n,fun | n=>n⟩
theorem LSc:Go.Proofs.SlLaysF0.n6 Tryz.prog LSc_ren:={
  mixed:=by kernel_rfl
  f6:=⟨Tryz.f129.name,by decide,Tryz.func129.trans (congrArg some (by kernel_rfl))⟩
  f14:=⟨Tryz.f145.name,by decide,Tryz.func145.trans (congrArg some (by kernel_rfl))⟩
  f15:=Tryz.func133.trans (congrArg some (by kernel_rfl))
  f20:=⟨Tryz.f166.name,by decide,Tryz.func166.trans (congrArg some (by kernel_rfl))⟩
  f21:=⟨Tryz.f167.name,by decide,Tryz.func167.trans (congrArg some (by kernel_rfl))⟩
  f22:=⟨Tryz.f168.name,by decide,Tryz.func168.trans (congrArg some (by kernel_rfl))⟩
  f23:=⟨Tryz.f169.name,by decide,Tryz.func169.trans (congrArg some (by kernel_rfl))⟩
  f24:=⟨Tryz.f170.name,by decide,Tryz.func170.trans (congrArg some (by kernel_rfl))⟩
  f25:=⟨Tryz.f171.name,by decide,Tryz.func171.trans (congrArg some (by kernel_rfl))⟩
  f26:=⟨Tryz.f172.name,by decide,Tryz.func172.trans (congrArg some (by kernel_rfl))⟩
  f27:=⟨Tryz.f173.name,by decide,Tryz.func173.trans (congrArg some (by kernel_rfl))⟩
  f28:=Tryz.func154.trans (congrArg some (by kernel_rfl))
  f29:=Tryz.func155.trans (congrArg some (by kernel_rfl))
  f46:=⟨Tryz.f182.name,by decide,Tryz.func182.trans (congrArg some (by kernel_rfl))⟩
  f47:=Tryz.func175.trans (congrArg some (by kernel_rfl))
  f48:=Tryz.func176.trans (congrArg some (by kernel_rfl))
  f49:=⟨Tryz.f183.name,by decide,Tryz.func183.trans (congrArg some (by kernel_rfl))⟩
  f50:=⟨Tryz.f184.name,by decide,Tryz.func184.trans (congrArg some (by kernel_rfl))⟩
  f57:=⟨Tryz.f187.name,by decide,Tryz.func187.trans (congrArg some (by kernel_rfl))⟩
  t0:=Tryz.underlying0
  a0:=Tryz.isAgg0
  z0:=Tryz.sizeOf0
  v0:=Tryz.zeroValue0
  t3:=Tryz.underlying3
  a3:=Tryz.isAgg3
  z3:=Tryz.sizeOf3
  v3:=Tryz.zeroValue3
  t4:=Tryz.underlying4
  a4:=Tryz.isAgg4
  z4:=Tryz.sizeOf4
  v4:=Tryz.zeroValue4
  t5:=Tryz.underlying5
  a5:=Tryz.isAgg5
  z5:=Tryz.sizeOf5
  v5:=Tryz.zeroValue5
  t9:=Tryz.underlying9
  a9:=Tryz.isAgg9
  z9:=Tryz.sizeOf9
  v9:=Tryz.zeroValue9
  t22:=Tryz.underlying22
  a22:=Tryz.isAgg22
  z22:=Tryz.sizeOf22
  v22:=Tryz.zeroValue22
  t25:=Tryz.underlying158
  a25:=Tryz.isAgg158
  z25:=Tryz.sizeOf158
  v25:=Tryz.zeroValue158
  t39:=Tryz.underlying192
  a39:=Tryz.isAgg192
  z39:=Tryz.sizeOf192
  v39:=Tryz.zeroValue192
  t45:=Tryz.underlying202
  a45:=Tryz.isAgg202
  z45:=Tryz.sizeOf202
  v45:=Tryz.zeroValue202
  t46:=Tryz.underlying203
  a46:=Tryz.isAgg203
  z46:=Tryz.sizeOf203
  v46:=Tryz.zeroValue203
  t50:=Tryz.underlying207
  a50:=Tryz.isAgg207
  z50:=Tryz.sizeOf207
  v50:=Tryz.zeroValue207
  t53:=Tryz.underlying210
  a53:=Tryz.isAgg210
  z53:=Tryz.sizeOf210
  v53:=Tryz.zeroValue210
  t55:=Tryz.underlying212
  a55:=Tryz.isAgg212
  z55:=Tryz.sizeOf212
  v55:=Tryz.zeroValue212
  t66:=Tryz.underlying224
  a66:=Tryz.isAgg224
  z66:=Tryz.sizeOf224
  v66:=Tryz.zeroValue224
  t70:=Tryz.underlying228
  a70:=Tryz.isAgg228
  z70:=Tryz.sizeOf228
  v70:=Tryz.zeroValue228
  t76:=Tryz.underlying234
  a76:=Tryz.isAgg234
  z76:=Tryz.sizeOf234
  v76:=Tryz.zeroValue234
  t77:=Tryz.underlying235
  a77:=Tryz.isAgg235
  z77:=Tryz.sizeOf235
  v77:=Tryz.zeroValue235 }
end Go.Proofs.YtbionhgjgcpogaaGreatDoor
namespace Go.Proofs.YtbionhgjgcpogaaGreatDoor
open Go Go.Shelf
set_option linter.unusedVariables false
set_option maxRecDepth 100000
end Go.Proofs.YtbionhgjgcpogaaGreatDoor
namespace Go.Proofs.YtbionhgjgcpogaaGreatDoor
open Go Go.Proofs.YtbionhgjgcpogaaGreatDoor.Clean
set_option linter.unusedVariables false
set_option linter.unusedSimpArgs false
set_option maxRecDepth 10000
theorem rtP_ok (c:V) : ∀ (f:FuncId) (args:List V) (us:Us) (v:V) (k:V→Prop),rtP c f args us v k → ∃ v', k v' ∧ ∀ {F:Nat→Prop} {w:World} {ν:Nu} {x:Value},rep F w ν v x→rep F w ν v' x:=by
  intro f args us v k h
  unfold rtP at h
  cases hq:inN [82] f with
  | true=>rw [hq] at h; exact sameV_rep h
  | false =>
    rw [hq] at h
    simp only [cond_false] at h
    unfold onTup at h
    split at h
    · rename_i cs
      unfold onNil at h
      split at h
      · exact ⟨_,h,fun h=>h⟩
      · exact h.elim
    · exact h.elim
theorem hcP (c:V):(cfP c).ok Tryz.prog:=by
  have h:(cfgG Tryz.prog glX moP poP (rtP c) (inN []) kpP).ok Tryz.prog:=cfgG_ok (rtP_ok c)
  exact ⟨h.1,h.2⟩
theorem hcS:cfS.ok Tryz.prog:=cfgM_ok
theorem K_of_K0d {P:Program} {G:Nat→Option (List V)} {f:FuncId} {args:List V} {h:Hp} {R:V→Prop} (hc:closedL args=true) (hk:K0G P G f args R):K P G f args h (fun b => !b.low h.nxt) fun v h' => h' = h∧R v:=by
  intro ν F w xs hh hG hl
  refine (hk F w xs (fun r hr=>(hh.frz r hr).1) hG (repL_riL _ _ hc hl)).mono fun e' w' he=>?_
  obtain ⟨x,v,F'', rfl,hv,hr,hbl,q1,q2,q3⟩:=he
  obtain ⟨hh', he⟩:=heap_call0 hh hbl q1 q2 q3
  exact ⟨x,v,ν,_,_,rfl,⟨rfl,hv⟩,hh', ri_rep (ν:=ν) _ _ hr,he,fun b y hy _=>⟨hbl.block _ (by obtain ⟨r,s,n⟩:=y; exact hh.own_lt ⟨b,s,n,hy⟩),hy⟩⟩
theorem KM_of_K0 {P:Program} {G:Nat→Option (List V)} {f:FuncId} {args:List V} {h0:Hp} {post:Hp→Us→Hp} {Q:V→Us→Prop} (hc:closedL args=true) (hp:post h0 []=h0) (h:K0G P G f args fun v=>Q v []):KM P G f args h0 post Q:=by
  unfold KM
  intro ν F w xs g1 g2 g3
  refine (K_of_K0d (h:=h0) hc h ν F w xs g1 g2 g3).mono fun e w' ⟨x,v,ν', F', h', z1,⟨z2,z7⟩,z3,z4,z5,z6⟩=>?_
  exact ⟨x,v,ν', F', h', z1,⟨[],by rw [z2,hp],z7⟩,z3,z4,z5,fun b y hb ht=>by cases ht⟩
def encC (x:Cl):List Value:=[.int .i64 x.1,.int .i64 x.2.1,.int .i64 x.2.2]
theorem swoC:Go.Sort.SWO (Go.Proofs.ltOf cmpC) where
  irrefl x:=by unfold Go.Proofs.ltOf; exact decide_eq_false (fun h=>Bef.irr _ (cmpC_lt.1 h))
  trans x y z h1 h2:=by
    unfold Go.Proofs.ltOf at *
    exact decide_eq_true (cmpC_lt.2 (Bef.tr _ _ _ (cmpC_lt.1 (of_decide_eq_true h1)) (cmpC_lt.1 (of_decide_eq_true h2))))
  ntrans x y z h1 h2:=by
    unfold Go.Proofs.ltOf at *
    have h1 : ¬ Bef x y:=fun h=>(of_decide_eq_false h1) (cmpC_lt.2 h)
    have h2 : ¬ Bef y z:=fun h=>(of_decide_eq_false h2) (cmpC_lt.2 h)
    exact decide_eq_false (fun h=>by have h3:=cmpC_lt.1 h; unfold Bef at *; omega)
theorem BefK.ntr (x y z:Kn) (h1 : ¬ BefK x y) (h2 : ¬ BefK y z) : ¬ BefK x z:=by
  intro h
  unfold BefK at *
  rcases h with h | ⟨h,h'⟩
  · have a1 : ¬ Bef x.1 y.1:=fun q=>h1 (.inl q)
    have a2 : ¬ Bef y.1 z.1:=fun q=>h2 (.inl q)
    unfold Bef at a1 a2 h; omega
  · by_cases e:x.1=y.1
    · have e2:y.1=z.1:=e ▸ h
      have a1 : ¬ x.2.1<y.2.1:=fun q=>h1 (.inr ⟨e,q⟩)
      have a2 : ¬ y.2.1<z.2.1:=fun q=>h2 (.inr ⟨e2,q⟩)
      omega
    · have a1 : ¬ Bef x.1 y.1:=fun q=>h1 (.inl q)
      have a2 : ¬ Bef y.1 z.1:=fun q=>h2 (.inl q)
      rw [← h] at a2
      exact e (Bef.tot _ _ a1 a2)
instance (a b:Cl):Decidable (Bef a b):=by unfold Bef; infer_instance
instance (a b:Kn):Decidable (BefK a b):=by unfold BefK; infer_instance
def sortC (l:List Cl):List Cl:=l.mergeSort fun a b => !decide (Bef b a)
theorem sortC_perm (l:List Cl):(sortC l).Perm l:=List.mergeSort_perm _ _
theorem sortC_srt (l:List Cl):(sortC l).Pairwise fun a b => ¬ Bef b a:=by
  refine (List.pairwise_mergeSort (le:=fun a b => !decide (Bef b a)) (fun a b c h1 h2=>?_) (fun a b=>?_) l).imp (fun h=>by simpa using h)
  · simp only [Bool.not_eq_true', decide_eq_false_iff_not] at *
    unfold Bef at *; omega
  · by_cases h:Bef b a
    · simp [Bef.asy h]
    · simp [h]
theorem sortC_uniq {l l' : List Cl} (hp:l'.Perm l) (hs:l'.Pairwise fun a b => ¬ Bef b a):l' = sortC l :=
  List.Perm.eq_of_pairwise (le:=fun a b => ¬ Bef b a) (fun a b _ _ h1 h2=>Bef.tot a b h2 h1) hs (sortC_srt l) (hp.trans (sortC_perm l).symm)
theorem pw_of_get {α:Type} {r:α→α→Prop} {l:List α} (h : ∀ (i j:Nat) (x y:α),i<j→l[i]? = some x→l[j]? = some y→r x y):l.Pairwise r:=by
  rw [List.pairwise_iff_getElem]
  intro i j hi hj hij
  exact h i j _ _ hij (by simp [hi]) (by simp [hj])
theorem sort129 {l:List Cl} (hl:l.length<1000000) {post:Hp→Us→Hp} (hpost : ∀ us,post ⟨[(0,O.rows 3 true (cll l))],1,[]⟩ us=⟨[(0,O.rows 3 true (us.getD 0 []))],1,[]⟩) {Q:V→Us→Prop} (h:Q (.tup []) [cll (sortC l)]):KM Tryz.prog glX 129 [.sl (.p 0) 0 l.length,.fn (.func 89) [] []] ⟨[(0,O.rows 3 true (cll l))],1,[]⟩ post Q:=by
  by_cases h0:l=[]
  · subst h0
    refine KM_of_WYKp hmX hcS 3000 Tryz.func129 (fun R hR=>?_)
    refine see (p:=R (V.tup []) (Hp.mk [(0,O.rows 3 true [])] 1 [])) (by kernel_rfl) ?_
    have:=hR (.tup []) [cll (sortC [])] h
    rw [hpost,show cll (sortC [])=[] from by simp [sortC,cll]] at this
    exact this
  · unfold KM
    have key:=K_sort (P:=Tryz.prog) (G:=glX) (ρ:=LSc_ren) LSc (k:=3) Tryz.isAgg28 Tryz.sizeOf28 (enc:=encC) (fun _=>rfl) (fun x v hv=>by simp [encC] at hv; rcases hv with rfl | rfl | rfl <;> rfl) (cf:=cmpC) swoC (g:=89) (caps:=[]) (h:=⟨[(0,O.rows 3 true (cll l))],1,[]⟩) (b:=0) (p:=true) (l:=l) h0 (by omega) rfl
      (enters_of Tryz.func89 (by kernel_rfl) rfl) (fun l' _ x y=>K_of_K0c rfl (cmp89 (a:=x) (b:=y) rfl)) rfl
    intro ν F w xs g1 g2 g3
    refine (key ν F w xs g1 g2 g3).mono fun e w' ⟨x,v,ν', F', h', z1,⟨z2,l', z7,z8,z9⟩,z3,z4,z5,z6⟩=>?_
    have:l' = sortC l:=sortC_uniq z7 (pw_of_get fun i j a b hij ha hb hbef=>z8 i j a b hij ha hb (cmpC_lt.2 hbef))
    subst this
    refine ⟨x,v,ν', F', h', z1,⟨[cll (sortC l)],?_,by rw [z2]; exact h⟩,z3,z4,z5,fun b y hb ht=>by cases ht⟩
    rw [z9,hpost]
    rfl
end Go.Proofs.YtbionhgjgcpogaaGreatDoor
namespace Go.Proofs.YtbionhgjgcpogaaGreatDoor
open Go Go.Proofs.YtbionhgjgcpogaaGreatDoor.Clean
set_option linter.unusedVariables false
set_option linter.unusedSimpArgs false
set_option maxRecDepth 10000
theorem Bd.qz {b:Int} {c:Cl} (h:Bd b c):Bd b (qz c):=by
  unfold Bd Nr at *
  simp only [Go.Proofs.YtbionhgjgcpogaaGreatDoor.qz]
  omega
theorem Bd.qx {b:Int} {c:Cl} (h:Bd b c):Bd b (qx c):=by
  unfold Bd Nr at *
  simp only [Go.Proofs.YtbionhgjgcpogaaGreatDoor.qx]
  omega
theorem itr_ind {P:Cl→Prop} {f:Cl→Cl} (hf : ∀ c,P c→P (f c)) : ∀ (n:Nat) (c:Cl),P c→P (itr f n c)
  | 0,c,h=>h
  | n+1,c,h=>itr_ind hf n (f c) (hf c h)
theorem tn_ind {P:Cl→Prop} (hz : ∀ c,P c→P (qz c)) (hx : ∀ c,P c→P (qx c)) (n:Nat) {c:Cl} (h:P c):P (tn n c):=by
  unfold tn
  split
  · exact itr_ind hx _ _ (itr_ind hz _ _ h)
  · exact itr_ind hz _ _ (hx _ (itr_ind hz _ _ h))
theorem tn_bd {b:Int} {n:Nat} {c:Cl} (h:Bd b c):Bd b (tn n c):=tn_ind (P:=Bd b) (fun _ h=>h.qz) (fun _ h=>h.qx) n h
theorem add_bd {a b:Int} {c d:Cl} (h:Bd a c) (h' : Bd b d):Bd (a+b) (addC c d):=by
  unfold Bd Nr at *
  simp only [addC]
  omega
theorem Bd.mono {a b:Int} {c:Cl} (h:Bd a c) (hab:a≤b):Bd b c:=Nr.mono h (by omega) hab
theorem add97 {a b:Cl} {R:V→Prop} (ha:Bd 1000000 a) (hb:Bd 1000000 b) (h:R (.agg (clr (addC a b)))):K0G Tryz.prog glX 97 [.agg (clr a),.agg (clr b)] R:=by
  refine K0_by hmX hcR 3000 Tryz.func97 (p:=R (V.agg [iv (IntKind.i64.wrap (a.1+b.1)),iv (IntKind.i64.wrap (a.2.1+b.2.1)),iv (IntKind.i64.wrap (a.2.2+b.2.2))])) (by kernel_rfl) ?_
  unfold Bd Nr at ha hb
  rw [wr (n:=a.1+_) (by omega) (by omega),wr (n:=a.2.1+_) (by omega) (by omega),wr (n:=a.2.2+_) (by omega) (by omega)]
  exact h
def fill {α β:Type} (f:α→β) (z:β) (l:List α) (i:Nat):List β:=(l.take i).map f++List.replicate (l.length - i) z
section
variable {α β:Type} {f:α→β} {z:β} {l:List α} {i:Nat}
theorem fill_zero:fill f z l 0=List.replicate l.length z:=by simp [fill]
theorem fill_full:fill f z l l.length=l.map f:=by simp [fill]
theorem fill_get (h:i<l.length):(fill f z l i)[i]? = some z:=by
  unfold fill
  rw [List.getElem?_append_right (by simp; omega)]
  have:i - ((l.take i).map f).length=0:=by simp; omega
  rw [this,List.getElem?_replicate,if_pos (by omega)]
theorem fill_set {x:α} (hx:l[i]? = some x):(fill f z l i).set i (f x)=fill f z l (i+1):=by
  have hi:=(List.getElem?_eq_some_iff.1 hx).1
  unfold fill
  rw [List.set_append_right _ _ (by simp; omega),show l.length - i=(l.length - (i+1))+1 from by omega,List.replicate_succ,take_succ' hx]
  have:i - ((l.take i).map f).length=0:=by simp; omega
  rw [this]
  simp
end
theorem cll_set (L:List Cl) (i:Nat) (c:Cl):(cll L).set (0+i) (iv c.1::iv c.2.1::iv c.2.2::List.append [] (List.drop 3 (clr (0,0,0))))=cll (L.set i c):=by rw [Nat.zero_add]; simp [cll,List.map_set,clr]
theorem knl_set (L:List Kn) (i:Nat) (c:Kn):(knl L).set (0+i) (iv c.1.1::iv c.1.2.1::iv c.1.2.2::V.raw (.int .u8 c.2.1)::V.raw (.int .u8 c.2.2)::List.append [] (List.drop 5 (knr ((0,0,0),0,0))))=knl (L.set i c):=by rw [Nat.zero_add]; simp [knl,List.map_set,knr,u8]
def plc (q:Kd) (n:Nat) (by_:Cl):List Cl:=sortC (q.1.map fun c=>addC (tn n c) by_)
def knb (q:Kd) (n:Nat) (by_:Cl):List Kn:=q.2.1.map fun k=>(addC (tn n k.1) by_,pt n k.2.1,k.2.2)
theorem pt_rg (n:Nat) (d:Int):0≤pt n d∧pt n d≤5:=by
  have h : ∀ n,n<24 → ∀ d,d<6→0≤(ptL.getD n []).getD d 0∧(ptL.getD n []).getD d 0≤5:=by decide
  unfold pt
  by_cases hn:n<24
  · by_cases hd:d.toNat<6
    · exact h n hn _ hd
    · have hl : ∀ n,n<24→(ptL.getD n []).length=6:=by decide
      rw [List.getD_eq_getElem?_getD (l:=ptL.getD n []),List.getElem?_eq_none (by rw [hl n hn]; omega)]
      simp
  · have:ptL.getD n []=[]:=by rw [List.getD_eq_getElem?_getD,List.getElem?_eq_none (by simp [ptL]; omega)]; rfl
    rw [this]; simp
theorem u8w {n:Int} (h:0≤n) (h' : n≤255):IntKind.u8.wrap n=n:=by
  have:IntKind.u8.wrap n=n % 256:=rfl
  rw [this]; omega
def PutP (q:Kd):Prop:=(∀ c∈q.1,Nr 0 15 c)∧q.1.length≤30∧(∀ k∈q.2.1,Nr 0 15 k.1∧0≤k.2.1∧k.2.1≤5)∧q.2.1.length≤60
set_option maxHeartbeats 2000000 in
theorem put95A {q:Kd} {k t:Int} {by_:Cl} {n:Nat} {R:V→Prop} (hch:K0G Tryz.prog glX 82 [iv t] fun v=>v=(chA k)) (hcell : ∀ {c:Cl} {R:V→Prop},Bd 3000 c→R (.agg (clr (tn n c)))→K0G Tryz.prog glX 85 [(chA k),.agg (clr c)] R) (hdir : ∀ {d:Nat} {R:V→Prop},d<6→R (iv (pt n (d:Int)))→K0G Tryz.prog glX 83 [(chA k),iv (d:Int)] R)
    (hq:PutP q) (hby:Bd 2000 by_) (h:R (.agg [.lst 3 (cll (plc q n by_)),.lst 5 (knl (knb q n by_))])):K0G Tryz.prog glX 95 [.agg (kdr q),iv t,.agg (clr by_)] R:=by
  refine K0_of_WY0 hmX (hcP (chA k)) 3000 Tryz.func95 (see (p:=KM Tryz.prog glX 82 [iv t] (Hp.mk [] 0 []) (poP 82 [iv t]) fun v us=>v=V.agg [V.fn (Fn.func (124:FuncId)) [] [],iv k,V.raw Value.nilFunc,iv (0:Int),V.raw Value.nilFunc,iv (0:Int)]∧need ((knl q.2.1).length≤(knl q.2.1).length) (need (32 * (knl q.2.1).length≤140737488355328) (need ((knl q.2.1).length≤9223372036854775807) (need ((cll q.1).length≤(cll q.1).length) (need (24 * (cll q.1).length≤140737488355328) (need ((cll q.1).length≤9223372036854775807) (need ((knl q.2.1).length≤(knl q.2.1).length) (need (32 * (knl q.2.1).length≤140737488355328) (need ((knl q.2.1).length≤9223372036854775807) (La 0 [(3:Tmp),(5:Tmp),(6:Tmp),(7:Tmp),(8:Tmp),(26:Tmp),(27:Tmp),(28:Tmp)] (WY Tryz.prog (cfP (chA k)) 2993 (Env.mk (Bs.mk 0 []) 0 none 76 95 0) (cdAt [1,1,1,0,1,0,0] (bodyOf Tryz.f95))) (Qblk 0 (Qthen (WY Tryz.prog (cfP (chA k)) 2996 (Env.mk (Bs.mk 0 []) 0 none 76 95 0) (cdAt [1,1,1,1] (bodyOf Tryz.f95)) (QendX Tryz.prog Tryz.f95 fun v h=>R (frzW h v))) (QendX Tryz.prog Tryz.f95 fun v h=>R (frzW h v)))) (St.mk (mkT [(3,V.ptr (Id.p 0) 0 0),(5,V.ptr (Id.p 1) 0 0),(6,V.ptr (Id.p 2) 0 0),(7,V.ptr (Id.p 3) 0 0),(8,V.ptr (Id.p 4) 0 0),(26,V.lst 3 (cll q.1)),(27,iv (↑(cll q.1).length:Int)),(28,iv (0:Int))]) (Hp.mk [(0,O.rows 3 false [[V.lst 3 (cll q.1),V.lst 5 (knl q.2.1),iv q.2.2]]),(1,O.rows 3 false [[iv by_.1,iv by_.2.1,iv by_.2.2]]),(2,O.rows 2 false [[nilS,nilS]]),(3,O.rows 6 false [[V.fn (Fn.func (124:FuncId)) [] [],iv k,V.raw Value.nilFunc,iv (0:Int),V.raw Value.nilFunc,iv (0:Int)]]),(4,O.rows 2 false [[V.sl (Id.p 5) 0 (cll q.1).length,V.sl (Id.p 6) 0 (knl q.2.1).length]]),(5,O.rows 3 true (List.replicate (cll q.1).length [iv (0:Int),iv (0:Int),iv (0:Int)])),(6,O.rows 5 true (List.replicate (knl q.2.1).length [iv (0:Int),iv (0:Int),iv (0:Int),V.raw (Value.int IntKind.u8 (0:Int)),V.raw (Value.int IntKind.u8 (0:Int))]))] 7 [])))))))))))) (by kernel_rfl) ?_)
  obtain ⟨hc,hcl,hk,hkl⟩:=hq
  have cl:=cll_length q.1
  have kl:=knl_length q.2.1
  refine KM_of_K0 rfl rfl (hch.mono' fun v e=>⟨e,?_⟩)
  refine need_mk ⟨Nat.le_refl _,need_mk ⟨by omega,need_mk ⟨by omega,need_mk ⟨Nat.le_refl _,need_mk ⟨by omega,need_mk ⟨by omega,need_mk ⟨Nat.le_refl _,need_mk ⟨by omega,need_mk ⟨by omega,?_⟩⟩⟩⟩⟩⟩⟩⟩⟩
  have e1:List.replicate (cll q.1).length [iv (0:Int),iv (0:Int),iv (0:Int)]=cll (fill (fun c=>addC (tn n c) by_) (0,0,0) q.1 0):=by rw [cl,fill_zero]; simp [cll,clr]
  have e2:List.replicate (knl q.2.1).length [iv (0:Int),iv (0:Int),iv (0:Int),V.raw (Value.int IntKind.u8 (0:Int)),V.raw (Value.int IntKind.u8 (0:Int))]=knl (fill (fun k:Kn=>((addC (tn n k.1) by_,pt n k.2.1,k.2.2):Kn)) ((0,0,0),0,0) q.2.1 0):=by rw [kl,fill_zero]; simp [knl,knr,u8]
  rw [e1,e2]
  generalize hK:fill (fun k:Kn=>((addC (tn n k.1) by_,pt n k.2.1,k.2.2):Kn)) ((0,0,0),0,0) q.2.1 0=K
  refine La.of (σ:=Nat) (fun i=>sh95a (chAr k) q by_ (fill (fun c=>addC (tn n c) by_) (0,0,0) q.1 i) K i) (fun i=>i≤q.1.length) (fun i=>q.1.length - i) 0 (by kernel_rfl) (by omega) ?_
  intro i g1 J hJ
  generalize hL:fill (fun c=>addC (tn n c) by_) (0,0,0) q.1 i=L
  refine see (p:=ifB (decide ((↑i:Int)<(↑(cll q.1).length:Int))) (onSome (cll q.1)[i]? fun row=>onCons (List.drop 0 row) fun u r=>onIntK IntKind.i64 u fun n=>onCons r fun u r=>onIntK IntKind.i64 u fun n_1=>onCons r fun u r=>onIntK IntKind.i64 u fun n_2=>K0G Tryz.prog glX 85 [V.agg [V.fn (Fn.func (124:FuncId)) [] [],iv k,V.raw Value.nilFunc,iv (0:Int),V.raw Value.nilFunc,iv (0:Int)],V.agg [iv n,iv n_1,iv n_2]] fun v=>onAgg v fun cs=>onCons cs fun u r=>onIntK IntKind.i64 u fun n=>onCons r fun u r=>onIntK IntKind.i64 u fun n_3=>onCons r fun u r=>onIntK IntKind.i64 u fun n_4=>onNil r (K0G Tryz.prog glX 97 [V.agg [iv n,iv n_3,iv n_4],V.agg [iv by_.1,iv by_.2.1,iv by_.2.2]] fun v=>onAgg v fun cs=>onCons cs fun u r=>onIntK IntKind.i64 u fun n=>onCons r fun u r=>onIntK IntKind.i64 u fun n_5=>onCons r fun u r=>onIntK IntKind.i64 u fun n_6=>onNil r (need (i<(cll q.1).length) (onSome (cll L)[0+i]? fun row=>guardB ((0+3).ble row.length) (J (St.mk (mkT [(3,V.ptr (Id.p 0) 0 0),(5,V.ptr (Id.p 1) 0 0),(6,V.ptr (Id.p 2) 0 0),(7,V.ptr (Id.p 3) 0 0),(8,V.ptr (Id.p 4) 0 0),(26,V.lst 3 (cll q.1)),(27,iv (↑(cll q.1).length:Int)),(28,iv (IntKind.i64.wrap ((↑i:Int)+(1:Int))))]) (Hp.mk [(0,O.rows 3 false [[V.lst 3 (cll q.1),V.lst 5 (knl q.2.1),iv q.2.2]]),(1,O.rows 3 false [[iv by_.1,iv by_.2.1,iv by_.2.2]]),(2,O.rows 2 false [[nilS,nilS]]),(3,O.rows 6 false [[V.fn (Fn.func (124:FuncId)) [] [],iv k,V.raw Value.nilFunc,iv (0:Int),V.raw Value.nilFunc,iv (0:Int)]]),(4,O.rows 2 false [[V.sl (Id.p 5) 0 (cll q.1).length,V.sl (Id.p 6) 0 (knl q.2.1).length]]),(5,O.rows 3 true ((cll L).set (0+i) (iv n::iv n_5::iv n_6::(List.append []) (List.drop 3 row)))),(6,O.rows 5 true (knl K))] 7 []))))))) (KM Tryz.prog glX 129 [V.sl (Id.p 0) 0 (cll q.1).length,V.fn (Fn.func 89) [] []] (Hp.mk [(0,O.rows 3 true (cll L))] 1 []) (poP 129 [V.sl (Id.p 5) 0 (cll q.1).length,V.fn (Fn.func 89) [] []]) fun v us=>onTup v fun vs=>onNil vs (La 0 [(5:Tmp),(6:Tmp),(7:Tmp),(8:Tmp),(47:Tmp),(48:Tmp),(49:Tmp)] (WY Tryz.prog (cfP (chA k)) 2991 (Env.mk (Bs.mk 0 []) 0 none 76 95 2) (cdAt [1,1,1,1,1,0,1,0,0] (bodyOf Tryz.f95))) (Qblk 2 (Qthen (WY Tryz.prog (cfP (chA k)) 2994 (Env.mk (Bs.mk 0 []) 0 none 76 95 0) (cdAt [1,1,1,1,1,1] (bodyOf Tryz.f95)) (QendX Tryz.prog Tryz.f95 fun v h=>R (frzW h v))) (QendX Tryz.prog Tryz.f95 fun v h=>R (frzW h v)))) (St.mk (mkT [(5,V.ptr (Id.p 0) 0 0),(6,V.ptr (Id.p 1) 0 0),(7,V.ptr (Id.p 2) 0 0),(8,V.ptr (Id.p 3) 0 0),(47,V.lst 5 (knl q.2.1)),(48,iv (↑(knl q.2.1).length:Int)),(49,iv (0:Int))]) (Hp.mk [(0,O.rows 3 false [[iv by_.1,iv by_.2.1,iv by_.2.2]]),(1,O.rows 2 false [[nilS,nilS]]),(2,O.rows 6 false [[V.fn (Fn.func (124:FuncId)) [] [],iv k,V.raw Value.nilFunc,iv (0:Int),V.raw Value.nilFunc,iv (0:Int)]]),(3,O.rows 2 false [[V.sl (Id.p 4) 0 (cll q.1).length,V.sl (Id.p 5) 0 (knl q.2.1).length]]),(4,O.rows 3 true (List.getD us 0 [])),(5,O.rows 5 true (knl K))] 6 []))))) (by kernel_rfl) ?_
  refine ifB_mk (fun d=>?_) (fun d=>?_)
  · have hlt:i<q.1.length:=by have:=of_decide_eq_true d; omega
    obtain ⟨x,hx⟩:=getI hlt
    have hxb:Bd 15 x:=(hc x (mem_at hx)).mono (by omega) (by omega)
    refine cel hx (hcell (c:=x) (hxb.mono (by omega)) (onC (add97 (a:=tn n x) (b:=by_) ((tn_bd hxb).mono (by omega)) (hby.mono (by omega)) (onC (need_mk ⟨by omega,?_⟩)))))
    have hz:(cll L)[0+i]? = some (clr (0,0,0)):=by
      have:=fill_get (f:=fun c=>addC (tn n c) by_) (z:=((0,0,0):Cl)) hlt
      rw [hL] at this
      rw [Nat.zero_add]; simp [cll,this]
    refine onSome_mk hz (guardB_mk rfl ?_)
    rw [wr1i hlt (by omega),cll_set L i (addC (tn n x) by_),← hL,fill_set hx]
    exact hJ (i+1) hlt (by omega)
  · have hi:i=q.1.length:=by have:=of_decide_eq_false d; omega
    subst hi
    rw [fill_full] at hL
    have el:(cll q.1).length=L.length:=by rw [cl,← hL]; simp
    rw [el]
    refine sort129 (l:=L) (by omega) (fun us=>rfl) (onTup_tup (onNil_nil ?_))
    have hs:sortC L=plc q n by_:=by rw [← hL]; rfl
    rw [hs]
    rw [← el]
    clear hJ
    refine La.of (σ:=Nat) (fun i=>sh95b (chAr k) q by_ (plc q n by_) (fill (fun k:Kn=>((addC (tn n k.1) by_,pt n k.2.1,k.2.2):Kn)) ((0,0,0),0,0) q.2.1 i) i) (fun i=>i≤q.2.1.length) (fun i=>q.2.1.length - i) 0 (by rw [← hK]; kernel_rfl) (by omega) ?_
    intro i g1 I hI
    clear hL hs el
    generalize hL2:plc q n by_=L
    clear hK
    generalize hK2:fill (fun k:Kn=>((addC (tn n k.1) by_,pt n k.2.1,k.2.2):Kn)) ((0,0,0),0,0) q.2.1 i=K
    refine see (p:=ifB (decide ((↑i:Int)<(↑(knl q.2.1).length:Int))) (onSome (knl q.2.1)[i]? fun row=>onCons (List.drop 0 row) fun u r=>onIntK IntKind.i64 u fun n=>onCons r fun u r=>onIntK IntKind.i64 u fun n_1=>onCons r fun u r=>onIntK IntKind.i64 u fun n_2=>onCons r fun u r=>onIntK IntKind.u8 u fun n_3=>onCons r fun u r=>onIntK IntKind.u8 u fun n_4=>K0G Tryz.prog glX 85 [V.agg [V.fn (Fn.func (124:FuncId)) [] [],iv k,V.raw Value.nilFunc,iv (0:Int),V.raw Value.nilFunc,iv (0:Int)],V.agg [iv n,iv n_1,iv n_2]] fun v=>onAgg v fun cs=>onCons cs fun u r=>onIntK IntKind.i64 u fun n=>onCons r fun u r=>onIntK IntKind.i64 u fun n_5=>onCons r fun u r=>onIntK IntKind.i64 u fun n_6=>onNil r (K0G Tryz.prog glX 97 [V.agg [iv n,iv n_5,iv n_6],V.agg [iv by_.1,iv by_.2.1,iv by_.2.2]] fun v=>onAgg v fun cs=>onCons cs fun u r=>onIntK IntKind.i64 u fun n=>onCons r fun u r=>onIntK IntKind.i64 u fun n_7=>onCons r fun u r=>onIntK IntKind.i64 u fun n_8=>onNil r (K0G Tryz.prog glX 83 [V.agg [V.fn (Fn.func (124:FuncId)) [] [],iv k,V.raw Value.nilFunc,iv (0:Int),V.raw Value.nilFunc,iv (0:Int)],iv (IntKind.i64.wrap n_3)] fun v=>onIntK IntKind.i64 v fun n_9=>need (i<(knl q.2.1).length) (onSome (knl K)[0+i]? fun row=>guardB ((0+5).ble row.length) (I (St.mk (mkT [(5,V.ptr (Id.p 0) 0 0),(6,V.ptr (Id.p 1) 0 0),(7,V.ptr (Id.p 2) 0 0),(8,V.ptr (Id.p 3) 0 0),(47,V.lst 5 (knl q.2.1)),(48,iv (↑(knl q.2.1).length:Int)),(49,iv (IntKind.i64.wrap ((↑i:Int)+(1:Int))))]) (Hp.mk [(0,O.rows 3 false [[iv by_.1,iv by_.2.1,iv by_.2.2]]),(1,O.rows 2 false [[nilS,nilS]]),(2,O.rows 6 false [[V.fn (Fn.func (124:FuncId)) [] [],iv k,V.raw Value.nilFunc,iv (0:Int),V.raw Value.nilFunc,iv (0:Int)]]),(3,O.rows 2 false [[V.sl (Id.p 4) 0 (cll q.1).length,V.sl (Id.p 5) 0 (knl q.2.1).length]]),(4,O.rows 3 true (cll L)),(5,O.rows 5 true ((knl K).set (0+i) (iv n::iv n_7::iv n_8::V.raw (Value.int IntKind.u8 (IntKind.u8.wrap n_9))::V.raw (Value.int IntKind.u8 n_4)::(List.append []) (List.drop 5 row))))] 6 []))))))) (R (V.agg [V.lst 3 (sub (cll L) 0 (cll q.1).length),V.lst 5 (sub (knl K) 0 (knl q.2.1).length)]))) (by kernel_rfl) ?_
    refine ifB_mk (fun d=>?_) (fun d=>?_)
    · have hlt:i<q.2.1.length:=by have:=of_decide_eq_true d; omega
      obtain ⟨x,hx⟩:=getI hlt
      obtain ⟨x1,x2,x3⟩:=hk x (mem_at hx)
      have hxb:Bd 15 x.1:=x1.mono (by omega) (by omega)
      obtain ⟨p1,p2⟩:=pt_rg n x.2.1
      refine kel hx (hcell (c:=x.1) (hxb.mono (by omega)) (onC (add97 (a:=tn n x.1) (b:=by_) ((tn_bd hxb).mono (by omega)) (hby.mono (by omega)) (onC ?_))))
      rw [wr (n:=x.2.1) (by omega) (by omega)]
      obtain ⟨m,hm⟩ : ∃ m:Nat,x.2.1=(m:Int):=⟨x.2.1.toNat,by omega⟩
      rw [hm]
      rw [hm] at p1 p2
      refine hdir (d:=m) (by omega) (onIntK_iv (need_mk ⟨by omega,?_⟩))
      have hz:(knl K)[0+i]? = some (knr ((0,0,0),0,0)):=by
        have:=fill_get (f:=fun k:Kn=>((addC (tn n k.1) by_,pt n k.2.1,k.2.2):Kn)) (z:=(((0,0,0),0,0):Kn)) hlt
        rw [hK2] at this
        rw [Nat.zero_add]; simp [knl,this]
      refine onSome_mk hz (guardB_mk rfl ?_)
      rw [wr1i hlt (by omega),u8w p1 (by omega)]
      have fs:(fill (fun k:Kn=>((addC (tn n k.1) by_,pt n k.2.1,k.2.2):Kn)) ((0,0,0),0,0) q.2.1 i).set i ((addC (tn n x.1) by_,pt n x.2.1,x.2.2):Kn)=fill (fun k:Kn=>((addC (tn n k.1) by_,pt n k.2.1,k.2.2):Kn)) ((0,0,0),0,0) q.2.1 (i+1):=fill_set hx
      rw [hK2] at fs
      have es:(knl K).set (0+i) (iv (addC (tn n x.1) by_).1::iv (addC (tn n x.1) by_).2.1::iv (addC (tn n x.1) by_).2.2::V.raw (.int .u8 (pt n (m:Int)))::V.raw (.int .u8 x.2.2)::List.append [] (List.drop 5 (knr ((0,0,0),0,0))))=knl (fill (fun k:Kn=>((addC (tn n k.1) by_,pt n k.2.1,k.2.2):Kn)) ((0,0,0),0,0) q.2.1 (i+1)):=by
        rw [← fs,← hm]
        exact knl_set K i ((addC (tn n x.1) by_,pt n x.2.1,x.2.2):Kn)
      rw [es,← hL2]
      exact hI (i+1) hlt (by omega)
    · have hi:i=q.2.1.length:=by have:=of_decide_eq_false d; omega
      subst hi
      rw [fill_full] at hK2
      have s1:sub (cll L) 0 (cll q.1).length=cll (plc q n by_):=by
        rw [← hL2,sub,List.drop_zero,List.take_of_length_le]
        rw [cll_length,cl,plc,(sortC_perm _).length_eq]; simp
      have s2:sub (knl K) 0 (knl q.2.1).length=knl (knb q n by_):=by
        rw [sub,List.drop_zero,List.take_of_length_le (by rw [knl_length,kl,← hK2]; simp),← hK2]; rfl
      rw [s1,s2]
      exact h
set_option maxHeartbeats 2000000 in
theorem put95B {q:Kd} {k s t:Int} {by_:Cl} {n:Nat} {R:V→Prop} (hch:K0G Tryz.prog glX 82 [iv t] fun v=>v=(chB k s)) (hcell : ∀ {c:Cl} {R:V→Prop},Bd 3000 c→R (.agg (clr (tn n c)))→K0G Tryz.prog glX 85 [(chB k s),.agg (clr c)] R) (hdir : ∀ {d:Nat} {R:V→Prop},d<6→R (iv (pt n (d:Int)))→K0G Tryz.prog glX 83 [(chB k s),iv (d:Int)] R)
    (hq:PutP q) (hby:Bd 2000 by_) (h:R (.agg [.lst 3 (cll (plc q n by_)),.lst 5 (knl (knb q n by_))])):K0G Tryz.prog glX 95 [.agg (kdr q),iv t,.agg (clr by_)] R:=by
  refine K0_of_WY0 hmX (hcP (chB k s)) 3000 Tryz.func95 (see (p:=KM Tryz.prog glX 82 [iv t] (Hp.mk [] 0 []) (poP 82 [iv t]) fun v us=>v=V.agg [V.fn (Fn.func (124:FuncId)) [] [],iv k,V.fn (Fn.func (123:FuncId)) [] [],iv s,V.raw Value.nilFunc,iv (0:Int)]∧need ((knl q.2.1).length≤(knl q.2.1).length) (need (32 * (knl q.2.1).length≤140737488355328) (need ((knl q.2.1).length≤9223372036854775807) (need ((cll q.1).length≤(cll q.1).length) (need (24 * (cll q.1).length≤140737488355328) (need ((cll q.1).length≤9223372036854775807) (need ((knl q.2.1).length≤(knl q.2.1).length) (need (32 * (knl q.2.1).length≤140737488355328) (need ((knl q.2.1).length≤9223372036854775807) (La 0 [(3:Tmp),(5:Tmp),(6:Tmp),(7:Tmp),(8:Tmp),(26:Tmp),(27:Tmp),(28:Tmp)] (WY Tryz.prog (cfP (chB k s)) 2993 (Env.mk (Bs.mk 0 []) 0 none 76 95 0) (cdAt [1,1,1,0,1,0,0] (bodyOf Tryz.f95))) (Qblk 0 (Qthen (WY Tryz.prog (cfP (chB k s)) 2996 (Env.mk (Bs.mk 0 []) 0 none 76 95 0) (cdAt [1,1,1,1] (bodyOf Tryz.f95)) (QendX Tryz.prog Tryz.f95 fun v h=>R (frzW h v))) (QendX Tryz.prog Tryz.f95 fun v h=>R (frzW h v)))) (St.mk (mkT [(3,V.ptr (Id.p 0) 0 0),(5,V.ptr (Id.p 1) 0 0),(6,V.ptr (Id.p 2) 0 0),(7,V.ptr (Id.p 3) 0 0),(8,V.ptr (Id.p 4) 0 0),(26,V.lst 3 (cll q.1)),(27,iv (↑(cll q.1).length:Int)),(28,iv (0:Int))]) (Hp.mk [(0,O.rows 3 false [[V.lst 3 (cll q.1),V.lst 5 (knl q.2.1),iv q.2.2]]),(1,O.rows 3 false [[iv by_.1,iv by_.2.1,iv by_.2.2]]),(2,O.rows 2 false [[nilS,nilS]]),(3,O.rows 6 false [[V.fn (Fn.func (124:FuncId)) [] [],iv k,V.fn (Fn.func (123:FuncId)) [] [],iv s,V.raw Value.nilFunc,iv (0:Int)]]),(4,O.rows 2 false [[V.sl (Id.p 5) 0 (cll q.1).length,V.sl (Id.p 6) 0 (knl q.2.1).length]]),(5,O.rows 3 true (List.replicate (cll q.1).length [iv (0:Int),iv (0:Int),iv (0:Int)])),(6,O.rows 5 true (List.replicate (knl q.2.1).length [iv (0:Int),iv (0:Int),iv (0:Int),V.raw (Value.int IntKind.u8 (0:Int)),V.raw (Value.int IntKind.u8 (0:Int))]))] 7 [])))))))))))) (by kernel_rfl) ?_)
  obtain ⟨hc,hcl,hk,hkl⟩:=hq
  have cl:=cll_length q.1
  have kl:=knl_length q.2.1
  refine KM_of_K0 rfl rfl (hch.mono' fun v e=>⟨e,?_⟩)
  refine need_mk ⟨Nat.le_refl _,need_mk ⟨by omega,need_mk ⟨by omega,need_mk ⟨Nat.le_refl _,need_mk ⟨by omega,need_mk ⟨by omega,need_mk ⟨Nat.le_refl _,need_mk ⟨by omega,need_mk ⟨by omega,?_⟩⟩⟩⟩⟩⟩⟩⟩⟩
  have e1:List.replicate (cll q.1).length [iv (0:Int),iv (0:Int),iv (0:Int)]=cll (fill (fun c=>addC (tn n c) by_) (0,0,0) q.1 0):=by rw [cl,fill_zero]; simp [cll,clr]
  have e2:List.replicate (knl q.2.1).length [iv (0:Int),iv (0:Int),iv (0:Int),V.raw (Value.int IntKind.u8 (0:Int)),V.raw (Value.int IntKind.u8 (0:Int))]=knl (fill (fun k:Kn=>((addC (tn n k.1) by_,pt n k.2.1,k.2.2):Kn)) ((0,0,0),0,0) q.2.1 0):=by rw [kl,fill_zero]; simp [knl,knr,u8]
  rw [e1,e2]
  generalize hK:fill (fun k:Kn=>((addC (tn n k.1) by_,pt n k.2.1,k.2.2):Kn)) ((0,0,0),0,0) q.2.1 0=K
  refine La.of (σ:=Nat) (fun i=>sh95a (chBr k s) q by_ (fill (fun c=>addC (tn n c) by_) (0,0,0) q.1 i) K i) (fun i=>i≤q.1.length) (fun i=>q.1.length - i) 0 (by kernel_rfl) (by omega) ?_
  intro i g1 J hJ
  generalize hL:fill (fun c=>addC (tn n c) by_) (0,0,0) q.1 i=L
  refine see (p:=ifB (decide ((↑i:Int)<(↑(cll q.1).length:Int))) (onSome (cll q.1)[i]? fun row=>onCons (List.drop 0 row) fun u r=>onIntK IntKind.i64 u fun n=>onCons r fun u r=>onIntK IntKind.i64 u fun n_1=>onCons r fun u r=>onIntK IntKind.i64 u fun n_2=>K0G Tryz.prog glX 85 [V.agg [V.fn (Fn.func (124:FuncId)) [] [],iv k,V.fn (Fn.func (123:FuncId)) [] [],iv s,V.raw Value.nilFunc,iv (0:Int)],V.agg [iv n,iv n_1,iv n_2]] fun v=>onAgg v fun cs=>onCons cs fun u r=>onIntK IntKind.i64 u fun n=>onCons r fun u r=>onIntK IntKind.i64 u fun n_3=>onCons r fun u r=>onIntK IntKind.i64 u fun n_4=>onNil r (K0G Tryz.prog glX 97 [V.agg [iv n,iv n_3,iv n_4],V.agg [iv by_.1,iv by_.2.1,iv by_.2.2]] fun v=>onAgg v fun cs=>onCons cs fun u r=>onIntK IntKind.i64 u fun n=>onCons r fun u r=>onIntK IntKind.i64 u fun n_5=>onCons r fun u r=>onIntK IntKind.i64 u fun n_6=>onNil r (need (i<(cll q.1).length) (onSome (cll L)[0+i]? fun row=>guardB ((0+3).ble row.length) (J (St.mk (mkT [(3,V.ptr (Id.p 0) 0 0),(5,V.ptr (Id.p 1) 0 0),(6,V.ptr (Id.p 2) 0 0),(7,V.ptr (Id.p 3) 0 0),(8,V.ptr (Id.p 4) 0 0),(26,V.lst 3 (cll q.1)),(27,iv (↑(cll q.1).length:Int)),(28,iv (IntKind.i64.wrap ((↑i:Int)+(1:Int))))]) (Hp.mk [(0,O.rows 3 false [[V.lst 3 (cll q.1),V.lst 5 (knl q.2.1),iv q.2.2]]),(1,O.rows 3 false [[iv by_.1,iv by_.2.1,iv by_.2.2]]),(2,O.rows 2 false [[nilS,nilS]]),(3,O.rows 6 false [[V.fn (Fn.func (124:FuncId)) [] [],iv k,V.fn (Fn.func (123:FuncId)) [] [],iv s,V.raw Value.nilFunc,iv (0:Int)]]),(4,O.rows 2 false [[V.sl (Id.p 5) 0 (cll q.1).length,V.sl (Id.p 6) 0 (knl q.2.1).length]]),(5,O.rows 3 true ((cll L).set (0+i) (iv n::iv n_5::iv n_6::(List.append []) (List.drop 3 row)))),(6,O.rows 5 true (knl K))] 7 []))))))) (KM Tryz.prog glX 129 [V.sl (Id.p 0) 0 (cll q.1).length,V.fn (Fn.func 89) [] []] (Hp.mk [(0,O.rows 3 true (cll L))] 1 []) (poP 129 [V.sl (Id.p 5) 0 (cll q.1).length,V.fn (Fn.func 89) [] []]) fun v us=>onTup v fun vs=>onNil vs (La 0 [(5:Tmp),(6:Tmp),(7:Tmp),(8:Tmp),(47:Tmp),(48:Tmp),(49:Tmp)] (WY Tryz.prog (cfP (chB k s)) 2991 (Env.mk (Bs.mk 0 []) 0 none 76 95 2) (cdAt [1,1,1,1,1,0,1,0,0] (bodyOf Tryz.f95))) (Qblk 2 (Qthen (WY Tryz.prog (cfP (chB k s)) 2994 (Env.mk (Bs.mk 0 []) 0 none 76 95 0) (cdAt [1,1,1,1,1,1] (bodyOf Tryz.f95)) (QendX Tryz.prog Tryz.f95 fun v h=>R (frzW h v))) (QendX Tryz.prog Tryz.f95 fun v h=>R (frzW h v)))) (St.mk (mkT [(5,V.ptr (Id.p 0) 0 0),(6,V.ptr (Id.p 1) 0 0),(7,V.ptr (Id.p 2) 0 0),(8,V.ptr (Id.p 3) 0 0),(47,V.lst 5 (knl q.2.1)),(48,iv (↑(knl q.2.1).length:Int)),(49,iv (0:Int))]) (Hp.mk [(0,O.rows 3 false [[iv by_.1,iv by_.2.1,iv by_.2.2]]),(1,O.rows 2 false [[nilS,nilS]]),(2,O.rows 6 false [[V.fn (Fn.func (124:FuncId)) [] [],iv k,V.fn (Fn.func (123:FuncId)) [] [],iv s,V.raw Value.nilFunc,iv (0:Int)]]),(3,O.rows 2 false [[V.sl (Id.p 4) 0 (cll q.1).length,V.sl (Id.p 5) 0 (knl q.2.1).length]]),(4,O.rows 3 true (List.getD us 0 [])),(5,O.rows 5 true (knl K))] 6 []))))) (by kernel_rfl) ?_
  refine ifB_mk (fun d=>?_) (fun d=>?_)
  · have hlt:i<q.1.length:=by have:=of_decide_eq_true d; omega
    obtain ⟨x,hx⟩:=getI hlt
    have hxb:Bd 15 x:=(hc x (mem_at hx)).mono (by omega) (by omega)
    refine cel hx (hcell (c:=x) (hxb.mono (by omega)) (onC (add97 (a:=tn n x) (b:=by_) ((tn_bd hxb).mono (by omega)) (hby.mono (by omega)) (onC (need_mk ⟨by omega,?_⟩)))))
    have hz:(cll L)[0+i]? = some (clr (0,0,0)):=by
      have:=fill_get (f:=fun c=>addC (tn n c) by_) (z:=((0,0,0):Cl)) hlt
      rw [hL] at this
      rw [Nat.zero_add]; simp [cll,this]
    refine onSome_mk hz (guardB_mk rfl ?_)
    rw [wr1i hlt (by omega),cll_set L i (addC (tn n x) by_),← hL,fill_set hx]
    exact hJ (i+1) hlt (by omega)
  · have hi:i=q.1.length:=by have:=of_decide_eq_false d; omega
    subst hi
    rw [fill_full] at hL
    have el:(cll q.1).length=L.length:=by rw [cl,← hL]; simp
    rw [el]
    refine sort129 (l:=L) (by omega) (fun us=>rfl) (onTup_tup (onNil_nil ?_))
    have hs:sortC L=plc q n by_:=by rw [← hL]; rfl
    rw [hs]
    rw [← el]
    clear hJ
    refine La.of (σ:=Nat) (fun i=>sh95b (chBr k s) q by_ (plc q n by_) (fill (fun k:Kn=>((addC (tn n k.1) by_,pt n k.2.1,k.2.2):Kn)) ((0,0,0),0,0) q.2.1 i) i) (fun i=>i≤q.2.1.length) (fun i=>q.2.1.length - i) 0 (by rw [← hK]; kernel_rfl) (by omega) ?_
    intro i g1 I hI
    clear hL hs el
    generalize hL2:plc q n by_=L
    clear hK
    generalize hK2:fill (fun k:Kn=>((addC (tn n k.1) by_,pt n k.2.1,k.2.2):Kn)) ((0,0,0),0,0) q.2.1 i=K
    refine see (p:=ifB (decide ((↑i:Int)<(↑(knl q.2.1).length:Int))) (onSome (knl q.2.1)[i]? fun row=>onCons (List.drop 0 row) fun u r=>onIntK IntKind.i64 u fun n=>onCons r fun u r=>onIntK IntKind.i64 u fun n_1=>onCons r fun u r=>onIntK IntKind.i64 u fun n_2=>onCons r fun u r=>onIntK IntKind.u8 u fun n_3=>onCons r fun u r=>onIntK IntKind.u8 u fun n_4=>K0G Tryz.prog glX 85 [V.agg [V.fn (Fn.func (124:FuncId)) [] [],iv k,V.fn (Fn.func (123:FuncId)) [] [],iv s,V.raw Value.nilFunc,iv (0:Int)],V.agg [iv n,iv n_1,iv n_2]] fun v=>onAgg v fun cs=>onCons cs fun u r=>onIntK IntKind.i64 u fun n=>onCons r fun u r=>onIntK IntKind.i64 u fun n_5=>onCons r fun u r=>onIntK IntKind.i64 u fun n_6=>onNil r (K0G Tryz.prog glX 97 [V.agg [iv n,iv n_5,iv n_6],V.agg [iv by_.1,iv by_.2.1,iv by_.2.2]] fun v=>onAgg v fun cs=>onCons cs fun u r=>onIntK IntKind.i64 u fun n=>onCons r fun u r=>onIntK IntKind.i64 u fun n_7=>onCons r fun u r=>onIntK IntKind.i64 u fun n_8=>onNil r (K0G Tryz.prog glX 83 [V.agg [V.fn (Fn.func (124:FuncId)) [] [],iv k,V.fn (Fn.func (123:FuncId)) [] [],iv s,V.raw Value.nilFunc,iv (0:Int)],iv (IntKind.i64.wrap n_3)] fun v=>onIntK IntKind.i64 v fun n_9=>need (i<(knl q.2.1).length) (onSome (knl K)[0+i]? fun row=>guardB ((0+5).ble row.length) (I (St.mk (mkT [(5,V.ptr (Id.p 0) 0 0),(6,V.ptr (Id.p 1) 0 0),(7,V.ptr (Id.p 2) 0 0),(8,V.ptr (Id.p 3) 0 0),(47,V.lst 5 (knl q.2.1)),(48,iv (↑(knl q.2.1).length:Int)),(49,iv (IntKind.i64.wrap ((↑i:Int)+(1:Int))))]) (Hp.mk [(0,O.rows 3 false [[iv by_.1,iv by_.2.1,iv by_.2.2]]),(1,O.rows 2 false [[nilS,nilS]]),(2,O.rows 6 false [[V.fn (Fn.func (124:FuncId)) [] [],iv k,V.fn (Fn.func (123:FuncId)) [] [],iv s,V.raw Value.nilFunc,iv (0:Int)]]),(3,O.rows 2 false [[V.sl (Id.p 4) 0 (cll q.1).length,V.sl (Id.p 5) 0 (knl q.2.1).length]]),(4,O.rows 3 true (cll L)),(5,O.rows 5 true ((knl K).set (0+i) (iv n::iv n_7::iv n_8::V.raw (Value.int IntKind.u8 (IntKind.u8.wrap n_9))::V.raw (Value.int IntKind.u8 n_4)::(List.append []) (List.drop 5 row))))] 6 []))))))) (R (V.agg [V.lst 3 (sub (cll L) 0 (cll q.1).length),V.lst 5 (sub (knl K) 0 (knl q.2.1).length)]))) (by kernel_rfl) ?_
    refine ifB_mk (fun d=>?_) (fun d=>?_)
    · have hlt:i<q.2.1.length:=by have:=of_decide_eq_true d; omega
      obtain ⟨x,hx⟩:=getI hlt
      obtain ⟨x1,x2,x3⟩:=hk x (mem_at hx)
      have hxb:Bd 15 x.1:=x1.mono (by omega) (by omega)
      obtain ⟨p1,p2⟩:=pt_rg n x.2.1
      refine kel hx (hcell (c:=x.1) (hxb.mono (by omega)) (onC (add97 (a:=tn n x.1) (b:=by_) ((tn_bd hxb).mono (by omega)) (hby.mono (by omega)) (onC ?_))))
      rw [wr (n:=x.2.1) (by omega) (by omega)]
      obtain ⟨m,hm⟩ : ∃ m:Nat,x.2.1=(m:Int):=⟨x.2.1.toNat,by omega⟩
      rw [hm]
      rw [hm] at p1 p2
      refine hdir (d:=m) (by omega) (onIntK_iv (need_mk ⟨by omega,?_⟩))
      have hz:(knl K)[0+i]? = some (knr ((0,0,0),0,0)):=by
        have:=fill_get (f:=fun k:Kn=>((addC (tn n k.1) by_,pt n k.2.1,k.2.2):Kn)) (z:=(((0,0,0),0,0):Kn)) hlt
        rw [hK2] at this
        rw [Nat.zero_add]; simp [knl,this]
      refine onSome_mk hz (guardB_mk rfl ?_)
      rw [wr1i hlt (by omega),u8w p1 (by omega)]
      have fs:(fill (fun k:Kn=>((addC (tn n k.1) by_,pt n k.2.1,k.2.2):Kn)) ((0,0,0),0,0) q.2.1 i).set i ((addC (tn n x.1) by_,pt n x.2.1,x.2.2):Kn)=fill (fun k:Kn=>((addC (tn n k.1) by_,pt n k.2.1,k.2.2):Kn)) ((0,0,0),0,0) q.2.1 (i+1):=fill_set hx
      rw [hK2] at fs
      have es:(knl K).set (0+i) (iv (addC (tn n x.1) by_).1::iv (addC (tn n x.1) by_).2.1::iv (addC (tn n x.1) by_).2.2::V.raw (.int .u8 (pt n (m:Int)))::V.raw (.int .u8 x.2.2)::List.append [] (List.drop 5 (knr ((0,0,0),0,0))))=knl (fill (fun k:Kn=>((addC (tn n k.1) by_,pt n k.2.1,k.2.2):Kn)) ((0,0,0),0,0) q.2.1 (i+1)):=by
        rw [← fs,← hm]
        exact knl_set K i ((addC (tn n x.1) by_,pt n x.2.1,x.2.2):Kn)
      rw [es,← hL2]
      exact hI (i+1) hlt (by omega)
    · have hi:i=q.2.1.length:=by have:=of_decide_eq_false d; omega
      subst hi
      rw [fill_full] at hK2
      have s1:sub (cll L) 0 (cll q.1).length=cll (plc q n by_):=by
        rw [← hL2,sub,List.drop_zero,List.take_of_length_le]
        rw [cll_length,cl,plc,(sortC_perm _).length_eq]; simp
      have s2:sub (knl K) 0 (knl q.2.1).length=knl (knb q n by_):=by
        rw [sub,List.drop_zero,List.take_of_length_le (by rw [knl_length,kl,← hK2]; simp),← hK2]; rfl
      rw [s1,s2]
      exact h
set_option maxHeartbeats 2000000 in
theorem put95C {q:Kd} {k j t:Int} {by_:Cl} {n:Nat} {R:V→Prop} (hch:K0G Tryz.prog glX 82 [iv t] fun v=>v=(chC k j)) (hcell : ∀ {c:Cl} {R:V→Prop},Bd 3000 c→R (.agg (clr (tn n c)))→K0G Tryz.prog glX 85 [(chC k j),.agg (clr c)] R) (hdir : ∀ {d:Nat} {R:V→Prop},d<6→R (iv (pt n (d:Int)))→K0G Tryz.prog glX 83 [(chC k j),iv (d:Int)] R)
    (hq:PutP q) (hby:Bd 2000 by_) (h:R (.agg [.lst 3 (cll (plc q n by_)),.lst 5 (knl (knb q n by_))])):K0G Tryz.prog glX 95 [.agg (kdr q),iv t,.agg (clr by_)] R:=by
  refine K0_of_WY0 hmX (hcP (chC k j)) 3000 Tryz.func95 (see (p:=KM Tryz.prog glX 82 [iv t] (Hp.mk [] 0 []) (poP 82 [iv t]) fun v us=>v=V.agg [V.fn (Fn.func (124:FuncId)) [] [],iv k,V.fn (Fn.func (123:FuncId)) [] [],iv (1:Int),V.fn (Fn.func (124:FuncId)) [] [],iv j]∧need ((knl q.2.1).length≤(knl q.2.1).length) (need (32 * (knl q.2.1).length≤140737488355328) (need ((knl q.2.1).length≤9223372036854775807) (need ((cll q.1).length≤(cll q.1).length) (need (24 * (cll q.1).length≤140737488355328) (need ((cll q.1).length≤9223372036854775807) (need ((knl q.2.1).length≤(knl q.2.1).length) (need (32 * (knl q.2.1).length≤140737488355328) (need ((knl q.2.1).length≤9223372036854775807) (La 0 [(3:Tmp),(5:Tmp),(6:Tmp),(7:Tmp),(8:Tmp),(26:Tmp),(27:Tmp),(28:Tmp)] (WY Tryz.prog (cfP (chC k j)) 2993 (Env.mk (Bs.mk 0 []) 0 none 76 95 0) (cdAt [1,1,1,0,1,0,0] (bodyOf Tryz.f95))) (Qblk 0 (Qthen (WY Tryz.prog (cfP (chC k j)) 2996 (Env.mk (Bs.mk 0 []) 0 none 76 95 0) (cdAt [1,1,1,1] (bodyOf Tryz.f95)) (QendX Tryz.prog Tryz.f95 fun v h=>R (frzW h v))) (QendX Tryz.prog Tryz.f95 fun v h=>R (frzW h v)))) (St.mk (mkT [(3,V.ptr (Id.p 0) 0 0),(5,V.ptr (Id.p 1) 0 0),(6,V.ptr (Id.p 2) 0 0),(7,V.ptr (Id.p 3) 0 0),(8,V.ptr (Id.p 4) 0 0),(26,V.lst 3 (cll q.1)),(27,iv (↑(cll q.1).length:Int)),(28,iv (0:Int))]) (Hp.mk [(0,O.rows 3 false [[V.lst 3 (cll q.1),V.lst 5 (knl q.2.1),iv q.2.2]]),(1,O.rows 3 false [[iv by_.1,iv by_.2.1,iv by_.2.2]]),(2,O.rows 2 false [[nilS,nilS]]),(3,O.rows 6 false [[V.fn (Fn.func (124:FuncId)) [] [],iv k,V.fn (Fn.func (123:FuncId)) [] [],iv (1:Int),V.fn (Fn.func (124:FuncId)) [] [],iv j]]),(4,O.rows 2 false [[V.sl (Id.p 5) 0 (cll q.1).length,V.sl (Id.p 6) 0 (knl q.2.1).length]]),(5,O.rows 3 true (List.replicate (cll q.1).length [iv (0:Int),iv (0:Int),iv (0:Int)])),(6,O.rows 5 true (List.replicate (knl q.2.1).length [iv (0:Int),iv (0:Int),iv (0:Int),V.raw (Value.int IntKind.u8 (0:Int)),V.raw (Value.int IntKind.u8 (0:Int))]))] 7 [])))))))))))) (by kernel_rfl) ?_)
  obtain ⟨hc,hcl,hk,hkl⟩:=hq
  have cl:=cll_length q.1
  have kl:=knl_length q.2.1
  refine KM_of_K0 rfl rfl (hch.mono' fun v e=>⟨e,?_⟩)
  refine need_mk ⟨Nat.le_refl _,need_mk ⟨by omega,need_mk ⟨by omega,need_mk ⟨Nat.le_refl _,need_mk ⟨by omega,need_mk ⟨by omega,need_mk ⟨Nat.le_refl _,need_mk ⟨by omega,need_mk ⟨by omega,?_⟩⟩⟩⟩⟩⟩⟩⟩⟩
  have e1:List.replicate (cll q.1).length [iv (0:Int),iv (0:Int),iv (0:Int)]=cll (fill (fun c=>addC (tn n c) by_) (0,0,0) q.1 0):=by rw [cl,fill_zero]; simp [cll,clr]
  have e2:List.replicate (knl q.2.1).length [iv (0:Int),iv (0:Int),iv (0:Int),V.raw (Value.int IntKind.u8 (0:Int)),V.raw (Value.int IntKind.u8 (0:Int))]=knl (fill (fun k:Kn=>((addC (tn n k.1) by_,pt n k.2.1,k.2.2):Kn)) ((0,0,0),0,0) q.2.1 0):=by rw [kl,fill_zero]; simp [knl,knr,u8]
  rw [e1,e2]
  generalize hK:fill (fun k:Kn=>((addC (tn n k.1) by_,pt n k.2.1,k.2.2):Kn)) ((0,0,0),0,0) q.2.1 0=K
  refine La.of (σ:=Nat) (fun i=>sh95a (chCr k j) q by_ (fill (fun c=>addC (tn n c) by_) (0,0,0) q.1 i) K i) (fun i=>i≤q.1.length) (fun i=>q.1.length - i) 0 (by kernel_rfl) (by omega) ?_
  intro i g1 J hJ
  generalize hL:fill (fun c=>addC (tn n c) by_) (0,0,0) q.1 i=L
  refine see (p:=ifB (decide ((↑i:Int)<(↑(cll q.1).length:Int))) (onSome (cll q.1)[i]? fun row=>onCons (List.drop 0 row) fun u r=>onIntK IntKind.i64 u fun n=>onCons r fun u r=>onIntK IntKind.i64 u fun n_1=>onCons r fun u r=>onIntK IntKind.i64 u fun n_2=>K0G Tryz.prog glX 85 [V.agg [V.fn (Fn.func (124:FuncId)) [] [],iv k,V.fn (Fn.func (123:FuncId)) [] [],iv (1:Int),V.fn (Fn.func (124:FuncId)) [] [],iv j],V.agg [iv n,iv n_1,iv n_2]] fun v=>onAgg v fun cs=>onCons cs fun u r=>onIntK IntKind.i64 u fun n=>onCons r fun u r=>onIntK IntKind.i64 u fun n_3=>onCons r fun u r=>onIntK IntKind.i64 u fun n_4=>onNil r (K0G Tryz.prog glX 97 [V.agg [iv n,iv n_3,iv n_4],V.agg [iv by_.1,iv by_.2.1,iv by_.2.2]] fun v=>onAgg v fun cs=>onCons cs fun u r=>onIntK IntKind.i64 u fun n=>onCons r fun u r=>onIntK IntKind.i64 u fun n_5=>onCons r fun u r=>onIntK IntKind.i64 u fun n_6=>onNil r (need (i<(cll q.1).length) (onSome (cll L)[0+i]? fun row=>guardB ((0+3).ble row.length) (J (St.mk (mkT [(3,V.ptr (Id.p 0) 0 0),(5,V.ptr (Id.p 1) 0 0),(6,V.ptr (Id.p 2) 0 0),(7,V.ptr (Id.p 3) 0 0),(8,V.ptr (Id.p 4) 0 0),(26,V.lst 3 (cll q.1)),(27,iv (↑(cll q.1).length:Int)),(28,iv (IntKind.i64.wrap ((↑i:Int)+(1:Int))))]) (Hp.mk [(0,O.rows 3 false [[V.lst 3 (cll q.1),V.lst 5 (knl q.2.1),iv q.2.2]]),(1,O.rows 3 false [[iv by_.1,iv by_.2.1,iv by_.2.2]]),(2,O.rows 2 false [[nilS,nilS]]),(3,O.rows 6 false [[V.fn (Fn.func (124:FuncId)) [] [],iv k,V.fn (Fn.func (123:FuncId)) [] [],iv (1:Int),V.fn (Fn.func (124:FuncId)) [] [],iv j]]),(4,O.rows 2 false [[V.sl (Id.p 5) 0 (cll q.1).length,V.sl (Id.p 6) 0 (knl q.2.1).length]]),(5,O.rows 3 true ((cll L).set (0+i) (iv n::iv n_5::iv n_6::(List.append []) (List.drop 3 row)))),(6,O.rows 5 true (knl K))] 7 []))))))) (KM Tryz.prog glX 129 [V.sl (Id.p 0) 0 (cll q.1).length,V.fn (Fn.func 89) [] []] (Hp.mk [(0,O.rows 3 true (cll L))] 1 []) (poP 129 [V.sl (Id.p 5) 0 (cll q.1).length,V.fn (Fn.func 89) [] []]) fun v us=>onTup v fun vs=>onNil vs (La 0 [(5:Tmp),(6:Tmp),(7:Tmp),(8:Tmp),(47:Tmp),(48:Tmp),(49:Tmp)] (WY Tryz.prog (cfP (chC k j)) 2991 (Env.mk (Bs.mk 0 []) 0 none 76 95 2) (cdAt [1,1,1,1,1,0,1,0,0] (bodyOf Tryz.f95))) (Qblk 2 (Qthen (WY Tryz.prog (cfP (chC k j)) 2994 (Env.mk (Bs.mk 0 []) 0 none 76 95 0) (cdAt [1,1,1,1,1,1] (bodyOf Tryz.f95)) (QendX Tryz.prog Tryz.f95 fun v h=>R (frzW h v))) (QendX Tryz.prog Tryz.f95 fun v h=>R (frzW h v)))) (St.mk (mkT [(5,V.ptr (Id.p 0) 0 0),(6,V.ptr (Id.p 1) 0 0),(7,V.ptr (Id.p 2) 0 0),(8,V.ptr (Id.p 3) 0 0),(47,V.lst 5 (knl q.2.1)),(48,iv (↑(knl q.2.1).length:Int)),(49,iv (0:Int))]) (Hp.mk [(0,O.rows 3 false [[iv by_.1,iv by_.2.1,iv by_.2.2]]),(1,O.rows 2 false [[nilS,nilS]]),(2,O.rows 6 false [[V.fn (Fn.func (124:FuncId)) [] [],iv k,V.fn (Fn.func (123:FuncId)) [] [],iv (1:Int),V.fn (Fn.func (124:FuncId)) [] [],iv j]]),(3,O.rows 2 false [[V.sl (Id.p 4) 0 (cll q.1).length,V.sl (Id.p 5) 0 (knl q.2.1).length]]),(4,O.rows 3 true (List.getD us 0 [])),(5,O.rows 5 true (knl K))] 6 []))))) (by kernel_rfl) ?_
  refine ifB_mk (fun d=>?_) (fun d=>?_)
  · have hlt:i<q.1.length:=by have:=of_decide_eq_true d; omega
    obtain ⟨x,hx⟩:=getI hlt
    have hxb:Bd 15 x:=(hc x (mem_at hx)).mono (by omega) (by omega)
    refine cel hx (hcell (c:=x) (hxb.mono (by omega)) (onC (add97 (a:=tn n x) (b:=by_) ((tn_bd hxb).mono (by omega)) (hby.mono (by omega)) (onC (need_mk ⟨by omega,?_⟩)))))
    have hz:(cll L)[0+i]? = some (clr (0,0,0)):=by
      have:=fill_get (f:=fun c=>addC (tn n c) by_) (z:=((0,0,0):Cl)) hlt
      rw [hL] at this
      rw [Nat.zero_add]; simp [cll,this]
    refine onSome_mk hz (guardB_mk rfl ?_)
    rw [wr1i hlt (by omega),cll_set L i (addC (tn n x) by_),← hL,fill_set hx]
    exact hJ (i+1) hlt (by omega)
  · have hi:i=q.1.length:=by have:=of_decide_eq_false d; omega
    subst hi
    rw [fill_full] at hL
    have el:(cll q.1).length=L.length:=by rw [cl,← hL]; simp
    rw [el]
    refine sort129 (l:=L) (by omega) (fun us=>rfl) (onTup_tup (onNil_nil ?_))
    have hs:sortC L=plc q n by_:=by rw [← hL]; rfl
    rw [hs]
    rw [← el]
    clear hJ
    refine La.of (σ:=Nat) (fun i=>sh95b (chCr k j) q by_ (plc q n by_) (fill (fun k:Kn=>((addC (tn n k.1) by_,pt n k.2.1,k.2.2):Kn)) ((0,0,0),0,0) q.2.1 i) i) (fun i=>i≤q.2.1.length) (fun i=>q.2.1.length - i) 0 (by rw [← hK]; kernel_rfl) (by omega) ?_
    intro i g1 I hI
    clear hL hs el
    generalize hL2:plc q n by_=L
    clear hK
    generalize hK2:fill (fun k:Kn=>((addC (tn n k.1) by_,pt n k.2.1,k.2.2):Kn)) ((0,0,0),0,0) q.2.1 i=K
    refine see (p:=ifB (decide ((↑i:Int)<(↑(knl q.2.1).length:Int))) (onSome (knl q.2.1)[i]? fun row=>onCons (List.drop 0 row) fun u r=>onIntK IntKind.i64 u fun n=>onCons r fun u r=>onIntK IntKind.i64 u fun n_1=>onCons r fun u r=>onIntK IntKind.i64 u fun n_2=>onCons r fun u r=>onIntK IntKind.u8 u fun n_3=>onCons r fun u r=>onIntK IntKind.u8 u fun n_4=>K0G Tryz.prog glX 85 [V.agg [V.fn (Fn.func (124:FuncId)) [] [],iv k,V.fn (Fn.func (123:FuncId)) [] [],iv (1:Int),V.fn (Fn.func (124:FuncId)) [] [],iv j],V.agg [iv n,iv n_1,iv n_2]] fun v=>onAgg v fun cs=>onCons cs fun u r=>onIntK IntKind.i64 u fun n=>onCons r fun u r=>onIntK IntKind.i64 u fun n_5=>onCons r fun u r=>onIntK IntKind.i64 u fun n_6=>onNil r (K0G Tryz.prog glX 97 [V.agg [iv n,iv n_5,iv n_6],V.agg [iv by_.1,iv by_.2.1,iv by_.2.2]] fun v=>onAgg v fun cs=>onCons cs fun u r=>onIntK IntKind.i64 u fun n=>onCons r fun u r=>onIntK IntKind.i64 u fun n_7=>onCons r fun u r=>onIntK IntKind.i64 u fun n_8=>onNil r (K0G Tryz.prog glX 83 [V.agg [V.fn (Fn.func (124:FuncId)) [] [],iv k,V.fn (Fn.func (123:FuncId)) [] [],iv (1:Int),V.fn (Fn.func (124:FuncId)) [] [],iv j],iv (IntKind.i64.wrap n_3)] fun v=>onIntK IntKind.i64 v fun n_9=>need (i<(knl q.2.1).length) (onSome (knl K)[0+i]? fun row=>guardB ((0+5).ble row.length) (I (St.mk (mkT [(5,V.ptr (Id.p 0) 0 0),(6,V.ptr (Id.p 1) 0 0),(7,V.ptr (Id.p 2) 0 0),(8,V.ptr (Id.p 3) 0 0),(47,V.lst 5 (knl q.2.1)),(48,iv (↑(knl q.2.1).length:Int)),(49,iv (IntKind.i64.wrap ((↑i:Int)+(1:Int))))]) (Hp.mk [(0,O.rows 3 false [[iv by_.1,iv by_.2.1,iv by_.2.2]]),(1,O.rows 2 false [[nilS,nilS]]),(2,O.rows 6 false [[V.fn (Fn.func (124:FuncId)) [] [],iv k,V.fn (Fn.func (123:FuncId)) [] [],iv (1:Int),V.fn (Fn.func (124:FuncId)) [] [],iv j]]),(3,O.rows 2 false [[V.sl (Id.p 4) 0 (cll q.1).length,V.sl (Id.p 5) 0 (knl q.2.1).length]]),(4,O.rows 3 true (cll L)),(5,O.rows 5 true ((knl K).set (0+i) (iv n::iv n_7::iv n_8::V.raw (Value.int IntKind.u8 (IntKind.u8.wrap n_9))::V.raw (Value.int IntKind.u8 n_4)::(List.append []) (List.drop 5 row))))] 6 []))))))) (R (V.agg [V.lst 3 (sub (cll L) 0 (cll q.1).length),V.lst 5 (sub (knl K) 0 (knl q.2.1).length)]))) (by kernel_rfl) ?_
    refine ifB_mk (fun d=>?_) (fun d=>?_)
    · have hlt:i<q.2.1.length:=by have:=of_decide_eq_true d; omega
      obtain ⟨x,hx⟩:=getI hlt
      obtain ⟨x1,x2,x3⟩:=hk x (mem_at hx)
      have hxb:Bd 15 x.1:=x1.mono (by omega) (by omega)
      obtain ⟨p1,p2⟩:=pt_rg n x.2.1
      refine kel hx (hcell (c:=x.1) (hxb.mono (by omega)) (onC (add97 (a:=tn n x.1) (b:=by_) ((tn_bd hxb).mono (by omega)) (hby.mono (by omega)) (onC ?_))))
      rw [wr (n:=x.2.1) (by omega) (by omega)]
      obtain ⟨m,hm⟩ : ∃ m:Nat,x.2.1=(m:Int):=⟨x.2.1.toNat,by omega⟩
      rw [hm]
      rw [hm] at p1 p2
      refine hdir (d:=m) (by omega) (onIntK_iv (need_mk ⟨by omega,?_⟩))
      have hz:(knl K)[0+i]? = some (knr ((0,0,0),0,0)):=by
        have:=fill_get (f:=fun k:Kn=>((addC (tn n k.1) by_,pt n k.2.1,k.2.2):Kn)) (z:=(((0,0,0),0,0):Kn)) hlt
        rw [hK2] at this
        rw [Nat.zero_add]; simp [knl,this]
      refine onSome_mk hz (guardB_mk rfl ?_)
      rw [wr1i hlt (by omega),u8w p1 (by omega)]
      have fs:(fill (fun k:Kn=>((addC (tn n k.1) by_,pt n k.2.1,k.2.2):Kn)) ((0,0,0),0,0) q.2.1 i).set i ((addC (tn n x.1) by_,pt n x.2.1,x.2.2):Kn)=fill (fun k:Kn=>((addC (tn n k.1) by_,pt n k.2.1,k.2.2):Kn)) ((0,0,0),0,0) q.2.1 (i+1):=fill_set hx
      rw [hK2] at fs
      have es:(knl K).set (0+i) (iv (addC (tn n x.1) by_).1::iv (addC (tn n x.1) by_).2.1::iv (addC (tn n x.1) by_).2.2::V.raw (.int .u8 (pt n (m:Int)))::V.raw (.int .u8 x.2.2)::List.append [] (List.drop 5 (knr ((0,0,0),0,0))))=knl (fill (fun k:Kn=>((addC (tn n k.1) by_,pt n k.2.1,k.2.2):Kn)) ((0,0,0),0,0) q.2.1 (i+1)):=by
        rw [← fs,← hm]
        exact knl_set K i ((addC (tn n x.1) by_,pt n x.2.1,x.2.2):Kn)
      rw [es,← hL2]
      exact hI (i+1) hlt (by omega)
    · have hi:i=q.2.1.length:=by have:=of_decide_eq_false d; omega
      subst hi
      rw [fill_full] at hK2
      have s1:sub (cll L) 0 (cll q.1).length=cll (plc q n by_):=by
        rw [← hL2,sub,List.drop_zero,List.take_of_length_le]
        rw [cll_length,cl,plc,(sortC_perm _).length_eq]; simp
      have s2:sub (knl K) 0 (knl q.2.1).length=knl (knb q n by_):=by
        rw [sub,List.drop_zero,List.take_of_length_le (by rw [knl_length,kl,← hK2]; simp),← hK2]; rfl
      rw [s1,s2]
      exact h
theorem put95 {q:Kd} {by_:Cl} {n:Nat} {R:V→Prop} (hn:n<24) (hq:PutP q) (hby:Bd 2000 by_) (h:R (.agg [.lst 3 (cll (plc q n by_)),.lst 5 (knl (knb q n by_))])):K0G Tryz.prog glX 95 [.agg (kdr q),iv (n:Int),.agg (clr by_)] R:=by
  have c1:K0G Tryz.prog glX 82 [iv (n:Int)] fun v=>v=ch n:=chain82 n hn rfl
  have c2 : ∀ {c:Cl} {R:V→Prop},Bd 3000 c→R (.agg (clr (tn n c)))→K0G Tryz.prog glX 85 [ch n,.agg (clr c)] R:=fun hb h=>cell85 hb n hn h
  have c3 : ∀ {d:Nat} {R:V→Prop},d<6→R (iv (pt n (d:Int)))→K0G Tryz.prog glX 83 [ch n,iv (d:Int)] R:=fun hd h=>dir83 hd n hn h
  unfold ch at c1 c2 c3
  by_cases h1:n / 4<1
  · rw [if_pos h1] at c1 c2 c3
    exact put95A c1 c2 c3 hq hby h
  · rw [if_neg h1] at c1 c2 c3
    by_cases h2:n / 4<4
    · rw [if_pos h2] at c1 c2 c3
      exact put95B c1 c2 c3 hq hby h
    · rw [if_neg h2] at c1 c2 c3
      exact put95C c1 c2 c3 hq hby h
end Go.Proofs.YtbionhgjgcpogaaGreatDoor
namespace Go.Proofs.YtbionhgjgcpogaaGreatDoor
open Go Go.Proofs.YtbionhgjgcpogaaGreatDoor.Clean
set_option linter.unusedVariables false
set_option maxRecDepth 100000
end Go.Proofs.YtbionhgjgcpogaaGreatDoor
namespace Go.Proofs.YtbionhgjgcpogaaGreatDoor
open Go Go.Proofs.YtbionhgjgcpogaaGreatDoor.Clean
set_option linter.unusedVariables false
set_option linter.unusedSimpArgs false
set_option maxRecDepth 10000
def Pin (L:List Cl) (k i:Nat):Prop := ∀ (a b:Nat) (x y:Cl),a<b→b≤i→b≠k→L[a]? = some x→L[b]? = some y → ¬ Bef y x
def Sin (L:List Cl) (i:Nat):Prop := ∀ (a b:Nat) (x y:Cl),a<b→b<i→L[a]? = some x→L[b]? = some y → ¬ Bef y x
theorem Bef.ntr {x y z:Cl} (h1 : ¬ Bef x y) (h2 : ¬ Bef y z) : ¬ Bef x z:=by unfold Bef at *; omega
theorem Sin.start {L:List Cl} {i:Nat} (h:Sin L i):Pin L i i:=fun a b x y h1 h2 h3 h4 h5=>h a b x y h1 (by omega) h4 h5
theorem Pin.fin {L:List Cl} {k i:Nat} (h:Pin L k i) (hk:k=0 ∨ ∃ x y,L[k]? = some x∧L[k - 1]? = some y ∧ ¬ Bef x y):Sin L (i+1):=fun a b u v h1 h2 h3 h4=>by
  by_cases hb:b=k
  · subst hb
    rcases hk with hk | ⟨x,y,hx,hy,hxy⟩
    · omega
    · rw [hx] at h4
      cases h4
      by_cases ha:a=b - 1
      · subst ha
        rw [hy] at h3; cases h3
        exact hxy
      · exact Bef.ntr hxy (h a (b - 1) u y (by omega) (by omega) (by omega) h3 hy)
  · exact h a b u v h1 (by omega) hb h3 h4
structure PutB (l:List Kd) (b:Bk) (q:Kd) (n:Nat):Prop where
  at_:l[b.1.toNat]? = some q
  k0:0≤b.1
  put:PutP q
  pos:1≤q.1.length
  turn:b.2.2.1=(n:Int)
  t24:n<24
  bd:Bd 2000 b.2.1
end Go.Proofs.YtbionhgjgcpogaaGreatDoor
namespace Go.Proofs.YtbionhgjgcpogaaGreatDoor
open Go Go.Proofs.YtbionhgjgcpogaaGreatDoor.Clean
set_option linter.unusedVariables false
set_option maxRecDepth 100000
def moD (f:FuncId):Nat:=bif inN [104] f then 3 else bif inN [103] f then 1 else 0
end Go.Proofs.YtbionhgjgcpogaaGreatDoor
namespace Go.Proofs.YtbionhgjgcpogaaGreatDoor
open Go Go.Proofs.YtbionhgjgcpogaaGreatDoor.Clean
set_option linter.unusedVariables false
set_option maxRecDepth 100000
def kpE:FuncId→Nat→Option (List Tmp):=slotsOf [(94,0,[0,1,4])]
noncomputable def cfE:Cfg:={ cfgG Tryz.prog glX moD poP (rtP fN) (inN [54,94,62,78]) kpE with clean:=fun g => !inN [94] g }
end Go.Proofs.YtbionhgjgcpogaaGreatDoor
namespace Go.Proofs.YtbionhgjgcpogaaGreatDoor
open Go Go.Proofs.YtbionhgjgcpogaaGreatDoor.Clean
set_option linter.unusedVariables false
set_option linter.unusedSimpArgs false
set_option maxRecDepth 10000
theorem take_eq {α:Type} {a b:List α} {i:Nat} {x:α} (h:a.take i=b.take i) (hx:a[i]? = some x) (hy:b[i]? = some x):a.take (i+1)=b.take (i+1):=by rw [take_succ' hx,take_succ' hy,h]
theorem iel {l:List Int} {i:Nat} {x:Int} {k:Int→Prop} (h:l[i]? = some x) (hk:k x):onSome (nl l)[i]? fun row=>onSome row[0]? fun v=>onIntK IntKind.i64 v fun n=>k n:=onSome_mk (by simp [nl,h]:(nl l)[i]? = some [iv x]) hk
def SameK (a b:List Kn):Prop:=a.length=b.length ∧ ∀ x∈a,x∈b
theorem K0_args {P:Program} {G:Nat→Option (List V)} {f:FuncId} {args args' : List V} {R:V→Prop} (h:K0G P G f args R) (hr : ∀ F w xs,riL F w args' xs→riL F w args xs):K0G P G f args' R:=fun F w xs g1 g2 g3=>h F w xs g1 g2 (hr F w xs g3)
def subC (a b:Cl):Cl:=(a.1 - b.1,a.2.1 - b.2.1,a.2.2 - b.2.2)
theorem plc_length (q:Kd) (n:Nat) (d:Cl):(plc q n d).length=q.1.length:=by rw [plc,(sortC_perm _).length_eq]; simp
theorem knb_length (q:Kd) (n:Nat) (d:Cl):(knb q n d).length=q.2.1.length:=by simp [knb]
def hd (l:List Cl):Cl:=l.headD (0,0,0)
def cAt (q:Kd) (t n:Nat) (at_:Cl):Cl:=subC (hd (plc q n at_)) (hd (plc q t (0,0,0)))
def LikeP (q:Kd) (t n:Nat) (at_:Cl):Prop:=plc q t (cAt q t n at_)=plc q n at_∧SameK (knb q t (cAt q t n at_)) (knb q n at_)
end Go.Proofs.YtbionhgjgcpogaaGreatDoor
namespace Go.Proofs.YtbionhgjgcpogaaGreatDoor
open Go Go.Proofs.YtbionhgjgcpogaaGreatDoor.Clean
set_option linter.unusedVariables false
set_option linter.unusedSimpArgs false
set_option maxRecDepth 10000
theorem addC_inj {a b d:Cl} (h:addC a d=addC b d):a=b:=by
  have h1:(addC a d).1=(addC b d).1:=by rw [h]
  have h2:(addC a d).2.1=(addC b d).2.1:=by rw [h]
  have h3:(addC a d).2.2=(addC b d).2.2:=by rw [h]
  simp only [addC] at h1 h2 h3
  exact cl_ext (by omega) (by omega) (by omega)
theorem qz_inj {a b:Cl} (h:qz a=qz b):a=b:=by
  simp only [qz,Prod.mk.injEq] at h
  exact cl_ext h.2.1 (by omega) h.2.2
theorem qx_inj {a b:Cl} (h:qx a=qx b):a=b:=by
  simp only [qx,Prod.mk.injEq] at h
  exact cl_ext h.1 h.2.2 (by omega)
theorem itr_inj {f:Cl→Cl} (hf : ∀ a b,f a=f b→a=b) : ∀ (n:Nat) (a b:Cl),itr f n a=itr f n b→a=b
  | 0,a,b,h=>h
  | n+1,a,b,h=>hf _ _ (itr_inj hf n _ _ h)
theorem tn_inj {n:Nat} {a b:Cl} (h:tn n a=tn n b):a=b:=by
  unfold tn at h
  split at h
  · exact itr_inj (fun _ _=>qz_inj) _ _ _ (itr_inj (fun _ _=>qx_inj) _ _ _ h)
  · exact itr_inj (fun _ _=>qz_inj) _ _ _ (qx_inj (itr_inj (fun _ _=>qz_inj) _ _ _ h))
theorem pt_inj {n:Nat} (hn:n<24) {d e:Int} (hd:0≤d∧d≤5) (he:0≤e∧e≤5) (h:pt n d=pt n e):d=e:=by
  have key : ∀ n,n<24 → ∀ d,d<6 → ∀ e,e<6→(ptL.getD n []).getD d 0=(ptL.getD n []).getD e 0→d=e:=by decide
  have:=key n hn d.toNat (by omega) e.toNat (by omega) h
  omega
def Fac (l:List Kn):Prop := ∀ a∈l, ∀ b∈l,a.1=b.1→a.2.1=b.2.1→a=b
theorem pw_mem {α:Type} {r:α→α→Prop} : ∀ {l:List α},l.Pairwise r → ∀ a∈l, ∀ b∈l,a=b∨r a b∨r b a
  | [],_,a,ha,_,_=>by simp at ha
  | x::l,h,a,ha,b,hb=>by
    have h1:=List.pairwise_cons.1 h
    rcases List.mem_cons.1 ha with ea | ha'
    · rcases List.mem_cons.1 hb with eb | hb'
      · exact .inl (ea.trans eb.symm)
      · rw [ea]; exact .inr (.inl (h1.1 b hb'))
    · rcases List.mem_cons.1 hb with eb | hb'
      · rw [eb]; exact .inr (.inr (h1.1 a ha'))
      · exact pw_mem h1.2 a ha' b hb'
theorem Fac.of {l:List Kn} (h:l.Pairwise BefK):Fac l:=fun a ha b hb e1 e2=>by
  rcases pw_mem h a ha b hb with h | h | h
  · exact h
  · rcases h with h | ⟨_,h⟩
    · rw [e1] at h; exact absurd h (Bef.irr _)
    · omega
  · rcases h with h | ⟨_,h⟩
    · rw [e1] at h; exact absurd h (Bef.irr _)
    · omega
structure KnbP (q:Kd):Prop where
  put:PutP q
  pw:q.2.1.Pairwise BefK
theorem knb_fac {q:Kd} {t:Nat} {d:Cl} (hq:KnbP q) (ht:t<24):Fac (knb q t d):=fun a ha b hb e1 e2=>by
  obtain ⟨x,hx,rfl⟩:=List.mem_map.1 ha
  obtain ⟨y,hy,rfl⟩:=List.mem_map.1 hb
  have:=Fac.of hq.pw x hx y hy (tn_inj (addC_inj e1)) (pt_inj ht (hq.put.2.2.1 x hx).2 (hq.put.2.2.1 y hy).2 e2)
  rw [this]
theorem knb_nodup {q:Kd} {t:Nat} {d:Cl} (hq:KnbP q) (ht:t<24):(knb q t d).Nodup:=by
  unfold knb
  rw [List.Nodup,List.pairwise_map]
  refine hq.pw.imp_of_mem (fun {a b} ha hb hab he=>?_)
  have e1:addC (tn t a.1) d=addC (tn t b.1) d:=congrArg Prod.fst he
  have e2:pt t a.2.1=pt t b.2.1:=congrArg (fun z:Kn=>z.2.1) he
  have:=Fac.of hq.pw a ha b hb (tn_inj (addC_inj e1)) (pt_inj ht (hq.put.2.2.1 a ha).2 (hq.put.2.2.1 b hb).2 e2)
  rw [this] at hab
  exact BefK.irr _ hab
end Go.Proofs.YtbionhgjgcpogaaGreatDoor
namespace Go.Proofs.YtbionhgjgcpogaaGreatDoor
open Go Go.Proofs.YtbionhgjgcpogaaGreatDoor.Clean
set_option linter.unusedVariables false
set_option linter.unusedSimpArgs false
set_option maxRecDepth 10000
end Go.Proofs.YtbionhgjgcpogaaGreatDoor
namespace Go.Proofs.YtbionhgjgcpogaaGreatDoor
open Go Go.Proofs.YtbionhgjgcpogaaGreatDoor.Clean
set_option linter.unusedVariables false
set_option maxRecDepth 100000
end Go.Proofs.YtbionhgjgcpogaaGreatDoor
namespace Go.Proofs.YtbionhgjgcpogaaGreatDoor
open Go Go.Proofs.YtbionhgjgcpogaaGreatDoor.Clean
set_option linter.unusedVariables false
set_option maxRecDepth 100000
end Go.Proofs.YtbionhgjgcpogaaGreatDoor
namespace Go.Proofs.YtbionhgjgcpogaaGreatDoor
open Go Go.Proofs.YtbionhgjgcpogaaGreatDoor.Clean
set_option linter.unusedVariables false
set_option linter.unusedSimpArgs false
set_option maxRecDepth 10000
theorem hcE:cfE.ok Tryz.prog:=by
  have h:(cfgG Tryz.prog glX moD poP (rtP fN) (inN [54,94,62,78]) kpE).ok Tryz.prog:=cfgG_ok (rtP_ok fN)
  exact ⟨h.1,h.2⟩
theorem KindP.put {q:Kd} (h:KindP q) (hr:KdR q):KnbP q:=by
  obtain ⟨⟨⟨c1,c2⟩,c3,c4⟩,⟨k1,k2,k3⟩,w⟩:=h
  exact ⟨⟨c3,by omega,fun k hk=>⟨c3 _ (k2 k hk).2.2.1,(hr.1 k hk).1.1,(k2 k hk).1⟩,by omega⟩,k3⟩
def NormP (q:Kd) (n:Nat) (b r:Bk):Prop:=(∃ t,t<24∧LikeP q t n b.2.1∧(∀ u,u<t → ¬ LikeP q u n b.2.1)∧((Bd 1000 (cAt q t n b.2.1)∧r=(b.1,cAt q t n b.2.1,(t:Int),b.2.2.2))∨(¬ Bd 1000 (cAt q t n b.2.1)∧r=b)))∨((∀ u,u<24 → ¬ LikeP q u n b.2.1)∧r=b)
theorem NormP.uniq {q:Kd} {n:Nat} {b r s:Bk} (h:NormP q n b r) (g:NormP q n b s):r=s:=by
  rcases h with ⟨t,h1,h2,h3,h4⟩ | ⟨h1,h2⟩ <;> rcases g with ⟨u,g1,g2,g3,g4⟩ | ⟨g1,g2⟩
  · have:t=u:=by
      rcases Nat.lt_trichotomy t u with h | h | h
      · exact (g3 t h h2).elim
      · exact h
      · exact (h3 u h g2).elim
    subst this
    rcases h4 with ⟨a,b⟩ | ⟨a,b⟩ <;> rcases g4 with ⟨c,d⟩ | ⟨c,d⟩
    · rw [b,d]
    · exact (c a).elim
    · exact (a c).elim
    · rw [b,d]
  · exact (g1 t h1 h2).elim
  · exact (h1 u g1 g2).elim
  · rw [h2,g2]
end Go.Proofs.YtbionhgjgcpogaaGreatDoor
namespace Go.Proofs.YtbionhgjgcpogaaGreatDoor
open Go Go.Proofs.YtbionhgjgcpogaaGreatDoor.Clean
set_option linter.unusedVariables false
set_option maxRecDepth 100000
def bdr (b:List Cl×List Kn):List V:=[V.lst 3 (cll b.1),V.lst 5 (knl b.2)]
def bdl (l:List (List Cl×List Kn)):List (List V):=l.map bdr
def kpO:FuncId→Nat→Option (List Tmp):=slotsOf [(107,0,[3,9,10,11,1000001,4000003]),(107,2,[3,4,9,10,11,17,18,19,1000001,4000003]),(106,0,[0,3,4,14,15,16,1000001,4000003]),(106,2,[0,3,4,5,6,14,15,16,23,24,25,1000001,4000003]),(106,4,[0,3,4,5,6,14,15,16,23,24,25,31,32,33,1000001,4000003]),(106,6,[0,3,4,5,6,11,14,15,16,1000001,4000003])]
def fzO (f:FuncId) (t:Tmp):Bool:=(f.beq 107&&t.beq 1000025) || (f.beq 106&&t.beq 1000031)
noncomputable def cfO:Cfg:={ cfgG Tryz.prog glX moD poP (rtP fN) (inN [107]) kpO with clean:=fun g => !inN [107] g,fz:=fzO }
noncomputable def sh107a (l:List (List Cl×List Kn)) (es:List (V×V)) (ms:List (Option (List (List V)))) (m i:Nat):St:=⟨mkT [(3,V.mp (Id.p 0)),(9,V.lst 2 (bdl l)),(10,iv (m:Int)),(11,iv (i:Int))],⟨[(0,O.mp es)],1,[(0,Fam.mk 1 ms)]⟩⟩
noncomputable def sh107b (l:List (List Cl×List Kn)) (x:List Cl) (es:List (V×V)) (ms:List (Option (List (List V)))) (m i n k:Nat):St:=⟨mkT [(3,V.mp (Id.p 0)),(4,iv (i:Int)),(9,V.lst 2 (bdl l)),(10,iv (m:Int)),(11,iv (i:Int)),(17,V.lst 3 (cll x)),(18,iv (n:Int)),(19,iv (k:Int))],⟨[(0,O.mp es)],1,[(0,Fam.mk 1 ms)]⟩⟩
end Go.Proofs.YtbionhgjgcpogaaGreatDoor
