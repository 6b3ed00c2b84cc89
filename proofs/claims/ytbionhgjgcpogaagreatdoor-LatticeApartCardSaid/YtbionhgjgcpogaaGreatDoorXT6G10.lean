/- A part of the proof. -/
import Derived.Shelf.SlSortCmp.WholeK
import Derived.Test.YtbionhgjgcpogaaGreatDoorProg
import Derived.Test.YtbionhgjgcpogaaGreatDoorXT6G9
namespace Go.Proofs.YtbionhgjgcpogaaGreatDoor.Clean
set_option linter.unusedVariables false
def forceN (n:Nat) (k:Nat→Prop):Prop:=match n with
 | 0=>k 0
 | m+1=>k (m+1)
def forceV (v:V) (k:V→Prop):Prop:=match v with
 | .raw x=>k (.raw x)
 | .ptr b i o=>k (.ptr b i o)
 | .sl b lo n=>k (.sl b lo n)
 | .lst s es=>k (.lst s es)
 | v=>k v
def forceRow:List V→(List V→Prop)→Prop
 | [],k=>k []
 | v::r,k=>forceV v fun v=>forceRow r fun r=>k (v::r)
def forceArg (v:V) (k:V→Prop):Prop:=match v with
 | .agg cs=>forceRow cs fun cs=>k (.agg cs)
 | .fn f a c=>forceRow a fun a=>forceRow c fun c=>k (.fn f a c)
 | v=>forceV v k
def forceArgs:List V→(List V→Prop)→Prop
 | [],k=>k []
 | v::r,k=>forceArg v fun v=>forceArgs r fun r=>k (v::r)
def forceRows:List (List V)→(List (List V)→Prop)→Prop
 | [],k=>k []
 | v::r,k=>forceRow v fun v=>forceRows r fun r=>k (v::r)
def forceO (o:O) (k:O→Prop):Prop:=match o with
 | .rows s true es=>k (.rows s true es)
 | .rows s false es=>forceRows es fun es=>k (.rows s false es)
 | .mp es=>k (.mp es)
 | .lp q=>k (.lp q)
 | .it x n l=>k (.it x n l)
def forceBs:List (Nat×O)→(List (Nat×O)→Prop)→Prop
 | [],k=>k []
 | (a,o)::r,k=>forceN a fun a=>forceO o fun o=>forceBs r fun r=>k ((a,o)::r)
def forceH (h:Hp) (k:Hp→Prop):Prop:=match h with
 | ⟨bs,n,fs⟩=>forceBs bs fun bs=>forceN n fun n=>k ⟨bs,n,fs⟩
def forceIds:List Id→(List Id→Prop)→Prop
 | [],k=>k []
 | .p n::r,k=>forceN n fun n=>forceIds r fun r=>k (.p n::r)
 | .m B j::r,k=>forceIds r fun r=>k (.m B j::r)
def keepOf (bs:List Id):Keep:=⟨[],bs.zipIdx,bs.length,[],[],[]⟩
def lentIds (h:Hp) (vs:List V):List Id:=(reach 200 h (refsL vs) []).filter fun b=>h.has b
theorem forceN_eq (n:Nat) (k:Nat→Prop):forceN n k=k n:=by cases n <;> rfl
theorem forceV_eq (v:V) (k:V→Prop):forceV v k=k v:=by cases v <;> rfl
theorem forceRow_eq : ∀ (l:List V) (k:List V→Prop),forceRow l k=k l
 | [],k=>rfl
 | v::r,k=>by rw [forceRow,forceV_eq,forceRow_eq]
theorem forceArg_eq (v:V) (k:V→Prop):forceArg v k=k v:=by
 cases v <;> first | exact forceRow_eq _ _ | (show forceRow _ _=_; rw [forceRow_eq,forceRow_eq]) | rfl
theorem forceArgs_eq : ∀ (l:List V) (k:List V→Prop),forceArgs l k=k l
 | [],k=>rfl
 | v::r,k=>by rw [forceArgs,forceArg_eq,forceArgs_eq]
theorem forceRows_eq : ∀ (l:List (List V)) (k:List (List V)→Prop),forceRows l k=k l
 | [],k=>rfl
 | v::r,k=>by rw [forceRows,forceRow_eq,forceRows_eq]
theorem forceO_eq (o:O) (k:O→Prop):forceO o k=k o:=by
 cases o with
 | rows s p es=>cases p with
  | true=>rfl
  | false=>exact forceRows_eq es _
 | mp es=>rfl
 | lp q=>rfl
 | it x n l=>rfl
theorem forceBs_eq : ∀ (l:List (Nat×O)) (k:List (Nat×O)→Prop),forceBs l k=k l
 | [],k=>rfl
 | (a,o)::r,k=>by rw [forceBs,forceN_eq,forceO_eq,forceBs_eq]
theorem forceH_eq (h:Hp) (k:Hp→Prop):forceH h k=k h:=by
 obtain ⟨bs,n,fs⟩:=h
 show forceBs bs _=_
 rw [forceBs_eq,forceN_eq]
theorem forceIds_eq : ∀ (l:List Id) (k:List Id→Prop),forceIds l k=k l
 | [],k=>rfl
 | .p n::r,k=>by rw [forceIds,forceN_eq,forceIds_eq]
 | .m B j::r,k=>by rw [forceIds,forceIds_eq]
theorem lent_eq (h:Hp) (vs:List V):lentOf h vs=keepOf (lentIds h vs):=rfl
def callsG (P:Program) (G:Nat→Option (List V)) (mode:FuncId→Nat) (post:FuncId→List V→Hp→Us→Hp) (rt:FuncId→List V→Us→V→(V→Prop)→Prop):Calling :=
 ⟨fun _=>none,mode,fun _=>false,KB P G,K0G P G,fun f args h k=>match mode f with
   | 3=>forceArgs args fun args=>forceIds (lentIds h args) fun ids=>guardB ((keepOf ids).ok&&bsOK h) (forceH (lentH h (keepOf ids)) fun h0=>KM P G f (trL (renOf (keepOf ids).blocks) args) h0 (post f args) fun v us=>guardB (mfit h (post f args h0 us) (keepOf ids).blocks) <| rt f args us v fun v =>
     forceH (mergeH h (keepOf ids) (post f args h0 us)) fun h' => forceV (v.tr (backT (keepOf ids).blocks (keepOf ids).nxt h.nxt)) fun v=>k v h')
   | _=>K P G f args h (fun _=>true) k,
  fun f args h b=>match mode f with | 3=>(lentOf h args).blocks.any fun p=>p.1.beq b | _=>true,true,0,G,fun _ _ _ _=>False,fun _=>true⟩
theorem callsG_ok {P:Program} {G:Nat→Option (List V)} {mode:FuncId→Nat} {post:FuncId→List V→Hp→Us→Hp} {rt:FuncId→List V→Us→V→(V→Prop)→Prop} (hrt : ∀ f args us v k,rt f args us v k → ∃ v', k v' ∧ ∀ {F:Nat→Prop} {w:World} {ν:Nu} {x:Value},rep F w ν v x→rep F w ν v' x):(callsG P G mode post rt).ok P:=by
 refine ⟨(fun _ _ h=>by cases h),fun _ _ _ _ _ h=>K_of_K0 h,fun _ _ _ _ _ h1 h2=>K_of_KB h1 h2,fun _ _ _ _ _ h=>K_of_K0t h,fun _ _ _ _ h hr=>h.mono hr,fun _ _ _ h=>h,?_,fun _ _ _ _ h=>h.elim⟩
 intro f args h R hc
 by_cases hm:mode f=3
 ·simp only [callsG,hm] at hc ⊢
  rw [forceArgs_eq,forceIds_eq,← lent_eq,guardB_iff,Bool.and_eq_true,forceH_eq] at hc
  obtain ⟨⟨hok,hbs⟩,hc⟩:=hc
  refine K_frame rfl hok hbs ?_
  intro ν F w xs g1 g2 g3
  refine (hc ν F w xs g1 g2 g3).mono fun e w' ⟨x,v,ν', F', h', z1,⟨es,z2,z3⟩,z4,z5,z6⟩=>?_
  have z3:=guardB_iff.1 z3
  obtain ⟨v', hk,hrv⟩:=hrt _ _ _ _ _ z3.2
  rw [forceH_eq,forceV_eq] at hk
  exact ⟨x,v', ν', F', h', z1,by rw [z2]; exact ⟨z3.1,hk⟩,z4,hrv z5,z6⟩
 ·simp only [callsG] at hc ⊢
  exact hc
noncomputable def cfgG (P:Program) (glob:Nat→Option (List V)) (mode:FuncId→Nat) (post:FuncId→List V→Hp→Us→Hp) (rt:FuncId→List V→Us→V→(V→Prop)→Prop) (enter:FuncId→Bool) (kps:FuncId→Nat→Option (List Tmp)):Cfg where
 C0:=callsG P glob mode post rt
 enter:=enter
 clean:=fun _=>true
 kps:=kps
theorem cfgG_ok {P:Program} {glob:Nat→Option (List V)} {mode:FuncId→Nat} {post:FuncId→List V→Hp→Us→Hp} {rt:FuncId→List V→Us→V→(V→Prop)→Prop} {enter:FuncId→Bool} {kps:FuncId→Nat→Option (List Tmp)} (hrt : ∀ f args us v k,rt f args us v k → ∃ v', k v' ∧ ∀ {F:Nat→Prop} {w:World} {ν:Nu} {x:Value},rep F w ν v x→rep F w ν v' x):(cfgG P glob mode post rt enter kps).ok P :=
 ⟨callsG_ok hrt,knowsY_none⟩
set_option linter.unusedSimpArgs false
section
variable {ν:Nu} {F:Nat→Prop} {h:Hp} {w w' : World}
theorem K_of_K0c {P:Program} {G:Nat→Option (List V)} {f:FuncId} {args:List V} {h:Hp} {R:V→Prop} (hc:closedL args=true) (hk:K0G P G f args R):K P G f args h (fun b => !b.low h.nxt) fun v _=>R v:=by
 intro ν F w xs hh hG hl
 refine (hk F w xs (fun r hr=>(hh.frz r hr).1) hG (repL_riL _ _ hc hl)).mono fun e' w' he=>?_
 obtain ⟨x,v,F'', rfl,hv,hr,hbl,q1,q2,q3⟩:=he
 obtain ⟨hh', he⟩:=heap_call0 hh hbl q1 q2 q3
 exact ⟨x,v,ν,_,_,rfl,hv,hh', ri_rep (ν:=ν) _ _ hr,he,fun b y hy _=>⟨hbl.block _ (by obtain ⟨r,s,n⟩:=y; exact hh.own_lt ⟨b,s,n,hy⟩),hy⟩⟩
end
end Go.Proofs.YtbionhgjgcpogaaGreatDoor.Clean
namespace Go.Proofs.YtbionhgjgcpogaaGreatDoor.Clean
open Go.Proofs Go.Shelf Go.RowKit Go.Lib Go.Sort
set_option linter.unusedVariables false
set_option linter.unusedSimpArgs false
set_option maxRecDepth 10000
def rowV (vs:List Value):List V:=vs.map V.raw
section
variable {ν:Nu} {F:Nat→Prop} {h:Hp} {w w' : World}
theorem heap_growA {os:Array Obj} (k:HeapOK ν F h w) (hw:w' = grow w os):HeapOK ν F h w' ∧ Evo ν F w ν F w' := by
 have hpre : ∀ r,r<w.heap.size→w'.heap[r]? = w.heap[r]? := fun r hlt=>by
  subst hw; show (w.heap++os)[r]? = _; rw [Array.getElem?_append_left hlt]
 have hsize:w.heap.size≤w'.heap.size:=by subst hw; show _≤(w.heap++os).size; simp
 have e:Evo ν F w ν F w' := ⟨by rw [hw]; rfl,by rw [hw]; rfl,by rw [hw]; rfl,hsize,fun r hlt _=>hpre r hlt,fun _ h=>h,fun _ h => .inl h,fun _ h => .inl h,fun _ _ _ h=>h,Nat.le_refl _,fun _=>Nat.le_refl _,fun _ _ h=>h,
  fun b r s n hb _ c e fr hc=>⟨c,by rw [hpre r (lt_of_some hc)]; exact hc,rfl⟩,by subst hw; exact Nat.le_refl _⟩
 refine ⟨⟨fun b r s n hb=>?_,k.dom,k.inj,fun r hr=>⟨Nat.lt_of_lt_of_le (k.frz r hr).1 hsize,(k.frz r hr).2⟩,k.nxt,k.cnt⟩,e⟩
 obtain ⟨o,g1,g2⟩:=k.blk b r s n hb
 exact ⟨o,g1,obl_evo k e (hpre r (k.at_lt hb)) g2⟩
theorem world_grow {W w' : World} (h1:w'.os=W.os) (h2:w'.tape=W.tape) (h3:w'.output=W.output) (h4:W.drawn≤w'.drawn) (h5:W.heap.size≤w'.heap.size) (h6 : ∀ r,r<W.heap.size→w'.heap[r]? = W.heap[r]?) : ∃ q os', w' = grow (W.drewN q) os' := by
 refine ⟨w'.drawn - W.drawn,w'.heap.extract W.heap.size w'.heap.size,?_⟩
 obtain ⟨heap,tape,drawn,os,out⟩:=w'
 simp only at h1 h2 h3 h4 h5 h6
 have hh:heap=W.heap++heap.extract W.heap.size heap.size:=by
  refine Array.ext_getElem? fun i=>?_
  by_cases hi:i<W.heap.size
  ·rw [Array.getElem?_append_left hi,h6 i hi]
  ·rw [Array.getElem?_append_right (by omega),Array.getElem?_extract]
   split
   ·rw [show W.heap.size+(i - W.heap.size)=i from by omega]
   ·rw [Array.getElem?_eq_none (by omega)]
 show World.mk heap tape drawn os out=World.mk (W.heap++heap.extract W.heap.size heap.size) W.tape (W.drawn+(drawn - W.drawn)) W.os W.output
 rw [← hh,← h1,← h2,← h3,show W.drawn+(drawn - W.drawn)=drawn from by omega]
variable {α:Type} [Inhabited α]
theorem flat_get {enc:α→List Value} {k:Nat} (hk : ∀ x,(enc x).length=k) (l:List α) {i j:Nat} {x:α} (hx:l[i]? = some x) (hj:j<k):(flatK enc k l.toArray)[i * k+j]! = (enc x)[j]! ∧ i * k+j<l.length * k:=by
 have hi:=(List.getElem?_eq_some_iff.1 hx).1
 have lt:i * k+j<l.length * k:=by
  have:=Nat.mul_le_mul_right k (show i+1≤l.length from hi); rw [Nat.add_mul,Nat.one_mul] at this; omega
 refine ⟨?_,lt⟩
 rw [get_flatK _ _ _ _ (by simpa using lt)]
 have e1:(i * k+j) / k=i:=(blk_iff k i _ (by omega)).1 ⟨by omega,by omega⟩
 have e2:(i * k+j) % k=j:=by rw [Nat.mod_eq_sub_div_mul,e1]; omega
 rw [e1,e2]
 have:l.toArray[i]! = x:=by
  rw [getElem!_pos _ i (by simpa using hi)]
  have:=(List.getElem?_eq_some_iff.1 hx).2
  simpa using this
 rw [this]
theorem holds_of {enc:α→List Value} {k:Nat} (hk : ∀ x,(enc x).length=k) {l:List α} {r:Nat} {c:Array Value} {el:TypeId} {p:Bool} (hc:w.heap[r]? = some (.cells c el (0,0))) (hr:rowsC (repO F w ν p) c k (l.map fun x=>rowV (enc x)) 0):HoldsK enc k w r 0 l.toArray:=by
  intro t ht
  rw [size_flatK] at ht
  have ht:t<l.length * k:=by simpa using ht
  have k0 : 0 < k := by rcases Nat.eq_zero_or_pos k with h | h
                        · subst h; simp at ht
                        · exact h
  have hi:t / k<l.length:=Nat.div_lt_of_lt_mul (by rw [Nat.mul_comm]; exact ht)
  have hj:t % k<k:=Nat.mod_lt _ k0
  have et:t / k * k+t % k=t:=Nat.div_add_mod' t k
  obtain ⟨x,hx⟩ : ∃ x,l[t / k]? = some x:=⟨_,List.getElem?_eq_getElem hi⟩
  have hf:=(flat_get hk l hx hj).1
  rw [et] at hf
  obtain ⟨_,q⟩:=rowsC_iff.1 hr (t / k) (rowV (enc x)) (by rw [List.getElem?_map,hx]; rfl)
  have hje:t % k<(enc x).length:=by rw [hk]; exact hj
  obtain ⟨y,y1,_,y2⟩:=q (t % k) (V.raw (enc x)[t % k]!) (by rw [rowV,List.getElem?_map,List.getElem?_eq_getElem hje]; simp [hje])
  have hy:y=(enc x)[t % k]! := by
    unfold repO at y2
    split at y2 <;> simpa [ri,rep] using y2
  rw [Nat.zero_add,et] at y1
  constructor
  · show w.cell? ⟨r,0+t,none⟩=some (flatK enc k l.toArray)[t]!
    rw [hf,← hy,Nat.zero_add]
    simp [World.cell?,hc,y1]
  · rw [Nat.zero_add]
    simp [World.frozen?,hc]
theorem sort_world {enc:α→List Value} {k:Nat} (hk : ∀ x,(enc x).length=k) (h1 : ∀ x, ∀ v∈enc x,v.oneCell' = true) {l:List α} {b r n' : Nat} {p:Bool} (hh:HeapOK ν F h w) (hget:h.get (.p b)=some (.rows k p (l.map fun x=>rowV (enc x)))) (hat:ν.at_ (.p b)=some (r,k,n')) (m:Nat) (dk:Array α) (os:Array Obj) (hs:dk.size=l.length) :
  HeapOK ν F (h.put (.p b) (.rows k p (dk.toList.map fun x=>rowV (enc x)))) (sortWorldK enc k w r 0 m dk os)∧Evo ν F w ν F (sortWorldK enc k w r 0 m dk os) ∧ ∀ q,q≠r→q<w.heap.size→(sortWorldK enc k w r 0 m dk os).heap[q]? = w.heap[q]? := by
 obtain ⟨_,g2,c,e,hc,hn,hr⟩:=hh.blkR hget hat
 obtain ⟨k1,e1⟩:=heap_same (w' := Sort.ahead w m) hh rfl rfl rfl rfl (Nat.le_add_right _ _)
 have hsz:(flatK enc k dk).size=l.length * k:=by rw [size_flatK,hs]
 have g2:l.length=n' := by simpa using g2
 have hc' : (putRowK enc k (Sort.ahead w m) r 0 dk).heap[r]? = some (.cells (putCells id 0 (flatK enc k dk) c) e (0,0)):=by
  show (w.heap.modify r (onCells (putCells id 0 (flatK enc k dk))))[r]? = _
  rw [Array.getElem?_modify,if_pos rfl,hc]; rfl
 have hoth : ∀ q,q≠r→(putRowK enc k (Sort.ahead w m) r 0 dk).heap[q]? = w.heap[q]? := fun q hq=>by
  show (w.heap.modify r (onCells (putCells id 0 (flatK enc k dk))))[q]? = _
  rw [Array.getElem?_modify,if_neg (Ne.symm hq)]
 have hrow:rowsC (repO F (Sort.ahead w m) ν p) (putCells id 0 (flatK enc k dk) c) k (dk.toList.map fun x=>rowV (enc x)) 0:=by
  refine rowsC_iff.2 fun i row hrow=>?_
  rw [List.getElem?_map,Option.map_eq_some_iff] at hrow
  obtain ⟨x,hx,rfl⟩:=hrow
  refine ⟨by rw [rowV,List.length_map,hk],fun j v hj=>?_⟩
  rw [rowV,List.getElem?_map,Option.map_eq_some_iff] at hj
  obtain ⟨y,hy,rfl⟩:=hj
  have hjk:j<k:=by rw [← hk x]; exact (List.getElem?_eq_some_iff.1 hy).1
  obtain ⟨f1,f2⟩:=flat_get hk dk.toList hx hjk
  rw [Array.toArray_toList] at f1
  rw [Array.length_toList,hs] at f2
  have hy' : (enc x)[j]! = y:=by
   rw [getElem!_pos _ j (by rw [hk]; exact hjk)]
   exact (List.getElem?_eq_some_iff.1 hy).2
  refine ⟨y,?_,h1 x y (List.mem_of_getElem? hy),?_⟩
  ·rw [Nat.zero_add]
   simp only [putCells,Array.getElem?_mapIdx]
   rw [Array.getElem?_eq_getElem (show i * k+j<c.size by rw [← g2] at hn; omega)]
   simp only [Option.map_some,Nat.zero_le,true_and,Nat.zero_add,hsz,f2,if_true,Nat.sub_zero,id,f1,hy']
  ·unfold repO
   split <;> simp [ri,rep]
 have hcp:(putCells id 0 (flatK enc k dk) c).size=c.size:=by simp [putCells]
 obtain ⟨k2,e2⟩:=heap_set (w' := putRowK enc k (Sort.ahead w m) r 0 dk) (es:=l.map fun x=>rowV (enc x)) (es' := dk.toList.map fun x=>rowV (enc x)) (p:=p) k1 hget rfl (by rw [List.length_map,g2]; exact hat) (by simp [hs]) hc hc' hcp hoth (by show (w.heap.modify _ _).size=_; rw [Array.size_modify]; rfl) rfl rfl rfl (by rw [List.length_map,g2]; exact hn) hrow (Nat.le_refl _)
 obtain ⟨k3,e3⟩:=heap_growA (w' := sortWorldK enc k w r 0 m dk os) k2 rfl
 refine ⟨k3,(e1.trans e2).trans e3,fun q hq hlt=>?_⟩
 show ((putRowK enc k (Sort.ahead w m) r 0 dk).heap++os)[q]? = _
 rw [Array.getElem?_append_left (by show q<(w.heap.modify _ _).size; rw [Array.size_modify]; exact hlt),hoth q hq]
end
section
variable {ν:Nu} {F:Nat→Prop} {h:Hp} {w w' : World} {α:Type} [Inhabited α]
theorem repL_raws {vs:List Value}:repL F w ν (rowV vs) vs:=by
 induction vs with
 | nil=>simp [rowV,repL]
 | cons a t ih=>simp only [rowV,List.map_cons,repL] at ih ⊢; exact ⟨a,t,rfl,by simp [rep],ih⟩
theorem perm_of {d d' : Array α} (h:PermIn 0 d.size d d'):d'.toList.Perm d.toList:=by
 obtain ⟨h1,_,h3⟩:=h
 have e1:d'.extract 0 d.size=d' := by rw [← h1]; simp
 have e2:d.extract 0 d.size=d:=by simp
 rw [e1,e2] at h3
 exact h3
theorem K_sort {P:Program} {G:Nat→Option (List V)} {ρ:Ren} (L:SlLaysF0.n6 P ρ) {k:Nat} (aE : ∀ w,(isAgg (ρ.t 24)).run P w = .ok true w) (zE : ∀ w,(Go.sizeOf (ρ.t 24)).run P w = .ok k w) {enc:α→List Value} (hk : ∀ x,(enc x).length=k) (h1 : ∀ x, ∀ v∈enc x,v.oneCell' = true) {cf:α→α→Int} (hO:SWO (ltOf cf))
  {g:FuncId} {caps:List V} {h:Hp} {b:Nat} {p:Bool} {l:List α} (hl0:l≠[]) (hlt:l.length<4611686018427387904) (hget:h.get (.p b)=some (.rows k p (l.map fun x=>rowV (enc x))))
  (eg : ∀ args w,(callFunc g args).run P w = .ok (.enter g args) w)
  (hcmp : ∀ l' : List α,l'.length=l.length → ∀ x y,K P G g ([.agg (rowV (enc x)),.agg (rowV (enc y))]++caps) (h.put (.p b) (.rows k p (l'.map fun x=>rowV (enc x)))) (fun b' => !b'.low h.nxt) fun v _=>v = .raw (.int .i64 (cf x y))) (hfs:h.fs=[]) :
  K P G (ρ.f 6) [.sl (.p b) 0 l.length,.fn (.func g) [] caps] h (fun b' => (Id.p b).beq b') fun v h' => v = .tup [] ∧ ∃ l' : List α,l'.Perm l∧(∀ (i j:Nat) (x y:α),i<j→l'[i]? = some x→l'[j]? = some y → ¬ cf y x<0)∧h' = h.put (.p b) (.rows k p (l'.map fun x=>rowV (enc x))):=by
 intro ν F w xs hh hG hl
 simp only [repL,rep] at hl
 obtain ⟨x1,_,rfl,hx1,x2,_,rfl,⟨fa,cs,rfl,has,hcs⟩,rfl⟩:=hl
 obtain ⟨⟨r,k', n'⟩,hat⟩ : ∃ x,ν.at_ (.p b)=some x:=by
  rcases hh.dom _ _ hget with h | ⟨_,s,p', h⟩
  ·exact h
  ·simp at h
   exact (hl0 h.2.2).elim
 obtain ⟨rfl,g2,c,e,hc,hn,hr⟩:=hh.blkR hget hat
 have g2:l.length=n' := by simpa using g2
 obtain ⟨-, cap,hcap,⟨o,ho,rfl⟩, -⟩:=hx1.2 _ _ _ hat
 have ho:o=0:=by
  rcases ho with ho | ho
  ·simpa using ho
  ·exact absurd rfl ho.2
 subst ho
 have has:fa = #[]:=by
  have:fa.toList=[]:=by simpa [repL] using has
  exact Array.toList_eq_nil_iff.1 this
 subst has
 have hblk:r<w.heap.size:=hh.at_lt hat
 have key:CmpLays P g cs enc k cf r 0 l.toArray.size w:=by
  intro m os dk hs x y
  have hs:dk.size=l.length:=by simpa using hs
  obtain ⟨q1,q2,_⟩:=sort_world (enc:=enc) hk h1 hh hget hat m dk os hs
  have hG' : GlobOK G F (sortWorldK enc k w r 0 m dk os):=fun g cs hg=>HeapOK.riEvo hh q2 (hG g cs hg)
  have hargs:repL F (sortWorldK enc k w r 0 m dk os) ν ([.agg (rowV (enc x)),.agg (rowV (enc y))]++caps) ([.agg (enc x).toArray,.agg (enc y).toArray]++cs.toList):=by
   simp only [List.cons_append,List.nil_append,repL,rep]
   exact ⟨_,_,rfl,⟨_,rfl,by simpa using repL_raws⟩,_,_,rfl,⟨_,rfl,by simpa using repL_raws⟩,repL_evo hh q2 _ _ hcs⟩
  have:=hcmp dk.toList (by simpa using hs) x y ν F _ _ q1 hG' hargs
  have harr:([.agg (enc x).toArray,.agg (enc y).toArray]++cs.toList:List Value).toArray = #[.agg (enc x).toArray,.agg (enc y).toArray]++cs:=by simp
  rw [harr] at this
  refine this.mono fun e' w' ⟨v,u,ν', F', h', z1,z2,z3,z4,z5,z6⟩=>?_
  subst z1; subst z2
  have hv:v = .int .i64 (cf x y):=by simpa [rep] using z4
  refine ⟨by rw [hv],world_grow z5.os z5.tape z5.output z5.drawn z5.size fun q hq=>?_⟩
  by_cases ho:ν.own q
  ·obtain ⟨b', s', n'', hb'⟩:=ho
   refine (z6 b' _ hb' ?_).1
   have hlt:=ν.lt _ _ hb'
   cases b' with
   | p a =>
    have:a<h.nxt:=by have h2:a<ν.nxt:=hlt; rw [hh.nxt] at h2; exact h2
    show (!Nat.blt a h.nxt)=false
    rw [show Nat.blt a h.nxt=true from Nat.ble_eq_true_of_le this]; rfl
   | m B j =>
    have h2:j<ν.cnt B:=hlt
    rw [hh.cnt B,hfs] at h2
    exact absurd h2 (Nat.not_lt_zero _)
  ·exact z5.old q hq ho
 have hH:HoldsK enc k w r 0 l.toArray:=holds_of hk hc hr
 have main:=AnyQ.slices_SortFunc L k aE zE enc hk h1 cf hO g cs r 0 cap l.toArray w eg key hH hblk (by simpa using hlt)
 refine main.mono fun e' w' ⟨he,d', n,os,hp,hs,hw⟩=>?_
 subst he; subst hw
 have hsz:d'.size=l.length:=by simpa using hp.1
 obtain ⟨q1,q2,q3⟩:=sort_world (enc:=enc) hk h1 hh hget hat n d' os hsz
 refine ⟨.tuple #[],.tup [],ν,F,_,rfl,⟨rfl,d'.toList,by simpa using perm_of hp,fun i j x y hij hx hy=>?_,rfl⟩,q1,by simp [rep,repL],q2,fun b' y hy hb' => ⟨?_,hy⟩⟩
 ·have hj:j<l.length:=by rw [← hsz]; simpa using (List.getElem?_eq_some_iff.1 hy).1
  have:=hs i j (Nat.zero_le _) hij (by simpa using hj)
  have e1:d'[i]! = x:=by
   rw [getElem!_pos d' i (by omega)]
   have:=(List.getElem?_eq_some_iff.1 hx).2
   simpa using this
  have e2:d'[j]! = y:=by
   rw [getElem!_pos d' j (by omega)]
   have:=(List.getElem?_eq_some_iff.1 hy).2
   simpa using this
  rw [e1,e2] at this
  unfold ltOf at this
  exact of_decide_eq_false this
 ·obtain ⟨r', s', n''⟩:=y
  refine q3 r' (fun he=>?_) (hh.at_lt hy)
  subst he
  have:=hh.inj b' _ _ _ _ _ _ hy hat
  subst this
  simp at hb'
end
end Go.Proofs.YtbionhgjgcpogaaGreatDoor.Clean
namespace Go.Proofs.YtbionhgjgcpogaaGreatDoor
open Go Go.Proofs.YtbionhgjgcpogaaGreatDoor.Clean
set_option linter.unusedVariables false
set_option linter.unusedSimpArgs false
set_option linter.unusedSectionVars false
set_option maxRecDepth 10000
section
variable {K:Type} [DecidableEq K]
def upd:List (K×Int)→K→Int→List (K×Int)
 | [],c,y=>[(c,y)]
 | (k,n)::T,c,y=>if k=c then (k,n+y)::T else (k,n)::upd T c y
def getv:List (K×Int)→K→Int
 | [],_=>0
 | (k,n)::T,c=>if k=c then n else getv T c
def entG (kv:K→V) (t:K×Int):V×V:=(kv t.1,iv t.2)
theorem upd_keys (T:List (K×Int)) (c:K) (y:Int):(upd T c y).map (·.1)=if c∈T.map (·.1) then T.map (·.1) else T.map (·.1)++[c]:=by
 induction T with
 | nil=>simp [upd]
 | cons t T ih =>
  obtain ⟨k,n⟩:=t
  unfold upd
  by_cases h:k=c
  ·simp [h]
  ·rw [if_neg h,List.map_cons,ih]
   simp only [List.map_cons,List.mem_cons]
   by_cases hm:c∈T.map (·.1)
   ·rw [if_pos hm,if_pos (.inr hm)]
   ·rw [if_neg hm,if_neg (by intro q; rcases q with q | q; exact h q.symm; exact hm q)]; rfl
theorem upd_nodup {T:List (K×Int)} (h:(T.map (·.1)).Nodup) (c:K) (y:Int):((upd T c y).map (·.1)).Nodup:=by
 rw [upd_keys]
 split
 ·exact h
 ·rename_i hc
  rw [List.nodup_append]
  exact ⟨h,by simp,fun a ha b hb=>by simp at hb; subst hb; intro e; subst e; exact hc ha⟩
theorem getv_upd (T:List (K×Int)) (c d:K) (y:Int):getv (upd T c y) d=getv T d+if c=d then y else 0:=by
 induction T with
 | nil=>by_cases h:c=d <;> simp [upd,getv,h]
 | cons t T ih =>
  obtain ⟨k,n⟩:=t
  unfold upd
  by_cases h:k=c
  ·rw [if_pos h]
   by_cases e:k=d
   ·simp [getv,e,← h]
   ·simp [getv,e,← h]
  ·rw [if_neg h]
   by_cases e:k=d
   ·simp only [getv,e,if_true]
    rw [if_neg (fun q=>h (e.trans q.symm))]; omega
   ·simp only [getv,if_neg e]; exact ih
theorem getv_not {T:List (K×Int)} {c:K} (h : ¬ c∈T.map (·.1)):getv T c=0:=by
 induction T with
 | nil=>rfl
 | cons t T ih =>
  obtain ⟨k,n⟩:=t
  simp only [List.map_cons,List.mem_cons,not_or] at h
  simp only [getv]
  rw [if_neg (fun e=>h.1 e.symm)]
  exact ih h.2
theorem upd_new {T:List (K×Int)} {c:K} {y:Int} (h : ¬ c∈T.map (·.1)):upd T c y=T++[(c,y)]:=by
 induction T with
 | nil=>rfl
 | cons t T ih =>
  obtain ⟨k,n⟩:=t
  simp only [List.map_cons,List.mem_cons,not_or] at h
  simp only [upd]
  rw [if_neg (fun e=>h.1 e.symm),ih h.2]
  rfl
theorem get_of {T:List (K×Int)} {c:K} (h:c∈T.map (·.1)) : ∃ j:Nat,T[j]? = some (c,getv T c) ∧ ∀ y,upd T c y=T.set j (c,getv T c+y):=by
 induction T with
 | nil=>simp at h
 | cons t T ih =>
  obtain ⟨k,n⟩:=t
  by_cases e:k=c
  ·subst e
   exact ⟨0,by simp [getv],fun y=>by simp [upd,getv]⟩
  ·simp only [List.map_cons,List.mem_cons] at h
   rcases h with h | h
   ·exact (e h.symm).elim
   ·obtain ⟨j,h1,h2⟩:=ih h
    refine ⟨j+1,by simp only [getv,if_neg e]; simpa using h1,fun y=>?_⟩
    simp only [upd,getv,if_neg e,h2 y,List.set_cons_succ]
structure KeyOK (P:Program) (kt:TypeId) (kv:K→V):Prop where
 eq : ∀ c d, ∃ b,eqC P 8 kt (kv c) (kv d)=some b∧(b=true↔c=d)
 same : ∀ c,sameC (kv c) (kv c)=true
variable {P:Program} {kt:TypeId} {kv:K→V}
theorem findG (hk:KeyOK P kt kv) {c:K} : ∀ {T:List (K×Int)} {j:Nat} {n:Int} (i:Nat),(T.map (·.1)).Nodup→T[j]? = some (c,n)→findK P kt (kv c) (T.map (entG kv)) i=some (some (i+j,kv c,iv n))
 | [],j,n,i,_,h=>by simp at h
 | (k,m)::T,j,n,i,hn,h=>by
  obtain ⟨b,hb,hbt⟩:=hk.eq c k
  have hstep:findK P kt (kv c) (((k,m)::T).map (entG kv)) i=bif b then some (some (i,kv k,iv m)) else findK P kt (kv c) (T.map (entG kv)) (i+1):=by
   show (eqC P 8 kt (kv c) (kv k)).bind _=_
   rw [hb]
   rfl
  rw [hstep]
  simp only [List.map_cons,List.nodup_cons] at hn
  cases j with
  | zero =>
   simp only [List.getElem?_cons_zero,Option.some.injEq,Prod.mk.injEq] at h
   obtain ⟨rfl,rfl⟩:=h
   rw [hbt.2 rfl]
   rfl
  | succ j =>
   simp only [List.getElem?_cons_succ] at h
   have hne : ¬ c=k:=fun e=>hn.1 (e ▸ List.mem_map.2 ⟨(c,n),List.mem_of_getElem? h,rfl⟩)
   cases b with
   | true=>exact (hne (hbt.1 rfl)).elim
   | false =>
    rw [cond_false,findG hk (i+1) hn.2 h,Nat.add_assoc,Nat.add_comm 1 j]
theorem findN (hk:KeyOK P kt kv) {c:K} : ∀ {T:List (K×Int)} (i:Nat), ¬ c∈T.map (·.1)→findK P kt (kv c) (T.map (entG kv)) i=some none
 | [],i,_=>rfl
 | (k,m)::T,i,h=>by
  simp only [List.map_cons,List.mem_cons,not_or] at h
  obtain ⟨b,hb,hbt⟩:=hk.eq c k
  have hstep:findK P kt (kv c) (((k,m)::T).map (entG kv)) i=bif b then some (some (i,kv k,iv m)) else findK P kt (kv c) (T.map (entG kv)) (i+1):=by
   show (eqC P 8 kt (kv c) (kv k)).bind _=_
   rw [hb]
   rfl
  rw [hstep]
  cases b with
  | true=>exact (h.1 (hbt.1 rfl)).elim
  | false=>exact findN hk (i+1) h.2
theorem onFind_at {o:Option (Option (Nat×V×V))} {i:Nat} {k v:V} {p:Nat→V→V→Prop} {q:Prop} (h:o=some (some (i,k,v))) (hp:p i k v):onFind o p q:=by subst h; exact hp
theorem onFind_no {o:Option (Option (Nat×V×V))} {p:Nat→V→V→Prop} {q:Prop} (h:o=some none) (hq:q):onFind o p q:=by subst h; exact hq
theorem onFind_look (hk:KeyOK P kt kv) {T:List (K×Int)} (hT:(T.map (·.1)).Nodup) {c:K} {p:Int→Prop} (h:p (getv T c)):onFind (findK P kt (kv c) (T.map (entG kv)) 0) (fun _ _ v=>onIntK .i64 v p) (p 0):=by
 by_cases hm:c∈T.map (·.1)
 ·obtain ⟨j,h1,_⟩:=get_of hm
  exact onFind_at (findG hk 0 hT h1) h
 ·rw [getv_not hm] at h
  exact onFind_no (findN hk 0 hm) h
theorem map_ent_set (T:List (K×Int)) (j:Nat) (t:K×Int):(T.map (entG kv)).set j (entG kv t)=(T.set j t).map (entG kv):=by rw [List.map_set]
theorem cnt_add (hk:KeyOK P kt kv) {T:List (K×Int)} (hT:(T.map (·.1)).Nodup) {c:K} {M:(Int→Prop)→Prop} {F:List (V×V)→Prop} {y:Int} (hM : ∀ k:Int→Prop,k y→M k)
  (hw:IntKind.i64.wrap (getv T c+y)=getv T c+y) (hF:F ((upd T c y).map (entG kv))):onFind (findK P kt (kv c) (T.map (entG kv)) 0)
   (fun _ _ v=>onIntK .i64 v fun n=>M fun y=>onFind (findK P kt (kv c) (T.map (entG kv)) 0)
    (fun i k' v=>guardB (sameC k' (kv c)) (onIntK .i64 v fun n2=>onFind (findK P kt (kv c) ((T.map (entG kv)).set i (kv c,iv n2)) 0)
     (fun _ _ v=>onIntK .i64 v fun n3=>need (n=n3) (onSome ((T.map (entG kv)).set i (kv c,iv n2))[i]? fun e=>F (((T.map (entG kv)).set i (kv c,iv n2)).set i (e.1,iv (IntKind.i64.wrap (n+y))))))
     (need (n=0) (onSome ((T.map (entG kv)).set i (kv c,iv n2))[i]? fun e=>F (((T.map (entG kv)).set i (kv c,iv n2)).set i (e.1,iv (IntKind.i64.wrap (n+y))))))))
    (onFind (findK P kt (kv c) (T.map (entG kv)++[(kv c,iv 0)]) 0)
     (fun _ _ v=>onIntK .i64 v fun n3=>need (n=n3) (onSome (T.map (entG kv)++[(kv c,iv 0)])[(T.map (entG kv)).length]? fun e=>F ((T.map (entG kv)++[(kv c,iv 0)]).set (T.map (entG kv)).length (e.1,iv (IntKind.i64.wrap (n+y))))))
     (need (n=0) (onSome (T.map (entG kv)++[(kv c,iv 0)])[(T.map (entG kv)).length]? fun e=>F ((T.map (entG kv)++[(kv c,iv 0)]).set (T.map (entG kv)).length (e.1,iv (IntKind.i64.wrap (n+y))))))))
   (M fun y=>onFind (findK P kt (kv c) (T.map (entG kv)) 0)
    (fun i k' v=>guardB (sameC k' (kv c)) (onIntK .i64 v fun n2=>onFind (findK P kt (kv c) ((T.map (entG kv)).set i (kv c,iv n2)) 0)
     (fun _ _ v=>onIntK .i64 v fun n3=>need ((0:Int)=n3) (onSome ((T.map (entG kv)).set i (kv c,iv n2))[i]? fun e=>F (((T.map (entG kv)).set i (kv c,iv n2)).set i (e.1,iv (IntKind.i64.wrap ((0:Int)+y))))))
     (onSome ((T.map (entG kv)).set i (kv c,iv n2))[i]? fun e=>F (((T.map (entG kv)).set i (kv c,iv n2)).set i (e.1,iv (IntKind.i64.wrap ((0:Int)+y)))))))
    (onFind (findK P kt (kv c) (T.map (entG kv)++[(kv c,iv 0)]) 0)
     (fun _ _ v=>onIntK .i64 v fun n3=>need ((0:Int)=n3) (onSome (T.map (entG kv)++[(kv c,iv 0)])[(T.map (entG kv)).length]? fun e=>F ((T.map (entG kv)++[(kv c,iv 0)]).set (T.map (entG kv)).length (e.1,iv (IntKind.i64.wrap ((0:Int)+y))))))
     (onSome (T.map (entG kv)++[(kv c,iv 0)])[(T.map (entG kv)).length]? fun e=>F ((T.map (entG kv)++[(kv c,iv 0)]).set (T.map (entG kv)).length (e.1,iv (IntKind.i64.wrap ((0:Int)+y))))))):=by
 by_cases hm:c∈T.map (·.1)
 ·obtain ⟨j,h1,h2⟩:=get_of hm
  have hf:=findG hk 0 hT h1
  rw [Nat.zero_add] at hf
  have hj:j<T.length:=(List.getElem?_eq_some_iff.1 h1).1
  have hset:(T.map (entG kv)).set j (kv c,iv (getv T c))=T.map (entG kv):=by
   rw [show (kv c,iv (getv T c))=entG kv (c,getv T c) from rfl,map_ent_set]
   congr 1
   refine List.ext_getElem? fun i=>?_
   rw [List.getElem?_set]
   split
   ·rename_i e; subst e; rw [h1]
   ·rfl
  refine onFind_at hf (hM _ (onFind_at hf (guardB_mk (hk.same c) ?_)))
  show onFind _ _ _
  rw [hset]
  refine onFind_at hf ?_
  refine need_mk ⟨rfl,onSome_mk (x:=entG kv (c,getv T c)) (by rw [List.getElem?_map,h1]; rfl) ?_⟩
  rw [hw]
  refine (congrArg F ?_).mp hF
  rw [h2,← map_ent_set]
  rfl
 ·have hf:=findN hk 0 hm
  rw [getv_not hm] at hw
  refine onFind_no hf (hM _ (onFind_no hf ?_))
  have hT2:((T++[(c,(0:Int))]).map (·.1)).Nodup:=by
   have:=upd_nodup hT c 0
   rw [upd_new hm] at this
   exact this
  have hf2:findK P kt (kv c) (T.map (entG kv)++[(kv c,iv 0)]) 0=some (some (T.length,kv c,iv 0)):=by
   have:=findG hk (T:=T++[(c,0)]) (j:=T.length) (n:=0) (c:=c) 0 hT2 (by simp)
   rw [Nat.zero_add,List.map_append] at this
   exact this
  refine onFind_at hf2 ?_
  show need ((0:Int)=0) (onSome _ _)
  refine need_mk ⟨rfl,onSome_mk (x:=entG kv (c,0)) ?_ ?_⟩
  ·rw [List.getElem?_append_right (Nat.le_refl _),Nat.sub_self]; rfl
  rw [hw,List.length_map]
  refine (congrArg F ?_).mp hF
  rw [upd_new hm,List.map_append,List.set_append_right _ _ (by rw [List.length_map]; omega),List.length_map,Nat.sub_self]
  simp [entG]
def addP (P : Program) (kt : TypeId) (key : V) (es : List (V × V)) (y : Int) (F : List (V × V) → Prop) : Prop := onFind (findK P kt key es 0)
   (fun _ _ v=>onIntK .i64 v fun n=>onFind (findK P kt key es 0)
    (fun i k' v=>guardB (sameC k' key) (onIntK .i64 v fun n2=>onFind (findK P kt key (es.set i (key,iv n2)) 0)
     (fun _ _ v=>onIntK .i64 v fun n3=>need (n=n3) (onSome (es.set i (key,iv n2))[i]? fun e=>F ((es.set i (key,iv n2)).set i (e.1,iv (IntKind.i64.wrap (n+y))))))
     (need (n=0) (onSome (es.set i (key,iv n2))[i]? fun e=>F ((es.set i (key,iv n2)).set i (e.1,iv (IntKind.i64.wrap (n+y))))))))
    (onFind (findK P kt key (es++[(key,iv 0)]) 0)
     (fun _ _ v=>onIntK .i64 v fun n3=>need (n=n3) (onSome (es++[(key,iv 0)])[es.length]? fun e=>F ((es++[(key,iv 0)]).set es.length (e.1,iv (IntKind.i64.wrap (n+y))))))
     (need (n=0) (onSome (es++[(key,iv 0)])[es.length]? fun e=>F ((es++[(key,iv 0)]).set es.length (e.1,iv (IntKind.i64.wrap (n+y))))))))
   (onFind (findK P kt key es 0)
    (fun i k' v=>guardB (sameC k' key) (onIntK .i64 v fun n2=>onFind (findK P kt key (es.set i (key,iv n2)) 0)
     (fun _ _ v=>onIntK .i64 v fun n3=>need ((0:Int)=n3) (onSome (es.set i (key,iv n2))[i]? fun e=>F ((es.set i (key,iv n2)).set i (e.1,iv (IntKind.i64.wrap ((0:Int)+y))))))
     (onSome (es.set i (key,iv n2))[i]? fun e=>F ((es.set i (key,iv n2)).set i (e.1,iv (IntKind.i64.wrap ((0:Int)+y)))))))
    (onFind (findK P kt key (es++[(key,iv 0)]) 0)
     (fun _ _ v=>onIntK .i64 v fun n3=>need ((0:Int)=n3) (onSome (es++[(key,iv 0)])[es.length]? fun e=>F ((es++[(key,iv 0)]).set es.length (e.1,iv (IntKind.i64.wrap ((0:Int)+y))))))
     (onSome (es++[(key,iv 0)])[es.length]? fun e=>F ((es++[(key,iv 0)]).set es.length (e.1,iv (IntKind.i64.wrap ((0:Int)+y)))))))
theorem addP_mk (hk:KeyOK P kt kv) {T:List (K×Int)} (hT:(T.map (·.1)).Nodup) {c:K} {F:List (V×V)→Prop} {y:Int}
  (hw:IntKind.i64.wrap (getv T c+y)=getv T c+y) (hF:F ((upd T c y).map (entG kv))):addP P kt (kv c) (T.map (entG kv)) y F:=cnt_add hk hT (M:=fun k=>k y) (fun k h=>h) hw hF
def cntL (D:List K):List (K×Int):=D.foldl (fun T c=>upd T c 1) []
theorem cntL_app (D:List K) (c:K):cntL (D++[c])=upd (cntL D) c 1:=by unfold cntL; rw [List.foldl_append]; rfl
theorem cntF : ∀ (D:List K) (T:List (K×Int)),(T.map (·.1)).Nodup→((D.foldl (fun T c=>upd T c 1) T).map (·.1)).Nodup ∧ ∀ c,getv (D.foldl (fun T c=>upd T c 1) T) c=getv T c+(D.count c:Int)
 | [],T,h=>⟨h,fun c=>by simp⟩
 | d::D,T,h=>by
  obtain ⟨h1,h2⟩:=cntF D (upd T d 1) (upd_nodup h d 1)
  refine ⟨h1,fun c=>?_⟩
  have:=h2 c
  rw [List.foldl_cons,this,getv_upd,List.count_cons]
  by_cases e:d=c <;> simp [e] <;> omega
theorem cntL_ok (D:List K):((cntL D).map (·.1)).Nodup ∧ ∀ c,getv (cntL D) c=(D.count c:Int):=by
 obtain ⟨h1,h2⟩:=cntF D [] (by simp)
 exact ⟨h1,fun c=>by rw [cntL,h2]; simp [getv]⟩
theorem getv_of : ∀ {T:List (K×Int)} {c:K} {n:Int},(T.map (·.1)).Nodup→(c,n)∈T→getv T c=n
 | (k,m)::T,c,n,h,hm=>by
  simp only [List.map_cons,List.nodup_cons] at h
  simp only [getv]
  rcases List.mem_cons.1 hm with e | hm
  ·rw [Prod.mk.injEq] at e
   rw [if_pos e.1.symm,e.2]
  ·rw [if_neg (fun (e:k=c)=>h.1 (e ▸ List.mem_map.2 ⟨(c,n),hm,rfl⟩))]
   exact getv_of h.2 hm
theorem count_one {D:List K} (h:D.Nodup) (c:K):D.count c≤1:=by
 induction D with
 | nil=>simp
 | cons d D ih =>
  rw [List.nodup_cons] at h
  rw [List.count_cons]
  by_cases e:d=c
  ·subst e
   rw [List.count_eq_zero.2 h.1]; simp
  ·simp [e,ih h.2]
theorem cntL_fct (D:List K) (c:K):0≤getv (cntL D) c∧getv (cntL D) c≤(D.length:Int)∧(c∈D→1≤getv (cntL D) c)∧(¬ c∈D→getv (cntL D) c=0)∧(D.Nodup→getv (cntL D) c≤1):=by
 rw [(cntL_ok D).2 c]
 refine ⟨by omega,?_,fun h=>?_,fun h=>?_,fun h=>?_⟩
 ·have:=List.count_le_length (a:=c) (l:=D); omega
 ·have:=List.count_pos_iff.2 h; omega
 ·rw [List.count_eq_zero.2 h]; rfl
 ·have:=count_one h c; omega
theorem nodup_app {D:List K} {c:K}:(D++[c]).Nodup↔D.Nodup ∧ ¬ c∈D:=by
 rw [List.nodup_append]
 constructor
 ·rintro ⟨h1,_,h3⟩
  exact ⟨h1,fun hm=>h3 c hm c (by simp) rfl⟩
 ·rintro ⟨h1,h2⟩
  exact ⟨h1,by simp,fun a ha b hb e=>by simp at hb; subst hb; subst e; exact h2 ha⟩
theorem nodup_lt : ∀ {n:Nat} {L:List Nat},L.Nodup→(∀ x∈L,x<n)→L.length≤n
 | 0,L,_,h=>by
  cases L with
  | nil=>simp
  | cons x L=>have:=h x (by simp); omega
 | n+1,L,hn,h=>by
  have h1:=nodup_lt (n:=n) (hn.erase n) (fun j hj=>by
   have:=h j (List.mem_of_mem_erase hj)
   have hne:j≠n:=fun he=>by subst he; exact (List.Nodup.not_mem_erase hn) hj
   omega)
  by_cases hm:n∈L
  ·have:=List.length_erase_of_mem hm
   omega
  ·rw [List.erase_of_not_mem hm] at h1
   omega
theorem onNext_mk {n:Nat} {seen:List Nat} {p:Prop} {q:Nat→Prop} (hp:p) (hq : ∀ i,i<n → ¬ i∈seen→q i):onNext n seen p q:=by
 have key : ∀ l:List Nat,(∀ i∈l,q i)→allIn l q:=by
  intro l
  induction l with
  | nil=>intro _; exact trivial
  | cons a l ih=>intro h; exact ⟨h a (by simp),ih fun i hi=>h i (by simp [hi])⟩
 have hl : ∀ i∈leftN n seen,q i:=fun i hi=>by
  simp only [leftN,List.mem_filter,List.mem_range,Bool.not_eq_true', List.any_eq_false] at hi
  refine hq i hi.1 (fun hm=>?_)
  have:=hi.2 i hm
  simp at this
 unfold onNext
 split
 ·exact hp
 ·exact key _ hl
theorem closed_ent (hc : ∀ c,(kv c).closed=true) (T:List (K×Int)):(T.map (entG kv)).all closedE=true:=by
 rw [List.all_eq_true]
 intro e he
 obtain ⟨t,_,rfl⟩:=List.mem_map.1 he
 simp [closedE,entG,hc,iv,V.closed]
end
end Go.Proofs.YtbionhgjgcpogaaGreatDoor
namespace Go.Proofs.YtbionhgjgcpogaaGreatDoor
open Go Go.Proofs.YtbionhgjgcpogaaGreatDoor.Clean
set_option linter.unusedVariables false
set_option maxRecDepth 100000
def stepC:List V:=[iv 1,iv 0,iv 0,iv (-1),iv 0,iv 0,iv 0,iv 1,iv 0,iv 0,iv (-1),iv 0,iv 0,iv 0,iv 1,iv 0,iv 0,iv (-1)]
def glX:Nat→Option (List V):=fun g=>match g with | 0=>some stepC | _=>none
theorem hmX:Tryz.prog.follows .mixedOrders=true:=by kernel_rfl
def u8 (n:Int):V := .raw (.int .u8 n)
abbrev Cl:=Int×Int×Int
def clr (c:Cl):List V:=[iv c.1,iv c.2.1,iv c.2.2]
def cll (l:List Cl):List (List V):=l.map clr
abbrev Kn:=Cl×Int×Int
def knr (k:Kn):List V:=[iv k.1.1,iv k.1.2.1,iv k.1.2.2,u8 k.2.1,u8 k.2.2]
def knl (l:List Kn):List (List V):=l.map knr
abbrev Kd:=List Cl×List Kn×Int
def kdr (k:Kd):List V:=[.lst 3 (cll k.1),.lst 5 (knl k.2.1),iv k.2.2]
def kdl (l:List Kd):List (List V):=l.map kdr
abbrev Bk:=Int×Cl×Int×Int
def bkr (b:Bk):List V:=[iv b.1,iv b.2.1.1,iv b.2.1.2.1,iv b.2.1.2.2,u8 b.2.2.1,u8 b.2.2.2]
def bkl (l:List Bk):List (List V):=l.map bkr
def moZ (f:FuncId):Nat:=0
def tyZ (f:FuncId):Option TypeId:=none
def kpZ:FuncId→Nat→Option (List Tmp):=slotsOf [(50,0,[0,9,10,11]),(51,0,[0,1,10,11,12]),(16,0,[9,10,11]),(143,0,[0,3,7,8]),(12,0,[0,5]),(53,0,[1,3]),(93,0,[1,3]),(17,0,[0,3]),(42,0,[0,3,5]),(23,0,[0,1,5]),(20,0,[0,1,5])]
noncomputable def cfC:Cfg:=cfgM Tryz.prog glX moZ tyZ (inN [136,144]) kpZ
noncomputable def cfZ:Cfg:=cfgM Tryz.prog glX moZ tyZ (inN [108,97]) kpZ
noncomputable def sh143 (l:List Cl) (c:Cl) (k:Nat):St:=⟨mkT [(0,V.lst 3 (cll l)),(3,V.ptr (Id.p 0) 0 0),(7,iv ((cll l).length:Int)),(8,iv (k:Int))],⟨[(0,O.rows 3 false [clr c])],1,[]⟩⟩
noncomputable def sh50 (l:List Cl) (k:Nat):St:=⟨mkT [(0,V.lst 3 (cll l)),(9,V.lst 3 (cll l)),(10,iv ((cll l).length:Int)),(11,iv (k:Int))],⟨[],0,[]⟩⟩
noncomputable def sh51 (l:List Kn) (cs:List Cl) (k:Nat):St:=⟨mkT [(0,V.lst 5 (knl l)),(1,V.lst 3 (cll cs)),(10,V.lst 5 (knl l)),(11,iv ((knl l).length:Int)),(12,iv (k:Int))],⟨[],0,[]⟩⟩
noncomputable def sh16 (l:List Kd) (k:Nat):St:=⟨mkT [(9,V.lst 3 (kdl l)),(10,iv ((kdl l).length:Int)),(11,iv (k:Int))],⟨[],0,[]⟩⟩
noncomputable def sh12 (l:List Kd) (k:Nat):St:=⟨mkT [(0,V.lst 3 (kdl l)),(5,iv (k:Int))],⟨[],0,[]⟩⟩
set_option linter.unusedSimpArgs false
set_option maxRecDepth 10000
theorem hcC:cfC.ok Tryz.prog:=cfgM_ok
theorem hcZ:cfZ.ok Tryz.prog:=cfgM_ok
theorem ifB_t {b:Bool} {p q:Prop} (hb:b=true) (h:p):ifB b p q:=by subst hb; exact h
theorem ifB_f {b:Bool} {p q:Prop} (hb:b=false) (h:q):ifB b p q:=by subst hb; exact h
theorem hJ' {J:St→Prop} {s s' : St} (he:s=s') (h:J s'):J s:=he ▸ h
theorem cll_length (l:List Cl):(cll l).length=l.length:=by simp [cll]
theorem knl_length (l:List Kn):(knl l).length=l.length:=by simp [knl]
theorem kdl_length (l:List Kd):(kdl l).length=l.length:=by simp [kdl]
theorem bkl_length (l:List Bk):(bkl l).length=l.length:=by simp [bkl]
theorem wr1i {i n:Nat} (h:i<n) (hn:(n:Int)≤9223372036854775807):IntKind.i64.wrap ((i:Int)+1)=((i+1:Nat):Int):=by rw [wr (by omega) (by omega)]; simp
theorem getI {α:Type} {l:List α} {k:Nat} (h:k<l.length) : ∃ x,l[k]? = some x:=⟨l[k],by simp [h]⟩
noncomputable def dc (p:Prop):Bool:=@decide p (Classical.propDecidable p)
theorem dc_t {p:Prop} (h:p):dc p=true:=by simp [dc,h]
theorem dc_f {p:Prop} (h : ¬ p):dc p=false:=by simp [dc,h]
theorem dc_iff {p q:Prop} (h:p↔q):dc p=dc q:=by rw [propext h]
theorem dc_true {p:Prop} (h:dc p=true):p:=by simpa [dc] using h
theorem dc_false {p:Prop} (h:dc p=false) : ¬ p:=by simpa [dc] using h
theorem rt {p:Prop} {R:V→Prop} (h:R (bv (dc p))) (hp:p):R (bv true):=by rw [dc_t hp] at h; exact h
theorem rf {p:Prop} {R:V→Prop} (h:R (bv (dc p))) (hp : ¬ p):R (bv false):=by rw [dc_f hp] at h; exact h
theorem rb {p:Prop} {b:Bool} {R:V→Prop} (h:R (bv (dc p))) (hb:b=true↔p):R (bv b):=by
 cases b with
 | true=>exact rt h (hb.1 rfl)
 | false=>exact rf h (fun hp=>by cases hb.2 hp)
theorem take_succ' {α:Type} {l:List α} {k:Nat} {x:α} (h:l[k]? = some x):l.take (k+1)=l.take k++[x]:=by rw [List.take_add_one,h]; rfl
theorem all_take {α:Type} {l:List α} {k:Nat} {x:α} {P:α→Prop} (h:l[k]? = some x) (h1 : ∀ y∈l.take k,P y) (h2:P x) : ∀ y∈l.take (k+1),P y:=by
 rw [take_succ' h]
 intro y hy
 rcases List.mem_append.1 hy with hy | hy
 ·exact h1 y hy
 ·rw [List.mem_singleton.1 hy]; exact h2
theorem all_all {α:Type} {l:List α} {k:Nat} {P:α→Prop} (hk:l.length≤k) (h1 : ∀ y∈l.take k,P y) : ∀ y∈l,P y:=by rw [List.take_of_length_le hk] at h1; exact h1
theorem mem_at {α:Type} {l:List α} {k:Nat} {x:α} (h:l[k]? = some x):x∈l:=List.mem_of_getElem? h
theorem pw_take {α:Type} {r:α→α→Prop} (tr : ∀ a b c,r a b→r b c→r a c) {l:List α} {k:Nat} {x:α} (hx:l[k]? = some x) (h:(l.take k).Pairwise r) (hp:k=0 ∨ ∃ y,l[k - 1]? = some y∧r y x):(l.take (k+1)).Pairwise r:=by
 rw [take_succ' hx,List.pairwise_append]
 refine ⟨h,by simp,fun a ha b hb=>?_⟩
 rw [List.mem_singleton.1 hb]
 rcases hp with hp | ⟨y,hy,hr⟩
 ·subst hp; simp at ha
 ·obtain ⟨j,rfl⟩ : ∃ j,k=j+1:=by
   cases k with
   | zero=>simp at ha
   | succ j=>exact ⟨j,rfl⟩
  rw [Nat.add_sub_cancel] at hy
  rw [take_succ' hy,List.pairwise_append] at h
  rw [take_succ' hy] at ha
  rcases List.mem_append.1 ha with ha | ha
  ·exact tr a y x (h.2.2 a ha y (by simp)) hr
  ·rw [List.mem_singleton.1 ha]; exact hr
theorem pw_at {α:Type} {r:α→α→Prop} {l:List α} (h:l.Pairwise r) {k:Nat} {x y:α} (hx:l[k]? = some x) (hy:l[k - 1]? = some y) (hk:0<k):r y x:=by
 have h1:=List.getElem?_eq_some_iff.1 hx
 have h2:=List.getElem?_eq_some_iff.1 hy
 have:=List.pairwise_iff_getElem.1 h (k - 1) k h2.1 h1.1 (by omega)
 rw [h1.2,h2.2] at this
 exact this
def Nr (lo hi:Int) (c:Cl):Prop:=(lo≤c.1∧c.1≤hi)∧(lo≤c.2.1∧c.2.1≤hi)∧lo≤c.2.2∧c.2.2≤hi
def Bef (a b:Cl):Prop:=a.2.2<b.2.2∨a.2.2=b.2.2∧(a.2.1<b.2.1∨a.2.1=b.2.1∧a.1<b.1)
def BefK (a b:Kn):Prop:=Bef a.1 b.1∨a.1=b.1∧a.2.1<b.2.1
theorem cl_ext {a b:Cl} (h1:a.1=b.1) (h2:a.2.1=b.2.1) (h3:a.2.2=b.2.2):a=b:=Prod.ext h1 (Prod.ext h2 h3)
theorem Bef.tr : ∀ a b c:Cl,Bef a b→Bef b c→Bef a c:=fun a b c h1 h2=>by unfold Bef at *; omega
theorem Bef.tot (a b:Cl) (h1 : ¬ Bef a b) (h2 : ¬ Bef b a):a=b:=by unfold Bef at *; exact cl_ext (by omega) (by omega) (by omega)
theorem Bef.irr (a:Cl) : ¬ Bef a a:=by unfold Bef; omega
theorem Bef.asy {a b:Cl} (h1:Bef a b) : ¬ Bef b a:=by unfold Bef at *; omega
theorem BefK.tr : ∀ a b c:Kn,BefK a b→BefK b c→BefK a c:=fun a b c h1 h2=>by
 unfold BefK at *
 rcases h1 with h1 | ⟨e1,h1⟩ <;> rcases h2 with h2 | ⟨e2,h2⟩
 ·exact .inl (Bef.tr _ _ _ h1 h2)
 ·rw [← e2]; exact .inl h1
 ·rw [e1]; exact .inl h2
 ·exact .inr ⟨e1.trans e2,by omega⟩
theorem BefK.irr (a:Kn) : ¬ BefK a a:=by
 rintro (h | ⟨_,h⟩)
 ·exact Bef.irr _ h
 ·omega
def cmpI (x y:Int):Int:=if x<y then -1 else if x > y then 1 else 0
theorem cmpI_lt {x y:Int}:cmpI x y<0↔x<y:=by unfold cmpI; split <;> (try split) <;> omega
theorem cmpI_eq {x y:Int}:cmpI x y=0↔x=y:=by unfold cmpI; split <;> (try split) <;> omega
def cmpC (a b:Cl):Int:=if cmpI a.2.2 b.2.2≠0 then cmpI a.2.2 b.2.2 else if cmpI a.2.1 b.2.1≠0 then cmpI a.2.1 b.2.1 else cmpI a.1 b.1
theorem cmpC_lt {a b:Cl}:cmpC a b<0↔Bef a b:=by
 unfold cmpC Bef
 split
 ·rename_i h
  rw [cmpI_lt]
  have:=(not_congr cmpI_eq).1 h
  omega
 ·rename_i h
  have h:=cmpI_eq.1 (Decidable.not_not.1 h)
  split
  ·rename_i h'
   rw [cmpI_lt]
   have:=(not_congr cmpI_eq).1 h'
   omega
  ·rename_i h'
   have h' := cmpI_eq.1 (Decidable.not_not.1 h')
   rw [cmpI_lt]
   omega
theorem cmpC_eq {a b:Cl}:cmpC a b=0↔a=b:=by
 unfold cmpC
 constructor
 ·intro h
  split at h
  ·rename_i h1; exact absurd h h1
  ·rename_i h1
   split at h
   ·rename_i h2; exact absurd h h2
   ·rename_i h2
    exact cl_ext (cmpI_eq.1 h) (cmpI_eq.1 (Decidable.not_not.1 h2)) (cmpI_eq.1 (Decidable.not_not.1 h1))
 ·rintro rfl
  have : ∀ x:Int,cmpI x x=0:=fun x=>cmpI_eq.2 rfl
  simp [this]
def cmpK (a b:Kn):Int:=if cmpC a.1 b.1≠0 then cmpC a.1 b.1 else cmpI a.2.1 b.2.1
theorem cmpK_lt {a b:Kn}:cmpK a b<0↔BefK a b:=by
 unfold cmpK BefK
 split
 ·rename_i h
  rw [cmpC_lt]
  have:=(not_congr cmpC_eq).1 h
  exact ⟨.inl,fun q=>q.elim id (fun q=>absurd q.1 this)⟩
 ·rename_i h
  have h:=cmpC_eq.1 (Decidable.not_not.1 h)
  rw [cmpI_lt]
  exact ⟨fun q => .inr ⟨h,q⟩,fun q=>q.elim (fun q=>by rw [h] at q; exact absurd q (Bef.irr _)) (·.2)⟩
theorem cmp113 {a b:Int} {R:V→Prop} (h:R (iv (cmpI a b))):K0G Tryz.prog glX 113 [iv a,iv b] R:=by
 refine K0_of_WY0 hmX hcC 3000 Tryz.func113 (see (p:=ifB (a != a) (ifB (b != b) (R (iv (0:Int))) (R (iv (-1:Int)))) (ifB (b != b) (R (iv (1:Int))) (ifB (decide (a<b)) (R (iv (-1:Int))) (ifB (decide (a > b)) (R (iv (1:Int))) (R (iv (0:Int))))))) (by kernel_rfl) ?_)
 refine ifB_f (by simp) (ifB_f (by simp) (ifB_mk (fun c=>?_) (fun c=>ifB_mk (fun d=>?_) (fun d=>?_))))
 ·rw [cmpI,if_pos (of_decide_eq_true c)] at h; exact h
 ·rw [cmpI,if_neg (of_decide_eq_false c),if_pos (of_decide_eq_true d)] at h; exact h
 ·rw [cmpI,if_neg (of_decide_eq_false c),if_neg (of_decide_eq_false d)] at h; exact h
theorem cmp128 {a b:Int} {R:V→Prop} (h:R (iv (cmpI a b))):K0G Tryz.prog glX 128 [u8 a,u8 b] R:=by
 refine K0_of_WY0 hmX hcC 3000 Tryz.func128 (see (p:=ifB (a != a) (ifB (b != b) (R (iv (0:Int))) (R (iv (-1:Int)))) (ifB (b != b) (R (iv (1:Int))) (ifB (decide (a<b)) (R (iv (-1:Int))) (ifB (decide (a > b)) (R (iv (1:Int))) (R (iv (0:Int))))))) (by kernel_rfl) ?_)
 refine ifB_f (by simp) (ifB_f (by simp) (ifB_mk (fun c=>?_) (fun c=>ifB_mk (fun d=>?_) (fun d=>?_))))
 ·rw [cmpI,if_pos (of_decide_eq_true c)] at h; exact h
 ·rw [cmpI,if_neg (of_decide_eq_false c),if_pos (of_decide_eq_true d)] at h; exact h
 ·rw [cmpI,if_neg (of_decide_eq_false c),if_neg (of_decide_eq_false d)] at h; exact h
theorem or112 {a b c:Int} {R:V→Prop} (h:R (iv (if a≠0 then a else if b≠0 then b else c))):K0G Tryz.prog glX 112 [.lst 1 [[iv a],[iv b],[iv c]]] R:=by
 refine K0_of_WY0 hmX hcC 3000 Tryz.func112 (see (p:=ifB (a != (0:Int)) (R (iv a)) (ifB (b != (0:Int)) (R (iv b)) (ifB (c != (0:Int)) (R (iv c)) (R (iv (0:Int)))))) (by kernel_rfl) ?_)
 refine ifB_mk (fun d=>?_) (fun d=>ifB_mk (fun e=>?_) (fun e=>ifB_mk (fun g=>?_) (fun g=>?_)))
 ·rw [if_pos (by simpa using d)] at h; exact h
 ·rw [if_neg (by simpa using d),if_pos (by simpa using e)] at h; exact h
 ·rw [if_neg (by simpa using d),if_neg (by simpa using e)] at h; exact h
 ·rw [if_neg (by simpa using d),if_neg (by simpa using e),show c=0 from by simpa using g] at h; exact h
theorem or112b {a b:Int} {R:V→Prop} (h:R (iv (if a≠0 then a else b))):K0G Tryz.prog glX 112 [.lst 1 [[iv a],[iv b]]] R:=by
 refine K0_of_WY0 hmX hcC 3000 Tryz.func112 (see (p:=ifB (a != (0:Int)) (R (iv a)) (ifB (b != (0:Int)) (R (iv b)) (R (iv (0:Int))))) (by kernel_rfl) ?_)
 refine ifB_mk (fun d=>?_) (fun d=>ifB_mk (fun e=>?_) (fun e=>?_))
 ·rw [if_pos (by simpa using d)] at h; exact h
 ·rw [if_neg (by simpa using d)] at h; exact h
 ·rw [if_neg (by simpa using d),show b=0 from by simpa using e] at h; exact h
theorem cmp89 {a b:Cl} {R:V→Prop} (h:R (iv (cmpC a b))):K0G Tryz.prog glX 89 [.agg (clr a),.agg (clr b)] R:=by
 refine K0_of_WY0 hmX hcC 3000 Tryz.func89 (see (p:=K0G Tryz.prog glX 113 [iv a.2.2,iv b.2.2] fun v=>onIntK IntKind.i64 v fun n=>K0G Tryz.prog glX 113 [iv a.2.1,iv b.2.1] fun v=>onIntK IntKind.i64 v fun n_1=>K0G Tryz.prog glX 113 [iv a.1,iv b.1] fun v=>onIntK IntKind.i64 v fun n_2=>K0G Tryz.prog glX 112 [V.lst 1 [[iv n],[iv n_1],[iv n_2]]] fun v=>onIntK IntKind.i64 v fun n=>R (iv n)) (by kernel_rfl) ?_)
 exact cmp113 (onIntK_iv (cmp113 (onIntK_iv (cmp113 (onIntK_iv (or112 (onIntK_iv h)))))))
theorem cmp91 {a b:Kn} {R:V→Prop} (h:R (iv (cmpK a b))):K0G Tryz.prog glX 91 [.agg (knr a),.agg (knr b)] R:=by
 refine K0_of_WY0 hmX hcC 3000 Tryz.func91 (see (p:=K0G Tryz.prog glX 89 [V.agg [iv a.1.1,iv a.1.2.1,iv a.1.2.2],V.agg [iv b.1.1,iv b.1.2.1,iv b.1.2.2]] fun v=>onIntK IntKind.i64 v fun n=>K0G Tryz.prog glX 128 [V.raw (Value.int IntKind.u8 a.2.1),V.raw (Value.int IntKind.u8 b.2.1)] fun v=>onIntK IntKind.i64 v fun n_1=>K0G Tryz.prog glX 112 [V.lst 1 [[iv n],[iv n_1]]] fun v=>onIntK IntKind.i64 v fun n=>R (iv n)) (by kernel_rfl) ?_)
 exact cmp89 (a:=a.1) (b:=b.1) (onIntK_iv (cmp128 (onIntK_iv (or112b (onIntK_iv h)))))
theorem within52 {n lo hi:Int} {R:V→Prop} (h:R (bv (dc (lo≤n∧n≤hi)))):K0G Tryz.prog glX 52 [iv n,iv lo,iv hi] R:=by
 refine K0_of_WY0 hmX hcC 3000 Tryz.func52 (see (p:=ifB (decide (lo≤n)) (R (bv (decide (n≤hi)))) (R (bv false))) (by kernel_rfl) ?_)
 exact ifB_mk (fun c=>rb h ⟨fun d=>⟨of_decide_eq_true c,of_decide_eq_true d⟩,fun d=>decide_eq_true d.2⟩) (fun c=>rf h (fun d=>of_decide_eq_false c d.1))
theorem near84 {c:Cl} {lo hi:Int} {R:V→Prop} (h:R (bv (dc (Nr lo hi c)))):K0G Tryz.prog glX 84 [.agg (clr c),iv lo,iv hi] R:=by
 refine K0_of_WY0 hmX hcC 3000 Tryz.func84 (see (p:=K0G Tryz.prog glX 52 [iv c.1,iv lo,iv hi] fun v=>onBool v fun b=>ifB b (K0G Tryz.prog glX 52 [iv c.2.1,iv lo,iv hi] fun v=>onBool v fun b=>ifB b (K0G Tryz.prog glX 52 [iv c.2.2,iv lo,iv hi] fun v=>onBool v fun b=>R (bv b)) (R (bv false))) (R (bv false))) (by kernel_rfl) ?_)
 refine within52 (onBool_bv (ifB_mk (fun c1=>within52 (onBool_bv (ifB_mk (fun c2=>within52 (onBool_bv ?_)) (fun c2=>rf h (fun q=>dc_false c2 q.2.1))))) (fun c1=>rf h (fun q=>dc_false c1 q.1))))
 exact rb h ⟨fun q=>⟨dc_true c1,dc_true c2,dc_true q⟩,fun q=>dc_t q.2.2⟩
theorem cel {l:List Cl} {i:Nat} {c:Cl} {k:Int→Int→Int→Prop} (h:l[i]? = some c) (hk:k c.1 c.2.1 c.2.2):onSome (cll l)[i]? fun row=>onCons (List.drop 0 row) fun u r=>onIntK IntKind.i64 u fun n=>onCons r fun u r=>onIntK IntKind.i64 u fun n_1=>onCons r fun u r=>onIntK IntKind.i64 u fun n_2=>k n n_1 n_2 :=
 onSome_mk (by simp [cll,h]:(cll l)[i]? = some (clr c)) hk
theorem kel {l:List Kn} {i:Nat} {c:Kn} {k:Int→Int→Int→Int→Int→Prop} (h:l[i]? = some c) (hk:k c.1.1 c.1.2.1 c.1.2.2 c.2.1 c.2.2):onSome (knl l)[i]? fun row=>onCons (List.drop 0 row) fun u r=>onIntK IntKind.i64 u fun n=>onCons r fun u r=>onIntK IntKind.i64 u fun n_1=>onCons r fun u r=>onIntK IntKind.i64 u fun n_2=>onCons r fun u r=>onIntK IntKind.u8 u fun n_3=>onCons r fun u r=>onIntK IntKind.u8 u fun n_4=>k n n_1 n_2 n_3 n_4 :=
 onSome_mk (by simp [knl,h]:(knl l)[i]? = some (knr c)) hk
theorem del {l:List Kd} {i:Nat} {q:Kd} {k:Nat→List (List V)→Nat→List (List V)→Int→Prop} (h:l[i]? = some q) (hk:k 3 (cll q.1) 5 (knl q.2.1) q.2.2):onSome (kdl l)[i]? fun row=>onCons (List.drop 0 row) fun u r=>onLst u fun s es=>onCons r fun u r=>onLst u fun s_1 es_1=>onCons r fun u r=>onIntK IntKind.i64 u fun n=>k s es s_1 es_1 n :=
 onSome_mk (by simp [kdl,h]:(kdl l)[i]? = some (kdr q)) hk
def stpL:List Cl:=[(1,0,0),(-1,0,0),(0,1,0),(0, -1,0),(0,0,1),(0,0, -1)]
def stp (d:Int):Cl:=stpL.getD d.toNat (0,0,0)
def addC (a b:Cl):Cl:=(a.1+b.1,a.2.1+b.2.1,a.2.2+b.2.2)
theorem stp_at {m:Nat} (h:m<6) {k:Int→Int→Int→Prop} (hk:k (stp (m:Int)).1 (stp (m:Int)).2.1 (stp (m:Int)).2.2):onCons (List.drop (0+m * 3) stepC) fun u r=>onIntK IntKind.i64 u fun n=>onCons r fun u r=>onIntK IntKind.i64 u fun n_1=>onCons r fun u r=>onIntK IntKind.i64 u fun n_2=>k n n_1 n_2:=by
 match m,h with
 | 0,_=>exact hk
 | 1,_=>exact hk
 | 2,_=>exact hk
 | 3,_=>exact hk
 | 4,_=>exact hk
 | 5,_=>exact hk
theorem stp_bd (d:Int):Nr (-1) 1 (stp d):=by
 unfold stp
 generalize d.toNat=m
 by_cases h:m<6
 ·match m,h with
  | 0,_=>exact ⟨by decide,by decide,by decide⟩
  | 1,_=>exact ⟨by decide,by decide,by decide⟩
  | 2,_=>exact ⟨by decide,by decide,by decide⟩
  | 3,_=>exact ⟨by decide,by decide,by decide⟩
  | 4,_=>exact ⟨by decide,by decide,by decide⟩
  | 5,_=>exact ⟨by decide,by decide,by decide⟩
 ·have:stpL.getD m (0,0,0)=(0,0,0):=by rw [List.getD_eq_getElem?_getD,List.getElem?_eq_none (by simp [stpL]; omega)]; rfl
  rw [this]; exact ⟨by decide,by decide,by decide⟩
theorem dir81 {d:Int} {R:V→Prop} (h:R (bv (dc (0≤d∧d≤5)))):K0G Tryz.prog glX 81 [iv d] R:=by
 refine K0_of_WY0 hmX hcC 3000 Tryz.func81 (see (p:=K0G Tryz.prog glX 52 [iv d,iv (0:Int),iv (5:Int)] fun v=>onBool v fun b=>R (bv b)) (by kernel_rfl) ?_)
 exact within52 (onBool_bv h)
theorem index143 {l:List Cl} {c:Cl} {R:V→Prop} (hl:(l.length:Int)≤1000000) (h : ∀ n:Int,(0≤n↔c∈l)→R (iv n)):K0G Tryz.prog glX 143 [.lst 3 (cll l),.agg (clr c)] R:=by
 refine K0_of_WY0 hmX hcC 3000 Tryz.func143 (see (p:=La 0 [(0:Tmp),(3:Tmp),(7:Tmp),(8:Tmp)] (WY Tryz.prog cfC 2995 (Env.mk (Bs.mk 0 []) 0 none 19 143 0) (cdAt [1,0,1,0,0] (bodyOf Tryz.f143))) (Qblk 0 (Qthen (WY Tryz.prog cfC 2998 (Env.mk (Bs.mk 0 []) 0 none 19 143 0) (cdAt [1,1] (bodyOf Tryz.f143)) (QendX Tryz.prog Tryz.f143 fun v h=>R (frzW h v))) (QendX Tryz.prog Tryz.f143 fun v h=>R (frzW h v)))) (St.mk (mkT [(0,V.lst 3 (cll l)),(3,V.ptr (Id.p 0) 0 0),(7,iv (↑(cll l).length:Int)),(8,iv (0:Int))]) (Hp.mk [(0,O.rows 3 false [[iv c.1,iv c.2.1,iv c.2.2]])] 1 []))) (by kernel_rfl) ?_)
 refine La.of (σ:=Nat) (fun k=>sh143 l c k) (fun k=>k≤l.length ∧ ∀ x∈l.take k,x≠c) (fun k=>l.length - k) 0 (by kernel_rfl) ⟨by omega,by simp⟩ ?_
 rintro k ⟨g1,g2⟩ J hJ
 refine see (p:=ifB (decide ((↑k:Int)<(↑(cll l).length:Int))) (onSome (cll l)[k]? fun row=>onCons (List.drop 0 row) fun u r=>onIntK IntKind.i64 u fun n=>onCons r fun u r=>onIntK IntKind.i64 u fun n_1=>onCons r fun u r=>onIntK IntKind.i64 u fun n_2=>ifB (c.1==n&&(fun b=>c.2.1==n_1&&b) ((fun b=>c.2.2==n_2&&b) true)) (R (iv (↑k:Int))) (J (St.mk (mkT [(0,V.lst 3 (cll l)),(3,V.ptr (Id.p 0) 0 0),(7,iv (↑(cll l).length:Int)),(8,iv (IntKind.i64.wrap ((↑k:Int)+(1:Int))))]) (Hp.mk [(0,O.rows 3 false [[iv c.1,iv c.2.1,iv c.2.2]])] 1 [])))) (R (iv (-1:Int)))) (by kernel_rfl) ?_
 rw [cll_length]
 refine ifB_mk (fun hb=>?_) (fun hb=>?_)
 ·have hlt:k<l.length:=by have:=of_decide_eq_true hb; omega
  obtain ⟨x,hx⟩:=getI hlt
  refine cel hx (ifB_mk (fun d=>?_) (fun d=>?_))
  ·simp only [Bool.and_eq_true,beq_iff_eq,Bool.and_true] at d
   have:c=x:=cl_ext d.1 d.2.1 d.2.2
   exact h _ ⟨fun _=>this ▸ mem_at hx,fun _=>by omega⟩
  ·rw [wr1i hlt (by omega)]
   refine hJ' (by simp [sh143,cll_length]; rfl) (hJ (k+1) ⟨hlt,all_take hx g2 (fun e=>?_)⟩ (by omega))
   subst e
   simp at d
 ·have hk:l.length≤k:=by have:=of_decide_eq_false hb; omega
  exact h _ ⟨fun h0=>by omega,fun hn=>(all_all hk g2 c hn rfl).elim⟩
theorem contains127 {l:List Cl} {c:Cl} {R:V→Prop} (hl:(l.length:Int)≤1000000) (h:R (bv (dc (c∈l)))):K0G Tryz.prog glX 127 [.lst 3 (cll l),.agg (clr c)] R:=by
 refine K0_of_WY0 hmX hcC 3000 Tryz.func127 (see (p:=K0G Tryz.prog glX 143 [V.lst 3 (cll l),V.agg [iv c.1,iv c.2.1,iv c.2.2]] fun v=>onIntK IntKind.i64 v fun n=>R (bv (decide (n ≥ (0:Int))))) (by kernel_rfl) ?_)
 exact index143 hl (fun n hn=>onIntK_iv (rb h ⟨fun q=>hn.1 (of_decide_eq_true q),fun q=>decide_eq_true (hn.2 q)⟩))
def CellsP (l:List Cl):Prop:=(1≤l.length∧l.length≤24)∧(∀ c∈l,Nr 0 15 c)∧l.Pairwise Bef
theorem areCells50 {l:List Cl} {R:V→Prop} (hl:(l.length:Int)≤1000000) (h:R (bv (dc (CellsP l)))):K0G Tryz.prog glX 50 [.lst 3 (cll l)] R:=by
 refine K0_of_WY0 hmX hcZ 3000 Tryz.func50 (see (p:=K0G Tryz.prog glX 52 [iv (↑(cll l).length:Int),iv (1:Int),iv (24:Int)] fun v=>onBool v fun b=>ifB (!b) (R (bv false)) (La 0 [(0:Tmp),(9:Tmp),(10:Tmp),(11:Tmp)] (WY Tryz.prog cfZ 2994 (Env.mk (Bs.mk 0 []) 0 none 34 50 0) (cdAt [1,1,0,1,0,0] (bodyOf Tryz.f50))) (Qblk 0 (Qthen (WY Tryz.prog cfZ 2997 (Env.mk (Bs.mk 0 []) 0 none 34 50 0) (cdAt [1,1,1] (bodyOf Tryz.f50)) (QendX Tryz.prog Tryz.f50 fun v h=>R (frzW h v))) (QendX Tryz.prog Tryz.f50 fun v h=>R (frzW h v)))) (St.mk (mkT [(0,V.lst 3 (cll l)),(9,V.lst 3 (cll l)),(10,iv (↑(cll l).length:Int)),(11,iv (0:Int))]) (Hp.mk [] 0 [])))) (by kernel_rfl) ?_)
 rw [cll_length]
 refine within52 (onBool_bv (ifB_mk (fun c=>rf h (fun q=>?_)) (fun c=>?_)))
 ·rw [dc_t ⟨by have:=q.1.1; omega,by have:=q.1.2; omega⟩] at c; cases c
 have h24:(1:Int)≤l.length∧(l.length:Int)≤24:=dc_true (by cases hq:dc ((1:Int)≤l.length∧(l.length:Int)≤24) with | true=>rfl | false=>rw [hq] at c; cases c)
 refine La.of (σ:=Nat) (fun k=>sh50 l k) (fun k=>k≤l.length∧(∀ x∈l.take k,Nr 0 15 x)∧(l.take k).Pairwise Bef) (fun k=>l.length - k) 0 (by rw [← cll_length]; kernel_rfl) ⟨by omega,by simp,by simp⟩ ?_
 rintro k ⟨g1,g2,g3⟩ J hJ
 refine see (p:=ifB (decide ((↑k:Int)<(↑(cll l).length:Int))) (onSome (cll l)[k]? fun row=>onCons (List.drop 0 row) fun u r=>onIntK IntKind.i64 u fun n=>onCons r fun u r=>onIntK IntKind.i64 u fun n_1=>onCons r fun u r=>onIntK IntKind.i64 u fun n_2=>K0G Tryz.prog glX 84 [V.agg [iv n,iv n_1,iv n_2],iv (0:Int),iv (15:Int)] fun v=>onBool v fun b=>ifB (!b) (R (bv false)) (ifB (decide ((↑k:Int) > (0:Int))) (onNat (IntKind.i64.wrap ((↑k:Int) - (1:Int))) fun m=>onSome (cll l)[m]? fun row=>onCons (List.drop 0 row) fun u r=>onIntK IntKind.i64 u fun n_3=>onCons r fun u r=>onIntK IntKind.i64 u fun n_4=>onCons r fun u r=>onIntK IntKind.i64 u fun n_5=>K0G Tryz.prog glX 89 [V.agg [iv n_3,iv n_4,iv n_5],V.agg [iv n,iv n_1,iv n_2]] fun v=>onIntK IntKind.i64 v fun n=>ifB (decide (n ≥ (0:Int))) (R (bv false)) (J (St.mk (mkT [(0,V.lst 3 (cll l)),(9,V.lst 3 (cll l)),(10,iv (↑(cll l).length:Int)),(11,iv (IntKind.i64.wrap ((↑k:Int)+(1:Int))))]) (Hp.mk [] 0 [])))) (J (St.mk (mkT [(0,V.lst 3 (cll l)),(9,V.lst 3 (cll l)),(10,iv (↑(cll l).length:Int)),(11,iv (IntKind.i64.wrap ((↑k:Int)+(1:Int))))]) (Hp.mk [] 0 []))))) (R (bv true))) (by kernel_rfl) ?_
 rw [cll_length]
 refine ifB_mk (fun hb=>?_) (fun hb=>?_)
 ·have hlt:k<l.length:=by have:=of_decide_eq_true hb; omega
  obtain ⟨x,hx⟩:=getI hlt
  refine cel hx (near84 (c:=x) (onBool_bv (ifB_mk (fun d=>rf h (fun q=>?_)) (fun d=>?_))))
  ·rw [dc_t (q.2.1 x (mem_at hx))] at d; cases d
  have hn:Nr 0 15 x:=dc_true (by cases hq:dc (Nr 0 15 x) with | true=>rfl | false=>rw [hq] at d; cases d)
  have nxt:(k=0 ∨ ∃ y,l[k - 1]? = some y∧Bef y x)→J (sh50 l (k+1)):=fun hp=>hJ (k+1) ⟨hlt,all_take hx g2 hn,pw_take Bef.tr hx g3 hp⟩ (by omega)
  refine ifB_mk (fun e=>?_) (fun e=>?_)
  ·have hk:0<k:=by have:=of_decide_eq_true e; omega
   obtain ⟨y,hy⟩:=getI (l:=l) (k:=k - 1) (by omega)
   refine onNat_mk (m:=k - 1) (by rw [wr (by omega) (by omega)]; omega) (cel hy (cmp89 (a:=y) (b:=x) (onIntK_iv (ifB_mk (fun f=>rf h (fun q=>?_)) (fun f=>?_)))))
   ·have:=cmpC_lt.2 (pw_at q.2.2 hx hy hk)
    have:=of_decide_eq_true f
    omega
   ·rw [wr1i hlt (by omega)]
    exact hJ' (by simp [sh50,cll_length]) (nxt (.inr ⟨y,hy,cmpC_lt.1 (by have:=of_decide_eq_false f; omega)⟩))
  ·rw [wr1i hlt (by omega)]
   exact hJ' (by simp [sh50,cll_length]) (nxt (.inl (by have:=of_decide_eq_false e; omega)))
 ·have hk:l.length≤k:=by have:=of_decide_eq_false hb; omega
  rw [List.take_of_length_le hk] at g3
  exact rt h ⟨by omega,all_all hk g2,g3⟩
def KnR (k:Kn):Prop:=(0≤k.2.1∧k.2.1≤255)∧0≤k.2.2∧k.2.2≤255
def KnobP (cs:List Cl) (k:Kn):Prop:=k.2.1≤5∧(1≤k.2.2∧k.2.2≤6)∧k.1∈cs∧addC k.1 (stp k.2.1) ∉ cs
theorem isKnob90 {a:Kn} {cs:List Cl} {R:V→Prop} (hr:KnR a) (hc : ∀ c∈cs,Nr 0 15 c) (hl:(cs.length:Int)≤1000000) (h:R (bv (dc (KnobP cs a)))):K0G Tryz.prog glX 90 [.agg (knr a),.lst 3 (cll cs)] R:=by
 refine K0_of_WY0 hmX hcZ 3000 Tryz.func90 (see (p:=K0G Tryz.prog glX 81 [iv (IntKind.i64.wrap a.2.1)] fun v=>onBool v fun b=>ifB (!b) (R (bv false)) (K0G Tryz.prog glX 52 [iv (IntKind.i64.wrap a.2.2),iv (1:Int),iv (6:Int)] fun v=>onBool v fun b=>ifB (!b) (R (bv false)) (K0G Tryz.prog glX 127 [V.lst 3 (cll cs),V.agg [iv a.1.1,iv a.1.2.1,iv a.1.2.2]] fun v=>onBool v fun b=>ifB b (onNat a.2.1 fun m=>need (m<6) (onCons (List.drop (0+m * 3) [iv (1:Int),iv (0:Int),iv (0:Int),iv (-1:Int),iv (0:Int),iv (0:Int),iv (0:Int),iv (1:Int),iv (0:Int),iv (0:Int),iv (-1:Int),iv (0:Int),iv (0:Int),iv (0:Int),iv (1:Int),iv (0:Int),iv (0:Int),iv (-1:Int)]) fun u r=>onIntK IntKind.i64 u fun n=>onCons r fun u r=>onIntK IntKind.i64 u fun n_1=>onCons r fun u r=>onIntK IntKind.i64 u fun n_2=>K0G Tryz.prog glX 127 [V.lst 3 (cll cs),V.agg [iv (IntKind.i64.wrap (a.1.1+n)),iv (IntKind.i64.wrap (a.1.2.1+n_1)),iv (IntKind.i64.wrap (a.1.2.2+n_2))]] fun v=>onBool v fun b=>R (bv !b))) (R (bv false))))) (by kernel_rfl) ?_)
 obtain ⟨⟨r1,r2⟩,r3,r4⟩:=hr
 rw [wr (n:=a.2.1) (by omega) (by omega),wr (n:=a.2.2) (by omega) (by omega)]
 refine dir81 (onBool_bv (ifB_mk (fun d=>rf h (fun q=>?_)) (fun d=>?_)))
 ·rw [dc_t ⟨r1,q.1⟩] at d; cases d
 have d5:0≤a.2.1∧a.2.1≤5:=dc_true (by cases hq:dc (0≤a.2.1∧a.2.1≤5) with | true=>rfl | false=>rw [hq] at d; cases d)
 refine within52 (onBool_bv (ifB_mk (fun d=>rf h (fun q=>?_)) (fun d=>?_)))
 ·rw [dc_t q.2.1] at d; cases d
 have s6:1≤a.2.2∧a.2.2≤6:=dc_true (by cases hq:dc (1≤a.2.2∧a.2.2≤6) with | true=>rfl | false=>rw [hq] at d; cases d)
 refine contains127 (c:=a.1) hl (onBool_bv (ifB_mk (fun d=>?_) (fun d=>rf h (fun q=>dc_false d q.2.2.1))))
 have hm:=dc_true d
 obtain ⟨⟨c1,c2⟩,⟨c3,c4⟩,c5,c6⟩:=hc _ hm
 obtain ⟨⟨t1,t2⟩,⟨t3,t4⟩,t5,t6⟩:=stp_bd a.2.1
 have ea:a.2.1=((a.2.1.toNat:Nat):Int):=by omega
 refine onNat_mk (m:=a.2.1.toNat) ea (need_mk ⟨by omega,stp_at (by omega) ?_⟩)
 rw [← ea,wr (n:=a.1.1+_) (by omega) (by omega),wr (n:=a.1.2.1+_) (by omega) (by omega),wr (n:=a.1.2.2+_) (by omega) (by omega)]
 refine contains127 (c:=addC a.1 (stp a.2.1)) hl (onBool_bv ?_)
 refine rb h ⟨fun q=>⟨d5.2,s6,hm,?_⟩,fun q=>by rw [dc_f q.2.2.2]; rfl⟩
 intro hn
 rw [dc_t hn] at q
 cases q
def KnobsP (cs:List Cl) (l:List Kn):Prop:=l.length≤48∧(∀ k∈l,KnobP cs k)∧l.Pairwise BefK
theorem areKnobs51 {l:List Kn} {cs:List Cl} {R:V→Prop} (hr : ∀ k∈l,KnR k) (hc : ∀ c∈cs,Nr 0 15 c) (hcl:(cs.length:Int)≤1000000) (h:R (bv (dc (KnobsP cs l)))):K0G Tryz.prog glX 51 [.lst 5 (knl l),.lst 3 (cll cs)] R:=by
 refine K0_of_WY0 hmX hcC 3000 Tryz.func51 (see (p:=ifB (decide ((↑(knl l).length:Int) > (48:Int))) (R (bv false)) (La 0 [(0:Tmp),(1:Tmp),(10:Tmp),(11:Tmp),(12:Tmp)] (WY Tryz.prog cfC 2994 (Env.mk (Bs.mk 0 []) 0 none 36 51 0) (cdAt [1,1,0,1,0,0] (bodyOf Tryz.f51))) (Qblk 0 (Qthen (WY Tryz.prog cfC 2997 (Env.mk (Bs.mk 0 []) 0 none 36 51 0) (cdAt [1,1,1] (bodyOf Tryz.f51)) (QendX Tryz.prog Tryz.f51 fun v h=>R (frzW h v))) (QendX Tryz.prog Tryz.f51 fun v h=>R (frzW h v)))) (St.mk (mkT [(0,V.lst 5 (knl l)),(1,V.lst 3 (cll cs)),(10,V.lst 5 (knl l)),(11,iv (↑(knl l).length:Int)),(12,iv (0:Int))]) (Hp.mk [] 0 [])))) (by kernel_rfl) ?_)
 rw [knl_length]
 refine ifB_mk (fun c=>rf h (fun q=>by have:=q.1; have:=of_decide_eq_true c; omega)) (fun c=>?_)
 have h48:l.length≤48:=by have:=of_decide_eq_false c; omega
 refine La.of (σ:=Nat) (fun k=>sh51 l cs k) (fun k=>k≤l.length∧(∀ x∈l.take k,KnobP cs x)∧(l.take k).Pairwise BefK) (fun k=>l.length - k) 0 (by rw [← knl_length]; kernel_rfl) ⟨by omega,by simp,by simp⟩ ?_
 rintro k ⟨g1,g2,g3⟩ J hJ
 refine see (p:=ifB (decide ((↑k:Int)<(↑(knl l).length:Int))) (onSome (knl l)[k]? fun row=>onCons (List.drop 0 row) fun u r=>onIntK IntKind.i64 u fun n=>onCons r fun u r=>onIntK IntKind.i64 u fun n_1=>onCons r fun u r=>onIntK IntKind.i64 u fun n_2=>onCons r fun u r=>onIntK IntKind.u8 u fun n_3=>onCons r fun u r=>onIntK IntKind.u8 u fun n_4=>K0G Tryz.prog glX 90 [V.agg [iv n,iv n_1,iv n_2,V.raw (Value.int IntKind.u8 n_3),V.raw (Value.int IntKind.u8 n_4)],V.lst 3 (cll cs)] fun v=>onBool v fun b=>ifB (!b) (R (bv false)) (ifB (decide ((↑k:Int) > (0:Int))) (onNat (IntKind.i64.wrap ((↑k:Int) - (1:Int))) fun m=>onSome (knl l)[m]? fun row=>onCons (List.drop 0 row) fun u r=>onIntK IntKind.i64 u fun n_5=>onCons r fun u r=>onIntK IntKind.i64 u fun n_6=>onCons r fun u r=>onIntK IntKind.i64 u fun n_7=>onCons r fun u r=>onIntK IntKind.u8 u fun n_8=>onCons r fun u r=>onIntK IntKind.u8 u fun n_9=>K0G Tryz.prog glX 91 [V.agg [iv n_5,iv n_6,iv n_7,V.raw (Value.int IntKind.u8 n_8),V.raw (Value.int IntKind.u8 n_9)],V.agg [iv n,iv n_1,iv n_2,V.raw (Value.int IntKind.u8 n_3),V.raw (Value.int IntKind.u8 n_4)]] fun v=>onIntK IntKind.i64 v fun n=>ifB (decide (n ≥ (0:Int))) (R (bv false)) (J (St.mk (mkT [(0,V.lst 5 (knl l)),(1,V.lst 3 (cll cs)),(10,V.lst 5 (knl l)),(11,iv (↑(knl l).length:Int)),(12,iv (IntKind.i64.wrap ((↑k:Int)+(1:Int))))]) (Hp.mk [] 0 [])))) (J (St.mk (mkT [(0,V.lst 5 (knl l)),(1,V.lst 3 (cll cs)),(10,V.lst 5 (knl l)),(11,iv (↑(knl l).length:Int)),(12,iv (IntKind.i64.wrap ((↑k:Int)+(1:Int))))]) (Hp.mk [] 0 []))))) (R (bv true))) (by kernel_rfl) ?_
 rw [knl_length]
 refine ifB_mk (fun hb=>?_) (fun hb=>?_)
 ·have hlt:k<l.length:=by have:=of_decide_eq_true hb; omega
  obtain ⟨x,hx⟩:=getI hlt
  refine kel hx (isKnob90 (a:=x) (hr x (mem_at hx)) hc hcl (onBool_bv (ifB_mk (fun d=>rf h (fun q=>?_)) (fun d=>?_))))
  ·rw [dc_t (q.2.1 x (mem_at hx))] at d; cases d
  have hn:KnobP cs x:=dc_true (by cases hq:dc (KnobP cs x) with | true=>rfl | false=>rw [hq] at d; cases d)
  have nxt:(k=0 ∨ ∃ y,l[k - 1]? = some y∧BefK y x)→J (sh51 l cs (k+1)):=fun hp=>hJ (k+1) ⟨hlt,all_take hx g2 hn,pw_take BefK.tr hx g3 hp⟩ (by omega)
  refine ifB_mk (fun e=>?_) (fun e=>?_)
  ·have hk:0<k:=by have:=of_decide_eq_true e; omega
   obtain ⟨y,hy⟩:=getI (l:=l) (k:=k - 1) (by omega)
   refine onNat_mk (m:=k - 1) (by rw [wr (by omega) (by omega)]; omega) (kel hy (cmp91 (a:=y) (b:=x) (onIntK_iv (ifB_mk (fun f=>rf h (fun q=>?_)) (fun f=>?_)))))
   ·have:=cmpK_lt.2 (pw_at q.2.2 hx hy hk)
    have:=of_decide_eq_true f
    omega
   ·rw [wr1i hlt (by omega)]
    exact hJ' (by simp [sh51,knl_length]) (nxt (.inr ⟨y,hy,cmpK_lt.1 (by have:=of_decide_eq_false f; omega)⟩))
  ·rw [wr1i hlt (by omega)]
   exact hJ' (by simp [sh51,knl_length]) (nxt (.inl (by have:=of_decide_eq_false e; omega)))
 ·have hk:l.length≤k:=by have:=of_decide_eq_false hb; omega
  rw [List.take_of_length_le hk] at g3
  exact rt h ⟨h48,all_all hk g2,g3⟩
def KindP (q:Kd):Prop:=CellsP q.1∧KnobsP q.1 q.2.1∧1≤q.2.2∧q.2.2≤100
def KdR (q:Kd):Prop:=(∀ k∈q.2.1,KnR k)∧q.1.length≤30∧q.2.1.length≤60
theorem kind14 {q:Kd} {R:V→Prop} (hq:KdR q) (h1:KindP q→R (iv 0)) (h2 : ¬ KindP q→R (iv 10)):K0G Tryz.prog glX 14 [.agg (kdr q)] R:=by
 refine K0_of_WY0 hmX hcC 3000 Tryz.func14 (see (p:=K0G Tryz.prog glX 50 [V.lst 3 (cll q.1)] fun v=>onBool v fun b=>ifB (!b) (R (iv (10:Int))) (K0G Tryz.prog glX 51 [V.lst 5 (knl q.2.1),V.lst 3 (cll q.1)] fun v=>onBool v fun b=>ifB (!b) (R (iv (10:Int))) (K0G Tryz.prog glX 52 [iv q.2.2,iv (1:Int),iv (100:Int)] fun v=>onBool v fun b=>ifB (!b) (R (iv (10:Int))) (R (iv (0:Int)))))) (by kernel_rfl) ?_)
 obtain ⟨k1,k2,k3⟩:=hq
 refine areCells50 (by omega) (onBool_bv (ifB_mk (fun d=>h2 (fun p=>by rw [dc_t p.1] at d; cases d)) (fun d=>?_)))
 have hc:CellsP q.1:=dc_true (by cases hq:dc (CellsP q.1) with | true=>rfl | false=>rw [hq] at d; cases d)
 refine areKnobs51 k1 hc.2.1 (by omega) (onBool_bv (ifB_mk (fun d=>h2 (fun p=>by rw [dc_t p.2.1] at d; cases d)) (fun d=>?_)))
 have hk:KnobsP q.1 q.2.1:=dc_true (by cases hq:dc (KnobsP q.1 q.2.1) with | true=>rfl | false=>rw [hq] at d; cases d)
 refine within52 (onBool_bv (ifB_mk (fun d=>h2 (fun p=>by rw [dc_t p.2.2] at d; cases d)) (fun d=>h1 ⟨hc,hk,?_⟩)))
 exact dc_true (by cases hq:dc (1≤q.2.2∧q.2.2≤100) with | true=>rfl | false=>rw [hq] at d; cases d)
def KindsP (l:List Kd):Prop:=l.length≤16 ∧ ∀ q∈l,KindP q
theorem kinds16 {l:List Kd} {R:V→Prop} (hl : ∀ q∈l,KdR q) (h1:KindsP l→R (iv 0)) (h2:16<l.length→R (iv 4)) (h3:l.length≤16 → ¬ KindsP l→R (iv 10)):K0G Tryz.prog glX 16 [.lst 3 (kdl l)] R:=by
 refine K0_of_WY0 hmX hcC 3000 Tryz.func16 (see (p:=ifB (decide ((↑(kdl l).length:Int) > (16:Int))) (R (iv (4:Int))) (La 0 [(9:Tmp),(10:Tmp),(11:Tmp)] (WY Tryz.prog cfC 2994 (Env.mk (Bs.mk 0 []) 0 none 21 16 0) (cdAt [1,1,0,1,0,0] (bodyOf Tryz.f16))) (Qblk 0 (Qthen (WY Tryz.prog cfC 2997 (Env.mk (Bs.mk 0 []) 0 none 21 16 0) (cdAt [1,1,1] (bodyOf Tryz.f16)) (QendX Tryz.prog Tryz.f16 fun v h=>R (frzW h v))) (QendX Tryz.prog Tryz.f16 fun v h=>R (frzW h v)))) (St.mk (mkT [(9,V.lst 3 (kdl l)),(10,iv (↑(kdl l).length:Int)),(11,iv (0:Int))]) (Hp.mk [] 0 [])))) (by kernel_rfl) ?_)
 rw [kdl_length]
 refine ifB_mk (fun c=>h2 (by have:=of_decide_eq_true c; omega)) (fun c=>?_)
 have h16:l.length≤16:=by have:=of_decide_eq_false c; omega
 refine La.of (σ:=Nat) (fun k=>sh16 l k) (fun k=>k≤l.length∧(∀ x∈l.take k,KindP x)) (fun k=>l.length - k) 0 (by rw [← kdl_length]; kernel_rfl) ⟨by omega,by simp⟩ ?_
 rintro k ⟨g1,g2⟩ J hJ
 refine see (p:=ifB (decide ((↑k:Int)<(↑(kdl l).length:Int))) (onSome (kdl l)[k]? fun row=>onCons (List.drop 0 row) fun u r=>onLst u fun s es=>onCons r fun u r=>onLst u fun s_1 es_1=>onCons r fun u r=>onIntK IntKind.i64 u fun n=>K0G Tryz.prog glX 14 [V.agg [V.lst s es,V.lst s_1 es_1,iv n]] fun v=>onIntK IntKind.i64 v fun n=>ifB (n != (0:Int)) (R (iv n)) (J (St.mk (mkT [(9,V.lst 3 (kdl l)),(10,iv (↑(kdl l).length:Int)),(11,iv (IntKind.i64.wrap ((↑k:Int)+(1:Int))))]) (Hp.mk [] 0 [])))) (R (iv (0:Int)))) (by kernel_rfl) ?_
 rw [kdl_length]
 refine ifB_mk (fun hb=>?_) (fun hb=>?_)
 ·have hlt:k<l.length:=by have:=of_decide_eq_true hb; omega
  obtain ⟨x,hx⟩:=getI hlt
  refine del hx (kind14 (q:=x) (hl x (mem_at hx)) (fun hp=>onIntK_iv (ifB_f rfl ?_)) (fun hn=>onIntK_iv (ifB_t rfl (h3 h16 (fun q=>hn (q.2 x (mem_at hx)))))))
  rw [wr1i hlt (by omega)]
  exact hJ' (by simp [sh16,kdl_length]) (hJ (k+1) ⟨hlt,all_take hx g2 hp⟩ (by omega))
 ·have hk:l.length≤k:=by have:=of_decide_eq_false hb; omega
  exact h1 ⟨h16,all_all hk g2⟩
set_option maxRecDepth 100000
noncomputable def cfR:Cfg:=cfgM Tryz.prog glX moZ tyZ (inN [77,78]) kpZ
set_option maxRecDepth 10000
theorem hcR:cfR.ok Tryz.prog:=cfgM_ok
theorem nb {p:Prop} (h:(!dc p)=false):p:=by cases hq:dc p with
 | true=>exact dc_true hq
 | false=>rw [hq] at h; cases h
theorem nbt {p:Prop} (h:(!dc p)=true) : ¬ p:=fun hp=>by rw [dc_t hp] at h; cases h
def Bd (b:Int) (c:Cl):Prop:=Nr (-b) b c
theorem Nr.mono {a b c d:Int} {x:Cl} (h:Nr a b x) (h1:c≤a) (h2:b≤d):Nr c d x:=by
 obtain ⟨⟨c1,c2⟩,⟨c3,c4⟩,c5,c6⟩:=h
 exact ⟨⟨by omega,by omega⟩,⟨by omega,by omega⟩,by omega,by omega⟩
theorem onC {c:Cl} {k:Int→Int→Int→Prop} (h:k c.1 c.2.1 c.2.2):onAgg (V.agg (clr c)) fun cs=>onCons cs fun u r=>onIntK IntKind.i64 u fun n=>onCons r fun u r=>onIntK IntKind.i64 u fun n_1=>onCons r fun u r=>onIntK IntKind.i64 u fun n_2=>onNil r (k n n_1 n_2):=h
def BrickP (n:Nat) (b:Bk):Prop:=(0≤b.1∧b.1<(n:Int))∧Bd 1000 b.2.1∧b.2.2.1<24∧b.2.2.2≤15
def BkR (b:Bk):Prop:=(0≤b.2.2.1∧b.2.2.1≤255)∧0≤b.2.2.2∧b.2.2.2≤255
theorem brick98 {l:List Kd} {b:Bk} {R:V→Prop} (hb:BkR b) (hl:(l.length:Int)≤1000000) (h:R (bv (dc (BrickP l.length b)))):K0G Tryz.prog glX 98 [.lst 3 (kdl l),.agg (bkr b)] R:=by
 refine K0_of_WY0 hmX hcR 3000 Tryz.func98 (see (p:=K0G Tryz.prog glX 52 [iv b.1,iv (0:Int),iv (IntKind.i64.wrap ((↑(kdl l).length:Int) - (1:Int)))] fun v=>onBool v fun b_1=>ifB b_1 (K0G Tryz.prog glX 84 [V.agg [iv b.2.1.1,iv b.2.1.2.1,iv b.2.1.2.2],iv (-1000:Int),iv (1000:Int)] fun v=>onBool v fun b_2=>ifB b_2 (K0G Tryz.prog glX 52 [iv (IntKind.i64.wrap b.2.2.1),iv (0:Int),iv (23:Int)] fun v=>onBool v fun b_3=>ifB b_3 (R (bv (decide (b.2.2.2≤(15:Int))))) (R (bv false))) (R (bv false))) (R (bv false))) (by kernel_rfl) ?_)
 obtain ⟨⟨b1,b2⟩,b3,b4⟩:=hb
 rw [kdl_length,wr (n:=(l.length:Int) - 1) (by omega) (by omega),wr (n:=b.2.2.1) (by omega) (by omega)]
 refine within52 (onBool_bv (ifB_mk (fun c1=>near84 (c:=b.2.1) (onBool_bv (ifB_mk (fun c2=>within52 (onBool_bv (ifB_mk (fun c3=>rb h ?_) (fun c3=>rf h (fun q=>dc_false c3 ⟨b1,by have:=q.2.2.1; omega⟩))))) (fun c2=>rf h (fun q=>dc_false c2 q.2.1))))) (fun c1=>rf h (fun q=>dc_false c1 ⟨q.1.1,by have:=q.1.2; omega⟩))))
 have c1:=dc_true c1
 have c3:=dc_true c3
 exact ⟨fun q=>⟨⟨c1.1,by omega⟩,dc_true c2,by omega,of_decide_eq_true q⟩,fun q=>decide_eq_true q.2.2.2⟩
def askE (l:List Kd) (b:Bk) (e:Int):Prop:=(16<l.length∧e=4)∨(l.length≤16 ∧ ¬ KindsP l∧e=10)∨(KindsP l ∧ ¬ BrickP l.length b∧e=11)∨(KindsP l∧BrickP l.length b∧e=0)
theorem askE.ok {l:List Kd} {b:Bk} (h:askE l b 0):KindsP l∧BrickP l.length b:=by
 rcases h with ⟨h1,h2⟩ | ⟨h1,h2,h3⟩ | ⟨h1,h2,h3⟩ | ⟨h1,h2,h3⟩
 ·omega
 ·omega
 ·omega
 ·exact ⟨h1,h2⟩
def GreatP (l:List Kd) (m:List Bk):Prop:=20<l.length∨45<m.length ∨ ∃ q∈l,30<q.1.length∨60<q.2.1.length
theorem del0 {l:List Kd} {i:Nat} {q:Kd} {k:Nat→List (List V)→Prop} (h:l[i]? = some q) (hk:k 3 (cll q.1)):onSome (kdl l)[i]? fun row=>onSome row[0]? fun v=>onLst v fun s es=>k s es:=onSome_mk (by simp [kdl,h]:(kdl l)[i]? = some (kdr q)) hk
theorem del1 {l:List Kd} {i:Nat} {q:Kd} {k:Nat→List (List V)→Prop} (h:l[i]? = some q) (hk:k 5 (knl q.2.1)):onSome (kdl l)[i]? fun row=>onSome row[1]? fun v=>onLst v fun s es=>k s es:=onSome_mk (by simp [kdl,h]:(kdl l)[i]? = some (kdr q)) hk
theorem great12 {l:List Kd} {m:List Bk} {R:V→Prop} (h:R (bv (dc (GreatP l m)))):K0G Tryz.prog glX 12 [.lst 3 (kdl l),.agg [.lst 6 (bkl m)]] R:=by
 refine K0_of_WY0 hmX hcR 3000 Tryz.func12 (see (p:=ifB (decide ((↑(kdl l).length:Int) > (20:Int))) (R (bv true)) (ifB (decide ((↑(bkl m).length:Int) > (45:Int))) (R (bv true)) (La 0 [(0:Tmp),(5:Tmp)] (WY Tryz.prog cfR 2994 (Env.mk (Bs.mk 0 []) 0 none 37 12 0) (cdAt [1,1,0,1,0,0] (bodyOf Tryz.f12))) (Qblk 0 (Qthen (WY Tryz.prog cfR 2997 (Env.mk (Bs.mk 0 []) 0 none 37 12 0) (cdAt [1,1,1] (bodyOf Tryz.f12)) (QendX Tryz.prog Tryz.f12 fun v h=>R (frzW h v))) (QendX Tryz.prog Tryz.f12 fun v h=>R (frzW h v)))) (St.mk (mkT [(0,V.lst 3 (kdl l)),(5,iv (0:Int))]) (Hp.mk [] 0 []))))) (by kernel_rfl) ?_)
 rw [kdl_length,bkl_length]
 refine ifB_mk (fun c=>rt h (.inl (by have:=of_decide_eq_true c; omega))) (fun c1=>ifB_mk (fun c=>rt h (.inr (.inl (by have:=of_decide_eq_true c; omega)))) (fun c2=>?_))
 have c1:l.length≤20:=by have:=of_decide_eq_false c1; omega
 have c2:m.length≤45:=by have:=of_decide_eq_false c2; omega
 refine La.of (σ:=Nat) (fun k=>sh12 l k) (fun k=>k≤l.length∧(∀ x∈l.take k, ¬ (30<x.1.length∨60<x.2.1.length))) (fun k=>l.length - k) 0 (by kernel_rfl) ⟨by omega,by simp⟩ ?_
 rintro k ⟨g1,g2⟩ J hJ
 refine see (p:=ifB (decide ((↑k:Int)<(↑(kdl l).length:Int))) (onSome (kdl l)[k]? fun row=>onSome row[0]? fun v=>onLst v fun s es=>ifB (decide ((↑es.length:Int) > (30:Int))) (R (bv true)) (onSome (kdl l)[k]? fun row=>onSome row[1]? fun v=>onLst v fun s es=>ifB (decide ((↑es.length:Int) > (60:Int))) (R (bv true)) (J (St.mk (mkT [(0,V.lst 3 (kdl l)),(5,iv (IntKind.i64.wrap ((↑k:Int)+(1:Int))))]) (Hp.mk [] 0 []))))) (R (bv false))) (by kernel_rfl) ?_
 rw [kdl_length]
 refine ifB_mk (fun hb=>?_) (fun hb=>?_)
 ·have hlt:k<l.length:=by have:=of_decide_eq_true hb; omega
  obtain ⟨x,hx⟩:=getI hlt
  refine del0 hx ?_
  rw [cll_length]
  refine ifB_mk (fun c=>rt h (.inr (.inr ⟨x,mem_at hx,.inl (by have:=of_decide_eq_true c; omega)⟩))) (fun c=>del1 hx ?_)
  rw [knl_length]
  refine ifB_mk (fun d=>rt h (.inr (.inr ⟨x,mem_at hx,.inr (by have:=of_decide_eq_true d; omega)⟩))) (fun d=>?_)
  rw [wr1i hlt (by omega)]
  exact hJ (k+1) ⟨hlt,all_take hx g2 (by have:=of_decide_eq_false c; have:=of_decide_eq_false d; omega)⟩ (by omega)
 ·have hk:l.length≤k:=by have:=of_decide_eq_false hb; omega
  refine rf h ?_
  rintro (q | q | ⟨x,hx,q⟩)
  ·omega
  ·omega
  ·exact all_all hk g2 x hx q
set_option maxRecDepth 100000
def fZ:V:=V.fn (Fn.func 124) [] []
def fX:V:=V.fn (Fn.func 123) [] []
def fN:V:=V.raw Value.nilFunc
def chA (k:Int):V:=V.agg [fZ,iv k,fN,iv 0,fN,iv 0]
def chB (k s:Int):V:=V.agg [fZ,iv k,fX,iv s,fN,iv 0]
def chC (k j:Int):V:=V.agg [fZ,iv k,fX,iv 1,fZ,iv j]
noncomputable def cfT:Cfg:=cfgM Tryz.prog glX moZ tyZ (inN [123,124]) (fun _ _=>none)
noncomputable def cfU:Cfg:=cfgM Tryz.prog glX moZ tyZ (inN [123,124,85]) (fun _ _=>none)
end Go.Proofs.YtbionhgjgcpogaaGreatDoor
