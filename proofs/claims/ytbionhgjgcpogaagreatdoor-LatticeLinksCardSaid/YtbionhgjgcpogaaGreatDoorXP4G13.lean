/- A part of the proof. -/
import Derived.Test.YtbionhgjgcpogaaGreatDoorProg
import Derived.Test.YtbionhgjgcpogaaGreatDoorXP4G9
import Derived.Test.YtbionhgjgcpogaaGreatDoorXP4G10
import Derived.Test.YtbionhgjgcpogaaGreatDoorXP4G11
import Derived.Test.YtbionhgjgcpogaaGreatDoorXP4G12
namespace Go.Proofs.YtbionhgjgcpogaaGreatDoor
open Go Go.Proofs.YtbionhgjgcpogaaGreatDoor.Clean
set_option linter.unusedVariables false
set_option linter.unusedSimpArgs false
set_option maxRecDepth 10000
theorem hcO:cfO.ok Tryz.prog:=by
 have h:(cfgG Tryz.prog glX moD poP (rtP fN) (inN [107]) kpO).ok Tryz.prog:=cfgG_ok (rtP_ok fN)
 exact ⟨h.1,h.2⟩
abbrev Bdy:=List Cl×List Kn
noncomputable def cellsAt (l:List Bdy) (b:Nat):List Cl:=((l[b]?).map (·.1)).getD []
noncomputable def brs (l:List Bdy) (i:Nat) (c:Cl):List Nat:=(List.range i).filter fun b=>dc (c∈cellsAt l b)
def OwnI (l:List Bdy) (i:Nat) (x:List Cl) (k:Nat) (T:List Ow):Prop :=
 (∀ t∈T,t.2.1=brs l i t.1++(bif dc (t.1∈x.take k) then [i] else [])) ∧ ∀ c,((∃ b,b<i∧c∈cellsAt l b)∨c∈x.take k)→c∈T.map (·.1)
theorem own_len {l:List Bdy} {i k:Nat} {x:List Cl} {T:List Ow} (h:OwnI l i x k T) : ∀ t∈T,t.2.1.length≤i+1:=fun t ht=>by
 rw [h.1 t ht,List.length_append]
 have:(brs l i t.1).length≤i:=by
  have:=List.length_filter_le (fun b=>dc (t.1∈cellsAt l b)) (List.range i)
  unfold brs
  simpa using this
 cases dc (t.1∈x.take k) <;> simp <;> omega
theorem own_step {l:List Bdy} {i k:Nat} {x:List Cl} {T T' : List Ow} {c:Cl} (h:OwnI l i x k T) (hc:x[k]? = some c) (hn:x.Nodup) (ha:AddO T c i T') (hcs:(T.map (·.1)).Nodup):OwnI l i x (k+1) T' := by
 have ht:x.take (k+1)=x.take k++[c]:=take_succ' hc
 have hnot : ¬ c∈x.take k:=fun hm=>by
  obtain ⟨j,hj⟩:=List.mem_iff_getElem?.1 hm
  have hjk:j<k:=by
   have:=(List.getElem?_eq_some_iff.1 hj).1
   simp at this
   omega
  rw [List.getElem?_take,if_pos hjk] at hj
  obtain ⟨a1,a2⟩:=List.getElem?_eq_some_iff.1 hj
  obtain ⟨b1,b2⟩:=List.getElem?_eq_some_iff.1 hc
  have:=(List.getElem_inj (h₀:=a1) (h₁:=b1) hn).1 (by rw [a2,b2])
  omega
 have other : ∀ t∈T,t.1≠c→t.2.1=brs l i t.1++(bif dc (t.1∈x.take (k+1)) then [i] else []):=fun t htm hne=>by
  rw [h.1 t htm]
  have:dc (t.1∈x.take (k+1))=dc (t.1∈x.take k):=dc_iff (by rw [ht]; simp [hne])
  rw [this]
 have new:dc (c∈x.take (k+1))=true:=dc_t (by rw [ht]; simp)
 rcases ha with ⟨j,t,n,h1,h2,rfl⟩ | ⟨h1,n,rfl⟩
 ·subst h2
  have hjl:=(List.getElem?_eq_some_iff.1 h1).1
  constructor
  ·intro u hu
   obtain ⟨a,hau⟩:=List.mem_iff_getElem?.1 hu
   rw [List.getElem?_set] at hau
   by_cases e:j=a
   ·rw [if_pos e,if_pos hjl] at hau
    cases hau
    simp only
    rw [new,cond_true,h.1 t (List.mem_of_getElem? h1),dc_f hnot,cond_false,List.append_nil]
   ·rw [if_neg e] at hau
    refine other u (List.mem_of_getElem? hau) fun he=>e ?_
    obtain ⟨a1,a2⟩:=List.getElem?_eq_some_iff.1 hau
    obtain ⟨b1,b2⟩:=List.getElem?_eq_some_iff.1 h1
    exact (List.getElem_inj (xs:=T.map (·.1)) (i:=j) (j:=a) (h₀:=by simpa using b1) (h₁:=by simpa using a1) hcs).1 (by simp [a2,b2,he])
  ·intro d hd
   have hset:(T.set j (t.1,t.2.1++[i],n)).map (·.1)=T.map (·.1):=by
    rw [List.map_set]
    apply List.ext_getElem?
    intro a
    rw [List.getElem?_set]
    by_cases e:j=a
    ·subst e
     rw [if_pos rfl,if_pos (by simpa using hjl),List.getElem?_map,h1]
     rfl
    ·rw [if_neg e]
   rw [hset]
   rcases hd with hd | hd
   ·exact h.2 d (.inl hd)
   ·rw [ht] at hd
    rcases List.mem_append.1 hd with hd | hd
    ·exact h.2 d (.inr hd)
    ·rw [List.mem_singleton.1 hd]
     exact List.mem_map.2 ⟨t,List.mem_of_getElem? h1,rfl⟩
 ·constructor
  ·intro u hu
   rcases List.mem_append.1 hu with hu | hu
   ·exact other u hu fun he=>h1 (he ▸ List.mem_map.2 ⟨u,hu,rfl⟩)
   ·rw [List.mem_singleton.1 hu]
    simp only
    rw [new,cond_true]
    have:brs l i c=[]:=by
     unfold brs
     rw [List.filter_eq_nil_iff]
     intro b hb hb2
     exact h1 (h.2 c (.inl ⟨b,List.mem_range.1 hb,dc_true hb2⟩))
    rw [this]
    rfl
  ·intro d hd
   rw [List.map_append]
   rcases hd with hd | hd
   ·exact List.mem_append.2 (.inl (h.2 d (.inl hd)))
   ·rw [ht] at hd
    rcases List.mem_append.1 hd with hd | hd
    ·exact List.mem_append.2 (.inl (h.2 d (.inr hd)))
    ·exact List.mem_append.2 (.inr (by simpa using hd))
theorem own_next {l:List Bdy} {i:Nat} {b:Bdy} {T:List Ow} (hb:l[i]? = some b) (h:OwnI l i b.1 b.1.length T):OwnI l (i+1) [] 0 T:=by
 have hx:cellsAt l i=b.1:=by unfold cellsAt; rw [hb]; rfl
 have e:b.1.take b.1.length=b.1:=List.take_length
 constructor
 ·intro t ht
  rw [h.1 t ht,e]
  unfold brs
  rw [List.range_succ,List.filter_append,List.filter_cons,hx]
  cases dc (t.1∈b.1) <;> simp [dc]
 ·intro c hc
  rcases hc with ⟨j,hj,hj2⟩ | hc
  ·rcases Nat.lt_succ_iff_lt_or_eq.1 hj with g | g
   ·exact h.2 c (.inl ⟨j,g,hj2⟩)
   ·subst g
    rw [hx] at hj2
    exact h.2 c (.inr (by rw [e]; exact hj2))
  ·simp at hc
theorem own_start {l:List Bdy} {i:Nat} {x:List Cl} {T:List Ow} (h:OwnI l i [] 0 T):OwnI l i x 0 T:=⟨fun t ht=>by rw [h.1 t ht]; simp,fun c hc=>h.2 c (by simpa using hc)⟩
set_option maxRecDepth 100000
def prl (ps:List (Nat×Nat)):List (List V):=ps.map fun p=>[iv (p.1:Int),iv (p.2:Int)]
noncomputable def oNa (l:List (List Cl×List Kn)) (es:List (V×V)) (ms:List (Option (List (List V)))) (m i:Nat):St:=⟨mkT [(0,V.lst 2 (bdl l)),(3,V.mp (Id.p 0)),(4,nilS),(14,V.lst 2 (bdl l)),(15,iv (m:Int)),(16,iv (i:Int))],⟨[(0,O.mp es)],1,[(0,Fam.mk 1 ms)]⟩⟩
noncomputable def oSa (l:List (List Cl×List Kn)) (ps:List (Nat×Nat)) (es:List (V×V)) (ms:List (Option (List (List V)))) (q m i:Nat):St:=⟨mkT [(0,V.lst 2 (bdl l)),(3,V.mp (Id.p 0)),(4,V.sl (Id.p 1) 0 q),(14,V.lst 2 (bdl l)),(15,iv (m:Int)),(16,iv (i:Int))],⟨[(0,O.mp es),(1,O.rows 2 true (prl ps))],2,[(0,Fam.mk 1 ms)]⟩⟩
noncomputable def oNb (l:List (List Cl×List Kn)) (x:List Cl) (cm:List V) (es:List (V×V)) (ms:List (Option (List (List V)))) (m i n k:Nat):St:=⟨mkT [(0,V.lst 2 (bdl l)),(3,V.mp (Id.p 0)),(4,nilS),(5,iv (i:Int)),(6,V.ptr (Id.p 1) 0 0),(14,V.lst 2 (bdl l)),(15,iv (m:Int)),(16,iv (i:Int)),(23,V.lst 3 (cll x)),(24,iv (n:Int)),(25,iv (k:Int))],⟨[(0,O.mp es),(1,O.rows 40 true [cm])],2,[(0,Fam.mk 1 ms)]⟩⟩
noncomputable def oSb (l:List (List Cl×List Kn)) (x:List Cl) (cm:List V) (ps:List (Nat×Nat)) (es:List (V×V)) (ms:List (Option (List (List V)))) (q m i n k:Nat):St:=⟨mkT [(0,V.lst 2 (bdl l)),(3,V.mp (Id.p 0)),(4,V.sl (Id.p 1) 0 q),(5,iv (i:Int)),(6,V.ptr (Id.p 2) 0 0),(14,V.lst 2 (bdl l)),(15,iv (m:Int)),(16,iv (i:Int)),(23,V.lst 3 (cll x)),(24,iv (n:Int)),(25,iv (k:Int))],⟨[(0,O.mp es),(1,O.rows 2 true (prl ps)),(2,O.rows 40 true [cm])],3,[(0,Fam.mk 1 ms)]⟩⟩
noncomputable def oNc (l:List (List Cl×List Kn)) (x:List Cl) (cm:List V) (es:List (V×V)) (ms:List (Option (List (List V)))) (m i n k j w z:Nat):St:=⟨mkT [(0,V.lst 2 (bdl l)),(3,V.mp (Id.p 0)),(4,nilS),(5,iv (i:Int)),(6,V.ptr (Id.p 1) 0 0),(14,V.lst 2 (bdl l)),(15,iv (m:Int)),(16,iv (i:Int)),(23,V.lst 3 (cll x)),(24,iv (n:Int)),(25,iv (k:Int)),(31,V.sl (Id.m 0 j) 0 w),(32,iv (w:Int)),(33,iv (z:Int))],⟨[(0,O.mp es),(1,O.rows 40 true [cm])],2,[(0,Fam.mk 1 ms)]⟩⟩
noncomputable def oSc (l:List (List Cl×List Kn)) (x:List Cl) (cm:List V) (ps:List (Nat×Nat)) (es:List (V×V)) (ms:List (Option (List (List V)))) (q m i n k j w z:Nat):St:=⟨mkT [(0,V.lst 2 (bdl l)),(3,V.mp (Id.p 0)),(4,V.sl (Id.p 1) 0 q),(5,iv (i:Int)),(6,V.ptr (Id.p 2) 0 0),(14,V.lst 2 (bdl l)),(15,iv (m:Int)),(16,iv (i:Int)),(23,V.lst 3 (cll x)),(24,iv (n:Int)),(25,iv (k:Int)),(31,V.sl (Id.m 0 j) 0 w),(32,iv (w:Int)),(33,iv (z:Int))],⟨[(0,O.mp es),(1,O.rows 2 true (prl ps)),(2,O.rows 40 true [cm])],3,[(0,Fam.mk 1 ms)]⟩⟩
noncomputable def oNd (l:List (List Cl×List Kn)) (cm:List V) (es:List (V×V)) (ms:List (Option (List (List V)))) (m i o:Nat):St:=⟨mkT [(0,V.lst 2 (bdl l)),(3,V.mp (Id.p 0)),(4,nilS),(5,iv (i:Int)),(6,V.ptr (Id.p 1) 0 0),(11,iv (o:Int)),(14,V.lst 2 (bdl l)),(15,iv (m:Int)),(16,iv (i:Int))],⟨[(0,O.mp es),(1,O.rows 40 true [cm])],2,[(0,Fam.mk 1 ms)]⟩⟩
noncomputable def oSd (l:List (List Cl×List Kn)) (cm:List V) (ps:List (Nat×Nat)) (es:List (V×V)) (ms:List (Option (List (List V)))) (q m i o:Nat):St:=⟨mkT [(0,V.lst 2 (bdl l)),(3,V.mp (Id.p 0)),(4,V.sl (Id.p 1) 0 q),(5,iv (i:Int)),(6,V.ptr (Id.p 2) 0 0),(11,iv (o:Int)),(14,V.lst 2 (bdl l)),(15,iv (m:Int)),(16,iv (i:Int))],⟨[(0,O.mp es),(1,O.rows 2 true (prl ps)),(2,O.rows 40 true [cm])],3,[(0,Fam.mk 1 ms)]⟩⟩
set_option maxRecDepth 10000
noncomputable def cmV (P:Nat→Prop):List V:=(List.range 40).map fun o=>bv (dc (P o))
theorem cmV_length (P:Nat→Prop):(cmV P).length=40:=by simp [cmV]
theorem cmV_ext {P Q:Nat→Prop} (h : ∀ o,P o↔Q o):cmV P=cmV Q:=by
 have:P=Q:=funext fun o=>propext (h o)
 rw [this]
theorem cmV_get {P:Nat→Prop} {o:Nat} (ho:o<40):(cmV P)[0+o * 1]? = some (bv (dc (P o))):=by
 rw [Nat.zero_add,Nat.mul_one]
 simp [cmV,ho]
theorem cmV_zero:cmV (fun _=>False)=List.replicate 40 (bv false):=by
 unfold cmV
 rw [List.map_congr_left (g:=fun _=>bv false) (fun o _=>by rw [dc_f (fun h=>h)])]
 simp [List.map_const']
theorem cmV_set {P:Nat→Prop} {b:Nat} (hb:b<40):List.take (0+b * 1) (cmV P)++[bv true]++List.drop (0+b * 1+1) (cmV P)=cmV fun o=>P o∨o=b:=by
 rw [Nat.zero_add,Nat.mul_one]
 have h1:List.take b (cmV P)++[bv true]++List.drop (b+1) (cmV P)=(cmV P).set b (bv true):=by
  rw [List.set_eq_take_append_cons_drop,if_pos (by rw [cmV_length]; exact hb)]
  simp
 rw [h1]
 apply List.ext_getElem?
 intro o
 rw [List.getElem?_set]
 by_cases ho:o<40
 ·by_cases e:b=o
  ·subst e
   rw [if_pos rfl,if_pos (by rw [cmV_length]; exact hb)]
   simp only [cmV,List.getElem?_map,List.getElem?_range ho,Option.map_some]
   rw [dc_t (p:=P b∨True) (.inr trivial)]
  ·rw [if_neg e]
   simp only [cmV,List.getElem?_map,List.getElem?_range ho,Option.map_some]
   rw [dc_iff (p:=P o) (q:=P o∨o=b) ⟨.inl,fun h=>h.resolve_right (fun g=>e g.symm)⟩]
 ·rw [if_neg (by omega)]
  simp [cmV,ho]
def Comm (l:List Bdy) (b o:Nat):Prop := ∃ c,c∈cellsAt l b∧c∈cellsAt l o
noncomputable def inn (l:List Bdy) (i n:Nat):List (Nat×Nat):=((List.range n).filter fun o=>decide (i<o)&&dc (Comm l i o)).map fun o=>(i,o)
noncomputable def ovl (l:List Bdy) (i:Nat):List (Nat×Nat):=(List.range i).flatMap fun b=>inn l b l.length
theorem ovl_succ (l:List Bdy) (i:Nat):ovl l (i+1)=ovl l i++inn l i l.length:=by
 unfold ovl
 rw [List.range_succ,List.flatMap_append]
 simp
theorem inn_start (l:List Bdy) (i:Nat):inn l i (i+1)=[]:=by
 unfold inn
 rw [List.map_eq_nil_iff,List.filter_eq_nil_iff]
 intro o ho
 have:=List.mem_range.1 ho
 have h:decide (i<o)=false:=by simp; omega
 rw [h]
 simp
theorem inn_succ {l:List Bdy} {i n:Nat} (h:i<n):inn l i (n+1)=if dc (Comm l i n)=true then inn l i n++[(i,n)] else inn l i n:=by
 unfold inn
 rw [List.range_succ,List.filter_append,List.filter_cons]
 have h' : decide (i<n)=true:=by simpa using h
 rw [h']
 cases dc (Comm l i n) <;> simp
theorem own_find {l:List Bdy} {T:List Ow} {m:Nat} {c:Cl} (ho:OwnI l m [] 0 T) {b:Nat} (hb:b<m) (hc:c∈cellsAt l b):c∈T.map (·.1):=ho.2 c (.inl ⟨b,hb,hc⟩)
theorem own_brs {l:List Bdy} {T:List Ow} {m:Nat} (ho:OwnI l m [] 0 T) {t:Ow} (ht:t∈T):t.2.1=brs l m t.1:=by
 rw [ho.1 t ht]
 have:dc (t.1∈([]:List Cl).take 0)=false:=dc_f (by simp)
 rw [this]
 simp
def Mk (l:List Bdy) (x:List Cl) (k:Nat) (o:Nat):Prop := ∃ c,c∈x.take k∧c∈cellsAt l o
theorem mk_succ {l:List Bdy} {x:List Cl} {k:Nat} {c:Cl} (hc:x[k]? = some c) (m:Nat) (hm : ∀ o,c∈cellsAt l o→o<m) (o:Nat):(Mk l x k o∨o∈brs l m c)↔Mk l x (k+1) o:=by
 have ht:x.take (k+1)=x.take k++[c]:=take_succ' hc
 unfold Mk brs
 rw [ht,List.mem_filter,List.mem_range]
 constructor
 ·rintro (⟨d,h1,h2⟩ | ⟨h1,h2⟩)
  ·exact ⟨d,by simp [h1],h2⟩
  ·exact ⟨c,by simp,dc_true h2⟩
 ·rintro ⟨d,h1,h2⟩
  rcases List.mem_append.1 h1 with h1 | h1
  ·exact .inl ⟨d,h1,h2⟩
  ·rw [List.mem_singleton.1 h1] at h2
   exact .inr ⟨hm o h2,dc_t h2⟩
theorem cellsAt_lt {l:List Bdy} {o:Nat} {c:Cl} (h:c∈cellsAt l o):o<l.length:=by
 unfold cellsAt at h
 rcases Nat.lt_or_ge o l.length with g | g
 ·exact g
 ·rw [List.getElem?_eq_none g] at h
  simp at h
theorem own106 {l:List Bdy} {R:V→Prop} (hl:l.length≤40) (hl30 : ∀ b∈l,b.1.length≤1000) (hn : ∀ b∈l,b.1.Nodup) (rest : ∀ (T:List Ow) (es:List (V×V)) (ms:List (Option (List (List V)))),Rep T es ms→OwnI l l.length [] 0 T→La 0 [(0:Tmp),(3:Tmp),(4:Tmp),(14:Tmp),(15:Tmp),(16:Tmp),(1000001:Tmp),(4000003:Tmp)] (WY Tryz.prog cfO 2993 (Env.mk (Bs.mk 0 []) 0 none 60 106 0) (cdAt [1,1,1,0,1,0,0] (bodyOf Tryz.f106))) (Qblk 0 (Qthen (WY Tryz.prog cfO 2996 (Env.mk (Bs.mk 0 []) 0 none 60 106 0) (cdAt [1,1,1,1] (bodyOf Tryz.f106)) (QendX Tryz.prog Tryz.f106 fun v h=>R (frzW h v))) (QendX Tryz.prog Tryz.f106 fun v h=>R (frzW h v)))) (St.mk (mkT [(0,V.lst 2 (bdl l)),(3,V.mp (Id.p 0)),(4,nilS),(14,V.lst 2 (bdl l)),(15,iv (↑(bdl l).length:Int)),(16,iv (0:Int))]) (Hp.mk [(0,O.mp (trM [] 0 ms.length es))] 1 [(0,Fam.mk 1 (ms++[]))]))):K0G Tryz.prog glX 106 [.lst 2 (bdl l)] R:=by
 refine K0_by hmX hcO 3000 Tryz.func106 (p := La 0 [(3 : Tmp), (9 : Tmp), (10 : Tmp), (11 : Tmp), (1000001 : Tmp), (4000003 : Tmp)] (WY Tryz.prog cfO 2991 (Env.mk (Bs.mk 0 (spared [] [V.lst 2 (bdl l)] ++ [])) 0 none 34 107 0) (cdAt [1, 1, 0, 1, 0, 0] (bodyOf Tryz.f107))) (Qblk 0 (Qthen (WY Tryz.prog cfO 2994 (Env.mk (cfO.baseOf (Bs.mk 0 []) 107 [V.lst 2 (bdl l)] (Hp.mk [] 0 [])) 0 none 34 107 0) (cdAt [1, 1, 1] (bodyOf Tryz.f107)) (QendX Tryz.prog Tryz.f107 fun v h' => (fun v h => fzNew (callY Tryz.prog cfO (WY Tryz.prog cfO 2997) (Env.mk (Bs.mk 0 []) 0 none Tryz.f106.ntmps (106 : FuncId) 0).base (Env.mk (Bs.mk 0 []) 0 none Tryz.f106.ntmps (106 : FuncId) 0).fid) 0 (Oper.mk (some 13) (Op.call (Call.mk (Callee.value (Operand.func 107)) #[Operand.tmp 12] #[129])) 169 "model.go:52" #[Edge.mk 0 Ground.data] none) v h fun v h => putT (Env.mk (Bs.mk 0 []) 0 none Tryz.f106.ntmps (106 : FuncId) 0).N (mkT [(0, V.lst 2 (bdl l)), (2, nilS), (12, V.lst 2 (bdl l))]) (Oper.mk (some 13) (Op.call (Call.mk (Callee.value (Operand.func 107)) #[Operand.tmp 12] #[129])) 169 "model.go:52" #[Edge.mk 0 Ground.data] none).dst v fun tm => (fun st => fzOld (callY Tryz.prog cfO (WY Tryz.prog cfO 2997) (Env.mk (Bs.mk 0 []) 0 none Tryz.f106.ntmps (106 : FuncId) 0).base (Env.mk (Bs.mk 0 []) 0 none Tryz.f106.ntmps (106 : FuncId) 0).fid) (askY cfO (Env.mk (Bs.mk 0 []) 0 none Tryz.f106.ntmps (106 : FuncId) 0).base) (Oper.mk (some 13) (Op.call (Call.mk (Callee.value (Operand.func 107)) #[Operand.tmp 12] #[129])) 169 "model.go:52" #[Edge.mk 0 Ground.data] none) st fun st => wOps Tryz.prog (callY Tryz.prog cfO (WY Tryz.prog cfO 2997) (Env.mk (Bs.mk 0 []) 0 none Tryz.f106.ntmps (106 : FuncId) 0).base (Env.mk (Bs.mk 0 []) 0 none Tryz.f106.ntmps (106 : FuncId) 0).fid) (askY cfO (Env.mk (Bs.mk 0 []) 0 none Tryz.f106.ntmps (106 : FuncId) 0).base) (Env.mk (Bs.mk 0 []) 0 none Tryz.f106.ntmps (106 : FuncId) 0).N #[Oper.mk (some 12) (Op.move (Operand.tmp 0)) 129 "model.go:52" #[] none, Oper.mk (some 13) (Op.call (Call.mk (Callee.value (Operand.func 107)) #[Operand.tmp 12] #[129])) 169 "model.go:52" #[Edge.mk 0 Ground.data] none, Oper.mk (some 3) (Op.assign (Operand.tmp 13)) 169 "model.go:52" #[Edge.mk 1 Ground.data, Edge.mk 1 Ground.chain, Edge.mk 0 Ground.phase, Edge.mk 1 Ground.phase] none].toList [Oper.mk (some 3) (Op.assign (Operand.tmp 13)) 169 "model.go:52" #[Edge.mk 1 Ground.data, Edge.mk 1 Ground.chain, Edge.mk 0 Ground.phase, Edge.mk 1 Ground.phase] none] st (Qthen (WY Tryz.prog cfO 2998 (Env.mk (Bs.mk 0 []) 0 none 60 106 0) (cdAt [1, 1] (bodyOf Tryz.f106)) (QendX Tryz.prog Tryz.f106 fun v h => R (frzW h v))) (QendX Tryz.prog Tryz.f106 fun v h => R (frzW h v)) Ex.norm)) (St.mk tm h)) v (bif cfO.clean 107 then gcH 0 v h' else h'))) (QendX Tryz.prog Tryz.f107 fun v h' => (fun v h => fzNew (callY Tryz.prog cfO (WY Tryz.prog cfO 2997) (Env.mk (Bs.mk 0 []) 0 none Tryz.f106.ntmps (106 : FuncId) 0).base (Env.mk (Bs.mk 0 []) 0 none Tryz.f106.ntmps (106 : FuncId) 0).fid) 0 (Oper.mk (some 13) (Op.call (Call.mk (Callee.value (Operand.func 107)) #[Operand.tmp 12] #[129])) 169 "model.go:52" #[Edge.mk 0 Ground.data] none) v h fun v h => putT (Env.mk (Bs.mk 0 []) 0 none Tryz.f106.ntmps (106 : FuncId) 0).N (mkT [(0, V.lst 2 (bdl l)), (2, nilS), (12, V.lst 2 (bdl l))]) (Oper.mk (some 13) (Op.call (Call.mk (Callee.value (Operand.func 107)) #[Operand.tmp 12] #[129])) 169 "model.go:52" #[Edge.mk 0 Ground.data] none).dst v fun tm => (fun st => fzOld (callY Tryz.prog cfO (WY Tryz.prog cfO 2997) (Env.mk (Bs.mk 0 []) 0 none Tryz.f106.ntmps (106 : FuncId) 0).base (Env.mk (Bs.mk 0 []) 0 none Tryz.f106.ntmps (106 : FuncId) 0).fid) (askY cfO (Env.mk (Bs.mk 0 []) 0 none Tryz.f106.ntmps (106 : FuncId) 0).base) (Oper.mk (some 13) (Op.call (Call.mk (Callee.value (Operand.func 107)) #[Operand.tmp 12] #[129])) 169 "model.go:52" #[Edge.mk 0 Ground.data] none) st fun st => wOps Tryz.prog (callY Tryz.prog cfO (WY Tryz.prog cfO 2997) (Env.mk (Bs.mk 0 []) 0 none Tryz.f106.ntmps (106 : FuncId) 0).base (Env.mk (Bs.mk 0 []) 0 none Tryz.f106.ntmps (106 : FuncId) 0).fid) (askY cfO (Env.mk (Bs.mk 0 []) 0 none Tryz.f106.ntmps (106 : FuncId) 0).base) (Env.mk (Bs.mk 0 []) 0 none Tryz.f106.ntmps (106 : FuncId) 0).N #[Oper.mk (some 12) (Op.move (Operand.tmp 0)) 129 "model.go:52" #[] none, Oper.mk (some 13) (Op.call (Call.mk (Callee.value (Operand.func 107)) #[Operand.tmp 12] #[129])) 169 "model.go:52" #[Edge.mk 0 Ground.data] none, Oper.mk (some 3) (Op.assign (Operand.tmp 13)) 169 "model.go:52" #[Edge.mk 1 Ground.data, Edge.mk 1 Ground.chain, Edge.mk 0 Ground.phase, Edge.mk 1 Ground.phase] none].toList [Oper.mk (some 3) (Op.assign (Operand.tmp 13)) 169 "model.go:52" #[Edge.mk 1 Ground.data, Edge.mk 1 Ground.chain, Edge.mk 0 Ground.phase, Edge.mk 1 Ground.phase] none] st (Qthen (WY Tryz.prog cfO 2998 (Env.mk (Bs.mk 0 []) 0 none 60 106 0) (cdAt [1, 1] (bodyOf Tryz.f106)) (QendX Tryz.prog Tryz.f106 fun v h => R (frzW h v))) (QendX Tryz.prog Tryz.f106 fun v h => R (frzW h v)) Ex.norm)) (St.mk tm h)) v (bif cfO.clean 107 then gcH 0 v h' else h')))) (St.mk (mkT [(3, V.mp (Id.p 0)), (9, V.lst 2 (bdl l)), (10, iv (↑(bdl l).length : Int)), (11, iv (0 : Int))]) (Hp.mk [(0, O.mp [])] 1 [(0, Fam.mk 1 ([] ++ []))]))) (by kernel_rfl) ?_
 obtain ⟨m,hm⟩ : ∃ m,m=(bdl l).length:=⟨_,rfl⟩
 rw [← hm]
 have hml:m=l.length:=by rw [hm]; simp [bdl]
 have r0:Rep [] [] []:=⟨rfl,List.Pairwise.nil,(fun t ht=>(by cases ht)),List.Pairwise.nil⟩
 have o0:OwnI l 0 [] 0 []:=by
  refine ⟨fun t ht=>(by cases ht),fun c hc=>?_⟩
  rcases hc with ⟨b,hb,_⟩ | hc
  ·omega
  ·simp at hc
 refine La.of (σ:=Nat×List (V×V)×List (Option (List (List V)))) (fun s=>sh107a l s.2.1 s.2.2 m s.1) (fun s=>s.1≤m ∧ ∃ T,Rep T s.2.1 s.2.2∧OwnI l s.1 [] 0 T) (fun s=>m - s.1) (0,[],[]) (by kernel_rfl) ⟨by omega,[],r0,o0⟩ ?_
 rintro ⟨i,es,ms⟩ ⟨g1,T,hr,ho⟩ J hJ
 simp only at g1 hr ho
 refine see (p := ifB (decide ((↑i : Int) < (↑m : Int))) (onSome (bdl l)[i]? fun row => onCons (List.drop 0 row) fun u r => onLst u fun s es_1 => onCons r fun u r => onLst u fun s_1 es_2 => guardB (es.all (goodE [] 0 true)) (La 0 [(3 : Tmp), (4 : Tmp), (9 : Tmp), (10 : Tmp), (11 : Tmp), (17 : Tmp), (18 : Tmp), (19 : Tmp), (1000001 : Tmp), (4000003 : Tmp)] (WY Tryz.prog cfO 2983 (Env.mk (Bs.mk 0 (spared [] [V.lst 2 (bdl l)] ++ [])) 0 none 34 107 2) (cdAt [1, 1, 0, 1, 0, 0, 1, 1, 0, 0, 1, 1, 0, 0] (bodyOf Tryz.f107))) (Qblk 2 (Qblk 1 (Qthen (WY Tryz.prog cfO 2988 (Env.mk (Bs.mk 0 (spared [] [V.lst 2 (bdl l)] ++ [])) 0 none 34 107 0) (cdAt [1, 1, 0, 1, 0, 0, 1, 1, 1] (bodyOf Tryz.f107)) (Qla 0 [(3 : Tmp), (9 : Tmp), (10 : Tmp), (11 : Tmp), (1000001 : Tmp), (4000003 : Tmp)] J (Qblk 0 (Qthen (WY Tryz.prog cfO 2994 (Env.mk (cfO.baseOf (Bs.mk 0 []) 107 [V.lst 2 (bdl l)] (Hp.mk [] 0 [])) 0 none 34 107 0) (cdAt [1, 1, 1] (bodyOf Tryz.f107)) (QendX Tryz.prog Tryz.f107 fun v h' => (fun v h => fzNew (callY Tryz.prog cfO (WY Tryz.prog cfO 2997) (Env.mk (Bs.mk 0 []) 0 none Tryz.f106.ntmps (106 : FuncId) 0).base (Env.mk (Bs.mk 0 []) 0 none Tryz.f106.ntmps (106 : FuncId) 0).fid) 0 (Oper.mk (some 13) (Op.call (Call.mk (Callee.value (Operand.func 107)) #[Operand.tmp 12] #[129])) 169 "model.go:52" #[Edge.mk 0 Ground.data] none) v h fun v h => putT (Env.mk (Bs.mk 0 []) 0 none Tryz.f106.ntmps (106 : FuncId) 0).N (mkT [(0, V.lst 2 (bdl l)), (2, nilS), (12, V.lst 2 (bdl l))]) (Oper.mk (some 13) (Op.call (Call.mk (Callee.value (Operand.func 107)) #[Operand.tmp 12] #[129])) 169 "model.go:52" #[Edge.mk 0 Ground.data] none).dst v fun tm => (fun st => fzOld (callY Tryz.prog cfO (WY Tryz.prog cfO 2997) (Env.mk (Bs.mk 0 []) 0 none Tryz.f106.ntmps (106 : FuncId) 0).base (Env.mk (Bs.mk 0 []) 0 none Tryz.f106.ntmps (106 : FuncId) 0).fid) (askY cfO (Env.mk (Bs.mk 0 []) 0 none Tryz.f106.ntmps (106 : FuncId) 0).base) (Oper.mk (some 13) (Op.call (Call.mk (Callee.value (Operand.func 107)) #[Operand.tmp 12] #[129])) 169 "model.go:52" #[Edge.mk 0 Ground.data] none) st fun st => wOps Tryz.prog (callY Tryz.prog cfO (WY Tryz.prog cfO 2997) (Env.mk (Bs.mk 0 []) 0 none Tryz.f106.ntmps (106 : FuncId) 0).base (Env.mk (Bs.mk 0 []) 0 none Tryz.f106.ntmps (106 : FuncId) 0).fid) (askY cfO (Env.mk (Bs.mk 0 []) 0 none Tryz.f106.ntmps (106 : FuncId) 0).base) (Env.mk (Bs.mk 0 []) 0 none Tryz.f106.ntmps (106 : FuncId) 0).N #[Oper.mk (some 12) (Op.move (Operand.tmp 0)) 129 "model.go:52" #[] none, Oper.mk (some 13) (Op.call (Call.mk (Callee.value (Operand.func 107)) #[Operand.tmp 12] #[129])) 169 "model.go:52" #[Edge.mk 0 Ground.data] none, Oper.mk (some 3) (Op.assign (Operand.tmp 13)) 169 "model.go:52" #[Edge.mk 1 Ground.data, Edge.mk 1 Ground.chain, Edge.mk 0 Ground.phase, Edge.mk 1 Ground.phase] none].toList [Oper.mk (some 3) (Op.assign (Operand.tmp 13)) 169 "model.go:52" #[Edge.mk 1 Ground.data, Edge.mk 1 Ground.chain, Edge.mk 0 Ground.phase, Edge.mk 1 Ground.phase] none] st (Qthen (WY Tryz.prog cfO 2998 (Env.mk (Bs.mk 0 []) 0 none 60 106 0) (cdAt [1, 1] (bodyOf Tryz.f106)) (QendX Tryz.prog Tryz.f106 fun v h => R (frzW h v))) (QendX Tryz.prog Tryz.f106 fun v h => R (frzW h v)) Ex.norm)) (St.mk tm h)) v (bif cfO.clean 107 then gcH 0 v h' else h'))) (QendX Tryz.prog Tryz.f107 fun v h' => (fun v h => fzNew (callY Tryz.prog cfO (WY Tryz.prog cfO 2997) (Env.mk (Bs.mk 0 []) 0 none Tryz.f106.ntmps (106 : FuncId) 0).base (Env.mk (Bs.mk 0 []) 0 none Tryz.f106.ntmps (106 : FuncId) 0).fid) 0 (Oper.mk (some 13) (Op.call (Call.mk (Callee.value (Operand.func 107)) #[Operand.tmp 12] #[129])) 169 "model.go:52" #[Edge.mk 0 Ground.data] none) v h fun v h => putT (Env.mk (Bs.mk 0 []) 0 none Tryz.f106.ntmps (106 : FuncId) 0).N (mkT [(0, V.lst 2 (bdl l)), (2, nilS), (12, V.lst 2 (bdl l))]) (Oper.mk (some 13) (Op.call (Call.mk (Callee.value (Operand.func 107)) #[Operand.tmp 12] #[129])) 169 "model.go:52" #[Edge.mk 0 Ground.data] none).dst v fun tm => (fun st => fzOld (callY Tryz.prog cfO (WY Tryz.prog cfO 2997) (Env.mk (Bs.mk 0 []) 0 none Tryz.f106.ntmps (106 : FuncId) 0).base (Env.mk (Bs.mk 0 []) 0 none Tryz.f106.ntmps (106 : FuncId) 0).fid) (askY cfO (Env.mk (Bs.mk 0 []) 0 none Tryz.f106.ntmps (106 : FuncId) 0).base) (Oper.mk (some 13) (Op.call (Call.mk (Callee.value (Operand.func 107)) #[Operand.tmp 12] #[129])) 169 "model.go:52" #[Edge.mk 0 Ground.data] none) st fun st => wOps Tryz.prog (callY Tryz.prog cfO (WY Tryz.prog cfO 2997) (Env.mk (Bs.mk 0 []) 0 none Tryz.f106.ntmps (106 : FuncId) 0).base (Env.mk (Bs.mk 0 []) 0 none Tryz.f106.ntmps (106 : FuncId) 0).fid) (askY cfO (Env.mk (Bs.mk 0 []) 0 none Tryz.f106.ntmps (106 : FuncId) 0).base) (Env.mk (Bs.mk 0 []) 0 none Tryz.f106.ntmps (106 : FuncId) 0).N #[Oper.mk (some 12) (Op.move (Operand.tmp 0)) 129 "model.go:52" #[] none, Oper.mk (some 13) (Op.call (Call.mk (Callee.value (Operand.func 107)) #[Operand.tmp 12] #[129])) 169 "model.go:52" #[Edge.mk 0 Ground.data] none, Oper.mk (some 3) (Op.assign (Operand.tmp 13)) 169 "model.go:52" #[Edge.mk 1 Ground.data, Edge.mk 1 Ground.chain, Edge.mk 0 Ground.phase, Edge.mk 1 Ground.phase] none].toList [Oper.mk (some 3) (Op.assign (Operand.tmp 13)) 169 "model.go:52" #[Edge.mk 1 Ground.data, Edge.mk 1 Ground.chain, Edge.mk 0 Ground.phase, Edge.mk 1 Ground.phase] none] st (Qthen (WY Tryz.prog cfO 2998 (Env.mk (Bs.mk 0 []) 0 none 60 106 0) (cdAt [1, 1] (bodyOf Tryz.f106)) (QendX Tryz.prog Tryz.f106 fun v h => R (frzW h v))) (QendX Tryz.prog Tryz.f106 fun v h => R (frzW h v)) Ex.norm)) (St.mk tm h)) v (bif cfO.clean 107 then gcH 0 v h' else h')))))) (Qla 0 [(3 : Tmp), (9 : Tmp), (10 : Tmp), (11 : Tmp), (1000001 : Tmp), (4000003 : Tmp)] J (Qblk 0 (Qthen (WY Tryz.prog cfO 2994 (Env.mk (cfO.baseOf (Bs.mk 0 []) 107 [V.lst 2 (bdl l)] (Hp.mk [] 0 [])) 0 none 34 107 0) (cdAt [1, 1, 1] (bodyOf Tryz.f107)) (QendX Tryz.prog Tryz.f107 fun v h' => (fun v h => fzNew (callY Tryz.prog cfO (WY Tryz.prog cfO 2997) (Env.mk (Bs.mk 0 []) 0 none Tryz.f106.ntmps (106 : FuncId) 0).base (Env.mk (Bs.mk 0 []) 0 none Tryz.f106.ntmps (106 : FuncId) 0).fid) 0 (Oper.mk (some 13) (Op.call (Call.mk (Callee.value (Operand.func 107)) #[Operand.tmp 12] #[129])) 169 "model.go:52" #[Edge.mk 0 Ground.data] none) v h fun v h => putT (Env.mk (Bs.mk 0 []) 0 none Tryz.f106.ntmps (106 : FuncId) 0).N (mkT [(0, V.lst 2 (bdl l)), (2, nilS), (12, V.lst 2 (bdl l))]) (Oper.mk (some 13) (Op.call (Call.mk (Callee.value (Operand.func 107)) #[Operand.tmp 12] #[129])) 169 "model.go:52" #[Edge.mk 0 Ground.data] none).dst v fun tm => (fun st => fzOld (callY Tryz.prog cfO (WY Tryz.prog cfO 2997) (Env.mk (Bs.mk 0 []) 0 none Tryz.f106.ntmps (106 : FuncId) 0).base (Env.mk (Bs.mk 0 []) 0 none Tryz.f106.ntmps (106 : FuncId) 0).fid) (askY cfO (Env.mk (Bs.mk 0 []) 0 none Tryz.f106.ntmps (106 : FuncId) 0).base) (Oper.mk (some 13) (Op.call (Call.mk (Callee.value (Operand.func 107)) #[Operand.tmp 12] #[129])) 169 "model.go:52" #[Edge.mk 0 Ground.data] none) st fun st => wOps Tryz.prog (callY Tryz.prog cfO (WY Tryz.prog cfO 2997) (Env.mk (Bs.mk 0 []) 0 none Tryz.f106.ntmps (106 : FuncId) 0).base (Env.mk (Bs.mk 0 []) 0 none Tryz.f106.ntmps (106 : FuncId) 0).fid) (askY cfO (Env.mk (Bs.mk 0 []) 0 none Tryz.f106.ntmps (106 : FuncId) 0).base) (Env.mk (Bs.mk 0 []) 0 none Tryz.f106.ntmps (106 : FuncId) 0).N #[Oper.mk (some 12) (Op.move (Operand.tmp 0)) 129 "model.go:52" #[] none, Oper.mk (some 13) (Op.call (Call.mk (Callee.value (Operand.func 107)) #[Operand.tmp 12] #[129])) 169 "model.go:52" #[Edge.mk 0 Ground.data] none, Oper.mk (some 3) (Op.assign (Operand.tmp 13)) 169 "model.go:52" #[Edge.mk 1 Ground.data, Edge.mk 1 Ground.chain, Edge.mk 0 Ground.phase, Edge.mk 1 Ground.phase] none].toList [Oper.mk (some 3) (Op.assign (Operand.tmp 13)) 169 "model.go:52" #[Edge.mk 1 Ground.data, Edge.mk 1 Ground.chain, Edge.mk 0 Ground.phase, Edge.mk 1 Ground.phase] none] st (Qthen (WY Tryz.prog cfO 2998 (Env.mk (Bs.mk 0 []) 0 none 60 106 0) (cdAt [1, 1] (bodyOf Tryz.f106)) (QendX Tryz.prog Tryz.f106 fun v h => R (frzW h v))) (QendX Tryz.prog Tryz.f106 fun v h => R (frzW h v)) Ex.norm)) (St.mk tm h)) v (bif cfO.clean 107 then gcH 0 v h' else h'))) (QendX Tryz.prog Tryz.f107 fun v h' => (fun v h => fzNew (callY Tryz.prog cfO (WY Tryz.prog cfO 2997) (Env.mk (Bs.mk 0 []) 0 none Tryz.f106.ntmps (106 : FuncId) 0).base (Env.mk (Bs.mk 0 []) 0 none Tryz.f106.ntmps (106 : FuncId) 0).fid) 0 (Oper.mk (some 13) (Op.call (Call.mk (Callee.value (Operand.func 107)) #[Operand.tmp 12] #[129])) 169 "model.go:52" #[Edge.mk 0 Ground.data] none) v h fun v h => putT (Env.mk (Bs.mk 0 []) 0 none Tryz.f106.ntmps (106 : FuncId) 0).N (mkT [(0, V.lst 2 (bdl l)), (2, nilS), (12, V.lst 2 (bdl l))]) (Oper.mk (some 13) (Op.call (Call.mk (Callee.value (Operand.func 107)) #[Operand.tmp 12] #[129])) 169 "model.go:52" #[Edge.mk 0 Ground.data] none).dst v fun tm => (fun st => fzOld (callY Tryz.prog cfO (WY Tryz.prog cfO 2997) (Env.mk (Bs.mk 0 []) 0 none Tryz.f106.ntmps (106 : FuncId) 0).base (Env.mk (Bs.mk 0 []) 0 none Tryz.f106.ntmps (106 : FuncId) 0).fid) (askY cfO (Env.mk (Bs.mk 0 []) 0 none Tryz.f106.ntmps (106 : FuncId) 0).base) (Oper.mk (some 13) (Op.call (Call.mk (Callee.value (Operand.func 107)) #[Operand.tmp 12] #[129])) 169 "model.go:52" #[Edge.mk 0 Ground.data] none) st fun st => wOps Tryz.prog (callY Tryz.prog cfO (WY Tryz.prog cfO 2997) (Env.mk (Bs.mk 0 []) 0 none Tryz.f106.ntmps (106 : FuncId) 0).base (Env.mk (Bs.mk 0 []) 0 none Tryz.f106.ntmps (106 : FuncId) 0).fid) (askY cfO (Env.mk (Bs.mk 0 []) 0 none Tryz.f106.ntmps (106 : FuncId) 0).base) (Env.mk (Bs.mk 0 []) 0 none Tryz.f106.ntmps (106 : FuncId) 0).N #[Oper.mk (some 12) (Op.move (Operand.tmp 0)) 129 "model.go:52" #[] none, Oper.mk (some 13) (Op.call (Call.mk (Callee.value (Operand.func 107)) #[Operand.tmp 12] #[129])) 169 "model.go:52" #[Edge.mk 0 Ground.data] none, Oper.mk (some 3) (Op.assign (Operand.tmp 13)) 169 "model.go:52" #[Edge.mk 1 Ground.data, Edge.mk 1 Ground.chain, Edge.mk 0 Ground.phase, Edge.mk 1 Ground.phase] none].toList [Oper.mk (some 3) (Op.assign (Operand.tmp 13)) 169 "model.go:52" #[Edge.mk 1 Ground.data, Edge.mk 1 Ground.chain, Edge.mk 0 Ground.phase, Edge.mk 1 Ground.phase] none] st (Qthen (WY Tryz.prog cfO 2998 (Env.mk (Bs.mk 0 []) 0 none 60 106 0) (cdAt [1, 1] (bodyOf Tryz.f106)) (QendX Tryz.prog Tryz.f106 fun v h => R (frzW h v))) (QendX Tryz.prog Tryz.f106 fun v h => R (frzW h v)) Ex.norm)) (St.mk tm h)) v (bif cfO.clean 107 then gcH 0 v h' else h')))))))) (St.mk (mkT [(3, V.mp (Id.p 0)), (4, iv (↑i : Int)), (9, V.lst 2 (bdl l)), (10, iv (↑m : Int)), (11, iv (↑i : Int)), (17, V.lst s es_1), (18, iv (↑es_1.length : Int)), (19, iv (0 : Int))]) (Hp.mk [(0, O.mp (trM [] 0 ms.length es))] 1 [(0, Fam.mk 1 (ms ++ []))])))) (guardB (es.all (goodE [] 0 true)) (La 0 [(0 : Tmp), (3 : Tmp), (4 : Tmp), (14 : Tmp), (15 : Tmp), (16 : Tmp), (1000001 : Tmp), (4000003 : Tmp)] (WY Tryz.prog cfO 2993 (Env.mk (Bs.mk 0 []) 0 none 60 106 0) (cdAt [1, 1, 1, 0, 1, 0, 0] (bodyOf Tryz.f106))) (Qblk 0 (Qthen (WY Tryz.prog cfO 2996 (Env.mk (Bs.mk 0 []) 0 none 60 106 0) (cdAt [1, 1, 1, 1] (bodyOf Tryz.f106)) (QendX Tryz.prog Tryz.f106 fun v h => R (frzW h v))) (QendX Tryz.prog Tryz.f106 fun v h => R (frzW h v)))) (St.mk (mkT [(0, V.lst 2 (bdl l)), (3, V.mp (Id.p 0)), (4, nilS), (14, V.lst 2 (bdl l)), (15, iv (↑(bdl l).length : Int)), (16, iv (0 : Int))]) (Hp.mk [(0, O.mp (trM [] 0 ms.length es))] 1 [(0, Fam.mk 1 (ms ++ []))]))))) (by kernel_rfl) ?_
 have hgood : ∀ {T:List Ow} {es:List (V×V)},es=T.map ent→es.all (goodE [] 0 true)=true:=fun e=>by rw [e]; exact good_ent _ _
 have hrep : ∀ {T:List Ow} {es:List (V×V)} {ms:List (Option (List (List V)))},Rep T es ms→Rep T (trM [] 0 ms.length es) (ms++[]):=fun {T es ms} h=>by
  rw [List.append_nil,h.es,trM_ent,← h.es]; exact h
 refine ifB_mk (fun d=>?_) (fun d=>?_)
 rotate_left
 ·have hi:i=m:=by have:=of_decide_eq_false d; omega
  refine guardB_mk (hgood hr.es) ?_
  exact rest T es ms hr (by rw [← hml,← hi]; exact ho)
 have hi:i<m:=by have:=of_decide_eq_true d; omega
 obtain ⟨b,hb⟩:=getI (l:=l) (k:=i) (by omega)
 have hbm:=mem_at hb
 have hrow:(bdl l)[i]? = some (bdr b):=by simp [bdl,hb]
 refine onSome_mk hrow (onCons_cons (onLst_lst (onCons_cons (onLst_lst (guardB_mk (hgood hr.es) ?_)))))
 obtain ⟨x,hx⟩ : ∃ x,x=b.1:=⟨_,rfl⟩
 rw [← hx]
 obtain ⟨n,hnn⟩ : ∃ n,n=(cll x).length:=⟨_,rfl⟩
 rw [← hnn]
 have hnx:n=x.length:=by rw [hnn,cll_length]
 have hx1000:x.length≤1000:=by rw [hx]; exact hl30 b hbm
 refine La.of (σ:=Nat×List (V×V)×List (Option (List (List V)))) (fun s=>sh107b l x s.2.1 s.2.2 m i n s.1) (fun s=>s.1≤n ∧ ∃ T,Rep T s.2.1 s.2.2∧OwnI l i x s.1 T) (fun s=>n - s.1) (0,_,_) (by kernel_rfl) ⟨by omega,T,hrep hr,own_start ho⟩ ?_
 rintro ⟨k,es_1,ms'⟩ ⟨f1,T', hr', ho'⟩ I hI
 simp only at f1 hr' ho'
 obtain ⟨ms,hms⟩ : ∃ q,q=ms' := ⟨_,rfl⟩
 subst hms
 refine see (p:=ifB (decide ((↑k:Int)<(↑n:Int))) (onSome (cll x)[k]? fun row=>onCons (List.drop 0 row) fun u r=>onIntK IntKind.i64 u fun n_1=>onCons r fun u r=>onIntK IntKind.i64 u fun n_2=>onCons r fun u r=>onIntK IntKind.i64 u fun n_3=>onFind (findK Tryz.prog 28 (V.agg [iv n_1,iv n_2,iv n_3]) es_1 0) (fun i_1 kv vv=>guardB (sameC kv (V.agg [iv n_1,iv n_2,iv n_3])) (onMem 0 vv (onSome (es_1.set i_1 (V.agg [iv n_1,iv n_2,iv n_3],vv))[i_1]? fun kv=>guardB (((es_1.set i_1 (V.agg [iv n_1,iv n_2,iv n_3],vv)).set i_1 (kv.1,V.sl (Id.p 3) 0 1)).all (goodE [3,2] 0 true)) (I (St.mk (mkT [(3,V.mp (Id.p 0)),(4,iv (↑i:Int)),(9,V.lst 2 (bdl l)),(10,iv (↑m:Int)),(11,iv (↑i:Int)),(17,V.lst 3 (cll x)),(18,iv (↑n:Int)),(19,iv (IntKind.i64.wrap ((↑k:Int)+(1:Int))))]) (Hp.mk [(0,O.mp (trM [3,2] 0 ms.length ((es_1.set i_1 (V.agg [iv n_1,iv n_2,iv n_3],vv)).set i_1 (kv.1,V.sl (Id.p 3) 0 1))))] 1 [(0,Fam.mk 1 (ms++[some [[iv (↑i:Int)]],some [[iv (↑i:Int)]]]))])))) fun j n_4=>onSome (memb ms j) fun es=>need ((n_4+1) * 8≤140737488355328) (onSome (es_1.set i_1 (V.agg [iv n_1,iv n_2,iv n_3],vv))[i_1]? fun kv=>guardB (((es_1.set i_1 (V.agg [iv n_1,iv n_2,iv n_3],vv)).set i_1 (kv.1,V.sl (Id.p 3) 0 (n_4+1))).all (goodE [3,2] 0 true)) (I (St.mk (mkT [(3,V.mp (Id.p 0)),(4,iv (↑i:Int)),(9,V.lst 2 (bdl l)),(10,iv (↑m:Int)),(11,iv (↑i:Int)),(17,V.lst 3 (cll x)),(18,iv (↑n:Int)),(19,iv (IntKind.i64.wrap ((↑k:Int)+(1:Int))))]) (Hp.mk [(0,O.mp (trM [3,2] 0 ((ms.set j none)).length ((es_1.set i_1 (V.agg [iv n_1,iv n_2,iv n_3],vv)).set i_1 (kv.1,V.sl (Id.p 3) 0 (n_4+1)))))] 1 [(0,Fam.mk 1 (ms.set j none++[some (List.take n_4 es++[[iv (↑i:Int)]]),some [[iv (↑i:Int)]]]))])))))) (onSome (es_1++[(V.agg [iv n_1,iv n_2,iv n_3],nilS)])[es_1.length]? fun kv=>guardB (((es_1++[(V.agg [iv n_1,iv n_2,iv n_3],nilS)]).set es_1.length (kv.1,V.sl (Id.p 3) 0 1)).all (goodE [3,2] 0 true)) (I (St.mk (mkT [(3,V.mp (Id.p 0)),(4,iv (↑i:Int)),(9,V.lst 2 (bdl l)),(10,iv (↑m:Int)),(11,iv (↑i:Int)),(17,V.lst 3 (cll x)),(18,iv (↑n:Int)),(19,iv (IntKind.i64.wrap ((↑k:Int)+(1:Int))))]) (Hp.mk [(0,O.mp (trM [3,2] 0 ms.length ((es_1++[(V.agg [iv n_1,iv n_2,iv n_3],nilS)]).set es_1.length (kv.1,V.sl (Id.p 3) 0 1))))] 1 [(0,Fam.mk 1 (ms++[some [[iv (↑i:Int)]],some [[iv (↑i:Int)]]]))]))))) (guardB (es_1.all (goodE [] 0 true)) (J (St.mk (mkT [(3,V.mp (Id.p 0)),(9,V.lst 2 (bdl l)),(10,iv (↑m:Int)),(11,iv (IntKind.i64.wrap ((↑i:Int)+(1:Int))))]) (Hp.mk [(0,O.mp (trM [] 0 ms.length es_1))] 1 [(0,Fam.mk 1 (ms++[]))]))))) (by kernel_rfl) ?_
 refine ifB_mk (fun e=>?_) (fun e=>?_)
 ·have hk:k<n:=by have:=of_decide_eq_true e; omega
  obtain ⟨c,hc⟩:=getI (l:=x) (k:=k) (by omega)
  have hcr:(cll x)[k]? = some (clr c):=by simp [cll,hc]
  refine onSome_mk hcr (onCons_cons (onIntK_iv (onCons_cons (onIntK_iv (onCons_cons (onIntK_iv ?_))))))
  rw [wr1i hk (by omega)]
  refine own_add (K:=fun e f=>I (sh107b l x e f m i n (k+1))) hr' (fun t ht=>by have:=own_len ho' t ht; omega) (fun T' es' ms' h1 h2=>?_)
  exact hI (k+1,es', ms') ⟨hk,T', h1,own_step ho' hc (by rw [hx]; exact hn b hbm) h2 hr'.cs⟩ (by simp only; omega)
 ·have hk:k=x.length:=by have:=of_decide_eq_false e; omega
  subst hk
  refine guardB_mk (hgood hr'.es) ?_
  rw [wr1i hi (by omega)]
  exact hJ (i+1,_,_) ⟨hi,T', hrep hr', own_next hb (hx ▸ ho')⟩ (by simp only; omega)
end Go.Proofs.YtbionhgjgcpogaaGreatDoor
