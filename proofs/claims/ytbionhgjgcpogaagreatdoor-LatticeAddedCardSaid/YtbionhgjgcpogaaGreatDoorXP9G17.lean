/- A part of the proof. -/
import Derived.Test.YtbionhgjgcpogaaGreatDoorProg
import Derived.Test.YtbionhgjgcpogaaGreatDoorXP9G10
import Derived.Test.YtbionhgjgcpogaaGreatDoorXP9G11
import Derived.Test.YtbionhgjgcpogaaGreatDoorXP9G12
import Derived.Test.YtbionhgjgcpogaaGreatDoorXP9G15
import Derived.Test.YtbionhgjgcpogaaGreatDoorXP9G16
namespace Go.Proofs.YtbionhgjgcpogaaGreatDoor
open Go Go.Proofs.YtbionhgjgcpogaaGreatDoor.Clean
set_option linter.unusedVariables false
set_option linter.unusedSimpArgs false
set_option maxRecDepth 10000
theorem hcR8:cfR8.ok Tryz.prog:=by
  have h:(cfgG Tryz.prog glX moZ poP (rtP fN) (inN []) (fun _ _=>none)).ok Tryz.prog:=cfgG_ok (rtP_ok fN)
  exact ⟨h.1,h.2⟩
structure BodOK (l:List Bdy):Prop where
  n40:l.length≤40
  c1000 : ∀ b∈l,b.1.length≤1000
  k1000 : ∀ b∈l,b.2.length≤1000
  cn : ∀ b∈l,b.1.Nodup
  ko : ∀ b∈l, ∀ o∈b.2,KnO o
  fac : ∀ b∈l,Fac b.2
  kn : ∀ b∈l,b.2.Nodup
  at_ : ∀ b∈l, ∀ o∈b.2,o.1∈b.1
theorem ptRg {n:Nat} (hn:n<24) {d:Int} (hd:0≤d∧d≤5):0≤pt n d∧pt n d≤5:=by
  have key : ∀ n,n<24 → ∀ d,d<6→0≤(ptL.getD n []).getD d 0∧(ptL.getD n []).getD d 0≤5:=by decide
  exact key n hn d.toNat (by omega)
theorem bod_ok {l:List Kd} {m:List Bk} (hl : ∀ q∈l,KdR q) (hr : ∀ b∈m,BkR b) (hA:AskM l m):BodOK (bods l m):=by
  obtain ⟨a1,a2,a3⟩:=bods_ok hl hr hA
  have each : ∀ b∈bods l m, ∃ q n d,b=(plc q n d,knb q n d)∧KnbP q∧n<24∧Bd 1000 d∧KindP q:=by
    intro b hb
    obtain ⟨c,hc,rfl⟩:=List.mem_map.1 hb
    obtain ⟨hP,h2,h3,h4⟩:=putK hA.kinds hl (hA.all c hc) (hr c hc)
    exact ⟨_,_,_,rfl,h2,hP.t24,h3,h4⟩
  refine ⟨a1,a2,?_,a3,?_,?_,?_,?_⟩
  · intro b hb
    obtain ⟨q,n,d,rfl,hq,hn,hd,hk⟩:=each b hb
    show (knb q n d).length≤1000
    rw [knb_length]
    have:=hq.put.2.2.2
    omega
  · intro b hb o ho
    obtain ⟨q,n,d,rfl,hq,hn,hd,hk⟩:=each b hb
    obtain ⟨x,hx,rfl⟩:=List.mem_map.1 ho
    have h1:=hq.put.2.2.1 x hx
    have h2:=(hk.2.1.2.1 x hx).2.1
    refine ⟨ptRg hn h1.2,h2,?_⟩
    exact (add_bd (tn_bd (h1.1.mono (c := -15) (d:=15) (by omega) (by omega))) hd).mono (by omega)
  · intro b hb
    obtain ⟨q,n,d,rfl,hq,hn,hd,hk⟩:=each b hb
    exact knb_fac hq hn
  · intro b hb
    obtain ⟨q,n,d,rfl,hq,hn,hd,hk⟩:=each b hb
    exact knb_nodup hq hn
  · intro b hb o ho
    obtain ⟨q,n,d,rfl,hq,hn,hd,hk⟩:=each b hb
    obtain ⟨x,hx,rfl⟩:=List.mem_map.1 ho
    show addC (tn n x.1) d∈plc q n d
    unfold plc
    rw [(sortC_perm _).mem_iff]
    exact List.mem_map.2 ⟨x.1,(hk.2.1.2.1 x hx).2.2.1,rfl⟩
def LkP (l:List Bdy) (x:Lk) (a b i j:Nat) (k o:Kn):Prop:=a<b∧b<l.length∧(knobsAt l a)[i]? = some k∧(knobsAt l b)[j]? = some o∧MeetP k o∧x=((a:Int),(b:Int),(i:Int),(j:Int),mn o.2.2 k.2.2)
theorem mem_lko {k:Kn} {a b i:Int} {y:List Kn} {x:Lk}:x∈lko k a b i y ↔ ∃ j o,y[j]? = some o∧MeetP k o∧x=(a,b,i,((j:Nat):Int),mn o.2.2 k.2.2):=by
  unfold lko
  rw [List.mem_filterMap]
  constructor
  · rintro ⟨⟨o,j⟩,h1,h2⟩
    rw [List.mem_zipIdx_iff_getElem?] at h1
    simp only at h1 h2
    split at h2
    · rename_i hm
      exact ⟨j,o,h1,dc_true hm,by simpa using h2.symm⟩
    · cases h2
  · rintro ⟨j,o,h1,h2,h3⟩
    exact ⟨(o,j),List.mem_zipIdx_iff_getElem?.2 h1,by simp only; rw [if_pos (dc_t h2),h3]⟩
theorem knobsAt_mem {l:List Bdy} {b j:Nat} {o:Kn} (h:(knobsAt l b)[j]? = some o) : ∃ x,l[b]? = some x∧x.2[j]? = some o:=by
  unfold knobsAt at h
  cases hb:l[b]? with
  | none=>rw [hb] at h; simp at h
  | some x=>rw [hb] at h; exact ⟨x,rfl,h⟩
theorem mem_lkA {l:List Bdy} (hB:BodOK l) {x:Lk}:x∈lkA l l.length ↔ ∃ a b i j k o,LkP l x a b i j k o:=by
  unfold lkA
  rw [List.mem_flatMap]
  constructor
  · rintro ⟨a,ha,h⟩
    unfold lkB at h
    rw [List.mem_flatMap] at h
    obtain ⟨⟨k,i⟩,h1,h⟩:=h
    rw [List.mem_zipIdx_iff_getElem?] at h1
    unfold lkC at h
    rw [List.mem_flatMap] at h
    obtain ⟨b,h2,h⟩:=h
    split at h
    · rename_i hab
      rw [mem_lko] at h
      obtain ⟨j,o,h3,h4,h5⟩:=h
      have:b<l.length:=by
        unfold brs at h2
        exact List.mem_range.1 (List.mem_filter.1 h2).1
      exact ⟨a,b,i,j,k,o,hab,this,h1,h3,h4,h5⟩
    · simp at h
  · rintro ⟨a,b,i,j,k,o,hab,hb,h1,h3,h4,h5⟩
    refine ⟨a,List.mem_range.2 (by omega),?_⟩
    unfold lkB
    rw [List.mem_flatMap]
    refine ⟨(k,i),List.mem_zipIdx_iff_getElem?.2 h1,?_⟩
    unfold lkC
    rw [List.mem_flatMap]
    refine ⟨b,?_,by rw [if_pos hab,mem_lko]; exact ⟨j,o,h3,h4,h5⟩⟩
    unfold brs
    refine List.mem_filter.2 ⟨List.mem_range.2 hb,dc_t ?_⟩
    obtain ⟨y,hy,hyo⟩:=knobsAt_mem h3
    have:=hB.at_ y (mem_at hy) o (mem_at hyo)
    rw [h4.1]
    unfold cellsAt
    rw [hy]
    exact this
noncomputable def lnk (l:List Bdy):List Lk:=(List.range l.length).flatMap fun a=>(List.range l.length).flatMap fun b=>if a<b then (knobsAt l a).zipIdx.flatMap fun o=>lko o.1 (a:Int) (b:Int) (o.2:Int) (knobsAt l b) else []
theorem mem_lnk {l:List Bdy} {x:Lk}:x∈lnk l ↔ ∃ a b i j k o,LkP l x a b i j k o:=by
  unfold lnk
  rw [List.mem_flatMap]
  constructor
  · rintro ⟨a,ha,h⟩
    rw [List.mem_flatMap] at h
    obtain ⟨b,hb,h⟩:=h
    split at h
    · rename_i hab
      rw [List.mem_flatMap] at h
      obtain ⟨⟨k,i⟩,h1,h⟩:=h
      rw [List.mem_zipIdx_iff_getElem?] at h1
      rw [mem_lko] at h
      obtain ⟨j,o,h3,h4,h5⟩:=h
      exact ⟨a,b,i,j,k,o,hab,List.mem_range.1 hb,h1,h3,h4,h5⟩
    · simp at h
  · rintro ⟨a,b,i,j,k,o,hab,hb,h1,h3,h4,h5⟩
    refine ⟨a,List.mem_range.2 (by omega),?_⟩
    rw [List.mem_flatMap]
    refine ⟨b,List.mem_range.2 hb,?_⟩
    rw [if_pos hab,List.mem_flatMap]
    exact ⟨(k,i),List.mem_zipIdx_iff_getElem?.2 h1,mem_lko.2 ⟨j,o,h3,h4,h5⟩⟩
def Of1 (x y:Lk):Prop:=x.1<y.1∨x.1=y.1∧(x.2.2.1<y.2.2.1∨x.2.2.1=y.2.2.1∧(x.2.1<y.2.1∨x.2.1=y.2.1∧x.2.2.2.1<y.2.2.2.1))
def Of2 (x y:Lk):Prop:=x.1<y.1∨x.1=y.1∧(x.2.1<y.2.1∨x.2.1=y.2.1∧(x.2.2.1<y.2.2.1∨x.2.2.1=y.2.2.1∧x.2.2.2.1<y.2.2.2.1))
theorem zip_pw {α:Type} (l:List α) (n:Nat):(l.zipIdx n).Pairwise fun a b=>a.2<b.2:=by
  induction l generalizing n with
  | nil=>simp
  | cons x l ih =>
    rw [List.zipIdx_cons,List.pairwise_cons]
    refine ⟨fun p hp=>?_,ih (n+1)⟩
    have:=List.le_snd_of_mem_zipIdx hp
    simp only
    omega
theorem lko_pw (k:Kn) (a b i:Int) (y:List Kn):(lko k a b i y).Pairwise fun x z=>x.2.2.2.1<z.2.2.2.1:=by
  unfold lko
  refine List.Pairwise.filterMap _ ?_ (zip_pw y 0)
  intro p q hpq u hu v hv
  split at hu
  · split at hv
    · cases hu; cases hv; simp only; omega
    · cases hv
  · cases hu
theorem lko_at {k:Kn} {a b i:Int} {y:List Kn} {x:Lk} (h:x∈lko k a b i y):x.1=a∧x.2.1=b∧x.2.2.1=i:=by
  obtain ⟨j,o,_,_,rfl⟩:=mem_lko.1 h
  exact ⟨rfl,rfl,rfl⟩
theorem lkA_pw (l:List Bdy) (n:Nat):(lkA l n).Pairwise Of1:=by
  unfold lkA
  rw [List.pairwise_flatMap]
  have atB : ∀ {a:Nat} {y:List Kn} {x:Lk},x∈lkB l a y→x.1=(a:Int):=fun {a y x} h=>by
    unfold lkB at h
    obtain ⟨o,_,h⟩:=List.mem_flatMap.1 h
    obtain ⟨b,_,h⟩:=List.mem_flatMap.1 h
    split at h
    · exact (lko_at h).1
    · simp at h
  refine ⟨fun a _=>?_,(List.pairwise_lt_range).imp (fun {a b} hab x hx y hy => .inl (by rw [atB hx,atB hy]; omega))⟩
  unfold lkB
  rw [List.pairwise_flatMap]
  have atC : ∀ {i:Nat} {k:Kn} {bs:List Nat} {x:Lk},x∈lkC l a i k bs→x.1=(a:Int)∧x.2.2.1=(i:Int):=fun {i k bs x} h=>by
    obtain ⟨b,_,h⟩:=List.mem_flatMap.1 h
    split at h
    · exact ⟨(lko_at h).1,(lko_at h).2.2⟩
    · simp at h
  refine ⟨fun o _=>?_,(zip_pw _ 0).imp (fun {p q} hpq x hx y hy => .inr ⟨by rw [(atC hx).1,(atC hy).1],.inl (by rw [(atC hx).2,(atC hy).2]; omega)⟩)⟩
  unfold lkC
  rw [List.pairwise_flatMap]
  refine ⟨fun b _=>?_,?_⟩
  · split
    · refine (lko_pw ..).imp_of_mem (fun {x y} hx hy h=>?_)
      have h1:=lko_at hx
      have h2:=lko_at hy
      exact .inr ⟨by rw [h1.1,h2.1],.inr ⟨by rw [h1.2.2,h2.2.2],.inr ⟨by rw [h1.2.1,h2.2.1],h⟩⟩⟩
    · exact List.Pairwise.nil
  · have:(brs l l.length (fc o.1)).Pairwise (· < ·):=(List.pairwise_lt_range).filter _
    refine this.imp (fun {b c} hbc x hx y hy=>?_)
    split at hx
    · split at hy
      · have h1:=lko_at hx
        have h2:=lko_at hy
        exact .inr ⟨by rw [h1.1,h2.1],.inr ⟨by rw [h1.2.2,h2.2.2],.inl (by rw [h1.2.1,h2.2.1]; omega)⟩⟩
      · simp at hy
    · simp at hx
theorem lnk_pw (l:List Bdy):(lnk l).Pairwise Of2:=by
  unfold lnk
  rw [List.pairwise_flatMap]
  have atB : ∀ {a b:Nat} {x:Lk},x∈(if a<b then (knobsAt l a).zipIdx.flatMap fun o=>lko o.1 (a:Int) (b:Int) (o.2:Int) (knobsAt l b) else [])→x.1=(a:Int)∧x.2.1=(b:Int):=fun {a b x} h=>by
    split at h
    · obtain ⟨o,_,h⟩:=List.mem_flatMap.1 h
      exact ⟨(lko_at h).1,(lko_at h).2.1⟩
    · simp at h
  refine ⟨fun a _=>?_,(List.pairwise_lt_range).imp (fun {a b} hab x hx y hy=>?_)⟩
  · rw [List.pairwise_flatMap]
    refine ⟨fun b _=>?_,(List.pairwise_lt_range).imp (fun {b c} hbc x hx y hy => .inr ⟨by rw [(atB hx).1,(atB hy).1],.inl (by rw [(atB hx).2,(atB hy).2]; omega)⟩)⟩
    split
    · rw [List.pairwise_flatMap]
      refine ⟨fun o _=>?_,(zip_pw _ 0).imp (fun {p q} hpq x hx y hy=>?_)⟩
      · refine (lko_pw ..).imp_of_mem (fun {x y} hx hy h=>?_)
        have h1:=lko_at hx
        have h2:=lko_at hy
        exact .inr ⟨by rw [h1.1,h2.1],.inr ⟨by rw [h1.2.1,h2.2.1],.inr ⟨by rw [h1.2.2,h2.2.2],h⟩⟩⟩
      · have h1:=lko_at hx
        have h2:=lko_at hy
        exact .inr ⟨by rw [h1.1,h2.1],.inr ⟨by rw [h1.2.1,h2.2.1],.inl (by rw [h1.2.2,h2.2.2]; omega)⟩⟩
    · exact List.Pairwise.nil
  · obtain ⟨u,_,hx⟩:=List.mem_flatMap.1 hx
    obtain ⟨v,_,hy⟩:=List.mem_flatMap.1 hy
    exact .inl (by rw [(atB hx).1,(atB hy).1]; omega)
theorem Of1.nodup {l:List Lk} (h:l.Pairwise Of1):l.Nodup:=h.imp (fun {a b} h e=>by rw [e] at h; unfold Of1 at h; omega)
theorem Of2.nodup {l:List Lk} (h:l.Pairwise Of2):l.Nodup:=h.imp (fun {a b} h e=>by rw [e] at h; unfold Of2 at h; omega)
theorem lkA_perm {l:List Bdy} (hB:BodOK l):(lkA l l.length).Perm (lnk l):=by
  rw [List.perm_ext_iff_of_nodup (Of1.nodup (lkA_pw ..)) (Of2.nodup (lnk_pw l))]
  intro x
  rw [mem_lkA hB,mem_lnk]
theorem meet_one {l:List Bdy} (hB:BodOK l) {x y:Lk} {a b i j a' b' i' j' : Nat} {k o k' o' : Kn} (h:LkP l x a b i j k o) (h' : LkP l y a' b' i' j' k' o') (e1:x.1=y.1) (e2:x.2.1=y.2.1) (e3:x.2.2.1=y.2.2.1):x=y:=by
  obtain ⟨_,_,h1,h2,h3,rfl⟩:=h
  obtain ⟨_,_,g1,g2,g3,rfl⟩:=h'
  simp only at e1 e2 e3
  have ea:a=a' := by omega
  have eb:b=b' := by omega
  have ei:i=i' := by omega
  subst ea eb ei
  have ek:k=k' := by rw [h1] at g1; exact Option.some.inj g1
  subst ek
  obtain ⟨z,hz,hzo⟩:=knobsAt_mem h2
  obtain ⟨z', hz', hzo'⟩:=knobsAt_mem g2
  rw [hz] at hz'
  cases hz'
  have eo:o=o' := hB.fac z (mem_at hz) o (mem_at hzo) o' (mem_at hzo') (h3.1.symm.trans g3.1) (h3.2.1.trans g3.2.1.symm)
  subst eo
  have:j=j' := by
    obtain ⟨a1,a2⟩:=List.getElem?_eq_some_iff.1 hzo
    obtain ⟨b1,b2⟩:=List.getElem?_eq_some_iff.1 hzo'
    exact (List.getElem_inj (h₀:=a1) (h₁:=b1) (hB.kn z (mem_at hz))).1 (by rw [a2,b2])
  subst this
  rfl
theorem lnk_uniq {l:List Bdy} (hB:BodOK l) {l' : List Lk} (hp:l'.Perm (lkA l l.length)) (hs:l'.Pairwise fun a b => ¬ BefL b a):l' = lnk l:=by
  have hq:=hp.trans (lkA_perm hB)
  refine List.Perm.eq_of_pairwise (le:=fun a b => ¬ BefL b a) (fun x y hx hy h1 h2=>?_) hs ((lnk_pw l).imp (fun {a b} h h' => by unfold Of2 at h; unfold BefL at h'; omega)) hq
  obtain ⟨a,b,i,j,k,o,h⟩:=mem_lnk.1 (hq.mem_iff.1 hx)
  obtain ⟨a', b', i', j', k', o', h'⟩:=mem_lnk.1 hy
  unfold BefL at h1 h2
  exact meet_one hB h h' (by omega) (by omega) (by omega)
theorem links65 {l:List Bdy} {R:V→Prop} (hB:BodOK l) (h0:lnk l=[]→R nilS) (h:R (.lst 5 (lkl (lnk l)))):K0G Tryz.prog glX 65 [.lst 2 (bdl l)] R :=
  own65 hB.n40 hB.c1000 hB.cn (fun T es ms hr ho=>links_rest hB.n40 hB.k1000 hB.ko hr ho (fun e=>h0 (by have:=(lkA_perm hB).length_eq; rw [e] at this; exact List.length_eq_zero_iff.1 this.symm)) (fun l' hp hs=>by rw [lnk_uniq hB hp hs]; exact h))
theorem links29 {l:List Kd} {m:List Bk} {R:V→Prop} (hl : ∀ q∈l,KdR q) (hll:(l.length:Int)≤1000000) (hml:m.length≤1000000) (hr : ∀ b∈m,BkR b) (h1 : ∀ e,errM l m e→e≠0→R (.tup [nilS,iv e])) (h2:OkM l m→lnk (bods l m)=[]→R (.tup [nilS,iv 0])∧R (.tup [.lst 0 [],iv 0])) (h3:OkM l m→R (.tup [.lst 5 (lkl (lnk (bods l m))),iv 0])):K0G Tryz.prog glX 29 [.lst 3 (kdl l),.agg [.lst 6 (bkl m)]] R:=by
  refine K0_by hmX hcR8 3000 Tryz.func29 (p:=K0G Tryz.prog glX 64 [V.lst 3 (kdl l),V.agg [V.lst 6 (bkl m)]] fun v=>onTup v fun vs=>onCons vs fun u r=>onLst u fun s es=>onCons r fun u r=>onIntK IntKind.i64 u fun n=>onNil r (ifB (n != (0:Int)) (R (V.tup [nilS,iv n])) (K0G Tryz.prog glX 65 [V.lst s es] fun v=>onLst v fun s es=>R (V.tup [V.lst s es,iv (0:Int)])))) (by kernel_rfl) ?_
  refine valid64 hl hll hml hr (fun e he hne=>⟨onTup_tup (onCons_cons (onLst_nil (onCons_cons (onIntK_iv (onNil_nil (ifB_t (by simpa using hne) (h1 e he hne))))))),onTup_tup (onCons_cons (onLst_lst (onCons_cons (onIntK_iv (onNil_nil (ifB_t (by simpa using hne) (h1 e he hne)))))))⟩) (fun hA=>?_)
  refine onTup_tup (onCons_cons (onLst_lst (onCons_cons (onIntK_iv (onNil_nil (ifB_f rfl ?_))))))
  exact links65 (bod_ok hl hr hA.ask) (fun e=>onLst_nil (h2 hA e).2) (onLst_lst (h3 hA))
end Go.Proofs.YtbionhgjgcpogaaGreatDoor
namespace Go.Proofs.YtbionhgjgcpogaaGreatDoor
open Go Go.Proofs.YtbionhgjgcpogaaGreatDoor.Clean
set_option linter.unusedVariables false
set_option maxRecDepth 100000
abbrev Jt:=Int×Int×Int×Int×Bool
def jtr (x:Jt):List V:=[iv x.1,iv x.2.1,iv x.2.2.1,u8 x.2.2.2.1,bv x.2.2.2.2]
def jtl (l:List Jt):List (List V):=l.map jtr
def kpJ9:FuncId→Nat→Option (List Tmp):=slotsOf [(138,0,[0,5,16,17,18]),(118,0,[4,5,31,32,33]),(68,0,[0,3,4,5]),(68,2,[0,3,4,5,6]),(70,0,[0,3,5,12,13]),(70,2,[5,7,21,22]),(120,0,[0,1,2,3,4,18,19,20])]
def moJ9 (f:FuncId):Nat:=bif inN [120] f then 3 else 0
def poJ9 (f:FuncId) (args:List V) (h:Hp) (us:Us):Hp:=h.put (.p 1) (.rows 1 true (us.getD 0 []))
def rtJ9 (f:FuncId) (args:List V) (us:Us) (v:V) (k:V→Prop):Prop:=onTup v fun vs=>onNil vs (k (.tup []))
noncomputable def cfJ9:Cfg:={ cfgG Tryz.prog glX moJ9 poJ9 rtJ9 (inN []) kpJ9 with clean:=fun g => !inN [120] g }
noncomputable def sh138 (y:List Kn) (k:Kn) (L:List Lk) (s i:Nat):St:=⟨mkT [(0,V.lst 5 (knl y)),(5,V.ptr (Id.p 0) 0 0),(16,V.lst 5 (lkl L)),(17,iv (s:Int)),(18,iv (i:Int))],⟨[(0,O.rows 5 false [knr k])],1,[]⟩⟩
noncomputable def sh118 (L:List Lk) (j:Jt) (s i:Nat):St:=⟨mkT [(4,V.ptr (Id.p 0) 0 0),(5,V.ptr (Id.p 1) 0 0),(31,V.lst 5 (lkl L)),(32,iv (s:Int)),(33,iv (i:Int))],⟨[(0,O.rows 5 false [jtr (0,0,0,0,false)]),(1,O.rows 5 false [jtr j])],2,[]⟩⟩
noncomputable def sh68a (l:List (List Cl×List Kn)) (L:List Lk) (f:Nat):St:=⟨mkT [(0,V.lst 2 (bdl l)),(3,V.lst 5 (lkl L)),(4,nilS),(5,iv (f:Int))],⟨[],0,[]⟩⟩
noncomputable def sh68aS (l:List (List Cl×List Kn)) (L:List Lk) (js:List Jt) (q f:Nat):St:=⟨mkT [(0,V.lst 2 (bdl l)),(3,V.lst 5 (lkl L)),(4,V.sl (Id.p 0) 0 q),(5,iv (f:Int))],⟨[(0,O.rows 5 true (jtl js))],1,[]⟩⟩
noncomputable def sh68b (l:List (List Cl×List Kn)) (L:List Lk) (f t:Nat):St:=⟨mkT [(0,V.lst 2 (bdl l)),(3,V.lst 5 (lkl L)),(4,nilS),(5,iv (f:Int)),(6,iv (t:Int))],⟨[],0,[]⟩⟩
noncomputable def sh68bS (l:List (List Cl×List Kn)) (L:List Lk) (js:List Jt) (q f t:Nat):St:=⟨mkT [(0,V.lst 2 (bdl l)),(3,V.lst 5 (lkl L)),(4,V.sl (Id.p 0) 0 q),(5,iv (f:Int)),(6,iv (t:Int))],⟨[(0,O.rows 5 true (jtl js))],1,[]⟩⟩
noncomputable def sh70a (js:List Jt) (n:Nat) (ls:List (List V)) (i:Nat):St:=⟨mkT [(0,iv (n:Int)),(3,V.ptr (Id.p 0) 0 0),(5,V.ptr (Id.p 1) 0 0),(12,iv (n:Int)),(13,iv (i:Int))],⟨[(0,O.rows 1 false [[V.lst 5 (jtl js)]]),(1,O.rows 1 false [[V.sl (Id.p 2) 0 n]]),(2,O.rows 1 true ls)],3,[]⟩⟩
noncomputable def sh70b (js:List Jt) (n:Nat) (ls:List (List V)) (i:Nat):St:=⟨mkT [(5,V.ptr (Id.p 0) 0 0),(7,V.ptr (Id.p 2) 0 0),(21,iv (n:Int)),(22,iv (i:Int))],⟨[(0,O.rows 1 false [[V.sl (Id.p 1) 0 n]]),(1,O.rows 1 true ls),(2,O.rows 1 false [[V.fn (Fn.func 120) [] [V.ptr (Id.p 0) 0 0,V.ptr (Id.p 3) 0 0,V.ptr (Id.p 2) 0 0]]]),(3,O.rows 1 false [[V.lst 5 (jtl js)]])],4,[]⟩⟩
def memG (js:List Jt) (n:Nat) (ls:List (List V)):Hp:=⟨[(0,O.rows 1 false [[V.sl (Id.p 1) 0 n]]),(1,O.rows 1 true ls),(2,O.rows 1 false [[V.lst 5 (jtl js)]]),(3,O.rows 1 false [[V.fn (Fn.func 120) [] [V.ptr (Id.p 0) 0 0,V.ptr (Id.p 2) 0 0,V.ptr (Id.p 3) 0 0]]])],4,[]⟩
def memGo (js:List Jt) (n:Nat) (ls:List (List V)):Hp:=⟨[(1,O.rows 1 true ls),(0,O.rows 1 false [[V.sl (Id.p 1) 0 n]]),(2,O.rows 1 false [[V.lst 5 (jtl js)]]),(3,O.rows 1 false [[V.fn (Fn.func 120) [] [V.ptr (Id.p 0) 0 0,V.ptr (Id.p 2) 0 0,V.ptr (Id.p 3) 0 0]]])],4,[]⟩
noncomputable def sh120 (js:List Jt) (n:Nat) (ls:List (List V)) (b f s k:Nat):St:=⟨mkT [(0,iv (b:Int)),(1,iv (f:Int)),(2,V.ptr (Id.p 0) 0 0),(3,V.ptr (Id.p 2) 0 0),(4,V.ptr (Id.p 3) 0 0),(18,V.lst 5 (jtl js)),(19,iv (s:Int)),(20,iv (k:Int))],memGo js n ls⟩
def SameH (a b:Hp):Prop:=a.nxt=b.nxt∧a.fs=b.fs ∧ ∀ n,getB a.bs n=getB b.bs n
noncomputable def sh68n (l:List (List Cl×List Kn)):St:=⟨mkT [(0,V.lst 2 (bdl l)),(3,V.lst 0 []),(4,nilS),(5,iv 0)],⟨[],0,[]⟩⟩
end Go.Proofs.YtbionhgjgcpogaaGreatDoor
namespace Go.Proofs.YtbionhgjgcpogaaGreatDoor
open Go Go.Proofs.YtbionhgjgcpogaaGreatDoor.Clean
set_option linter.unusedVariables false
set_option linter.unusedSimpArgs false
set_option maxRecDepth 10000
theorem rtJ9_ok : ∀ (f:FuncId) (args:List V) (us:Us) (v:V) (k:V→Prop),rtJ9 f args us v k → ∃ v', k v' ∧ ∀ {F:Nat→Prop} {w:World} {ν:Nu} {x:Value},rep F w ν v x→rep F w ν v' x:=by
  intro f args us v k h
  unfold rtJ9 onTup at h
  split at h
  · rename_i cs
    unfold onNil at h
    split at h
    · exact ⟨_,h,fun h=>h⟩
    · exact h.elim
  · exact h.elim
theorem hcJ9:cfJ9.ok Tryz.prog:=by
  have h:(cfgG Tryz.prog glX moJ9 poJ9 rtJ9 (inN []) kpJ9).ok Tryz.prog:=cfgG_ok rtJ9_ok
  exact ⟨h.1,h.2⟩
theorem jtl_length (l:List Jt):(jtl l).length=l.length:=by simp [jtl]
theorem half8 {d:Int} (h0:0≤d) (h5:d≤5):IntKind.u8.wrap (d.tdiv (2:Int))=d / 2:=by
  have:d=0∨d=1∨d=2∨d=3∨d=4∨d=5:=by omega
  rcases this with rfl | rfl | rfl | rfl | rfl | rfl <;> decide
theorem plus8 {d:Int} (h0:0≤d) (h5:d≤5):IntKind.u8.wrap (d / 2+(1:Int))=d / 2+1:=by
  have:d=0∨d=1∨d=2∨d=3∨d=4∨d=5:=by omega
  rcases this with rfl | rfl | rfl | rfl | rfl | rfl <;> decide
def acr (k:Kn):Cl:=if k.2.1 / 2=0 then (0,k.1.2.1,k.1.2.2) else if k.2.1 / 2=1 then (k.1.1,0,k.1.2.2) else if k.2.1 / 2=2 then (k.1.1,k.1.2.1,0) else k.1
theorem across165 {k:Kn} {R:V→Prop} (h0:0≤k.2.1) (h5:k.2.1≤5) (h:R (.agg (clr (acr k)))):K0G Tryz.prog glX 165 [.agg (knr k)] R:=by
  refine K0_of_WY0 hmX hcJ9 3000 Tryz.func165 (see (p:=ifB (IntKind.u8.wrap (k.2.1.tdiv (2:Int))==(0:Int)) (R (V.agg [iv (0:Int),iv k.1.2.1,iv k.1.2.2])) (ifB (IntKind.u8.wrap (k.2.1.tdiv (2:Int))==(1:Int)) (R (V.agg [iv k.1.1,iv (0:Int),iv k.1.2.2])) (ifB (IntKind.u8.wrap (k.2.1.tdiv (2:Int))==(2:Int)) (R (V.agg [iv k.1.1,iv k.1.2.1,iv (0:Int)])) (R (V.agg [iv k.1.1,iv k.1.2.1,iv k.1.2.2]))))) (by kernel_rfl) ?_)
  rw [half8 h0 h5]
  unfold acr at h
  refine ifB_mk (fun c=>?_) (fun c=>ifB_mk (fun d=>?_) (fun d=>ifB_mk (fun e=>?_) (fun e=>?_)))
  · rw [if_pos (by simpa using c)] at h; exact h
  · rw [if_neg (by simpa using c),if_pos (by simpa using d)] at h; exact h
  · rw [if_neg (by simpa using c),if_neg (by simpa using d),if_pos (by simpa using e)] at h; exact h
  · rw [if_neg (by simpa using c),if_neg (by simpa using d),if_neg (by simpa using e)] at h; exact h
def strS (s:Int):Int:=if s=1 then 2 else if s=3 then 3 else if s=5 then 5 else 0
theorem strS_bd (s:Int):0≤strS s∧strS s≤5:=by unfold strS; split <;> (try split) <;> (try split) <;> omega
theorem strength139 {s:Int} {R:V→Prop} (h:R (iv (strS s))):K0G Tryz.prog glX 139 [u8 s] R:=by
  refine K0_of_WY0 hmX hcJ9 3000 Tryz.func139 (see (p:=ifB (s==(1:Int)) (R (iv (2:Int))) (ifB (s==(3:Int)) (R (iv (3:Int))) (ifB (s==(5:Int)) (R (iv (5:Int))) (R (iv (0:Int)))))) (by kernel_rfl) ?_)
  unfold strS at h
  refine ifB_mk (fun c=>?_) (fun c=>ifB_mk (fun d=>?_) (fun d=>ifB_mk (fun e=>?_) (fun e=>?_)))
  · rw [if_pos (by simpa using c)] at h; exact h
  · rw [if_neg (by simpa using c),if_pos (by simpa using d)] at h; exact h
  · rw [if_neg (by simpa using c),if_neg (by simpa using d),if_pos (by simpa using e)] at h; exact h
  · rw [if_neg (by simpa using c),if_neg (by simpa using d),if_neg (by simpa using e)] at h; exact h
def kn0:Kn:=((0,0,0),0,0)
def kAt (y:List Kn) (x:Lk):Kn:=(y[x.2.2.1.toNat]?).getD kn0
def OnLine (a f:Kn):Prop:=a.2.1 / 2=f.2.1 / 2∧acr a=acr f
noncomputable def axO (y:List Kn) (L:List Lk):Int:=match L with
  | []=>0
  | x::_=>if dc (∀ z∈L,OnLine (kAt y z) (kAt y x))=true then (kAt y x).2.1 / 2+1 else 0
theorem lel {L:List Lk} {i:Nat} {x:Lk} {k:Int→Int→Int→Int→Int→Prop} (h:L[i]? = some x) (hk:k x.1 x.2.1 x.2.2.1 x.2.2.2.1 x.2.2.2.2):onSome (lkl L)[i]? fun row=>onCons (List.drop 0 row) fun u r=>onIntK IntKind.i64 u fun n=>onCons r fun u r=>onIntK IntKind.i64 u fun n_1=>onCons r fun u r=>onIntK IntKind.i64 u fun n_2=>onCons r fun u r=>onIntK IntKind.i64 u fun n_3=>onCons r fun u r=>onIntK IntKind.u8 u fun n_4=>k n n_1 n_2 n_3 n_4:=onSome_mk (x:=lkr x) (by simp [lkl,h]) hk
theorem lrow {L:List Lk} {i:Nat} {x:Lk} (h:L[i]? = some x):(lkl L)[i]? = some (lkr x):=by simp [lkl,h]
theorem axis138 {y:List Kn} {L:List Lk} {x:Lk} {R:V→Prop} (hx:L[0]? = some x) (hy : ∀ k∈y,KnO k) (hL : ∀ z∈L,0≤z.2.2.1∧z.2.2.1.toNat<y.length) (hlen:L.length≤1000000000) (h:R (u8 (axO y L))):K0G Tryz.prog glX 138 [.lst 5 (knl y),.lst 5 (lkl L)] R:=by
  have hax:axO y L=if dc (∀ z∈L,OnLine (kAt y z) (kAt y x))=true then (kAt y x).2.1 / 2+1 else 0:=by
    cases L with
    | nil=>simp at hx
    | cons a L=>simp at hx; subst hx; rfl
  rw [hax] at h
  have kat : ∀ z∈L,y[z.2.2.1.toNat]? = some (kAt y z):=fun z hz=>by
    obtain ⟨k,hk⟩:=getI (hL z hz).2
    unfold kAt
    rw [hk]
    rfl
  have xm:=mem_at hx
  have hk0:=kat x xm
  obtain ⟨k,hk⟩ : ∃ k,k=kAt y x:=⟨_,rfl⟩
  rw [← hk] at h hk0
  refine K0_by hmX hcJ9 3000 Tryz.func138 (p:=onSome (lkl L)[0]? fun row=>onSome row[2]? fun v=>onIntK IntKind.i64 v fun n=>onNat n fun m=>onSome (knl y)[m]? fun row=>onCons (List.drop 0 row) fun u r=>onIntK IntKind.i64 u fun n=>onCons r fun u r=>onIntK IntKind.i64 u fun n_1=>onCons r fun u r=>onIntK IntKind.i64 u fun n_2=>onCons r fun u r=>onIntK IntKind.u8 u fun n_3=>onCons r fun u r=>onIntK IntKind.u8 u fun n_4=>La 0 [(0:Tmp),(5:Tmp),(16:Tmp),(17:Tmp),(18:Tmp)] (WY Tryz.prog cfJ9 2994 (Env.mk (Bs.mk 0 []) 0 none 46 138 0) (cdAt [1,1,0,1,0,0] (bodyOf Tryz.f138))) (Qblk 0 (Qthen (WY Tryz.prog cfJ9 2997 (Env.mk (Bs.mk 0 []) 0 none 46 138 0) (cdAt [1,1,1] (bodyOf Tryz.f138)) (QendX Tryz.prog Tryz.f138 fun v h=>R (frzW h v))) (QendX Tryz.prog Tryz.f138 fun v h=>R (frzW h v)))) (St.mk (mkT [(0,V.lst 5 (knl y)),(5,V.ptr (Id.p 0) 0 0),(16,V.lst 5 (lkl L)),(17,iv (↑(lkl L).length:Int)),(18,iv (0:Int))]) (Hp.mk [(0,O.rows 5 false [[iv n,iv n_1,iv n_2,V.raw (Value.int IntKind.u8 n_3),V.raw (Value.int IntKind.u8 n_4)]])] 1 []))) (by kernel_rfl) ?_
  refine onSome_mk (lrow hx) (onSome_mk (x:=iv x.2.2.1) rfl (onIntK_iv (onNat_mk (m:=x.2.2.1.toNat) (by have:=hL x xm; omega) (kel hk0 ?_))))
  obtain ⟨s,hs⟩ : ∃ s,s=(lkl L).length:=⟨_,rfl⟩
  rw [← hs]
  rw [lkl_length] at hs
  have hkO:=hy k (mem_at hk0)
  refine La.of (σ:=Nat) (fun i=>sh138 y k L s i) (fun i=>i≤s ∧ ∀ z∈L.take i,OnLine (kAt y z) k) (fun i=>s - i) 0 (by kernel_rfl) ⟨by omega,by simp⟩ ?_
  rintro i ⟨g1,g2⟩ J hJ
  refine see (p:=ifB (decide ((↑i:Int)<(↑s:Int))) (onSome (lkl L)[i]? fun row=>onCons (List.drop 0 row) fun u r=>onIntK IntKind.i64 u fun n=>onCons r fun u r=>onIntK IntKind.i64 u fun n=>onCons r fun u r=>onIntK IntKind.i64 u fun n=>onCons r fun u r=>onIntK IntKind.i64 u fun n_1=>onCons r fun u r=>onIntK IntKind.u8 u fun n_2=>onNat n fun m=>onSome (knl y)[m]? fun row=>onCons (List.drop 0 row) fun u r=>onIntK IntKind.i64 u fun n=>onCons r fun u r=>onIntK IntKind.i64 u fun n_3=>onCons r fun u r=>onIntK IntKind.i64 u fun n_4=>onCons r fun u r=>onIntK IntKind.u8 u fun n_5=>onCons r fun u r=>onIntK IntKind.u8 u fun n_6=>ifB (IntKind.u8.wrap (n_5.tdiv (2:Int)) != IntKind.u8.wrap (k.2.1.tdiv (2:Int))) (R (V.raw (Value.int IntKind.u8 (0:Int)))) (K0G Tryz.prog glX 165 [V.agg [iv n,iv n_3,iv n_4,V.raw (Value.int IntKind.u8 n_5),V.raw (Value.int IntKind.u8 n_6)]] fun v=>onAgg v fun cs=>onCons cs fun u r=>onIntK IntKind.i64 u fun n=>onCons r fun u r=>onIntK IntKind.i64 u fun n_7=>onCons r fun u r=>onIntK IntKind.i64 u fun n_8=>onNil r (K0G Tryz.prog glX 165 [V.agg [iv k.1.1,iv k.1.2.1,iv k.1.2.2,V.raw (Value.int IntKind.u8 k.2.1),V.raw (Value.int IntKind.u8 k.2.2)]] fun v=>onAgg v fun cs=>onCons cs fun u r=>onIntK IntKind.i64 u fun n_9=>onCons r fun u r=>onIntK IntKind.i64 u fun n_10=>onCons r fun u r=>onIntK IntKind.i64 u fun n_11=>onNil r (ifB (!(fun b=>n==n_9&&b) ((fun b=>n_7==n_10&&b) ((fun b=>n_8==n_11&&b) true))) (R (V.raw (Value.int IntKind.u8 (0:Int)))) (J (St.mk (mkT [(0,V.lst 5 (knl y)),(5,V.ptr (Id.p 0) 0 0),(16,V.lst 5 (lkl L)),(17,iv (↑s:Int)),(18,iv (IntKind.i64.wrap ((↑i:Int)+(1:Int))))]) (Hp.mk [(0,O.rows 5 false [[iv k.1.1,iv k.1.2.1,iv k.1.2.2,V.raw (Value.int IntKind.u8 k.2.1),V.raw (Value.int IntKind.u8 k.2.2)]])] 1 []))))))) (R (V.raw (Value.int IntKind.u8 (IntKind.u8.wrap (IntKind.u8.wrap (k.2.1.tdiv (2:Int))+(1:Int))))))) (by kernel_rfl) ?_
  refine ifB_mk (fun d=>?_) (fun d=>?_)
  · have hi:i<s:=by have:=of_decide_eq_true d; omega
    obtain ⟨z,hz⟩:=getI (l:=L) (k:=i) (by omega)
    have zm:=mem_at hz
    have hzO:=hy _ (mem_at (kat z zm))
    have bad : ¬ OnLine (kAt y z) k→R (u8 0):=fun hn=>by
      rw [dc_f (fun q=>hn (q z zm)),if_neg (by simp)] at h
      exact h
    refine lel hz (onNat_mk (m:=z.2.2.1.toNat) (by have:=hL z zm; omega) (kel (kat z zm) ?_))
    rw [half8 hzO.1.1 hzO.1.2,half8 hkO.1.1 hkO.1.2]
    refine ifB_mk (fun c=>bad (fun q=>by rw [q.1] at c; simp at c)) (fun c=>?_)
    have e1:(kAt y z).2.1 / 2=k.2.1 / 2:=by simpa using c
    refine across165 (k:=kAt y z) hzO.1.1 hzO.1.2 (onAgg_agg (onCons_cons (onIntK_iv (onCons_cons (onIntK_iv (onCons_cons (onIntK_iv (onNil_nil ?_))))))))
    refine across165 (k:=k) hkO.1.1 hkO.1.2 (onAgg_agg (onCons_cons (onIntK_iv (onCons_cons (onIntK_iv (onCons_cons (onIntK_iv (onNil_nil ?_))))))))
    refine ifB_mk (fun c=>bad (fun q=>by rw [q.2] at c; simp at c)) (fun c=>?_)
    have e2:acr (kAt y z)=acr k:=by
      simp only [Bool.not_eq_false', Bool.and_eq_true,beq_iff_eq,Bool.and_true] at c
      exact cl_ext c.1 c.2.1 c.2.2
    rw [wr1i hi (by omega)]
    exact hJ (i+1) ⟨hi,all_take hz g2 ⟨e1,e2⟩⟩ (by omega)
  · have hi:s≤i:=by have:=of_decide_eq_false d; omega
    rw [half8 hkO.1.1 hkO.1.2,plus8 hkO.1.1 hkO.1.2]
    rw [dc_t (fun z hz=>g2 z (by rw [List.take_of_length_le (by omega)]; exact hz)),if_pos rfl] at h
    exact h
theorem onIntK_u8 {n:Int} {k:Int→Prop} (h:k n):onIntK .u8 (u8 n) k:=h
def lk0:Lk:=(0,0,0,0,0)
noncomputable def joF (l:List Bdy) (L:List Lk):Jt:=((L.headD lk0).1,(L.headD lk0).2.1,(L.map fun x=>strS x.2.2.2.2).sum,axO (knobsAt l (L.headD lk0).1.toNat) L,dc (axO (knobsAt l (L.headD lk0).1.toNat) L≠0 ∧ ∀ x∈L,x.2.2.2.2=3))
theorem sum_bd : ∀ (L:List Lk),0≤(L.map fun x=>strS x.2.2.2.2).sum∧(L.map fun x=>strS x.2.2.2.2).sum≤5 * (L.length:Int)
  | []=>by simp
  | x::L=>by
    have h1:=sum_bd L
    have h2:=strS_bd x.2.2.2.2
    simp only [List.map_cons,List.sum_cons,List.length_cons]
    omega
theorem joint118 {l:List Bdy} {L:List Lk} {x:Lk} {R:V→Prop} (hx:L[0]? = some x) (hx0:0≤x.1) (hxl:x.1.toNat<l.length) (hy : ∀ k∈knobsAt l x.1.toNat,KnO k) (hL : ∀ z∈L,0≤z.2.2.1∧z.2.2.1.toNat<(knobsAt l x.1.toNat).length) (hlen:L.length≤1000000000) (h:R (.agg (jtr (joF l L)))):K0G Tryz.prog glX 118 [.lst 2 (bdl l),.lst 5 (lkl L)] R:=by
  have hhd:L.headD lk0=x:=by
    cases L with
    | nil=>simp at hx
    | cons a L=>simp at hx; subst hx; rfl
  refine K0_by hmX hcJ9 3000 Tryz.func118 (p:=onSome (lkl L)[0]? fun row=>onSome row[0]? fun v=>onIntK IntKind.i64 v fun n=>onSome (lkl L)[0]? fun row=>onSome row[1]? fun v=>onIntK IntKind.i64 v fun n_1=>onSome (lkl L)[0]? fun row=>onSome row[0]? fun v=>onIntK IntKind.i64 v fun n_2=>onNat n_2 fun m=>onSome (bdl l)[m]? fun row=>onSome row[1]? fun v=>onLst v fun s es=>K0G Tryz.prog glX 138 [V.lst s es,V.lst 5 (lkl L)] fun v=>onIntK IntKind.u8 v fun n_3=>La 0 [(4:Tmp),(5:Tmp),(31:Tmp),(32:Tmp),(33:Tmp)] (WY Tryz.prog cfJ9 2993 (Env.mk (Bs.mk 0 []) 0 none 54 118 0) (cdAt [1,1,1,0,1,0,0] (bodyOf Tryz.f118))) (Qblk 0 (Qthen (WY Tryz.prog cfJ9 2996 (Env.mk (Bs.mk 0 []) 0 none 54 118 0) (cdAt [1,1,1,1] (bodyOf Tryz.f118)) (QendX Tryz.prog Tryz.f118 fun v h=>R (frzW h v))) (QendX Tryz.prog Tryz.f118 fun v h=>R (frzW h v)))) (St.mk (mkT [(4,V.ptr (Id.p 0) 0 0),(5,V.ptr (Id.p 1) 0 0),(31,V.lst 5 (lkl L)),(32,iv (↑(lkl L).length:Int)),(33,iv (0:Int))]) (Hp.mk [(0,O.rows 5 false [[iv (0:Int),iv (0:Int),iv (0:Int),V.raw (Value.int IntKind.u8 (0:Int)),bv false]]),(1,O.rows 5 false [[iv n,iv n_1,iv (0:Int),V.raw (Value.int IntKind.u8 n_3),bv (n_3 != (0:Int))]])] 2 []))) (by kernel_rfl) ?_
  obtain ⟨b,hb⟩:=getI hxl
  have hkn:knobsAt l x.1.toNat=b.2:=by unfold knobsAt; rw [hb]; rfl
  have hrow:(bdl l)[x.1.toNat]? = some (bdr b):=by simp [bdl,hb]
  refine onSome_mk (lrow hx) (onSome_mk (x:=iv x.1) rfl (onIntK_iv (onSome_mk (lrow hx) (onSome_mk (x:=iv x.2.1) rfl (onIntK_iv (onSome_mk (lrow hx) (onSome_mk (x:=iv x.1) rfl (onIntK_iv (onNat_mk (m:=x.1.toNat) (by omega) (onSome_mk hrow (onSome_mk (x:=V.lst 5 (knl b.2)) rfl (onLst_lst ?_))))))))))))
  rw [hkn] at hy hL
  refine axis138 hx hy hL hlen (onIntK_u8 ?_)
  obtain ⟨ax,hax⟩ : ∃ ax,ax=axO b.2 L:=⟨_,rfl⟩
  rw [← hax]
  obtain ⟨s,hs⟩ : ∃ s,s=(lkl L).length:=⟨_,rfl⟩
  rw [← hs]
  rw [lkl_length] at hs
  refine La.of (σ:=Nat×Jt) (fun t=>sh118 L t.2 s t.1) (fun t=>t.1≤s∧t.2=(x.1,x.2.1,((L.take t.1).map fun x=>strS x.2.2.2.2).sum,ax,dc (ax≠0 ∧ ∀ z∈L.take t.1,z.2.2.2.2=3))) (fun t=>s - t.1) (0,(x.1,x.2.1,0,ax,(ax != (0:Int)))) (by kernel_rfl) ⟨by simp only; omega,?_⟩ ?_
  · simp only [List.take_zero,List.map_nil,List.sum_nil]
    have:(ax != (0:Int))=dc (ax≠0 ∧ ∀ z∈([]:List Lk),z.2.2.2.2=3):=by
      by_cases h:ax=0
      · rw [dc_f (fun q=>q.1 h),h]; rfl
      · rw [dc_t ⟨h,by simp⟩]; simpa using h
    rw [this]
  rintro ⟨i,j⟩ ⟨g1,g2⟩ J hJ
  simp only at g1 g2
  refine see (p:=ifB (decide ((↑i:Int)<(↑s:Int))) (onSome (lkl L)[i]? fun row=>onCons (List.drop 0 row) fun u r=>onIntK IntKind.i64 u fun n=>onCons r fun u r=>onIntK IntKind.i64 u fun n=>onCons r fun u r=>onIntK IntKind.i64 u fun n=>onCons r fun u r=>onIntK IntKind.i64 u fun n=>onCons r fun u r=>onIntK IntKind.u8 u fun n=>K0G Tryz.prog glX 139 [V.raw (Value.int IntKind.u8 n)] fun v=>onIntK IntKind.i64 v fun n_1=>ifB j.2.2.2.2 (J (St.mk (mkT [(4,V.ptr (Id.p 0) 0 0),(5,V.ptr (Id.p 1) 0 0),(31,V.lst 5 (lkl L)),(32,iv (↑s:Int)),(33,iv (IntKind.i64.wrap ((↑i:Int)+(1:Int))))]) (Hp.mk [(0,O.rows 5 false [[iv (0:Int),iv (0:Int),iv (0:Int),V.raw (Value.int IntKind.u8 (0:Int)),bv false]]),(1,O.rows 5 false [[iv j.1,iv j.2.1,iv (IntKind.i64.wrap (j.2.2.1+n_1)),V.raw (Value.int IntKind.u8 j.2.2.2.1),bv (n==(3:Int))]])] 2 []))) (J (St.mk (mkT [(4,V.ptr (Id.p 0) 0 0),(5,V.ptr (Id.p 1) 0 0),(31,V.lst 5 (lkl L)),(32,iv (↑s:Int)),(33,iv (IntKind.i64.wrap ((↑i:Int)+(1:Int))))]) (Hp.mk [(0,O.rows 5 false [[iv (0:Int),iv (0:Int),iv (0:Int),V.raw (Value.int IntKind.u8 (0:Int)),bv false]]),(1,O.rows 5 false [[iv j.1,iv j.2.1,iv (IntKind.i64.wrap (j.2.2.1+n_1)),V.raw (Value.int IntKind.u8 j.2.2.2.1),bv false]])] 2 [])))) (R (V.agg [iv j.1,iv j.2.1,iv j.2.2.1,V.raw (Value.int IntKind.u8 j.2.2.2.1),bv j.2.2.2.2]))) (by kernel_rfl) ?_
  refine ifB_mk (fun d=>?_) (fun d=>?_)
  · have hi:i<s:=by have:=of_decide_eq_true d; omega
    obtain ⟨z,hz⟩:=getI (l:=L) (k:=i) (by omega)
    have b1:=sum_bd (L.take i)
    have b2:=strS_bd z.2.2.2.2
    rw [List.length_take] at b1
    have e3:((L.take (i+1)).map fun x=>strS x.2.2.2.2).sum=((L.take i).map fun x=>strS x.2.2.2.2).sum+strS z.2.2.2.2:=by
      rw [take_succ' hz,List.map_append,List.sum_append]; simp
    refine lel hz (strength139 (onIntK_iv ?_))
    rw [g2]
    simp only
    rw [wr (n:=((L.take i).map fun x=>strS x.2.2.2.2).sum+_) (by omega) (by omega),wr1i hi (by omega),← e3]
    refine ifB_mk (fun c=>?_) (fun c=>?_)
    · have c:=dc_true c
      refine hJ (i+1,(x.1,x.2.1,_,ax,(z.2.2.2.2==(3:Int)))) ⟨hi,?_⟩ (by simp only; omega)
      simp only
      have:(z.2.2.2.2==(3:Int))=dc (ax≠0 ∧ ∀ z∈L.take (i+1),z.2.2.2.2=3):=by
        rw [take_succ' hz]
        by_cases h3:z.2.2.2.2=3
        · rw [dc_t ⟨c.1,fun w hw=>by rcases List.mem_append.1 hw with hw | hw; exact c.2 w hw; rw [List.mem_singleton.1 hw]; exact h3⟩]
          simpa using h3
        · rw [dc_f (fun q=>h3 (q.2 z (by simp)))]
          simpa using h3
      rw [this]
      rfl
    · have c:=dc_false c
      refine hJ (i+1,(x.1,x.2.1,_,ax,false)) ⟨hi,?_⟩ (by simp only; omega)
      simp only
      rw [dc_f (fun q=>c ⟨q.1,fun w hw=>q.2 w (by rw [take_succ' hz]; exact List.mem_append.2 (.inl hw))⟩)]
      rfl
  · have hi:s≤i:=by have:=of_decide_eq_false d; omega
    rw [List.take_of_length_le (by omega)] at g2
    have:j=joF l L:=by
      rw [g2]
      unfold joF
      rw [hhd,hkn,← hax]
    rw [this]
    exact h
end Go.Proofs.YtbionhgjgcpogaaGreatDoor
namespace Go.Proofs.YtbionhgjgcpogaaGreatDoor
open Go Go.Proofs.YtbionhgjgcpogaaGreatDoor.Clean
set_option linter.unusedVariables false
set_option linter.unusedSimpArgs false
set_option maxRecDepth 10000
def key (x:Lk):Int×Int:=(x.1,x.2.1)
def at_ (L:List Lk) (i:Nat):Lk:=L.getD i lk0
def Hd (L:List Lk) (i:Nat):Prop:=i=0∨key (at_ L (i - 1))≠key (at_ L i)
def owL (L:List Lk) (i:Nat):List Lk:=L.filter fun x=>decide (key x=key (at_ L i))
noncomputable def jnS (g:List Lk→Jt) (L:List Lk) (n:Nat):List Jt:=(List.range n).flatMap fun i=>if dc (Hd L i)=true then [g (owL L i)] else []
theorem jnS_succ (g:List Lk→Jt) (L:List Lk) (n:Nat):jnS g L (n+1)=jnS g L n++if dc (Hd L n)=true then [g (owL L n)] else []:=by
  unfold jnS
  rw [List.range_succ,List.flatMap_append]
  simp
theorem at_get {L:List Lk} {i:Nat} (h:i<L.length):L[i]? = some (at_ L i):=by
  unfold at_
  rw [List.getD_eq_getElem?_getD]
  simp [h]
theorem jnS_len (g:List Lk→Jt) (L:List Lk) (n:Nat):(jnS g L n).length≤n:=by
  have:=fm_len (f:=fun i=>if dc (Hd L i)=true then [g (owL L i)] else []) (c:=1) (l:=List.range n) (fun i _=>by split <;> simp)
  rw [List.length_range,Nat.mul_one] at this
  exact this
theorem jnS_run {g:List Lk→Jt} {L:List Lk} {f:Nat} (hd:Hd L f) : ∀ {t:Nat},f<t→(∀ i,f≤i→i<t→key (at_ L i)=key (at_ L f))→jnS g L t=jnS g L f++[g (owL L f)]
  | 0,h,_=>by omega
  | t+1,h,hk=>by
    rw [jnS_succ]
    rcases Nat.lt_succ_iff_lt_or_eq.1 h with h1 | h1
    · rw [jnS_run hd h1 (fun i a b=>hk i a (by omega)),dc_f (fun q=>?_),if_neg (by simp),List.append_nil]
      rcases q with q | q
      · omega
      · exact q ((hk (t - 1) (by omega) (by omega)).trans (hk t (by omega) (by omega)).symm)
    · rw [← h1,dc_t hd,if_pos rfl]
theorem Of2.le {L:List Lk} (hs:L.Pairwise Of2) {i j:Nat} (h:i<j) (hj:j<L.length):(at_ L i).1<(at_ L j).1∨(at_ L i).1=(at_ L j).1∧(at_ L i).2.1≤(at_ L j).2.1:=by
  have h1:=at_get (L:=L) (i:=i) (by omega)
  have h2:=at_get (L:=L) (i:=j) hj
  have:=List.pairwise_iff_getElem.1 hs i j (by omega) hj h
  rw [(List.getElem?_eq_some_iff.1 h1).2,(List.getElem?_eq_some_iff.1 h2).2] at this
  unfold Of2 at this
  omega
theorem key_eq {x y:Lk}:key x=key y↔x.1=y.1∧x.2.1=y.2.1:=by unfold key; exact Prod.mk.injEq .. ▸ Iff.rfl
theorem run_own {L:List Lk} (hs:L.Pairwise Of2) {f t:Nat} (hf:f<L.length) (h:f<t) (ht:t≤L.length) (hd:Hd L f) (hk : ∀ i,f≤i→i<t→key (at_ L i)=key (at_ L f)) (he:t=L.length∨key (at_ L t)≠key (at_ L f)):(L.drop f).take (t - f)=owL L f:=by
  have e1:L=L.take f++((L.drop f).take (t - f)++L.drop t):=by
    have h1:=(List.take_append_drop f L).symm
    have h2:=(List.take_append_drop (t - f) (L.drop f)).symm
    rw [List.drop_drop,show f+(t - f)=t from by omega] at h2
    rw [← h2]
    exact h1
  have hin : ∀ x∈L.take f, ¬ key x=key (at_ L f):=by
    intro x hx e
    obtain ⟨i,hi⟩:=List.mem_iff_getElem?.1 hx
    rw [List.getElem?_take] at hi
    split at hi
    · rename_i hif
      have hx' : x=at_ L i:=by rw [at_get (by omega)] at hi; exact (Option.some.inj hi).symm
      rw [hx', key_eq] at e
      rcases hd with hd | hd
      · omega
      · rw [Ne,key_eq] at hd
        have a:=Of2.le hs (i:=f - 1) (j:=f) (by omega) hf
        rcases Nat.lt_or_ge i (f - 1) with h1 | h1
        · have b:=Of2.le hs (i:=i) (j:=f - 1) h1 (by omega)
          omega
        · have:i=f - 1:=by omega
          rw [this] at e
          exact hd e
    · cases hi
  have hout : ∀ x∈L.drop t, ¬ key x=key (at_ L f):=by
    intro x hx e
    obtain ⟨i,hi⟩:=List.mem_iff_getElem?.1 hx
    rw [List.getElem?_drop] at hi
    have hlt:=(List.getElem?_eq_some_iff.1 hi).1
    have hx' : x=at_ L (t+i):=by rw [at_get hlt] at hi; exact (Option.some.inj hi).symm
    rw [hx', key_eq] at e
    rcases he with he | he
    · omega
    · rw [Ne,key_eq] at he
      have a:=Of2.le hs (i:=f) (j:=t) h (by omega)
      rcases Nat.eq_zero_or_pos i with h0 | h0
      · rw [h0] at e
        exact he e
      · have b:=Of2.le hs (i:=t) (j:=t+i) (by omega) hlt
        omega
  have hmid : ∀ x∈(L.drop f).take (t - f),key x=key (at_ L f):=by
    intro x hx
    obtain ⟨i,hi⟩:=List.mem_iff_getElem?.1 hx
    rw [List.getElem?_take] at hi
    split at hi
    · rename_i hif
      rw [List.getElem?_drop] at hi
      have hlt:=(List.getElem?_eq_some_iff.1 hi).1
      have hx' : x=at_ L (f+i):=by rw [at_get hlt] at hi; exact (Option.some.inj hi).symm
      rw [hx']
      exact hk _ (by omega) (by omega)
    · cases hi
  unfold owL
  have : ∀ p:Lk→Bool,L.filter p=(L.take f).filter p++(((L.drop f).take (t - f)).filter p++(L.drop t).filter p):=fun p=>by
    rw [← List.filter_append,← List.filter_append,← e1]
  rw [this,List.filter_eq_nil_iff.2 (fun x hx=>by simpa using hin x hx),List.filter_eq_self.2 (fun x hx=>by simpa using hmid x hx),List.filter_eq_nil_iff.2 (fun x hx=>by simpa using hout x hx)]
  simp
theorem sub_lkl (L:List Lk) (a n:Nat):sub (lkl L) a n=lkl ((L.drop a).take n):=by simp [sub,lkl,List.map_take,List.map_drop]
noncomputable def jnt (l:List Bdy):List Jt:=jnS (joF l) (lnk l) (lnk l).length
noncomputable def fam68a (l:List Bdy) (L:List Lk) (s:Bool×Nat×Nat×List Jt):St:=match s.1 with | false=>sh68a l L s.2.1 | true=>sh68aS l L s.2.2.2 s.2.2.1 s.2.1
noncomputable def fam68b (l:List Bdy) (L:List Lk) (f:Nat) (s:Bool×Nat×Nat×List Jt):St:=match s.1 with | false=>sh68b l L f s.2.1 | true=>sh68bS l L s.2.2.2 s.2.2.1 f s.2.1
def OwnOK (l:List Bdy) (L:List Lk) (x:Lk):Prop:=0≤x.1∧x.1.toNat<l.length∧(∀ k∈knobsAt l x.1.toNat,KnO k) ∧ ∀ z∈L,0≤z.2.2.1∧z.2.2.1.toNat<(knobsAt l x.1.toNat).length
set_option maxHeartbeats 1000000 in
theorem joints68L {l:List Bdy} {L:List Lk} {R:V→Prop} (hs:L.Pairwise Of2) (hlen:L.length≤1000000000) (hown : ∀ i,i<L.length → ∃ x,(owL L i)[0]? = some x∧OwnOK l (owL L i) x) (h0:jnS (joF l) L L.length=[]→R nilS) (h:R (.lst 5 (jtl (jnS (joF l) L L.length)))):La 0 [(0:Tmp),(3:Tmp),(4:Tmp),(5:Tmp)] (WY Tryz.prog cfJ9 2993 (Env.mk (Bs.mk 0 []) 0 none 58 68 0) (cdAt [1,1,1,0,1,0,0] (bodyOf Tryz.f68))) (Qblk 0 (Qthen (WY Tryz.prog cfJ9 2996 (Env.mk (Bs.mk 0 []) 0 none 58 68 0) (cdAt [1,1,1,1] (bodyOf Tryz.f68)) (QendX Tryz.prog Tryz.f68 fun v h=>R (frzW h v))) (QendX Tryz.prog Tryz.f68 fun v h=>R (frzW h v)))) (sh68a l L 0):=by
  obtain ⟨n,hn⟩ : ∃ n,n=L.length:=⟨_,rfl⟩
  rw [← hn] at h h0 hlen hown
  refine La.of (σ:=Bool×Nat×Nat×List Jt) (fam68a l L) (fun s=>s.2.1≤n∧(s.2.1<n→Hd L s.2.1)∧s.2.2.1=s.2.2.2.length∧s.2.2.2=jnS (joF l) L s.2.1∧(s.1=false→s.2.2.2=[])∧(s.1=true→s.2.2.2≠[])) (fun s=>n - s.2.1) (false,0,0,[]) rfl ⟨by simp only; omega,fun _ => .inl rfl,rfl,rfl,fun _=>rfl,fun h=>by cases h⟩ ?_
  rintro ⟨bb,f,q,js⟩ ⟨g1,hd,gq,gj,gb,gb2⟩ J hJ
  simp only at g1 hd gq gj gb gb2
  have hq:q≤n:=by rw [gq,gj]; exact Nat.le_trans (jnS_len ..) g1
  have loop:f<n→La 0 [(0:Tmp),(3:Tmp),(4:Tmp),(5:Tmp),(6:Tmp)] (WY Tryz.prog cfJ9 2987 (Env.mk (Bs.mk 0 []) 0 none 58 68 2) (cdAt [1,1,1,0,1,0,0,1,0,1,0,0,0] (bodyOf Tryz.f68))) (Qblk 2 (Qthen (WY Tryz.prog cfJ9 2989 (Env.mk (Bs.mk 0 []) 0 none 58 68 1) (cdAt [1,1,1,0,1,0,0,1,0,1,1] (bodyOf Tryz.f68)) (Qblk 1 (Qla 0 [(0:Tmp),(3:Tmp),(4:Tmp),(5:Tmp)] J (Qblk 0 (Qthen (WY Tryz.prog cfJ9 2996 (Env.mk (Bs.mk 0 []) 0 none 58 68 0) (cdAt [1,1,1,1] (bodyOf Tryz.f68)) (QendX Tryz.prog Tryz.f68 fun v h=>R (frzW h v))) (QendX Tryz.prog Tryz.f68 fun v h=>R (frzW h v))))))) (Qblk 1 (Qla 0 [(0:Tmp),(3:Tmp),(4:Tmp),(5:Tmp)] J (Qblk 0 (Qthen (WY Tryz.prog cfJ9 2996 (Env.mk (Bs.mk 0 []) 0 none 58 68 0) (cdAt [1,1,1,1] (bodyOf Tryz.f68)) (QendX Tryz.prog Tryz.f68 fun v h=>R (frzW h v))) (QendX Tryz.prog Tryz.f68 fun v h=>R (frzW h v)))))))) (fam68b l L f (bb,f+1,q,js)):=by
    intro hf
    have hd:=hd hf
    refine La.of (σ:=Bool×Nat×Nat×List Jt) (fam68b l L f) (fun s=>(f<s.2.1∧s.2.1≤n)∧(∀ i,f≤i→i<s.2.1→key (at_ L i)=key (at_ L f))∧s.2.2.1=s.2.2.2.length∧s.2.2.2=jnS (joF l) L f∧(s.1=false→s.2.2.2=[])∧(s.1=true→s.2.2.2≠[])) (fun s=>n - s.2.1) (bb,f+1,q,js) rfl ⟨⟨by simp only; omega,by simp only; omega⟩,(fun i h1 h2=>by have h2:i<f+1:=h2; rw [show i=f from by omega]),gq,gj,gb,gb2⟩ ?_
    rintro ⟨bb,t,q,js⟩ ⟨⟨t0,t1⟩,tk,gq,gj,gb,gb2⟩ I hI
    simp only at t0 t1 tk gq gj gb gb2
    have hq:q≤n:=by rw [gq,gj]; exact Nat.le_trans (jnS_len ..) g1
    have hstep:(t=n∨key (at_ L t)≠key (at_ L f))→jnS (joF l) L t=jnS (joF l) L f++[joF l (owL L f)]:=fun _=>jnS_run hd t0 tk
    have hbd:(t=n∨key (at_ L t)≠key (at_ L f))→t<n→Hd L t:=fun he ht=>by
      rcases he with he | he
      · omega
      · exact .inr (fun e=>he (e.symm.trans (tk (t - 1) (by omega) (by omega))))
    rcases bb with _ | _
    · refine see (p:=ifB (decide ((↑t:Int)<(↑(lkl L).length:Int))) (onSome (lkl L)[t]? fun row=>onSome row[0]? fun v=>onIntK IntKind.i64 v fun n=>onSome (lkl L)[f]? fun row=>onSome row[0]? fun v=>onIntK IntKind.i64 v fun n_1=>ifB (n==n_1) (onSome (lkl L)[t]? fun row=>onSome row[1]? fun v=>onIntK IntKind.i64 v fun n=>onSome (lkl L)[f]? fun row=>onSome row[1]? fun v=>onIntK IntKind.i64 v fun n_2=>ifB (n==n_2) (I (St.mk (mkT [(0,V.lst 2 (bdl l)),(3,V.lst 5 (lkl L)),(4,nilS),(5,iv (↑f:Int)),(6,iv (IntKind.i64.wrap ((↑t:Int)+(1:Int))))]) (Hp.mk [] 0 []))) (need (t≤(lkl L).length) (need (f≤t) (K0G Tryz.prog glX 118 [V.lst 2 (bdl l),V.lst 5 (sub (lkl L) f (t - f))] fun v=>onAgg v fun cs=>onCons cs fun u r=>onIntK IntKind.i64 u fun n=>onCons r fun u r=>onIntK IntKind.i64 u fun n_3=>onCons r fun u r=>onIntK IntKind.i64 u fun n_4=>onCons r fun u r=>onIntK IntKind.u8 u fun n_5=>onCons r fun u r=>onBool u fun b=>onNil r (J (St.mk (mkT [(0,V.lst 2 (bdl l)),(3,V.lst 5 (lkl L)),(4,V.sl (Id.p 0) 0 1),(5,iv (↑t:Int))]) (Hp.mk [(0,O.rows 5 true [[iv n,iv n_3,iv n_4,V.raw (Value.int IntKind.u8 n_5),bv b]])] 1 []))))))) (need (t≤(lkl L).length) (need (f≤t) (K0G Tryz.prog glX 118 [V.lst 2 (bdl l),V.lst 5 (sub (lkl L) f (t - f))] fun v=>onAgg v fun cs=>onCons cs fun u r=>onIntK IntKind.i64 u fun n=>onCons r fun u r=>onIntK IntKind.i64 u fun n_2=>onCons r fun u r=>onIntK IntKind.i64 u fun n_3=>onCons r fun u r=>onIntK IntKind.u8 u fun n_4=>onCons r fun u r=>onBool u fun b=>onNil r (J (St.mk (mkT [(0,V.lst 2 (bdl l)),(3,V.lst 5 (lkl L)),(4,V.sl (Id.p 0) 0 1),(5,iv (↑t:Int))]) (Hp.mk [(0,O.rows 5 true [[iv n,iv n_2,iv n_3,V.raw (Value.int IntKind.u8 n_4),bv b]])] 1 []))))))) (need (t≤(lkl L).length) (need (f≤t) (K0G Tryz.prog glX 118 [V.lst 2 (bdl l),V.lst 5 (sub (lkl L) f (t - f))] fun v=>onAgg v fun cs=>onCons cs fun u r=>onIntK IntKind.i64 u fun n=>onCons r fun u r=>onIntK IntKind.i64 u fun n_1=>onCons r fun u r=>onIntK IntKind.i64 u fun n_2=>onCons r fun u r=>onIntK IntKind.u8 u fun n_3=>onCons r fun u r=>onBool u fun b=>onNil r (J (St.mk (mkT [(0,V.lst 2 (bdl l)),(3,V.lst 5 (lkl L)),(4,V.sl (Id.p 0) 0 1),(5,iv (↑t:Int))]) (Hp.mk [(0,O.rows 5 true [[iv n,iv n_1,iv n_2,V.raw (Value.int IntKind.u8 n_3),bv b]])] 1 []))))))) (by kernel_rfl) ?_
      have hleaf:(t=n∨key (at_ L t)≠key (at_ L f))→need (t≤(lkl L).length) (need (f≤t) (K0G Tryz.prog glX 118 [V.lst 2 (bdl l),V.lst 5 (sub (lkl L) f (t - f))] fun v=>onAgg v fun cs=>onCons cs fun u r=>onIntK IntKind.i64 u fun n=>onCons r fun u r=>onIntK IntKind.i64 u fun n_3=>onCons r fun u r=>onIntK IntKind.i64 u fun n_4=>onCons r fun u r=>onIntK IntKind.u8 u fun n_5=>onCons r fun u r=>onBool u fun b=>onNil r (J (St.mk (mkT [(0,V.lst 2 (bdl l)),(3,V.lst 5 (lkl L)),(4,V.sl (Id.p 0) 0 1),(5,iv (↑t:Int))]) (Hp.mk [(0,O.rows 5 true ([[iv n,iv n_3,iv n_4,V.raw (Value.int IntKind.u8 n_5),bv b]]))] 1 []))))):=by
        intro hend
        refine need_mk ⟨by rw [lkl_length]; omega,need_mk ⟨by omega,?_⟩⟩
        rw [sub_lkl,run_own hs (by omega) t0 (by omega) hd tk (hn ▸ hend)]
        obtain ⟨x,hx0,hxg⟩:=hown f (by omega)
        refine joint118 (x:=x) hx0 hxg.1 hxg.2.1 hxg.2.2.1 hxg.2.2.2 (by have:=List.length_filter_le (fun x=>decide (key x=key (at_ L f))) L; unfold owL; omega) (onAgg_agg (onCons_cons (onIntK_iv (onCons_cons (onIntK_iv (onCons_cons (onIntK_iv (onCons_cons (onIntK_u8 (onCons_cons (onBool_bv (onNil_nil ?_))))))))))))
        exact hJ (true,t,1,[joF l (owL L f)]) ⟨t1,hbd hend,rfl,by simp only; rw [hstep hend,← gj,gb rfl]; rfl,(fun h=>by cases h),(fun _=>by simp)⟩ (by simp only; omega)
      refine ifB_mk (fun e=>?_) (fun e=>hleaf (.inl (by rw [lkl_length] at e; have:=of_decide_eq_false e; omega)))
      have ht:t<n:=by rw [lkl_length] at e; have:=of_decide_eq_true e; omega
      have ht' : L[t]? = some (at_ L t):=at_get (by omega)
      have hf' : L[f]? = some (at_ L f):=at_get (by omega)
      refine onSome_mk (lrow ht') (onSome_mk (x:=iv (at_ L t).1) rfl (onIntK_iv (onSome_mk (lrow hf') (onSome_mk (x:=iv (at_ L f).1) rfl (onIntK_iv (ifB_mk (fun c=>?_) (fun c=>hleaf (.inr (fun q=>by unfold key at q; rw [(Prod.mk.inj q).1] at c; simp at c)))))))))
      refine onSome_mk (lrow ht') (onSome_mk (x:=iv (at_ L t).2.1) rfl (onIntK_iv (onSome_mk (lrow hf') (onSome_mk (x:=iv (at_ L f).2.1) rfl (onIntK_iv (ifB_mk (fun c2=>?_) (fun c2=>hleaf (.inr (fun q=>by unfold key at q; rw [(Prod.mk.inj q).2] at c2; simp at c2)))))))))
      rw [wr1i ht (by omega)]
      refine hI (false,t+1,q,js) ⟨⟨by simp only; omega,ht⟩,?_,gq,gj,gb,gb2⟩ (by simp only; omega)
      intro i h1 h2
      simp only at h2
      rcases Nat.lt_succ_iff_lt_or_eq.1 h2 with h3 | h3
      · exact tk i h1 h3
      · rw [h3]
        unfold key
        rw [show (at_ L t).1=(at_ L f).1 from by simpa using c,show (at_ L t).2.1=(at_ L f).2.1 from by simpa using c2]
    · refine see (p:=ifB (decide ((↑t:Int)<(↑(lkl L).length:Int))) (onSome (lkl L)[t]? fun row=>onSome row[0]? fun v=>onIntK IntKind.i64 v fun n=>onSome (lkl L)[f]? fun row=>onSome row[0]? fun v=>onIntK IntKind.i64 v fun n_1=>ifB (n==n_1) (onSome (lkl L)[t]? fun row=>onSome row[1]? fun v=>onIntK IntKind.i64 v fun n=>onSome (lkl L)[f]? fun row=>onSome row[1]? fun v=>onIntK IntKind.i64 v fun n_2=>ifB (n==n_2) (I (St.mk (mkT [(0,V.lst 2 (bdl l)),(3,V.lst 5 (lkl L)),(4,V.sl (Id.p 0) 0 q),(5,iv (↑f:Int)),(6,iv (IntKind.i64.wrap ((↑t:Int)+(1:Int))))]) (Hp.mk [(0,O.rows 5 true (jtl js))] 1 []))) (need (t≤(lkl L).length) (need (f≤t) (K0G Tryz.prog glX 118 [V.lst 2 (bdl l),V.lst 5 (sub (lkl L) f (t - f))] fun v=>onAgg v fun cs=>onCons cs fun u r=>onIntK IntKind.i64 u fun n=>onCons r fun u r=>onIntK IntKind.i64 u fun n_3=>onCons r fun u r=>onIntK IntKind.i64 u fun n_4=>onCons r fun u r=>onIntK IntKind.u8 u fun n_5=>onCons r fun u r=>onBool u fun b=>onNil r (need ((q+1) * 32≤140737488355328) (J (St.mk (mkT [(0,V.lst 2 (bdl l)),(3,V.lst 5 (lkl L)),(4,V.sl (Id.p 0) 0 (q+1)),(5,iv (↑t:Int))]) (Hp.mk [(0,O.rows 5 true (List.take q (jtl js)++[[iv n,iv n_3,iv n_4,V.raw (Value.int IntKind.u8 n_5),bv b]]))] 1 [])))))))) (need (t≤(lkl L).length) (need (f≤t) (K0G Tryz.prog glX 118 [V.lst 2 (bdl l),V.lst 5 (sub (lkl L) f (t - f))] fun v=>onAgg v fun cs=>onCons cs fun u r=>onIntK IntKind.i64 u fun n=>onCons r fun u r=>onIntK IntKind.i64 u fun n_2=>onCons r fun u r=>onIntK IntKind.i64 u fun n_3=>onCons r fun u r=>onIntK IntKind.u8 u fun n_4=>onCons r fun u r=>onBool u fun b=>onNil r (need ((q+1) * 32≤140737488355328) (J (St.mk (mkT [(0,V.lst 2 (bdl l)),(3,V.lst 5 (lkl L)),(4,V.sl (Id.p 0) 0 (q+1)),(5,iv (↑t:Int))]) (Hp.mk [(0,O.rows 5 true (List.take q (jtl js)++[[iv n,iv n_2,iv n_3,V.raw (Value.int IntKind.u8 n_4),bv b]]))] 1 [])))))))) (need (t≤(lkl L).length) (need (f≤t) (K0G Tryz.prog glX 118 [V.lst 2 (bdl l),V.lst 5 (sub (lkl L) f (t - f))] fun v=>onAgg v fun cs=>onCons cs fun u r=>onIntK IntKind.i64 u fun n=>onCons r fun u r=>onIntK IntKind.i64 u fun n_1=>onCons r fun u r=>onIntK IntKind.i64 u fun n_2=>onCons r fun u r=>onIntK IntKind.u8 u fun n_3=>onCons r fun u r=>onBool u fun b=>onNil r (need ((q+1) * 32≤140737488355328) (J (St.mk (mkT [(0,V.lst 2 (bdl l)),(3,V.lst 5 (lkl L)),(4,V.sl (Id.p 0) 0 (q+1)),(5,iv (↑t:Int))]) (Hp.mk [(0,O.rows 5 true (List.take q (jtl js)++[[iv n,iv n_1,iv n_2,V.raw (Value.int IntKind.u8 n_3),bv b]]))] 1 [])))))))) (by kernel_rfl) ?_
      have hleaf:(t=n∨key (at_ L t)≠key (at_ L f))→need (t≤(lkl L).length) (need (f≤t) (K0G Tryz.prog glX 118 [V.lst 2 (bdl l),V.lst 5 (sub (lkl L) f (t - f))] fun v=>onAgg v fun cs=>onCons cs fun u r=>onIntK IntKind.i64 u fun n=>onCons r fun u r=>onIntK IntKind.i64 u fun n_3=>onCons r fun u r=>onIntK IntKind.i64 u fun n_4=>onCons r fun u r=>onIntK IntKind.u8 u fun n_5=>onCons r fun u r=>onBool u fun b=>onNil r (need ((q+1) * 32≤140737488355328) (J (St.mk (mkT [(0,V.lst 2 (bdl l)),(3,V.lst 5 (lkl L)),(4,V.sl (Id.p 0) 0 (q+1)),(5,iv (↑t:Int))]) (Hp.mk [(0,O.rows 5 true (List.take q (jtl js)++[[iv n,iv n_3,iv n_4,V.raw (Value.int IntKind.u8 n_5),bv b]]))] 1 [])))))):=by
        intro hend
        refine need_mk ⟨by rw [lkl_length]; omega,need_mk ⟨by omega,?_⟩⟩
        rw [sub_lkl,run_own hs (by omega) t0 (by omega) hd tk (hn ▸ hend)]
        obtain ⟨x,hx0,hxg⟩:=hown f (by omega)
        refine joint118 (x:=x) hx0 hxg.1 hxg.2.1 hxg.2.2.1 hxg.2.2.2 (by have:=List.length_filter_le (fun x=>decide (key x=key (at_ L f))) L; unfold owL; omega) (onAgg_agg (onCons_cons (onIntK_iv (onCons_cons (onIntK_iv (onCons_cons (onIntK_iv (onCons_cons (onIntK_u8 (onCons_cons (onBool_bv (onNil_nil ?_))))))))))))
        refine need_mk ⟨by omega,?_⟩
        have e:List.take q (jtl js)++[jtr (joF l (owL L f))]=jtl (js++[joF l (owL L f)]):=by
          rw [gq,← jtl_length,List.take_length]; simp [jtl]
        refine (congrArg J ?_).mp (hJ (true,t,q+1,js++[joF l (owL L f)]) ⟨t1,hbd hend,by simp [gq],by simp only; rw [hstep hend,gj],(fun h=>by cases h),(fun _=>by simp)⟩ (by simp only; omega))
        show sh68aS l L (js++[joF l (owL L f)]) (q+1) t=_
        unfold sh68aS
        rw [← e]
        rfl
      refine ifB_mk (fun e=>?_) (fun e=>hleaf (.inl (by rw [lkl_length] at e; have:=of_decide_eq_false e; omega)))
      have ht:t<n:=by rw [lkl_length] at e; have:=of_decide_eq_true e; omega
      have ht' : L[t]? = some (at_ L t):=at_get (by omega)
      have hf' : L[f]? = some (at_ L f):=at_get (by omega)
      refine onSome_mk (lrow ht') (onSome_mk (x:=iv (at_ L t).1) rfl (onIntK_iv (onSome_mk (lrow hf') (onSome_mk (x:=iv (at_ L f).1) rfl (onIntK_iv (ifB_mk (fun c=>?_) (fun c=>hleaf (.inr (fun q=>by unfold key at q; rw [(Prod.mk.inj q).1] at c; simp at c)))))))))
      refine onSome_mk (lrow ht') (onSome_mk (x:=iv (at_ L t).2.1) rfl (onIntK_iv (onSome_mk (lrow hf') (onSome_mk (x:=iv (at_ L f).2.1) rfl (onIntK_iv (ifB_mk (fun c2=>?_) (fun c2=>hleaf (.inr (fun q=>by unfold key at q; rw [(Prod.mk.inj q).2] at c2; simp at c2)))))))))
      rw [wr1i ht (by omega)]
      refine hI (true,t+1,q,js) ⟨⟨by simp only; omega,ht⟩,?_,gq,gj,gb,gb2⟩ (by simp only; omega)
      intro i h1 h2
      simp only at h2
      rcases Nat.lt_succ_iff_lt_or_eq.1 h2 with h3 | h3
      · exact tk i h1 h3
      · rw [h3]
        unfold key
        rw [show (at_ L t).1=(at_ L f).1 from by simpa using c,show (at_ L t).2.1=(at_ L f).2.1 from by simpa using c2]
  rcases bb with _ | _
  · refine see (p:=ifB (decide ((↑f:Int)<(↑(lkl L).length:Int))) (La 0 [(0:Tmp),(3:Tmp),(4:Tmp),(5:Tmp),(6:Tmp)] (WY Tryz.prog cfJ9 2987 (Env.mk (Bs.mk 0 []) 0 none 58 68 2) (cdAt [1,1,1,0,1,0,0,1,0,1,0,0,0] (bodyOf Tryz.f68))) (Qblk 2 (Qthen (WY Tryz.prog cfJ9 2989 (Env.mk (Bs.mk 0 []) 0 none 58 68 1) (cdAt [1,1,1,0,1,0,0,1,0,1,1] (bodyOf Tryz.f68)) (Qblk 1 (Qla 0 [(0:Tmp),(3:Tmp),(4:Tmp),(5:Tmp)] J (Qblk 0 (Qthen (WY Tryz.prog cfJ9 2996 (Env.mk (Bs.mk 0 []) 0 none 58 68 0) (cdAt [1,1,1,1] (bodyOf Tryz.f68)) (QendX Tryz.prog Tryz.f68 fun v h=>R (frzW h v))) (QendX Tryz.prog Tryz.f68 fun v h=>R (frzW h v))))))) (Qblk 1 (Qla 0 [(0:Tmp),(3:Tmp),(4:Tmp),(5:Tmp)] J (Qblk 0 (Qthen (WY Tryz.prog cfJ9 2996 (Env.mk (Bs.mk 0 []) 0 none 58 68 0) (cdAt [1,1,1,1] (bodyOf Tryz.f68)) (QendX Tryz.prog Tryz.f68 fun v h=>R (frzW h v))) (QendX Tryz.prog Tryz.f68 fun v h=>R (frzW h v)))))))) (St.mk (mkT [(0,V.lst 2 (bdl l)),(3,V.lst 5 (lkl L)),(4,nilS),(5,iv (↑f:Int)),(6,iv (IntKind.i64.wrap ((↑f:Int)+(1:Int))))]) (Hp.mk [] 0 []))) (R nilS)) (by kernel_rfl) ?_
    refine ifB_mk (fun d=>?_) (fun d=>?_)
    · have hf:f<n:=by rw [lkl_length] at d; have:=of_decide_eq_true d; omega
      rw [wr1i hf (by omega)]
      exact see (by kernel_rfl) (loop hf)
    · have hf:f=n:=by rw [lkl_length] at d; have:=of_decide_eq_false d; omega
      exact h0 (by rw [← hf,← gj]; exact gb rfl)
  · refine see (p:=ifB (decide ((↑f:Int)<(↑(lkl L).length:Int))) (La 0 [(0:Tmp),(3:Tmp),(4:Tmp),(5:Tmp),(6:Tmp)] (WY Tryz.prog cfJ9 2987 (Env.mk (Bs.mk 0 []) 0 none 58 68 2) (cdAt [1,1,1,0,1,0,0,1,0,1,0,0,0] (bodyOf Tryz.f68))) (Qblk 2 (Qthen (WY Tryz.prog cfJ9 2989 (Env.mk (Bs.mk 0 []) 0 none 58 68 1) (cdAt [1,1,1,0,1,0,0,1,0,1,1] (bodyOf Tryz.f68)) (Qblk 1 (Qla 0 [(0:Tmp),(3:Tmp),(4:Tmp),(5:Tmp)] J (Qblk 0 (Qthen (WY Tryz.prog cfJ9 2996 (Env.mk (Bs.mk 0 []) 0 none 58 68 0) (cdAt [1,1,1,1] (bodyOf Tryz.f68)) (QendX Tryz.prog Tryz.f68 fun v h=>R (frzW h v))) (QendX Tryz.prog Tryz.f68 fun v h=>R (frzW h v))))))) (Qblk 1 (Qla 0 [(0:Tmp),(3:Tmp),(4:Tmp),(5:Tmp)] J (Qblk 0 (Qthen (WY Tryz.prog cfJ9 2996 (Env.mk (Bs.mk 0 []) 0 none 58 68 0) (cdAt [1,1,1,1] (bodyOf Tryz.f68)) (QendX Tryz.prog Tryz.f68 fun v h=>R (frzW h v))) (QendX Tryz.prog Tryz.f68 fun v h=>R (frzW h v)))))))) (St.mk (mkT [(0,V.lst 2 (bdl l)),(3,V.lst 5 (lkl L)),(4,V.sl (Id.p 0) 0 q),(5,iv (↑f:Int)),(6,iv (IntKind.i64.wrap ((↑f:Int)+(1:Int))))]) (Hp.mk [(0,O.rows 5 true (jtl js))] 1 []))) (R (V.lst 5 (sub (jtl js) 0 q)))) (by kernel_rfl) ?_
    refine ifB_mk (fun d=>?_) (fun d=>?_)
    · have hf:f<n:=by rw [lkl_length] at d; have:=of_decide_eq_true d; omega
      rw [wr1i hf (by omega)]
      exact see (by kernel_rfl) (loop hf)
    · have hf:f=n:=by rw [lkl_length] at d; have:=of_decide_eq_false d; omega
      have e:sub (jtl js) 0 q=jtl js:=by rw [gq,← jtl_length,sub,List.drop_zero,List.take_length]
      rw [e,gj,hf]
      exact h
theorem own_ok {l:List Bdy} (hB:BodOK l) (i:Nat) (hi:i<(lnk l).length) : ∃ x,(owL (lnk l) i)[0]? = some x∧OwnOK l (owL (lnk l) i) x:=by
  have hm:at_ (lnk l) i∈owL (lnk l) i:=List.mem_filter.2 ⟨mem_at (at_get hi),by simp⟩
  obtain ⟨x,hx⟩:=getI (l:=owL (lnk l) i) (k:=0) (List.length_pos_of_mem hm)
  have lk : ∀ z∈owL (lnk l) i,key z=key (at_ (lnk l) i) ∧ ∃ a b i j k o,LkP l z a b i j k o:=fun z hz=>by
    obtain ⟨h1,h2⟩:=List.mem_filter.1 hz
    exact ⟨by simpa using h2,mem_lnk.1 h1⟩
  obtain ⟨e,a,b,i', j,k,o,h1,h2,h3,h4,h5,rfl⟩:=lk x (mem_at hx)
  refine ⟨_,hx,by simp only; omega,by simp only; omega,?_,?_⟩
  · intro k hk
    simp only [Int.toNat_natCast] at hk
    obtain ⟨j,hj⟩:=List.mem_iff_getElem?.1 hk
    obtain ⟨y,hy,hyk⟩:=knobsAt_mem hj
    exact hB.ko y (mem_at hy) k (mem_at hyk)
  · intro z hz
    obtain ⟨e', a', b', i2,j', k', o', g1,g2,g3,g4,g5,rfl⟩:=lk z hz
    have:=key_eq.1 (e'.trans e.symm)
    simp only at this
    have ea:a' = a:=by omega
    subst ea
    simp only [Int.toNat_natCast]
    exact ⟨by omega,(List.getElem?_eq_some_iff.1 g3).1⟩
theorem joints_nil {l:List Bdy} {R:V→Prop} (h:R nilS):La 0 [(0:Tmp),(3:Tmp),(4:Tmp),(5:Tmp)] (WY Tryz.prog cfJ9 2993 (Env.mk (Bs.mk 0 []) 0 none 58 68 0) (cdAt [1,1,1,0,1,0,0] (bodyOf Tryz.f68))) (Qblk 0 (Qthen (WY Tryz.prog cfJ9 2996 (Env.mk (Bs.mk 0 []) 0 none 58 68 0) (cdAt [1,1,1,1] (bodyOf Tryz.f68)) (QendX Tryz.prog Tryz.f68 fun v h=>R (frzW h v))) (QendX Tryz.prog Tryz.f68 fun v h=>R (frzW h v)))) (sh68n l):=by
  refine La.of (σ:=Unit) (fun _=>sh68n l) (fun _=>True) (fun _=>0) () rfl trivial ?_
  rintro _ _ J hJ
  exact see (p:=R nilS) (by kernel_rfl) h
theorem joints68 {l:List Bdy} {R:V→Prop} (hB:BodOK l) (hlen:(lnk l).length≤1000000000) (h0:jnt l=[]→R nilS) (h:R (.lst 5 (jtl (jnt l)))):K0G Tryz.prog glX 68 [.lst 2 (bdl l)] R:=by
  refine K0_by hmX hcJ9 3000 Tryz.func68 (p:=K0G Tryz.prog glX 65 [V.lst 2 (bdl l)] fun v=>onLst v fun s es=>La 0 [(0:Tmp),(3:Tmp),(4:Tmp),(5:Tmp)] (WY Tryz.prog cfJ9 2993 (Env.mk (Bs.mk 0 []) 0 none 58 68 0) (cdAt [1,1,1,0,1,0,0] (bodyOf Tryz.f68))) (Qblk 0 (Qthen (WY Tryz.prog cfJ9 2996 (Env.mk (Bs.mk 0 []) 0 none 58 68 0) (cdAt [1,1,1,1] (bodyOf Tryz.f68)) (QendX Tryz.prog Tryz.f68 fun v h=>R (frzW h v))) (QendX Tryz.prog Tryz.f68 fun v h=>R (frzW h v)))) (St.mk (mkT [(0,V.lst 2 (bdl l)),(3,V.lst s es),(4,nilS),(5,iv (0:Int))]) (Hp.mk [] 0 []))) (by kernel_rfl) ?_
  refine links65 hB (fun e=>onLst_nil ?_) (onLst_lst ?_)
  · exact see (by kernel_rfl) (joints_nil (l:=l) (R:=R) (h0 (by unfold jnt; rw [e]; rfl)))
  · exact see (by kernel_rfl) (joints68L (L:=lnk l) (R:=R) (lnk_pw l) hlen (own_ok hB) h0 h)
end Go.Proofs.YtbionhgjgcpogaaGreatDoor
