/- A part of the proof. -/
import Derived.Test.YtmddjopahcbefabGreatProg
import Derived.Shelf.SlSortCmp.WholeK
import Derived.Shelf.SlLaysF0
import Derived.Shelf.SlGeneric
import Derived.Test.YtmddjopahcbefabGreatXV3G10
import Derived.Test.YtmddjopahcbefabGreatXV3G11
namespace Go.Proofs.YtmddjopahcbefabGreat
open Go Go.Proofs.YtmddjopahcbefabGreat.Clean
set_option linter.unusedVariables false
set_option linter.unusedSimpArgs false
set_option maxRecDepth 10000
theorem and8 {s t:Nat} (hs:s<256) (ht:t<256):IntKind.u8.wrap (((BitVec.ofInt 8 (s:Int) &&& BitVec.ofInt 8 (t:Int)).toNat:Nat):Int)=((s &&& t:Nat):Int):=by
 have e:(BitVec.ofInt 8 (s:Int) &&& BitVec.ofInt 8 (t:Int)).toNat=s &&& t:=by
  rw [BitVec.ofInt_natCast,BitVec.ofInt_natCast,BitVec.toNat_and,BitVec.toNat_ofNat,BitVec.toNat_ofNat,Nat.mod_eq_of_lt (by omega),Nat.mod_eq_of_lt (by omega)]
 rw [e]
 exact u8w _ (Nat.lt_of_le_of_lt Nat.and_le_left hs)
def shOf (n:Nat) (a b:Ch):List Nat×Int:=(wS n (bl8 a.1) (bl8 b.1),a.2.1+b.2.1)
def shR (n:Nat) (a:Ch) (y:List Ch):List (List Nat×Int):=y.flatMap fun b=>if a.1 &&& b.1=0 then [shOf n a b] else []
def shA (n:Nat) (x y:List Ch):List (List Nat×Int):=x.flatMap fun a=>shR n a y
theorem shR_succ {n k:Nat} {a b:Ch} {y:List Ch} (h:y[k]? = some b):shR n a (y.take (k+1))=shR n a (y.take k)++if a.1 &&& b.1=0 then [shOf n a b] else []:=by
 unfold shR
 rw [List.take_add_one,h,List.flatMap_append]
 simp
theorem shA_succ {n i:Nat} {a:Ch} {x y:List Ch} (h:x[i]? = some a):shA n (x.take (i+1)) y=shA n (x.take i) y++shR n a y:=by
 unfold shA
 rw [List.take_add_one,h,List.flatMap_append]
 simp
theorem shR_len (n:Nat) (a:Ch) : ∀ y:List Ch,(shR n a y).length≤y.length
 | []=>by simp [shR]
 | b::y=>by
  have:=shR_len n a y
  unfold shR at *
  rw [List.flatMap_cons,List.length_append,List.length_cons]
  split
  ·rw [List.length_singleton]; omega
  ·rw [List.length_nil]; omega
theorem shA_len (n:Nat) (y:List Ch) : ∀ x:List Ch,(shA n x y).length≤x.length * y.length
 | []=>by simp [shA]
 | a::x=>by
  have h1:=shA_len n y x
  have h2:=shR_len n a y
  unfold shA at *
  rw [List.flatMap_cons,List.length_append,List.length_cons,Nat.succ_mul]
  omega
noncomputable def fa31 (x y:List Ch) (n:Nat) (l:List (List Nat×Int)) (i:Nat):St:=match l with | []=>sh31n x y n i | c::r=>sh31s x y n (c::r) i
noncomputable def fb31 (x y:List Ch) (n:Nat) (l:List (List Nat×Int)) (i:Nat) (a:Ch) (k:Nat):St:=match l with | []=>sh31nb x y n i a k | c::r=>sh31sb x y n (c::r) i a k
theorem fa31_s {x y:List Ch} {n i:Nat} {l:List (List Nat×Int)} (h:l≠[]):fa31 x y n l i=sh31s x y n l i:=by cases l with | nil=>exact (h rfl).elim | cons c r=>rfl
theorem fb31_s {x y:List Ch} {n i k:Nat} {a:Ch} {l:List (List Nat×Int)} (h:l≠[]):fb31 x y n l i a k=sh31sb x y n l i a k:=by cases l with | nil=>exact (h rfl).elim | cons c r=>rfl
theorem shl_take (l:List (List Nat×Int)):List.take l.length (shl l)=shl l:=by rw [← shl_length]; exact List.take_length
theorem shares31 {x y:List Ch} {n:Nat} {R:V→Prop} (hn:n≤1000) (hx:x.length≤1000) (hy:y.length≤1000) (hxo : ∀ a∈x,a.1<256∧(∀ i∈bl8 a.1,i<n)∧0≤a.2.1∧a.2.1≤1000000000) (hyo : ∀ a∈y,a.1<256∧(∀ i∈bl8 a.1,i<n)∧0≤a.2.1∧a.2.1≤1000000000)
  (hne:shA n x y≠[]) (h:R (.lst 2 (shl (shA n x y)))):K0G Tryz.prog glX 31 [.lst 3 (chl x),.lst 3 (chl y),iv (n:Int)] R:=by
 refine K0_of_WY0 hmX hcSh 3000 Tryz.func31 (see (p:=La 0 [(1:Tmp),(2:Tmp),(7:Tmp),(12:Tmp),(13:Tmp),(14:Tmp)] (WY Tryz.prog cfS 2994 (Env.mk (Bs.mk 0 []) 0 none 40 31 0) (cdAt [1,1,0,1,0,0] (bodyOf Tryz.f31))) (Qblk 0 (Qthen (WY Tryz.prog cfS 2997 (Env.mk (Bs.mk 0 []) 0 none 40 31 0) (cdAt [1,1,1] (bodyOf Tryz.f31)) (QendX Tryz.prog Tryz.f31 fun v h=>R (frzW h v))) (QendX Tryz.prog Tryz.f31 fun v h=>R (frzW h v)))) (St.mk (mkT [(1,V.lst 3 (chl y)),(2,iv (↑n:Int)),(7,nilS),(12,V.lst 3 (chl x)),(13,iv (↑(chl x).length:Int)),(14,iv (0:Int))]) (Hp.mk [] 0 []))) (by kernel_rfl) ?_)
 refine La.of (σ:=Nat) (fun i=>fa31 x y n (shA n (x.take i) y) i) (fun i=>i≤x.length) (fun i=>x.length - i) 0 (by kernel_rfl) (by omega) ?_
 rintro i g1 J hJ
 obtain ⟨l,hl⟩ : ∃ l,l=shA n (x.take i) y:=⟨_,rfl⟩
 have hll:l.length≤1000000:=by
  have h1:=shA_len n y (x.take i)
  rw [List.length_take,← hl] at h1
  have h2:min i x.length * y.length≤1000 * 1000:=Nat.mul_le_mul (by omega) hy
  omega
 rw [← hl]
 have inner : ∀ (a:Ch),x[i]? = some a→La 0 [(1:Tmp),(2:Tmp),(7:Tmp),(9:Tmp),(12:Tmp),(13:Tmp),(14:Tmp),(18:Tmp),(19:Tmp),(20:Tmp)] (WY Tryz.prog cfS 2986 (Env.mk (Bs.mk 0 []) 0 none 40 31 2) (cdAt [1,1,0,1,0,0,1,1,0,0,1,1,0,0] (bodyOf Tryz.f31))) (Qblk 2 (Qblk 1 (Qthen (WY Tryz.prog cfS 2991 (Env.mk (Bs.mk 0 []) 0 none 40 31 0) (cdAt [1,1,0,1,0,0,1,1,1] (bodyOf Tryz.f31)) (Qla 0 [(1:Tmp),(2:Tmp),(7:Tmp),(12:Tmp),(13:Tmp),(14:Tmp)] J (Qblk 0 (Qthen (WY Tryz.prog cfS 2997 (Env.mk (Bs.mk 0 []) 0 none 40 31 0) (cdAt [1,1,1] (bodyOf Tryz.f31)) (QendX Tryz.prog Tryz.f31 fun v h=>R (frzW h v))) (QendX Tryz.prog Tryz.f31 fun v h=>R (frzW h v)))))) (Qla 0 [(1:Tmp),(2:Tmp),(7:Tmp),(12:Tmp),(13:Tmp),(14:Tmp)] J (Qblk 0 (Qthen (WY Tryz.prog cfS 2997 (Env.mk (Bs.mk 0 []) 0 none 40 31 0) (cdAt [1,1,1] (bodyOf Tryz.f31)) (QendX Tryz.prog Tryz.f31 fun v h=>R (frzW h v))) (QendX Tryz.prog Tryz.f31 fun v h=>R (frzW h v)))))))) (fb31 x y n l i a 0):=by
  intro a ha
  have hi:i<x.length:=(List.getElem?_eq_some_iff.1 ha).1
  obtain ⟨a1,a2,a3,a4⟩:=hxo a (List.mem_of_getElem? ha)
  refine La.of (σ:=Nat) (fun k=>fb31 x y n (l++shR n a (y.take k)) i a k) (fun k=>k≤y.length) (fun k=>y.length - k) 0 (by simp [shR]) (by omega) ?_
  rintro k g2 I hI
  obtain ⟨L,hL⟩ : ∃ L,L=l++shR n a (y.take k):=⟨_,rfl⟩
  have hLl:L.length≤1001000:=by
   have h1:=shR_len n a (y.take k)
   rw [List.length_take] at h1
   rw [hL,List.length_append]
   omega
  rw [← hL]
  have step : ∀ b,y[k]? = some b → ∀ (hk:k<y.length),I (fb31 x y n (L++if a.1 &&& b.1=0 then [shOf n a b] else []) i a (k+1)):=by
   intro b hb hk
   have:=hI (k+1) hk (by omega)
   rwa [shR_succ hb,← List.append_assoc,← hL] at this
  have done:k=y.length→J (fa31 x y n L (i+1)):=by
   intro hk
   have:=hJ (i+1) hi (by omega)
   rw [hk,List.take_length] at hL
   rwa [shA_succ ha,← hl,← hL] at this
  have hrow : ∀ b,y[k]? = some b→(chl y)[k]? = some (chr b):=fun b hb=>by simp [chl,hb]
  have cond : ∀ b:Ch,b.1<256→(IntKind.u8.wrap (((BitVec.ofInt 8 (a.1:Int) &&& BitVec.ofInt 8 (b.1:Int)).toNat:Nat):Int)==(0:Int))=decide (a.1 &&& b.1=0):=fun b hb=>by
   rw [and8 a1 hb]
   by_cases e:a.1 &&& b.1=0
   ·rw [e]; rfl
   ·rw [decide_eq_false e]; simp; omega
  cases hc:L with
  | nil =>
   refine see (p:=ifB (decide ((↑k:Int)<(↑(chl y).length:Int))) (onSome (chl y)[k]? fun row=>onCons (List.drop 0 row) fun u r=>onIntK IntKind.u8 u fun n_1=>onCons r fun u r=>onIntK IntKind.i64 u fun n_2=>onCons r fun u r=>onLst u fun s es=>ifB (IntKind.u8.wrap (↑(BitVec.ofInt 8 (↑a.1:Int) &&& BitVec.ofInt 8 n_1).toNat:Int)==(0:Int)) (K0G Tryz.prog glX 61 [V.agg [V.raw (Value.int IntKind.u8 (↑a.1:Int)),iv a.2.1,V.lst a.2.2.2 (itl a.2.2.1)],V.agg [V.raw (Value.int IntKind.u8 n_1),iv n_2,V.lst s es],iv (↑n:Int)] fun v=>onAgg v fun cs=>onCons cs fun u r=>onLst u fun s es=>onCons r fun u r=>onIntK IntKind.i64 u fun n_3=>onNil r (I (St.mk (mkT [(1,V.lst 3 (chl y)),(2,iv (↑n:Int)),(7,V.sl (Id.p 0) 0 1),(9,V.ptr (Id.p 1) 0 0),(12,V.lst 3 (chl x)),(13,iv (↑(chl x).length:Int)),(14,iv (↑i:Int)),(18,V.lst 3 (chl y)),(19,iv (↑(chl y).length:Int)),(20,iv (IntKind.i64.wrap ((↑k:Int)+(1:Int))))]) (Hp.mk [(0,O.rows 2 true [[V.lst s es,iv n_3]]),(1,O.rows 3 false [[V.raw (Value.int IntKind.u8 (↑a.1:Int)),iv a.2.1,V.lst a.2.2.2 (itl a.2.2.1)]])] 2 [])))) (I (St.mk (mkT [(1,V.lst 3 (chl y)),(2,iv (↑n:Int)),(7,nilS),(9,V.ptr (Id.p 0) 0 0),(12,V.lst 3 (chl x)),(13,iv (↑(chl x).length:Int)),(14,iv (↑i:Int)),(18,V.lst 3 (chl y)),(19,iv (↑(chl y).length:Int)),(20,iv (IntKind.i64.wrap ((↑k:Int)+(1:Int))))]) (Hp.mk [(0,O.rows 3 false [[V.raw (Value.int IntKind.u8 (↑a.1:Int)),iv a.2.1,V.lst a.2.2.2 (itl a.2.2.1)]])] 1 [])))) (J (St.mk (mkT [(1,V.lst 3 (chl y)),(2,iv (↑n:Int)),(7,nilS),(12,V.lst 3 (chl x)),(13,iv (↑(chl x).length:Int)),(14,iv (IntKind.i64.wrap ((↑i:Int)+(1:Int))))]) (Hp.mk [] 0 [])))) (by kernel_rfl) ?_
   rw [hc] at step done
   refine ifB_mk (fun d=>?_) (fun d=>?_) <;> rw [chl_length] at d
   ·have hk:k<y.length:=by have:=of_decide_eq_true d; omega
    obtain ⟨b,hb⟩ : ∃ b,y[k]? = some b:=⟨y[k],by simp [hk]⟩
    obtain ⟨b1,b2,b3,b4⟩:=hyo b (List.mem_of_getElem? hb)
    have st:=step b hb hk
    refine onSome_mk (hrow b hb) (onCons_cons (onIntK_u8 (onCons_cons (onIntK_iv (onCons_cons (onLst_lst ?_))))))
    rw [cond b b1,wr1i hk (by omega)]
    refine ifB_mk (fun e=>?_) (fun e=>?_)
    ·rw [if_pos (of_decide_eq_true e)] at st
     exact shareOf61 (a:=a) (b:=b) a1 b1 hn a2 b2 ⟨a3,a4⟩ ⟨b3,b4⟩ (onAgg_agg (onCons_cons (onLst_lst (onCons_cons (onIntK_iv (onNil_nil (see (by kernel_rfl) st)))))))
    ·rw [if_neg (of_decide_eq_false e)] at st
     exact see (by kernel_rfl) st
   ·have hk:k=y.length:=by have:=of_decide_eq_false d; omega
    rw [wr1i hi (by omega)]
    exact see (by kernel_rfl) (done hk)
  | cons c0 r0 =>
   rw [← hc]
   have hcn:L≠[]:=by rw [hc]; simp
   rw [fb31_s hcn]
   refine see (p:=ifB (decide ((↑k:Int)<(↑(chl y).length:Int))) (onSome (chl y)[k]? fun row=>onCons (List.drop 0 row) fun u r=>onIntK IntKind.u8 u fun n_1=>onCons r fun u r=>onIntK IntKind.i64 u fun n_2=>onCons r fun u r=>onLst u fun s es=>ifB (IntKind.u8.wrap (↑(BitVec.ofInt 8 (↑a.1:Int) &&& BitVec.ofInt 8 n_1).toNat:Int)==(0:Int)) (K0G Tryz.prog glX 61 [V.agg [V.raw (Value.int IntKind.u8 (↑a.1:Int)),iv a.2.1,V.lst a.2.2.2 (itl a.2.2.1)],V.agg [V.raw (Value.int IntKind.u8 n_1),iv n_2,V.lst s es],iv (↑n:Int)] fun v=>onAgg v fun cs=>onCons cs fun u r=>onLst u fun s es=>onCons r fun u r=>onIntK IntKind.i64 u fun n_3=>onNil r (need ((L.length+1) * 32≤140737488355328) (I (St.mk (mkT [(1,V.lst 3 (chl y)),(2,iv (↑n:Int)),(7,V.sl (Id.p 0) 0 (L.length+1)),(9,V.ptr (Id.p 1) 0 0),(12,V.lst 3 (chl x)),(13,iv (↑(chl x).length:Int)),(14,iv (↑i:Int)),(18,V.lst 3 (chl y)),(19,iv (↑(chl y).length:Int)),(20,iv (IntKind.i64.wrap ((↑k:Int)+(1:Int))))]) (Hp.mk [(0,O.rows 2 true (List.take L.length (shl L)++[[V.lst s es,iv n_3]])),(1,O.rows 3 false [[V.raw (Value.int IntKind.u8 (↑a.1:Int)),iv a.2.1,V.lst a.2.2.2 (itl a.2.2.1)]])] 2 []))))) (I (St.mk (mkT [(1,V.lst 3 (chl y)),(2,iv (↑n:Int)),(7,V.sl (Id.p 0) 0 L.length),(9,V.ptr (Id.p 1) 0 0),(12,V.lst 3 (chl x)),(13,iv (↑(chl x).length:Int)),(14,iv (↑i:Int)),(18,V.lst 3 (chl y)),(19,iv (↑(chl y).length:Int)),(20,iv (IntKind.i64.wrap ((↑k:Int)+(1:Int))))]) (Hp.mk [(0,O.rows 2 true (shl L)),(1,O.rows 3 false [[V.raw (Value.int IntKind.u8 (↑a.1:Int)),iv a.2.1,V.lst a.2.2.2 (itl a.2.2.1)]])] 2 [])))) (J (St.mk (mkT [(1,V.lst 3 (chl y)),(2,iv (↑n:Int)),(7,V.sl (Id.p 0) 0 L.length),(12,V.lst 3 (chl x)),(13,iv (↑(chl x).length:Int)),(14,iv (IntKind.i64.wrap ((↑i:Int)+(1:Int))))]) (Hp.mk [(0,O.rows 2 true (shl L))] 1 [])))) (by kernel_rfl) ?_
   refine ifB_mk (fun d=>?_) (fun d=>?_) <;> rw [chl_length] at d
   ·have hk:k<y.length:=by have:=of_decide_eq_true d; omega
    obtain ⟨b,hb⟩ : ∃ b,y[k]? = some b:=⟨y[k],by simp [hk]⟩
    obtain ⟨b1,b2,b3,b4⟩:=hyo b (List.mem_of_getElem? hb)
    have st:=step b hb hk
    refine onSome_mk (hrow b hb) (onCons_cons (onIntK_u8 (onCons_cons (onIntK_iv (onCons_cons (onLst_lst ?_))))))
    rw [cond b b1,wr1i hk (by omega)]
    refine ifB_mk (fun e=>?_) (fun e=>?_)
    ·rw [if_pos (of_decide_eq_true e),fb31_s (by simp)] at st
     refine shareOf61 (a:=a) (b:=b) a1 b1 hn a2 b2 ⟨a3,a4⟩ ⟨b3,b4⟩ (onAgg_agg (onCons_cons (onLst_lst (onCons_cons (onIntK_iv (onNil_nil (need_mk ⟨by omega,?_⟩)))))))
     rw [shl_take]
     refine hJ' ?_ st
     simp only [sh31sb,shl,shr,shOf,List.map_append,List.length_append,List.length_singleton,List.map_cons,List.map_nil]
     rfl
    ·rw [if_neg (of_decide_eq_false e),List.append_nil,fb31_s hcn] at st
     exact see (by kernel_rfl) st
   ·have hk:k=y.length:=by have:=of_decide_eq_false d; omega
    rw [wr1i hi (by omega)]
    have:=done hk
    rw [fa31_s hcn] at this
    exact see (by kernel_rfl) this
 cases hc:l with
 | nil =>
  rw [hc] at inner
  refine see (p:=ifB (decide ((↑i:Int)<(↑(chl x).length:Int))) (onSome (chl x)[i]? fun row=>onCons (List.drop 0 row) fun u r=>onIntK IntKind.u8 u fun n_1=>onCons r fun u r=>onIntK IntKind.i64 u fun n_2=>onCons r fun u r=>onLst u fun s es=>La 0 [(1:Tmp),(2:Tmp),(7:Tmp),(9:Tmp),(12:Tmp),(13:Tmp),(14:Tmp),(18:Tmp),(19:Tmp),(20:Tmp)] (WY Tryz.prog cfS 2986 (Env.mk (Bs.mk 0 []) 0 none 40 31 2) (cdAt [1,1,0,1,0,0,1,1,0,0,1,1,0,0] (bodyOf Tryz.f31))) (Qblk 2 (Qblk 1 (Qthen (WY Tryz.prog cfS 2991 (Env.mk (Bs.mk 0 []) 0 none 40 31 0) (cdAt [1,1,0,1,0,0,1,1,1] (bodyOf Tryz.f31)) (Qla 0 [(1:Tmp),(2:Tmp),(7:Tmp),(12:Tmp),(13:Tmp),(14:Tmp)] J (Qblk 0 (Qthen (WY Tryz.prog cfS 2997 (Env.mk (Bs.mk 0 []) 0 none 40 31 0) (cdAt [1,1,1] (bodyOf Tryz.f31)) (QendX Tryz.prog Tryz.f31 fun v h=>R (frzW h v))) (QendX Tryz.prog Tryz.f31 fun v h=>R (frzW h v)))))) (Qla 0 [(1:Tmp),(2:Tmp),(7:Tmp),(12:Tmp),(13:Tmp),(14:Tmp)] J (Qblk 0 (Qthen (WY Tryz.prog cfS 2997 (Env.mk (Bs.mk 0 []) 0 none 40 31 0) (cdAt [1,1,1] (bodyOf Tryz.f31)) (QendX Tryz.prog Tryz.f31 fun v h=>R (frzW h v))) (QendX Tryz.prog Tryz.f31 fun v h=>R (frzW h v)))))))) (St.mk (mkT [(1,V.lst 3 (chl y)),(2,iv (↑n:Int)),(7,nilS),(9,V.ptr (Id.p 0) 0 0),(12,V.lst 3 (chl x)),(13,iv (↑(chl x).length:Int)),(14,iv (↑i:Int)),(18,V.lst 3 (chl y)),(19,iv (↑(chl y).length:Int)),(20,iv (0:Int))]) (Hp.mk [(0,O.rows 3 false [[V.raw (Value.int IntKind.u8 n_1),iv n_2,V.lst s es]])] 1 []))) (R nilS)) (by kernel_rfl) ?_
  refine ifB_mk (fun d=>?_) (fun d=>?_) <;> rw [chl_length] at d
  ·have hi:i<x.length:=by have:=of_decide_eq_true d; omega
   obtain ⟨a,ha⟩ : ∃ a,x[i]? = some a:=⟨x[i],by simp [hi]⟩
   refine onSome_mk (x:=chr a) (by simp [chl,ha]) (onCons_cons (onIntK_u8 (onCons_cons (onIntK_iv (onCons_cons (onLst_lst ?_))))))
   have:=inner a ha
   exact see (by kernel_rfl) this
  ·have hi:i=x.length:=by have:=of_decide_eq_false d; omega
   rw [hi,List.take_length] at hl
   exact (hne (by rw [← hl,hc])).elim
 | cons c0 r0 =>
  rw [← hc]
  have hcn:l≠[]:=by rw [hc]; simp
  rw [fa31_s hcn]
  refine see (p:=ifB (decide ((↑i:Int)<(↑(chl x).length:Int))) (onSome (chl x)[i]? fun row=>onCons (List.drop 0 row) fun u r=>onIntK IntKind.u8 u fun n_1=>onCons r fun u r=>onIntK IntKind.i64 u fun n_2=>onCons r fun u r=>onLst u fun s es=>La 0 [(1:Tmp),(2:Tmp),(7:Tmp),(9:Tmp),(12:Tmp),(13:Tmp),(14:Tmp),(18:Tmp),(19:Tmp),(20:Tmp)] (WY Tryz.prog cfS 2986 (Env.mk (Bs.mk 0 []) 0 none 40 31 2) (cdAt [1,1,0,1,0,0,1,1,0,0,1,1,0,0] (bodyOf Tryz.f31))) (Qblk 2 (Qblk 1 (Qthen (WY Tryz.prog cfS 2991 (Env.mk (Bs.mk 0 []) 0 none 40 31 0) (cdAt [1,1,0,1,0,0,1,1,1] (bodyOf Tryz.f31)) (Qla 0 [(1:Tmp),(2:Tmp),(7:Tmp),(12:Tmp),(13:Tmp),(14:Tmp)] J (Qblk 0 (Qthen (WY Tryz.prog cfS 2997 (Env.mk (Bs.mk 0 []) 0 none 40 31 0) (cdAt [1,1,1] (bodyOf Tryz.f31)) (QendX Tryz.prog Tryz.f31 fun v h=>R (frzW h v))) (QendX Tryz.prog Tryz.f31 fun v h=>R (frzW h v)))))) (Qla 0 [(1:Tmp),(2:Tmp),(7:Tmp),(12:Tmp),(13:Tmp),(14:Tmp)] J (Qblk 0 (Qthen (WY Tryz.prog cfS 2997 (Env.mk (Bs.mk 0 []) 0 none 40 31 0) (cdAt [1,1,1] (bodyOf Tryz.f31)) (QendX Tryz.prog Tryz.f31 fun v h=>R (frzW h v))) (QendX Tryz.prog Tryz.f31 fun v h=>R (frzW h v)))))))) (St.mk (mkT [(1,V.lst 3 (chl y)),(2,iv (↑n:Int)),(7,V.sl (Id.p 0) 0 l.length),(9,V.ptr (Id.p 1) 0 0),(12,V.lst 3 (chl x)),(13,iv (↑(chl x).length:Int)),(14,iv (↑i:Int)),(18,V.lst 3 (chl y)),(19,iv (↑(chl y).length:Int)),(20,iv (0:Int))]) (Hp.mk [(0,O.rows 2 true (shl l)),(1,O.rows 3 false [[V.raw (Value.int IntKind.u8 n_1),iv n_2,V.lst s es]])] 2 []))) (R (V.lst 2 (sub (shl l) 0 l.length)))) (by kernel_rfl) ?_
  refine ifB_mk (fun d=>?_) (fun d=>?_)
  ·rw [chl_length] at d
   have hi:i<x.length:=by have:=of_decide_eq_true d; omega
   obtain ⟨a,ha⟩ : ∃ a,x[i]? = some a:=⟨x[i],by simp [hi]⟩
   refine onSome_mk (x:=chr a) (by simp [chl,ha]) (onCons_cons (onIntK_u8 (onCons_cons (onIntK_iv (onCons_cons (onLst_lst ?_))))))
   have:=inner a ha
   rw [fb31_s hcn] at this
   exact see (by kernel_rfl) this
  ·rw [chl_length] at d
   have hi:i=x.length:=by have:=of_decide_eq_false d; omega
   rw [hi,List.take_length] at hl
   rw [show sub (shl l) 0 l.length=shl l from by rw [← shl_length]; exact sub_all _,hl]
   exact h
theorem cho_empty (bx:List It) (p:List (List It)) (v:List Int):choF p v (bl8 0) 0 bx=some (0,bx):=by
 have:bl8 0=[]:=by decide +kernel
 rw [this]; rfl
set_option maxHeartbeats 1000000 in
theorem share9 {a b:List It} {p:List (List It)} {v:List Int} {R:V→Prop} (hp:p.length≤1000) (hv:v.length≤1000) (bad : ∀ n,n≠0→R (.tup [nilS,iv 0,iv n]))
  (h:Stk a→Stk b→(∀ l∈p,Stk l)→p.length≤8→v.length=p.length→(∀ x∈v,0≤x∧x≤1000) → ∀ s t x y l m,s<2 ^ p.length→t<2 ^ p.length→s &&& t=0→choF p v (bl8 s) 0 a=some (x,l)→choF p v (bl8 t) 0 b=some (y,m) →
   (∀ s' t' x' y' l' m', s' < 2 ^ p.length→t' < 2 ^ p.length→s' &&& t' = 0→choF p v (bl8 s') 0 a=some (x', l')→choF p v (bl8 t') 0 b=some (y', m')→x' + y' ≤ x+y)→R (.tup [.lst 1 (ul (wS p.length (bl8 s) (bl8 t))),iv (x+y),iv 0])):K0G Tryz.prog glX 9 [.lst 3 (itl a),.lst 3 (itl b),.lst 1 (pll p),.lst 1 (nl v)] R:=by
 refine K0_of_WY0 hmX hcSh 3000 Tryz.func9 (see (p:=K0G Tryz.prog glX 29 [V.lst 1 [[V.lst 3 (itl a)],[V.lst 3 (itl b)]]] fun v_1=>onIntK IntKind.i64 v_1 fun n=>K0G Tryz.prog glX 29 [V.lst 1 (pll p)] fun v_2=>onIntK IntKind.i64 v_2 fun n_1=>K0G Tryz.prog glX 30 [V.lst 1 (pll p),V.lst 1 (nl v)] fun v_3=>onIntK IntKind.i64 v_3 fun n_2=>ifB (n != (0:Int)) (ifB (n != (0:Int)) (R (V.tup [nilS,iv (0:Int),iv n])) (K0G Tryz.prog glX 32 [V.lst 3 (itl a),V.lst 1 (pll p),V.lst 1 (nl v)] fun v_4=>onLst v_4 fun s es=>K0G Tryz.prog glX 32 [V.lst 3 (itl b),V.lst 1 (pll p),V.lst 1 (nl v)] fun v=>onLst v fun s_1 es_1=>K0G Tryz.prog glX 31 [V.lst s es,V.lst s_1 es_1,iv (↑(pll p).length:Int)] fun v=>onLst v fun s es=>K0G Tryz.prog glX 33 [V.lst s es,V.fn (Fn.func 34) [] []] fun v=>onAgg v fun cs=>onCons cs fun u r=>onLst u fun s es=>onCons r fun u r=>onIntK IntKind.i64 u fun n=>onNil r (R (V.tup [V.lst s es,iv n,iv (0:Int)])))) (ifB (n_1 != (0:Int)) (ifB (n_1 != (0:Int)) (R (V.tup [nilS,iv (0:Int),iv n_1])) (K0G Tryz.prog glX 32 [V.lst 3 (itl a),V.lst 1 (pll p),V.lst 1 (nl v)] fun v_4=>onLst v_4 fun s es=>K0G Tryz.prog glX 32 [V.lst 3 (itl b),V.lst 1 (pll p),V.lst 1 (nl v)] fun v=>onLst v fun s_1 es_1=>K0G Tryz.prog glX 31 [V.lst s es,V.lst s_1 es_1,iv (↑(pll p).length:Int)] fun v=>onLst v fun s es=>K0G Tryz.prog glX 33 [V.lst s es,V.fn (Fn.func 34) [] []] fun v=>onAgg v fun cs=>onCons cs fun u r=>onLst u fun s es=>onCons r fun u r=>onIntK IntKind.i64 u fun n=>onNil r (R (V.tup [V.lst s es,iv n,iv (0:Int)])))) (ifB (n_2 != (0:Int)) (ifB (n_2 != (0:Int)) (R (V.tup [nilS,iv (0:Int),iv n_2])) (K0G Tryz.prog glX 32 [V.lst 3 (itl a),V.lst 1 (pll p),V.lst 1 (nl v)] fun v_4=>onLst v_4 fun s es=>K0G Tryz.prog glX 32 [V.lst 3 (itl b),V.lst 1 (pll p),V.lst 1 (nl v)] fun v=>onLst v fun s_1 es_1=>K0G Tryz.prog glX 31 [V.lst s es,V.lst s_1 es_1,iv (↑(pll p).length:Int)] fun v=>onLst v fun s es=>K0G Tryz.prog glX 33 [V.lst s es,V.fn (Fn.func 34) [] []] fun v=>onAgg v fun cs=>onCons cs fun u r=>onLst u fun s es=>onCons r fun u r=>onIntK IntKind.i64 u fun n=>onNil r (R (V.tup [V.lst s es,iv n,iv (0:Int)])))) (K0G Tryz.prog glX 32 [V.lst 3 (itl a),V.lst 1 (pll p),V.lst 1 (nl v)] fun v_4=>onLst v_4 fun s es=>K0G Tryz.prog glX 32 [V.lst 3 (itl b),V.lst 1 (pll p),V.lst 1 (nl v)] fun v=>onLst v fun s_1 es_1=>K0G Tryz.prog glX 31 [V.lst s es,V.lst s_1 es_1,iv (↑(pll p).length:Int)] fun v=>onLst v fun s es=>K0G Tryz.prog glX 33 [V.lst s es,V.fn (Fn.func 34) [] []] fun v=>onAgg v fun cs=>onCons cs fun u r=>onLst u fun s es=>onCons r fun u r=>onIntK IntKind.i64 u fun n=>onNil r (R (V.tup [V.lst s es,iv n,iv (0:Int)])))))) (by kernel_rfl) ?_)
 refine checkAll42 (p:=[a,b]) (by simp) (fun n hn=>onIntK_iv (checkAll42 hp (fun n1 hn1=>onIntK_iv (checkPlans49 hv (fun n2 hn2=>onIntK_iv ?_)))))
 have nz : ∀ n:Int,(n != 0)=true→n≠0:=fun n h=>by simpa using h
 refine ifB_mk (fun a=>ifB_t a (bad n (nz _ a))) (fun ea=>ifB_mk (fun b=>ifB_t b (bad n1 (nz _ b))) (fun eb=>ifB_mk (fun c=>ifB_t c (bad n2 (nz _ c))) (fun c=>?_)))
 have k0:=hn (by simpa using ea)
 have k1a:=k0 a (by simp)
 have k1b:=k0 b (by simp)
 have k2:=hn1 (by simpa using eb)
 obtain ⟨k3,k4,k5⟩:=hn2 (by simpa using c)
 have h256:2 ^ p.length≤256:=Nat.pow_le_pow_right (n:=2) (by omega) k3
 have kv:Vaok v:=fun x hx=>⟨(k5 x hx).1,by have:=(k5 x hx).2; omega⟩
 have kp:Plok p:=fun l hl=>(k2 l hl).nok
 have facts : ∀ (bx:List It) (hb:Stk bx) (cs:List Ch),cs.map erC=choS bx p v (2 ^ p.length)→cs.length≤1000∧(∀ c∈cs,c.1<2 ^ p.length∧choF p v (bl8 c.1) 0 bx=some (c.2.1,c.2.2.1))∧(∀ c∈cs,c.1<256∧(∀ i∈bl8 c.1,i<p.length)∧0≤c.2.1∧c.2.1≤1000000000) ∧ ∀ s x l,s<2 ^ p.length→choF p v (bl8 s) 0 bx=some (x,l) → ∃ c∈cs,erC c=(s,x,l):=by
  intro bx hb cs hcs
  have hmem : ∀ c∈cs,c.1<2 ^ p.length∧choF p v (bl8 c.1) 0 bx=some (c.2.1,c.2.2.1):=fun c hc=>(choS_mem (x:=erC c)).1 (by rw [← hcs]; exact List.mem_map_of_mem hc)
  refine ⟨?_,hmem,fun c hc=>?_,fun s x l hs hx=>?_⟩
  ·have e:cs.length=(choS bx p v (2 ^ p.length)).length:=by rw [← hcs,List.length_map]
   have:=List.length_filterMap_le (fun s=>(choF p v (bl8 s) 0 bx).map fun q=>(s,q.1,q.2)) (List.range (2 ^ p.length))
   simp only [List.length_range] at this
   rw [e]
   unfold choS
   omega
  ·obtain ⟨m1,m2⟩:=hmem c hc
   have gp : ∀ l∈p,G l:=fun l hl=>(k2 l hl).g
   obtain ⟨c1,_⟩:=cho_some gp hb.g m2
   have h8:=bl8_len c.1
   have hs:=sumV_ok k5 (bl8 c.1)
   unfold sumV at hs
   exact ⟨by omega,fun i hi=>bl8_lt m1 hi,by omega,by omega⟩
  ·have:(s,x,l)∈cs.map erC:=by rw [hcs]; exact choS_mem.2 ⟨hs,hx⟩
   obtain ⟨c,hc,e⟩:=List.mem_map.1 this
   exact ⟨c,hc,e⟩
 refine choices51 k1a.nok (by have:=k1a.1; omega) kp kv k4 k3 (fun cs hcs hcd hne=>onLst_lst ?_)
 refine choices51 k1b.nok (by have:=k1b.1; omega) kp kv k4 k3 (fun ds hds hdd hne2=>onLst_lst ?_)
 obtain ⟨c1,c2,c3,c4⟩:=facts a k1a cs hcs
 obtain ⟨d1,d2,d3,d4⟩:=facts b k1b ds hds
 have mem : ∀ z,z∈shA p.length cs ds ↔ ∃ c∈cs, ∃ d∈ds,c.1 &&& d.1=0∧z=shOf p.length c d:=by
  intro z
  unfold shA shR
  simp only [List.mem_flatMap]
  constructor
  ·rintro ⟨c,hc,d,hd,hz⟩
   split at hz
   ·rename_i e
    exact ⟨c,hc,d,hd,e,List.mem_singleton.1 hz⟩
   ·cases hz
  ·rintro ⟨c,hc,d,hd,e,hz⟩
   exact ⟨c,hc,d,hd,by rw [if_pos e,hz]; simp⟩
 have p0:0<2 ^ p.length:=Nat.two_pow_pos _
 have hne3:shA p.length cs ds≠[]:=by
  obtain ⟨c,hc,ec⟩:=c4 0 0 a p0 (cho_empty a p v)
  obtain ⟨d,hd,ed⟩:=d4 0 0 b p0 (cho_empty b p v)
  have e1:c.1=0:=congrArg (·.1) ec
  have e2:d.1=0:=congrArg (·.1) ed
  exact List.ne_nil_of_mem ((mem _).2 ⟨c,hc,d,hd,by rw [e1,e2]; rfl,rfl⟩)
 have hpl:=pll_length p
 rw [hpl]
 refine shares31 (by omega) c1 d1 c3 d3 hne3 (onLst_lst ?_)
 have hAl:(shA p.length cs ds).length≤1000000:=by
  have h1:=shA_len p.length ds cs
  have h2:cs.length * ds.length≤1000 * 1000:=Nat.mul_le_mul c1 d1
  omega
 refine min33 hne3 hAl (fun z hz=>by
  obtain ⟨c,_,d,_,_,rfl⟩:=(mem z).1 hz
  show (wS _ _ _).length≤_
  rw [wS_len]; omega) (fun z hz hbest=>?_)
 obtain ⟨c,hc,d,hd,e0,rfl⟩:=(mem z).1 hz
 refine onAgg_agg (onCons_cons (onLst_lst (onCons_cons (onIntK_iv (onNil_nil ?_)))))
 refine h k1a k1b k2 k3 k4 k5 c.1 d.1 c.2.1 d.2.1 c.2.2.1 d.2.2.1 (c2 c hc).1 (d2 d hd).1 e0 (c2 c hc).2 (d2 d hd).2 ?_
 intro s' t' x' y' l' m' hs' ht' e' hx' hy'
 obtain ⟨c', hc', ec⟩:=c4 s' x' l' hs' hx'
 obtain ⟨d', hd', ed⟩:=d4 t' y' m' ht' hy'
 simp only [erC,Prod.mk.injEq] at ec ed
 have:=hbest _ ((mem _).2 ⟨c', hc', d', hd', by rw [ec.1,ed.1]; exact e', rfl⟩)
 simp only [shOf] at this
 rw [ec.2.1,ed.2.1] at this
 exact this
set_option maxRecDepth 100000
def kpDM:FuncId→Nat→Option (List Tmp):=slotsOf [(27,0,[0,3,4]),(9999,0,[0,3]),(87,0,[1,6,9,10,11]),(67,0,[0,1,7,8,9]),(37,0,[13,14,15]),(25,0,[0,1,5]),(36,0,[0,1,2,7]),(41,0,[4,10,11,12])]
def moDM (f:FuncId):Nat:=0
def tyDM (f:FuncId):Option TypeId:=none
noncomputable def cfDM:Cfg:=cfgM Tryz.prog glX moDM tyDM (inN [68,60,90,64,65,89,88,102,9999,9999,49,29,7]) kpDM
noncomputable def sh42M (l:List It) (k:Nat):St:=⟨mkT [(0,V.lst 3 (itl l)),(1,V.fn (Fn.func 68) [] []),(7,V.lst 3 (itl l)),(8,iv ((itl l).length:Int)),(9,iv (k:Int))],⟨[],0,[]⟩⟩
noncomputable def sh13M (l:List It) (k:Nat):St:=⟨mkT [(13,V.lst 3 (itl l)),(14,iv ((itl l).length:Int)),(15,iv (k:Int))],⟨[],0,[]⟩⟩
set_option maxRecDepth 10000
theorem hcDM:cfDM.ok Tryz.prog:=cfgM_ok
theorem ifB_tM {b:Bool} {p q:Prop} (hb:b=true) (h:p):ifB b p q:=by subst hb; exact h
theorem ifB_fM {b:Bool} {p q:Prop} (hb:b=false) (h:q):ifB b p q:=by subst hb; exact h
theorem onIntK_u8M {n:Int} {k:Int→Prop} (h:k n):onIntK .u8 (u8v n) k:=h
theorem hJ'M {J:St→Prop} {s s' : St} (he:s=s') (h:J s'):J s:=he ▸ h
theorem itl_lengthM (l:List It):(itl l).length=l.length:=by simp [itl]
theorem itl_getM {l:List It} {i:Nat} {x:It} (h:l[i]? = some x):(itl l)[i]? = some (itm x):=by simp [itl,h]
theorem wr1iM {i n:Nat} (h:i<n) (hn:(n:Int)≤9223372036854775807):IntKind.i64.wrap ((i:Int)+1)=((i+1:Nat):Int):=by rw [wr (by omega) (by omega)]; simp
theorem getIM {α:Type} {l:List α} {k:Nat} (h:k<l.length) : ∃ x,l[k]? = some x:=⟨l[k],by simp [h]⟩
theorem sub_allM {α:Type} (l:List α):sub l 0 l.length=l:=by simp [sub]
theorem itl_takeM (l:List It):List.take l.length (itl l)=itl l:=by rw [← itl_lengthM]; exact List.take_length
theorem lsI_bM {l:List It} (h:l≠[]):lsI l = .lst 3 (itl l):=by cases l with | nil=>exact (h rfl).elim | cons x r=>rfl
noncomputable def dcM (p:Prop):Bool:=@decide p (Classical.propDecidable p)
theorem dc_tM {p:Prop} (h:p):dcM p=true:=by simp [dcM,h]
theorem dc_fM {p:Prop} (h : ¬ p):dcM p=false:=by simp [dcM,h]
theorem dc_trueM {p:Prop} (h:dcM p=true):p:=by simpa [dcM] using h
theorem rtM {p:Prop} {R:V→Prop} (h:R (bv (dcM p))) (hp:p):R (bv true):=by rw [dc_tM hp] at h; exact h
theorem rfM {p:Prop} {R:V→Prop} (h:R (bv (dcM p))) (hp : ¬ p):R (bv false):=by rw [dc_fM hp] at h; exact h
def BefM (x y:It):Prop:=x.1<y.1∨x.1=y.1∧x.2.1<y.2.1
def cfPM (x y:It):Int:=if x.1<y.1 then -1 else if y.1<x.1 then 1 else if x.2.1<y.2.1 then -1 else if y.2.1<x.2.1 then 1 else 0
theorem cfP_ltM {x y:It}:cfPM x y<0↔BefM x y:=by
 unfold cfPM BefM
 split
 ·simp; omega
 ·split
  ·simp; omega
  ·split
   ·simp; omega
   ·split <;> simp <;> omega
theorem parts97M {a b c d:Int} {R:V→Prop} (h:R (iv (cfPM (a,b,0) (c,d,0)))):K0G Tryz.prog glX 91 [.agg [iv a,u8v b],.agg [iv c,u8v d]] R:=by
 refine K0_of_WY0 hmX hcDM 3000 Tryz.func91 (see (p:=ifB (a != a) (ifB (c != c) (ifB (b != b) (ifB (d != d) (R (iv (0:Int))) (R (iv (-1:Int)))) (ifB (d != d) (R (iv (1:Int))) (ifB (decide (b<d)) (R (iv (-1:Int))) (ifB (decide (b > d)) (R (iv (1:Int))) (R (iv (0:Int))))))) (ifB (b != b) (ifB (d != d) (R (iv (-1:Int))) (R (iv (-1:Int)))) (ifB (d != d) (R (iv (-1:Int))) (ifB (decide (b<d)) (R (iv (-1:Int))) (ifB (decide (b > d)) (R (iv (-1:Int))) (R (iv (-1:Int)))))))) (ifB (c != c) (ifB (b != b) (ifB (d != d) (R (iv (1:Int))) (R (iv (1:Int)))) (ifB (d != d) (R (iv (1:Int))) (ifB (decide (b<d)) (R (iv (1:Int))) (ifB (decide (b > d)) (R (iv (1:Int))) (R (iv (1:Int))))))) (ifB (decide (a<c)) (ifB (b != b) (ifB (d != d) (R (iv (-1:Int))) (R (iv (-1:Int)))) (ifB (d != d) (R (iv (-1:Int))) (ifB (decide (b<d)) (R (iv (-1:Int))) (ifB (decide (b > d)) (R (iv (-1:Int))) (R (iv (-1:Int))))))) (ifB (decide (a > c)) (ifB (b != b) (ifB (d != d) (R (iv (1:Int))) (R (iv (1:Int)))) (ifB (d != d) (R (iv (1:Int))) (ifB (decide (b<d)) (R (iv (1:Int))) (ifB (decide (b > d)) (R (iv (1:Int))) (R (iv (1:Int))))))) (ifB (b != b) (ifB (d != d) (R (iv (0:Int))) (R (iv (-1:Int)))) (ifB (d != d) (R (iv (1:Int))) (ifB (decide (b<d)) (R (iv (-1:Int))) (ifB (decide (b > d)) (R (iv (1:Int))) (R (iv (0:Int))))))))))) (by kernel_rfl) ?_)
 simp only [bne_self_eq_false]
 unfold cfPM at h
 simp only at h
 refine ifB_fM rfl (ifB_fM rfl (ifB_mk (fun h1=>?_) (fun h1=>ifB_mk (fun h2=>?_) (fun h2=>?_))))
 ·rw [if_pos (of_decide_eq_true h1)] at h
  refine ifB_fM rfl (ifB_fM rfl (ifB_mk (fun _=>?_) (fun _=>ifB_mk (fun _=>?_) (fun _=>?_)))) <;> exact h
 ·rw [if_neg (of_decide_eq_false h1),if_pos (show c<a from of_decide_eq_true h2)] at h
  refine ifB_fM rfl (ifB_fM rfl (ifB_mk (fun _=>?_) (fun _=>ifB_mk (fun _=>?_) (fun _=>?_)))) <;> exact h
 ·rw [if_neg (of_decide_eq_false h1),if_neg (show ¬ c<a from of_decide_eq_false h2)] at h
  refine ifB_fM rfl (ifB_fM rfl (ifB_mk (fun h3=>?_) (fun h3=>ifB_mk (fun h4=>?_) (fun h4=>?_))))
  ·rw [if_pos (of_decide_eq_true h3)] at h; exact h
  ·rw [if_neg (of_decide_eq_false h3),if_pos (show d<b from of_decide_eq_true h4)] at h; exact h
  ·rw [if_neg (of_decide_eq_false h3),if_neg (show ¬ d<b from of_decide_eq_false h4)] at h; exact h
def OrdM (l:List It):Prop := ∀ (i:Nat) (x y:It),l[i]? = some x→l[i+1]? = some y→BefM x y
def OkpM (x:It):Prop:=0≤x.1∧x.1≤15∧x.2.1≤15
theorem order42M {l:List It} {R:V→Prop} (hl:l.length≤1000) (h:R (bv (dcM (OrdM l ∧ ∀ x∈l,OkpM x)))):K0G Tryz.prog glX 67 [.lst 3 (itl l),.fn (.func 68) [] []] R:=by
 refine K0_of_WY0 hmX hcDM 3000 Tryz.func67 (see (p:=La 0 [(0:Tmp),(1:Tmp),(7:Tmp),(8:Tmp),(9:Tmp)] (WY Tryz.prog cfDM 2995 (Env.mk (Bs.mk 0 []) 0 none 38 67 0) (cdAt [1,0,1,0,0] (bodyOf Tryz.f67))) (Qblk 0 (Qthen (WY Tryz.prog cfDM 2998 (Env.mk (Bs.mk 0 []) 0 none 38 67 0) (cdAt [1,1] (bodyOf Tryz.f67)) (QendX Tryz.prog Tryz.f67 fun v h=>R (frzW h v))) (QendX Tryz.prog Tryz.f67 fun v h=>R (frzW h v)))) (St.mk (mkT [(0,V.lst 3 (itl l)),(1,V.fn (Fn.func (68:FuncId)) [] []),(7,V.lst 3 (itl l)),(8,iv (↑(itl l).length:Int)),(9,iv (0:Int))]) (Hp.mk [] 0 []))) (by kernel_rfl) ?_)
 refine La.of (σ:=Nat) (fun k=>sh42M l k) (fun k=>k≤l.length∧(∀ (i:Nat) (x y:It),i+1<k→l[i]? = some x→l[i+1]? = some y→BefM x y) ∧ ∀ (i:Nat) (x:It),i<k→l[i]? = some x→OkpM x) (fun k=>l.length - k) 0 (by kernel_rfl) ⟨by simp,by simp,by simp⟩ ?_
 rintro k ⟨g1,g2,g3⟩ J hJ
 refine see (p:=ifB (decide ((↑k:Int)<(↑(itl l).length:Int))) (onSome (itl l)[k]? fun row=>onCons (List.drop 0 row) fun u r=>onIntK IntKind.i64 u fun n=>onCons r fun u r=>onIntK IntKind.u8 u fun n_1=>onCons r fun u r=>onIntK IntKind.i64 u fun n_2=>ifB (decide ((0:Int)≤n)) (ifB (decide (n≤(15:Int))) (ifB (!decide (n_1≤(15:Int))) (R (bv false)) (ifB (decide ((↑k:Int) > (0:Int))) (onNat (IntKind.i64.wrap ((↑k:Int) - (1:Int))) fun m=>onSome (itl l)[m]? fun row=>onCons (List.drop 0 row) fun u r=>onIntK IntKind.i64 u fun n_3=>onCons r fun u r=>onIntK IntKind.u8 u fun n_4=>onCons r fun u r=>onIntK IntKind.i64 u fun n_5=>K0G Tryz.prog glX 91 [V.agg [iv n_3,V.raw (Value.int IntKind.u8 n_4)],V.agg [iv n,V.raw (Value.int IntKind.u8 n_1)]] fun v=>onIntK IntKind.i64 v fun n=>ifB (decide (n ≥ (0:Int))) (R (bv false)) (J (St.mk (mkT [(0,V.lst 3 (itl l)),(1,V.fn (Fn.func (68:FuncId)) [] []),(7,V.lst 3 (itl l)),(8,iv (↑(itl l).length:Int)),(9,iv (IntKind.i64.wrap ((↑k:Int)+(1:Int))))]) (Hp.mk [] 0 [])))) (J (St.mk (mkT [(0,V.lst 3 (itl l)),(1,V.fn (Fn.func (68:FuncId)) [] []),(7,V.lst 3 (itl l)),(8,iv (↑(itl l).length:Int)),(9,iv (IntKind.i64.wrap ((↑k:Int)+(1:Int))))]) (Hp.mk [] 0 []))))) (R (bv false))) (R (bv false))) (R (bv true))) (by kernel_rfl) ?_
 simp only [itl_lengthM]
 refine ifB_mk (fun hb=>?_) (fun hb=>?_)
 ·have hlt:k<l.length:=by have:=of_decide_eq_true hb; omega
  obtain ⟨x,hx⟩:=getIM hlt
  have bad : ¬ OkpM x→R (bv false):=fun hn=>rfM h (fun hp=>hn (hp.2 x (List.mem_of_getElem? hx)))
  refine onSome_mk (itl_getM hx) (onCons_cons (onIntK_iv (onCons_cons (onIntK_u8M (onCons_cons (onIntK_iv ?_))))))
  refine ifB_mk (fun a1=>ifB_mk (fun a2=>ifB_mk (fun a3=>bad (fun hp=>by have:=hp.2.2; simp at a3; omega)) (fun a3=>?_)) (fun a2=>bad (fun hp=>absurd hp.2.1 (of_decide_eq_false a2)))) (fun a1=>bad (fun hp=>absurd hp.1 (of_decide_eq_false a1)))
  have hok:OkpM x:=⟨of_decide_eq_true a1,of_decide_eq_true a2,by simpa using a3⟩
  rw [wr1iM hlt (by omega)]
  have go:(0<k → ∀ y,l[k - 1]? = some y→BefM y x)→J (sh42M l (k+1)):=fun hbef=>hJ (k+1) ⟨by omega,fun i y z hi hy hz=>by
   rcases Nat.lt_succ_iff_lt_or_eq.1 hi with q | q
   ·exact g2 i y z q hy hz
   ·rw [q] at hz
    rw [hx] at hz
    cases hz
    exact hbef (by omega) y (by rw [show k - 1=i from by omega]; exact hy),fun i y hi hy=>by
   rcases Nat.lt_succ_iff_lt_or_eq.1 hi with q | q
   ·exact g3 i y q hy
   ·rw [q,hx] at hy; cases hy; exact hok⟩ (by omega)
  have go' : (0<k → ∀ y,l[k - 1]? = some y→BefM y x)→J ⟨mkT [(0,V.lst 3 (itl l)),(1,V.fn (Fn.func 68) [] []),(7,V.lst 3 (itl l)),(8,iv (l.length:Int)),(9,iv ((k+1:Nat):Int))],⟨[],0,[]⟩⟩:=fun hbef=>hJ'M (by simp [sh42M,itl_lengthM]) (go hbef)
  refine ifB_mk (fun hk=>?_) (fun hk=>go' (fun h0=>by have:=of_decide_eq_false hk; omega))
  have hk0:0<k:=by have:=of_decide_eq_true hk; omega
  obtain ⟨y,hy⟩:=getIM (l:=l) (k:=k - 1) (by omega)
  refine onNat_mk (m:=k - 1) (by rw [wr (by omega) (by omega)]; omega) ?_
  refine onSome_mk (itl_getM hy) (onCons_cons (onIntK_iv (onCons_cons (onIntK_u8M (onCons_cons (onIntK_iv ?_))))))
  have hb:BefM y x↔cfPM (y.1,y.2.1,0) (x.1,x.2.1,0)<0:=by rw [cfP_ltM]; rfl
  refine parts97M (onIntK_iv (ifB_mk (fun hc=>rfM h (fun hp=>?_)) (fun hc=>go' (fun _ y' hy' => ?_))))
  ·have:=hb.1 (hp.1 (k - 1) y x hy (by rw [show k - 1+1=k from by omega]; exact hx))
   have:=of_decide_eq_true hc
   omega
  ·rw [hy] at hy'
   cases hy'
   exact hb.2 (by have:=of_decide_eq_false hc; omega)
 ·have hk:k=l.length:=by have:=of_decide_eq_false hb; omega
  refine rtM h ⟨fun i x y hx hy=>g2 i x y ?_ hx hy,fun x hx=>?_⟩
  ·have:=(List.getElem?_eq_some_iff.1 hy).1; omega
  ·obtain ⟨i,hi⟩:=List.getElem?_of_mem hx
   exact g3 i x (by have:=(List.getElem?_eq_some_iff.1 hi).1; omega) hi
def StkM (l:List It):Prop:=l.length≤30∧OrdM l∧(∀ x∈l,OkpM x) ∧ ∀ x∈l,1≤x.2.2∧x.2.2≤1000
noncomputable def stkEM (l:List It):Int:=if dcM (StkM l)=true then 0 else 8
theorem stk0M {l:List It} {R:V→Prop} (h:R (iv (stkEM l))) (hs:StkM l):R (iv 0):=by rw [stkEM,if_pos (dc_tM hs)] at h; exact h
theorem stk8M {l:List It} {R:V→Prop} (h:R (iv (stkEM l))) (hs : ¬ StkM l):R (iv 8):=by rw [stkEM,if_neg (by rw [dc_fM hs]; simp)] at h; exact h
theorem check13M {l:List It} {R:V→Prop} (h:R (iv (stkEM l))):K0G Tryz.prog glX 37 [.lst 3 (itl l)] R:=by
 refine K0_of_WY0 hmX hcDM 3000 Tryz.func37 (see (p:=ifB (decide ((↑(itl l).length:Int) > (30:Int))) (R (iv (8:Int))) (K0G Tryz.prog glX 67 [V.lst 3 (itl l),V.fn (Fn.func 68) [] []] fun v=>onBool v fun b=>ifB (!b) (R (iv (8:Int))) (La 0 [(13:Tmp),(14:Tmp),(15:Tmp)] (WY Tryz.prog cfDM 2994 (Env.mk (Bs.mk 0 []) 0 none 24 37 0) (cdAt [1,1,0,1,0,0] (bodyOf Tryz.f37))) (Qblk 0 (Qthen (WY Tryz.prog cfDM 2997 (Env.mk (Bs.mk 0 []) 0 none 24 37 0) (cdAt [1,1,1] (bodyOf Tryz.f37)) (QendX Tryz.prog Tryz.f37 fun v h=>R (frzW h v))) (QendX Tryz.prog Tryz.f37 fun v h=>R (frzW h v)))) (St.mk (mkT [(13,V.lst 3 (itl l)),(14,iv (↑(itl l).length:Int)),(15,iv (0:Int))]) (Hp.mk [] 0 []))))) (by kernel_rfl) ?_)
 have bad:=fun hn=>stk8M (R:=R) h hn
 rw [itl_lengthM]
 refine ifB_mk (fun hl=>bad (fun hs=>by have:=of_decide_eq_true hl; have:=hs.1; omega)) (fun hl=>?_)
 have hl:l.length≤30:=by have:=of_decide_eq_false hl; omega
 refine order42M (by omega) (onBool_bv (ifB_mk (fun hb=>bad (fun hs=>?_)) (fun hbt=>?_)))
 ·rw [dc_tM ⟨hs.2.1,hs.2.2.1⟩] at hb; simp at hb
 obtain ⟨o1,o2⟩:OrdM l ∧ ∀ x∈l,OkpM x:=by
  cases hq:dcM (OrdM l ∧ ∀ x∈l,OkpM x) with
  | true=>exact dc_trueM hq
  | false=>rw [hq] at hbt; cases hbt
 refine La.of (σ:=Nat) (fun k=>sh13M l k) (fun k=>k≤l.length ∧ ∀ (i:Nat) (x:It),i<k→l[i]? = some x→1≤x.2.2∧x.2.2≤1000) (fun k=>l.length - k) 0 (by rw [← itl_lengthM]; kernel_rfl) ⟨by simp,by simp⟩ ?_
 rintro k ⟨g1,g3⟩ J hJ
 refine see (p:=ifB (decide ((↑k:Int)<(↑(itl l).length:Int))) (onSome (itl l)[k]? fun row=>onCons (List.drop 0 row) fun u r=>onIntK IntKind.i64 u fun n=>onCons r fun u r=>onIntK IntKind.u8 u fun n=>onCons r fun u r=>onIntK IntKind.i64 u fun n=>ifB (decide ((1:Int)≤n)) (ifB (!decide (n≤(1000:Int))) (R (iv (8:Int))) (J (St.mk (mkT [(13,V.lst 3 (itl l)),(14,iv (↑(itl l).length:Int)),(15,iv (IntKind.i64.wrap ((↑k:Int)+(1:Int))))]) (Hp.mk [] 0 [])))) (R (iv (8:Int)))) (R (iv (0:Int)))) (by kernel_rfl) ?_
 simp only [itl_lengthM]
 refine ifB_mk (fun hb=>?_) (fun hb=>?_)
 ·have hlt:k<l.length:=by have:=of_decide_eq_true hb; omega
  obtain ⟨x,hx⟩:=getIM hlt
  have badx : ¬ (1≤x.2.2∧x.2.2≤1000)→R (iv 8):=fun hn=>bad (fun hs=>hn (hs.2.2.2 x (List.mem_of_getElem? hx)))
  refine onSome_mk (itl_getM hx) (onCons_cons (onIntK_iv (onCons_cons (onIntK_u8M (onCons_cons (onIntK_iv ?_))))))
  refine ifB_mk (fun a1=>ifB_mk (fun a2=>badx (fun hp=>by have:=hp.2; simp at a2; omega)) (fun a2=>?_)) (fun a1=>badx (fun hp=>absurd hp.1 (of_decide_eq_false a1)))
  rw [wr1iM hlt (by omega)]
  refine hJ'M ?_ (hJ (k+1) ⟨by omega,fun i y hi hy=>?_⟩ (by omega))
  ·simp [sh13M,itl_lengthM]
  ·rcases Nat.lt_succ_iff_lt_or_eq.1 hi with q | q
   ·exact g3 i y q hy
   ·rw [q,hx] at hy; cases hy; exact ⟨of_decide_eq_true a1,by simpa using a2⟩
 ·have hk:k=l.length:=by have:=of_decide_eq_false hb; omega
  refine stk0M h ⟨hl,o1,o2,fun x hx=>?_⟩
  obtain ⟨i,hi⟩:=List.getElem?_of_mem hx
  exact g3 i x (by have:=(List.getElem?_eq_some_iff.1 hi).1; omega) hi
def hasFM:List It→Int→Int→Int
 | [],_,_=>0
 | x::l,a,b=>if x.1=a∧x.2.1=b then x.2.2 else hasFM l a b
set_option maxRecDepth 100000
def memCM (l:List It):Hp:=⟨[(0,O.rows 3 true (itl l)),(1,O.rows 1 false [[V.fn (Fn.func 68) [] []]])],2,[]⟩
def postSM (f:FuncId) (args:List V) (h:Hp) (us:Us):Hp:=h.put (.p 0) (.rows 3 true (us.getD 0 []))
def rtSM (f:FuncId) (args:List V) (us:Us) (v:V) (k:V→Prop):Prop:=onTup v fun vs=>onNil vs (k (.tup []))
def moAM (f:FuncId):Nat:=bif inN [92] f then 3 else bif inN [42,87] f then 1 else bif inN [37] f then 4 else 0
noncomputable def cfAM:Cfg:={ cfgG Tryz.prog glX moAM postSM rtSM (inN [29,41,68,71]) kpDM with clean:=fun g => !inN [41,71] g }
noncomputable def cfKM:Cfg:=cfgG Tryz.prog glX moDM postSM rtSM (inN [68]) kpDM
noncomputable def cfOM:Cfg:=cfgM Tryz.prog glX moDM tyDM (fun _=>true) (fun _ _=>none)
noncomputable def cfNM:Cfg:=cfgG Tryz.prog glX moDM postSM rtSM (inN [72]) kpDM
def mem2M (a b:List It):Hp:=⟨[(0,O.rows 1 true [[V.lst 3 (itl a)],[V.lst 3 (itl b)]])],1,[]⟩
end Go.Proofs.YtmddjopahcbefabGreat
namespace Go.Proofs.YtmddjopahcbefabGreat.Clean
open Go.Proofs Go.Shelf Go.RowKit Go.Lib Go.Sort
set_option linter.unusedVariables false
set_option linter.unusedSimpArgs false
set_option maxRecDepth 10000
def rowV (vs:List Value):List V:=vs.map V.raw
section
variable {ν:Nu} {F:Nat→Prop} {h:Hp} {w w' : World}
theorem heap_growA {os:Array Obj} (k:HeapOK ν F h w) (hw:w' = grow w os):HeapOK ν F h w' ∧ Evo ν F w ν F w' := by
 have hpre : ∀ r,r<w.heap.size→w'.heap[r]? = w.heap[r]? := fun r hlt=>by
  subst hw; show (w.heap++os)[r]? = _; rw [Array.getElem?_append_left hlt]
 have hsize:w.heap.size≤w'.heap.size:=by subst hw; show _≤(w.heap++os).size; simp
 have e:Evo ν F w ν F w' := ⟨by rw [hw]; rfl,by rw [hw]; rfl,by rw [hw]; rfl,hsize,fun r hlt _=>hpre r hlt,fun _ h=>h,fun _ h => .inl h,fun _ h => .inl h,fun _ _ _ h=>h,Nat.le_refl _,fun _=>Nat.le_refl _,fun _ _ h=>h,
  fun b r s n hb _ c e fr hc=>⟨c,by rw [hpre r (lt_of_some hc)]; exact hc,rfl⟩,by subst hw; exact Nat.le_refl _⟩
 refine ⟨⟨fun b r s n hb=>?_,k.dom,k.inj,fun r hr=>⟨Nat.lt_of_lt_of_le (k.frz r hr).1 hsize,(k.frz r hr).2⟩,k.nxt,k.cnt⟩,e⟩
 obtain ⟨o,g1,g2⟩:=k.blk b r s n hb
 exact ⟨o,g1,obl_evo k e (hpre r (k.at_lt hb)) g2⟩
theorem world_grow {W w' : World} (h1:w'.os=W.os) (h2:w'.tape=W.tape) (h3:w'.output=W.output) (h4:W.drawn≤w'.drawn) (h5:W.heap.size≤w'.heap.size) (h6 : ∀ r,r<W.heap.size→w'.heap[r]? = W.heap[r]?) : ∃ q os', w' = grow (W.drewN q) os' := by
 refine ⟨w'.drawn - W.drawn,w'.heap.extract W.heap.size w'.heap.size,?_⟩
 obtain ⟨heap,tape,drawn,os,out⟩:=w'
 simp only at h1 h2 h3 h4 h5 h6
 have hh:heap=W.heap++heap.extract W.heap.size heap.size:=by
  refine Array.ext_getElem? fun i=>?_
  by_cases hi:i<W.heap.size
  ·rw [Array.getElem?_append_left hi,h6 i hi]
  ·rw [Array.getElem?_append_right (by omega),Array.getElem?_extract]
   split
   ·rw [show W.heap.size+(i - W.heap.size)=i from by omega]
   ·rw [Array.getElem?_eq_none (by omega)]
 show World.mk heap tape drawn os out=World.mk (W.heap++heap.extract W.heap.size heap.size) W.tape (W.drawn+(drawn - W.drawn)) W.os W.output
 rw [← hh,← h1,← h2,← h3,show W.drawn+(drawn - W.drawn)=drawn from by omega]
variable {α:Type} [Inhabited α]
theorem flat_get {enc:α→List Value} {k:Nat} (hk : ∀ x,(enc x).length=k) (l:List α) {i j:Nat} {x:α} (hx:l[i]? = some x) (hj:j<k):(flatK enc k l.toArray)[i * k+j]! = (enc x)[j]! ∧ i * k+j<l.length * k:=by
 have hi:=(List.getElem?_eq_some_iff.1 hx).1
 have lt:i * k+j<l.length * k:=by
  have:=Nat.mul_le_mul_right k (show i+1≤l.length from hi); rw [Nat.add_mul,Nat.one_mul] at this; omega
 refine ⟨?_,lt⟩
 rw [get_flatK _ _ _ _ (by simpa using lt)]
 have e1:(i * k+j) / k=i:=(blk_iff k i _ (by omega)).1 ⟨by omega,by omega⟩
 have e2:(i * k+j) % k=j:=by rw [Nat.mod_eq_sub_div_mul,e1]; omega
 rw [e1,e2]
 have:l.toArray[i]! = x:=by
  rw [getElem!_pos _ i (by simpa using hi)]
  have:=(List.getElem?_eq_some_iff.1 hx).2
  simpa using this
 rw [this]
theorem holds_of {enc:α→List Value} {k:Nat} (hk : ∀ x,(enc x).length=k) {l:List α} {r:Nat} {c:Array Value} {el:TypeId} {p:Bool} (hc:w.heap[r]? = some (.cells c el (0,0))) (hr:rowsC (repO F w ν p) c k (l.map fun x=>rowV (enc x)) 0):HoldsK enc k w r 0 l.toArray:=by
  intro t ht
  rw [size_flatK] at ht
  have ht:t<l.length * k:=by simpa using ht
  have k0 : 0 < k := by rcases Nat.eq_zero_or_pos k with h | h
                        · subst h; simp at ht
                        · exact h
  have hi:t / k<l.length:=Nat.div_lt_of_lt_mul (by rw [Nat.mul_comm]; exact ht)
  have hj:t % k<k:=Nat.mod_lt _ k0
  have et:t / k * k+t % k=t:=Nat.div_add_mod' t k
  obtain ⟨x,hx⟩ : ∃ x,l[t / k]? = some x:=⟨_,List.getElem?_eq_getElem hi⟩
  have hf:=(flat_get hk l hx hj).1
  rw [et] at hf
  obtain ⟨_,q⟩:=rowsC_iff.1 hr (t / k) (rowV (enc x)) (by rw [List.getElem?_map,hx]; rfl)
  have hje:t % k<(enc x).length:=by rw [hk]; exact hj
  obtain ⟨y,y1,_,y2⟩:=q (t % k) (V.raw (enc x)[t % k]!) (by rw [rowV,List.getElem?_map,List.getElem?_eq_getElem hje]; simp [hje])
  have hy:y=(enc x)[t % k]! := by
    unfold repO at y2
    split at y2 <;> simpa [ri,rep] using y2
  rw [Nat.zero_add,et] at y1
  constructor
  · show w.cell? ⟨r,0+t,none⟩=some (flatK enc k l.toArray)[t]!
    rw [hf,← hy,Nat.zero_add]
    simp [World.cell?,hc,y1]
  · rw [Nat.zero_add]
    simp [World.frozen?,hc]
theorem sort_world {enc:α→List Value} {k:Nat} (hk : ∀ x,(enc x).length=k) (h1 : ∀ x, ∀ v∈enc x,v.oneCell' = true) {l:List α} {b r n' : Nat} {p:Bool} (hh:HeapOK ν F h w) (hget:h.get (.p b)=some (.rows k p (l.map fun x=>rowV (enc x)))) (hat:ν.at_ (.p b)=some (r,k,n')) (m:Nat) (dk:Array α) (os:Array Obj) (hs:dk.size=l.length) :
  HeapOK ν F (h.put (.p b) (.rows k p (dk.toList.map fun x=>rowV (enc x)))) (sortWorldK enc k w r 0 m dk os)∧Evo ν F w ν F (sortWorldK enc k w r 0 m dk os) ∧ ∀ q,q≠r→q<w.heap.size→(sortWorldK enc k w r 0 m dk os).heap[q]? = w.heap[q]? := by
 obtain ⟨_,g2,c,e,hc,hn,hr⟩:=hh.blkR hget hat
 obtain ⟨k1,e1⟩:=heap_same (w' := Sort.ahead w m) hh rfl rfl rfl rfl (Nat.le_add_right _ _)
 have hsz:(flatK enc k dk).size=l.length * k:=by rw [size_flatK,hs]
 have g2:l.length=n' := by simpa using g2
 have hc' : (putRowK enc k (Sort.ahead w m) r 0 dk).heap[r]? = some (.cells (putCells id 0 (flatK enc k dk) c) e (0,0)):=by
  show (w.heap.modify r (onCells (putCells id 0 (flatK enc k dk))))[r]? = _
  rw [Array.getElem?_modify,if_pos rfl,hc]; rfl
 have hoth : ∀ q,q≠r→(putRowK enc k (Sort.ahead w m) r 0 dk).heap[q]? = w.heap[q]? := fun q hq=>by
  show (w.heap.modify r (onCells (putCells id 0 (flatK enc k dk))))[q]? = _
  rw [Array.getElem?_modify,if_neg (Ne.symm hq)]
 have hrow:rowsC (repO F (Sort.ahead w m) ν p) (putCells id 0 (flatK enc k dk) c) k (dk.toList.map fun x=>rowV (enc x)) 0:=by
  refine rowsC_iff.2 fun i row hrow=>?_
  rw [List.getElem?_map,Option.map_eq_some_iff] at hrow
  obtain ⟨x,hx,rfl⟩:=hrow
  refine ⟨by rw [rowV,List.length_map,hk],fun j v hj=>?_⟩
  rw [rowV,List.getElem?_map,Option.map_eq_some_iff] at hj
  obtain ⟨y,hy,rfl⟩:=hj
  have hjk:j<k:=by rw [← hk x]; exact (List.getElem?_eq_some_iff.1 hy).1
  obtain ⟨f1,f2⟩:=flat_get hk dk.toList hx hjk
  rw [Array.toArray_toList] at f1
  rw [Array.length_toList,hs] at f2
  have hy' : (enc x)[j]! = y:=by
   rw [getElem!_pos _ j (by rw [hk]; exact hjk)]
   exact (List.getElem?_eq_some_iff.1 hy).2
  refine ⟨y,?_,h1 x y (List.mem_of_getElem? hy),?_⟩
  ·rw [Nat.zero_add]
   simp only [putCells,Array.getElem?_mapIdx]
   rw [Array.getElem?_eq_getElem (show i * k+j<c.size by rw [← g2] at hn; omega)]
   simp only [Option.map_some,Nat.zero_le,true_and,Nat.zero_add,hsz,f2,if_true,Nat.sub_zero,id,f1,hy']
  ·unfold repO
   split <;> simp [ri,rep]
 have hcp:(putCells id 0 (flatK enc k dk) c).size=c.size:=by simp [putCells]
 obtain ⟨k2,e2⟩:=heap_set (w' := putRowK enc k (Sort.ahead w m) r 0 dk) (es:=l.map fun x=>rowV (enc x)) (es' := dk.toList.map fun x=>rowV (enc x)) (p:=p) k1 hget rfl (by rw [List.length_map,g2]; exact hat) (by simp [hs]) hc hc' hcp hoth (by show (w.heap.modify _ _).size=_; rw [Array.size_modify]; rfl) rfl rfl rfl (by rw [List.length_map,g2]; exact hn) hrow (Nat.le_refl _)
 obtain ⟨k3,e3⟩:=heap_growA (w' := sortWorldK enc k w r 0 m dk os) k2 rfl
 refine ⟨k3,(e1.trans e2).trans e3,fun q hq hlt=>?_⟩
 show ((putRowK enc k (Sort.ahead w m) r 0 dk).heap++os)[q]? = _
 rw [Array.getElem?_append_left (by show q<(w.heap.modify _ _).size; rw [Array.size_modify]; exact hlt),hoth q hq]
end
section
variable {ν:Nu} {F:Nat→Prop} {h:Hp} {w w' : World} {α:Type} [Inhabited α]
theorem repL_raws {vs:List Value}:repL F w ν (rowV vs) vs:=by
 induction vs with
 | nil=>simp [rowV,repL]
 | cons a t ih=>simp only [rowV,List.map_cons,repL] at ih ⊢; exact ⟨a,t,rfl,by simp [rep],ih⟩
theorem perm_of {d d' : Array α} (h:PermIn 0 d.size d d'):d'.toList.Perm d.toList:=by
 obtain ⟨h1,_,h3⟩:=h
 have e1:d'.extract 0 d.size=d' := by rw [← h1]; simp
 have e2:d.extract 0 d.size=d:=by simp
 rw [e1,e2] at h3
 exact h3
theorem K_sort {P:Program} {G:Nat→Option (List V)} {ρ:Ren} (L:SlLaysF0.n6 P ρ) {k:Nat} (aE : ∀ w,(isAgg (ρ.t 24)).run P w = .ok true w) (zE : ∀ w,(Go.sizeOf (ρ.t 24)).run P w = .ok k w) {enc:α→List Value} (hk : ∀ x,(enc x).length=k) (h1 : ∀ x, ∀ v∈enc x,v.oneCell' = true) {cf:α→α→Int} (hO:SWO (ltOf cf))
  {g:FuncId} {caps:List V} {h:Hp} {b:Nat} {p:Bool} {l:List α} (hl0:l≠[]) (hlt:l.length<4611686018427387904) (hget:h.get (.p b)=some (.rows k p (l.map fun x=>rowV (enc x))))
  (eg : ∀ args w,(callFunc g args).run P w = .ok (.enter g args) w)
  (hcmp : ∀ l' : List α,l'.length=l.length → ∀ x y,K P G g ([.agg (rowV (enc x)),.agg (rowV (enc y))]++caps) (h.put (.p b) (.rows k p (l'.map fun x=>rowV (enc x)))) (fun b' => !b'.low h.nxt) fun v _=>v = .raw (.int .i64 (cf x y))) (hfs:h.fs=[]) :
  K P G (ρ.f 6) [.sl (.p b) 0 l.length,.fn (.func g) [] caps] h (fun b' => (Id.p b).beq b') fun v h' => v = .tup [] ∧ ∃ l' : List α,l'.Perm l∧(∀ (i j:Nat) (x y:α),i<j→l'[i]? = some x→l'[j]? = some y → ¬ cf y x<0)∧h' = h.put (.p b) (.rows k p (l'.map fun x=>rowV (enc x))):=by
 intro ν F w xs hh hG hl
 simp only [repL,rep] at hl
 obtain ⟨x1,_,rfl,hx1,x2,_,rfl,⟨fa,cs,rfl,has,hcs⟩,rfl⟩:=hl
 obtain ⟨⟨r,k', n'⟩,hat⟩ : ∃ x,ν.at_ (.p b)=some x:=by
  rcases hh.dom _ _ hget with h | ⟨_,s,p', h⟩
  ·exact h
  ·simp at h
   exact (hl0 h.2.2).elim
 obtain ⟨rfl,g2,c,e,hc,hn,hr⟩:=hh.blkR hget hat
 have g2:l.length=n' := by simpa using g2
 obtain ⟨-, cap,hcap,⟨o,ho,rfl⟩, -⟩:=hx1.2 _ _ _ hat
 have ho:o=0:=by
  rcases ho with ho | ho
  ·simpa using ho
  ·exact absurd rfl ho.2
 subst ho
 have has:fa = #[]:=by
  have:fa.toList=[]:=by simpa [repL] using has
  exact Array.toList_eq_nil_iff.1 this
 subst has
 have hblk:r<w.heap.size:=hh.at_lt hat
 have key:CmpLays P g cs enc k cf r 0 l.toArray.size w:=by
  intro m os dk hs x y
  have hs:dk.size=l.length:=by simpa using hs
  obtain ⟨q1,q2,_⟩:=sort_world (enc:=enc) hk h1 hh hget hat m dk os hs
  have hG' : GlobOK G F (sortWorldK enc k w r 0 m dk os):=fun g cs hg=>HeapOK.riEvo hh q2 (hG g cs hg)
  have hargs:repL F (sortWorldK enc k w r 0 m dk os) ν ([.agg (rowV (enc x)),.agg (rowV (enc y))]++caps) ([.agg (enc x).toArray,.agg (enc y).toArray]++cs.toList):=by
   simp only [List.cons_append,List.nil_append,repL,rep]
   exact ⟨_,_,rfl,⟨_,rfl,by simpa using repL_raws⟩,_,_,rfl,⟨_,rfl,by simpa using repL_raws⟩,repL_evo hh q2 _ _ hcs⟩
  have:=hcmp dk.toList (by simpa using hs) x y ν F _ _ q1 hG' hargs
  have harr:([.agg (enc x).toArray,.agg (enc y).toArray]++cs.toList:List Value).toArray = #[.agg (enc x).toArray,.agg (enc y).toArray]++cs:=by simp
  rw [harr] at this
  refine this.mono fun e' w' ⟨v,u,ν', F', h', z1,z2,z3,z4,z5,z6⟩=>?_
  subst z1; subst z2
  have hv:v = .int .i64 (cf x y):=by simpa [rep] using z4
  refine ⟨by rw [hv],world_grow z5.os z5.tape z5.output z5.drawn z5.size fun q hq=>?_⟩
  by_cases ho:ν.own q
  ·obtain ⟨b', s', n'', hb'⟩:=ho
   refine (z6 b' _ hb' ?_).1
   have hlt:=ν.lt _ _ hb'
   cases b' with
   | p a =>
    have:a<h.nxt:=by have h2:a<ν.nxt:=hlt; rw [hh.nxt] at h2; exact h2
    show (!Nat.blt a h.nxt)=false
    rw [show Nat.blt a h.nxt=true from Nat.ble_eq_true_of_le this]; rfl
   | m B j =>
    have h2:j<ν.cnt B:=hlt
    rw [hh.cnt B,hfs] at h2
    exact absurd h2 (Nat.not_lt_zero _)
  ·exact z5.old q hq ho
 have hH:HoldsK enc k w r 0 l.toArray:=holds_of hk hc hr
 have main:=AnyQ.slices_SortFunc L k aE zE enc hk h1 cf hO g cs r 0 cap l.toArray w eg key hH hblk (by simpa using hlt)
 refine main.mono fun e' w' ⟨he,d', n,os,hp,hs,hw⟩=>?_
 subst he; subst hw
 have hsz:d'.size=l.length:=by simpa using hp.1
 obtain ⟨q1,q2,q3⟩:=sort_world (enc:=enc) hk h1 hh hget hat n d' os hsz
 refine ⟨.tuple #[],.tup [],ν,F,_,rfl,⟨rfl,d'.toList,by simpa using perm_of hp,fun i j x y hij hx hy=>?_,rfl⟩,q1,by simp [rep,repL],q2,fun b' y hy hb' => ⟨?_,hy⟩⟩
 ·have hj:j<l.length:=by rw [← hsz]; simpa using (List.getElem?_eq_some_iff.1 hy).1
  have:=hs i j (Nat.zero_le _) hij (by simpa using hj)
  have e1:d'[i]! = x:=by
   rw [getElem!_pos d' i (by omega)]
   have:=(List.getElem?_eq_some_iff.1 hx).2
   simpa using this
  have e2:d'[j]! = y:=by
   rw [getElem!_pos d' j (by omega)]
   have:=(List.getElem?_eq_some_iff.1 hy).2
   simpa using this
  rw [e1,e2] at this
  unfold ltOf at this
  exact of_decide_eq_false this
 ·obtain ⟨r', s', n''⟩:=y
  refine q3 r' (fun he=>?_) (hh.at_lt hy)
  subst he
  have:=hh.inj b' _ _ _ _ _ _ hy hat
  subst this
  simp at hb'
end
end Go.Proofs.YtmddjopahcbefabGreat.Clean
namespace Go.Proofs.YtmddjopahcbefabGreat
open Go Go.Shelf
set_option linter.unusedVariables false
set_option maxRecDepth 100000
def LSi_ren:Go.Shelf.Ren:=⟨fun | 6=>92 | 15=>104 | 14=>103 | 28=>117 | 29=>118 | 20=>109 | 21=>110 | 22=>111 | 23=>112 | 24=>113 | 25=>114 | 26=>115 | 27=>116 | 46=>121 | 47=>122 | 48=>123 | 49=>124 | 50=>125 | 57=>135 | n=>n,fun | 22=>22 | 24=>51 | 25=>153 | 3=>3 | 39=>163 | 0=>0 | 53=>175 | 55=>177 | 4=>4 | 46=>169 | 45=>168 | 50=>144 | 5=>5 | 9=>9 | 66=>179 | 70=>183 | 76=>190 | 77=>191 | n=>n,fun | n=>n⟩
theorem LSi:Go.Proofs.SlLaysF0.n6 Tryz.prog LSi_ren:={
 mixed:=by kernel_rfl
 f6:=⟨Tryz.f92.name,by decide,Tryz.func92.trans (congrArg some (by kernel_rfl))⟩
 f14:=⟨Tryz.f103.name,by decide,Tryz.func103.trans (congrArg some (by kernel_rfl))⟩
 f15:=Tryz.func104.trans (congrArg some (by kernel_rfl))
 f20:=⟨Tryz.f109.name,by decide,Tryz.func109.trans (congrArg some (by kernel_rfl))⟩
 f21:=⟨Tryz.f110.name,by decide,Tryz.func110.trans (congrArg some (by kernel_rfl))⟩
 f22:=⟨Tryz.f111.name,by decide,Tryz.func111.trans (congrArg some (by kernel_rfl))⟩
 f23:=⟨Tryz.f112.name,by decide,Tryz.func112.trans (congrArg some (by kernel_rfl))⟩
 f24:=⟨Tryz.f113.name,by decide,Tryz.func113.trans (congrArg some (by kernel_rfl))⟩
 f25:=⟨Tryz.f114.name,by decide,Tryz.func114.trans (congrArg some (by kernel_rfl))⟩
 f26:=⟨Tryz.f115.name,by decide,Tryz.func115.trans (congrArg some (by kernel_rfl))⟩
 f27:=⟨Tryz.f116.name,by decide,Tryz.func116.trans (congrArg some (by kernel_rfl))⟩
 f28:=Tryz.func117.trans (congrArg some (by kernel_rfl))
 f29:=Tryz.func118.trans (congrArg some (by kernel_rfl))
 f46:=⟨Tryz.f121.name,by decide,Tryz.func121.trans (congrArg some (by kernel_rfl))⟩
 f47:=Tryz.func122.trans (congrArg some (by kernel_rfl))
 f48:=Tryz.func123.trans (congrArg some (by kernel_rfl))
 f49:=⟨Tryz.f124.name,by decide,Tryz.func124.trans (congrArg some (by kernel_rfl))⟩
 f50:=⟨Tryz.f125.name,by decide,Tryz.func125.trans (congrArg some (by kernel_rfl))⟩
 f57:=⟨Tryz.f135.name,by decide,Tryz.func135.trans (congrArg some (by kernel_rfl))⟩
 t0:=Tryz.underlying0
 a0:=Tryz.isAgg0
 z0:=Tryz.sizeOf0
 v0:=Tryz.zeroValue0
 t3:=Tryz.underlying3
 a3:=Tryz.isAgg3
 z3:=Tryz.sizeOf3
 v3:=Tryz.zeroValue3
 t4:=Tryz.underlying4
 a4:=Tryz.isAgg4
 z4:=Tryz.sizeOf4
 v4:=Tryz.zeroValue4
 t5:=Tryz.underlying5
 a5:=Tryz.isAgg5
 z5:=Tryz.sizeOf5
 v5:=Tryz.zeroValue5
 t9:=Tryz.underlying9
 a9:=Tryz.isAgg9
 z9:=Tryz.sizeOf9
 v9:=Tryz.zeroValue9
 t22:=Tryz.underlying22
 a22:=Tryz.isAgg22
 z22:=Tryz.sizeOf22
 v22:=Tryz.zeroValue22
 t25:=Tryz.underlying153
 a25:=Tryz.isAgg153
 z25:=Tryz.sizeOf153
 v25:=Tryz.zeroValue153
 t39:=Tryz.underlying163
 a39:=Tryz.isAgg163
 z39:=Tryz.sizeOf163
 v39:=Tryz.zeroValue163
 t45:=Tryz.underlying168
 a45:=Tryz.isAgg168
 z45:=Tryz.sizeOf168
 v45:=Tryz.zeroValue168
 t46:=Tryz.underlying169
 a46:=Tryz.isAgg169
 z46:=Tryz.sizeOf169
 v46:=Tryz.zeroValue169
 t50:=Tryz.underlying144
 a50:=Tryz.isAgg144
 z50:=Tryz.sizeOf144
 v50:=Tryz.zeroValue144
 t53:=Tryz.underlying175
 a53:=Tryz.isAgg175
 z53:=Tryz.sizeOf175
 v53:=Tryz.zeroValue175
 t55:=Tryz.underlying177
 a55:=Tryz.isAgg177
 z55:=Tryz.sizeOf177
 v55:=Tryz.zeroValue177
 t66:=Tryz.underlying179
 a66:=Tryz.isAgg179
 z66:=Tryz.sizeOf179
 v66:=Tryz.zeroValue179
 t70:=Tryz.underlying183
 a70:=Tryz.isAgg183
 z70:=Tryz.sizeOf183
 v70:=Tryz.zeroValue183
 t76:=Tryz.underlying190
 a76:=Tryz.isAgg190
 z76:=Tryz.sizeOf190
 v76:=Tryz.zeroValue190
 t77:=Tryz.underlying191
 a77:=Tryz.isAgg191
 z77:=Tryz.sizeOf191
 v77:=Tryz.zeroValue191 }
open Go Go.Proofs.YtmddjopahcbefabGreat.Clean
set_option linter.unusedSimpArgs false
set_option maxRecDepth 10000
theorem rtS_okM : ∀ (f:FuncId) (args:List V) (us:Us) (v:V) (k:V→Prop),rtSM f args us v k → ∃ v', k v' ∧ ∀ {F:Nat→Prop} {w:World} {ν:Nu} {x:Value},rep F w ν v x→rep F w ν v' x:=by
 intro f args us v k h
 unfold rtSM onTup at h
 split at h
 ·rename_i cs
  unfold onNil at h
  split at h
  ·exact ⟨_,h,fun h=>h⟩
  ·exact h.elim
 ·exact h.elim
theorem hcAM:cfAM.ok Tryz.prog:=by
 have h:(cfgG Tryz.prog glX moAM postSM rtSM (inN [29,41,68,71]) kpDM).ok Tryz.prog:=cfgG_ok rtS_okM
 exact ⟨h.1,h.2⟩
theorem hcKM:cfKM.ok Tryz.prog:=cfgG_ok rtS_okM
theorem hcNM:cfNM.ok Tryz.prog:=cfgG_ok rtS_okM
theorem hcOM:cfOM.ok Tryz.prog:=cfgM_ok
def encIM (x:It):List Value:=[.int .i64 x.1,.int .u8 x.2.1,.int .i64 x.2.2]
theorem cmp124M {x y:It} {l:List It} {R:V→Prop} (h:R (.raw (.int .i64 (cfPM x y)))):K Tryz.prog glX 93 [.agg (itm x),.agg (itm y),.ptr (.p 1) 0 0] (memCM l) (fun b => !b.low 2) fun v _=>R v:=by
 refine K_of_WYKc hmX hcKM 3000 Tryz.func93 (see (p:=K0G Tryz.prog glX 91 [V.agg [iv x.1,V.raw (Value.int IntKind.u8 x.2.1)],V.agg [iv y.1,V.raw (Value.int IntKind.u8 y.2.1)]] fun v=>onIntK IntKind.i64 v fun n=>R (iv n)) (by kernel_rfl) ?_)
 exact parts97M (onIntK_iv h)
theorem swoPM:Go.Sort.SWO (Go.Proofs.ltOf cfPM) where
 irrefl x:=by
  unfold Go.Proofs.ltOf
  exact decide_eq_false (fun h=>by have:=cfP_ltM.1 h; unfold BefM at this; omega)
 trans x y z h1 h2:=by
  unfold Go.Proofs.ltOf at *
  have h1:=cfP_ltM.1 (of_decide_eq_true h1)
  have h2:=cfP_ltM.1 (of_decide_eq_true h2)
  exact decide_eq_true (cfP_ltM.2 (by unfold BefM at *; omega))
 ntrans x y z h1 h2:=by
  unfold Go.Proofs.ltOf at *
  have h1 : ¬ BefM x y:=fun h=>(of_decide_eq_false h1) (cfP_ltM.2 h)
  have h2 : ¬ BefM y z:=fun h=>(of_decide_eq_false h2) (cfP_ltM.2 h)
  exact decide_eq_false (fun h=>by
   have h3:=cfP_ltM.1 h
   unfold BefM at *
   omega)
def SrtM (l:List It):Prop := ∀ (i j:Nat) (x y:It),i<j→l[i]? = some x→l[j]? = some y → ¬ BefM y x
theorem sort123M {es:List (List V)} {l:List It} (he:es=itl l) (hl:l.length<1000000) {args:List V} {Q:V→Us→Prop} (h : ∀ l' : List It,l'.Perm l→SrtM l' → Q (.tup []) [itl l']):KM Tryz.prog glX 92 [.sl (.p 0) 0 es.length,.fn (.func 93) [] [.ptr (.p 1) 0 0]] ⟨[(0,O.rows 3 true es),(1,O.rows 1 false [[V.fn (Fn.func 68) [] []]])],2,[]⟩ (postSM 92 args) Q:=by
 subst he
 rw [itl_lengthM]
 by_cases h0:l=[]
 ·subst h0
  refine KM_of_WYKp hmX hcOM 3000 Tryz.func92 (fun R hR=>?_)
  exact see (p:=R (V.tup []) (Hp.mk [(0,O.rows 3 true []),(1,O.rows 1 false [[V.fn (Fn.func (68:FuncId)) [] []]])] 2 [])) (by kernel_rfl) (hR (.tup []) [itl []] (h [] (List.Perm.refl _) (fun i j x y _ hx=>by simp at hx)))
 ·unfold KM
  have key:=K_sort (P:=Tryz.prog) (G:=glX) (ρ:=LSi_ren) LSi (k:=3) Tryz.isAgg51 Tryz.sizeOf51 (enc:=encIM) (fun _=>rfl) (fun x v hv=>by simp [encIM] at hv; rcases hv with rfl | rfl | rfl <;> rfl) (cf:=cfPM) swoPM (g:=93) (caps:=[.ptr (.p 1) 0 0]) (h:=memCM l) (b:=0) (p:=true) (l:=l) h0 (by omega) rfl
   (enters_of Tryz.func93 (by kernel_rfl) rfl) (fun l' _ x y=>cmp124M (x:=x) (y:=y) (l:=l') rfl) rfl
  intro ν F w xs g1 g2 g3
  refine (key ν F w xs g1 g2 g3).mono fun e w' ⟨x,v,ν', F', h', z1,⟨z2,l', z7,z8,z9⟩,z3,z4,z5,z6⟩=>?_
  refine ⟨x,v,ν', F', h', z1,⟨[itl l'],z9,by rw [z2]; exact h l' z7 (fun i j a b hij ha hb hbef=>z8 i j a b hij ha hb (cfP_ltM.2 hbef))⟩,z3,z4,z5,fun b y hb ht=>by cases ht⟩
theorem itl_appM (a b:List It):itl (a++b)=itl a++itl b:=by simp [itl]
theorem concat38M {a b:List It} {R:V→Prop} (ha:a.length≤1000) (hb:b.length≤1000) (h:R (.lst 3 (itl (a++b)))):KB Tryz.prog glX 42 [.sl (.p 0) 0 2] (mem2M a b) R:=by
 refine KB_of_WYB hmX hcNM 3000 Tryz.func42 rfl (see (p:=ifB (decide (IntKind.i64.wrap ((0:Int)+(↑(itl a).length:Int))<(0:Int))) False (ifB (decide (IntKind.i64.wrap (IntKind.i64.wrap ((0:Int)+(↑(itl a).length:Int))+(↑(itl b).length:Int))<(0:Int))) False (ifB (decide (IntKind.i64.wrap (IntKind.i64.wrap ((0:Int)+(↑(itl a).length:Int))+(↑(itl b).length:Int))<(0:Int))) False (ifB (decide (IntKind.i64.wrap (IntKind.i64.wrap (IntKind.i64.wrap ((0:Int)+(↑(itl a).length:Int))+(↑(itl b).length:Int)) - IntKind.i64.wrap ((↑(0:Nat):Int) - (↑(0:Nat):Int))) > (0:Int))) (onNat (IntKind.i64.wrap (IntKind.i64.wrap (IntKind.i64.wrap ((0:Int)+(↑(itl a).length:Int))+(↑(itl b).length:Int)) - IntKind.i64.wrap ((↑(0:Nat):Int) - (↑(0:Nat):Int)))) fun n=>need (n * 24≤140737488355328) (need ((0+(itl a).length) * 24≤140737488355328) (need ((0+(itl a).length+(itl b).length) * 24≤140737488355328) (R (V.lst 3 (sub (List.take (0+(itl a).length) ([]++itl a)++itl b) 0 (0+(itl a).length+(itl b).length))))))) (need ((itl a).length * 24≤140737488355328) (need (((itl a).length+(itl b).length) * 24≤140737488355328) (R (V.lst 3 (sub (List.take (itl a).length (itl a)++itl b) 0 ((itl a).length+(itl b).length)))))))))) (by kernel_rfl) ?_)
 rw [itl_lengthM,itl_lengthM]
 have w1:IntKind.i64.wrap ((0:Int)+(a.length:Int))=(a.length:Int):=by rw [wr (by omega) (by omega)]; omega
 have w2:IntKind.i64.wrap ((a.length:Int)+(b.length:Int))=(a.length:Int)+b.length:=wr (by omega) (by omega)
 have w3:IntKind.i64.wrap (((0:Nat):Int) - ((0:Nat):Int))=0:=rfl
 have w4:IntKind.i64.wrap ((a.length:Int)+(b.length:Int) - 0)=(a.length:Int)+b.length:=by rw [wr (by omega) (by omega)]; omega
 rw [w1,w2,w3,w4]
 have e1:sub (List.take a.length (itl a)++itl b) 0 (a.length+b.length)=itl (a++b):=by
  rw [itl_takeM,← itl_appM,sub,List.drop_zero,List.take_of_length_le (by rw [itl_lengthM]; simp)]
 refine ifB_fM (decide_eq_false (by omega)) (ifB_fM (decide_eq_false (by omega)) (ifB_fM (decide_eq_false (by omega)) (ifB_mk (fun hp=>?_) (fun hp=>?_))))
 ·refine onNat_mk (m:=a.length+b.length) (by omega) (need_mk ⟨by omega,need_mk ⟨by omega,need_mk ⟨by omega,?_⟩⟩⟩)
  rw [Nat.zero_add,List.nil_append,e1]
  exact h
 ·refine need_mk ⟨by omega,need_mk ⟨by omega,?_⟩⟩
  rw [e1]
  exact h
theorem BefM.trans {x y z:It} (h:BefM x y) (g:BefM y z):BefM x z:=by unfold BefM at *; omega
theorem BefM.ne {x y:It} (h:BefM x y) : ¬ (y.1=x.1∧y.2.1=x.2.1):=by unfold BefM at h; omega
theorem OrdM.tail {x:It} {l:List It} (h:OrdM (x::l)):OrdM l:=fun i a b ha hb=>h (i+1) a b (by simpa using ha) (by simpa using hb)
theorem OrdM.pair : ∀ {l:List It},OrdM l→l.Pairwise BefM
 | [],_ => .nil
 | [x],_=>by simp
 | x::y::l,h=>by
  have ih:=OrdM.pair h.tail
  have hxy:BefM x y:=h 0 x y rfl rfl
  refine List.Pairwise.cons (fun z hz=>?_) ih
  rcases List.mem_cons.1 hz with rfl | hz
  ·exact hxy
  ·exact hxy.trans ((List.pairwise_cons.1 ih).1 z hz)
def GM (l:List It):Prop:=l.Pairwise BefM ∧ ∀ x∈l,1≤x.2.2
theorem GM.tail {x:It} {l:List It} (h:GM (x::l)):GM l:=⟨(List.pairwise_cons.1 h.1).2,fun y hy=>h.2 y (by simp [hy])⟩
theorem GM.nil:GM []:=⟨.nil,by simp⟩
theorem has_noneM {l:List It} {a b:Int} (h : ∀ y∈l, ¬ (y.1=a∧y.2.1=b)):hasFM l a b=0:=by
 induction l with
 | nil=>rfl
 | cons y r ih =>
  simp only [hasFM]
  rw [if_neg (h y (by simp))]
  exact ih (fun z hz=>h z (by simp [hz]))
theorem GM.has {l:List It} (h:GM l) {x:It} (hx:x∈l):hasFM l x.1 x.2.1=x.2.2:=by
 induction l with
 | nil=>cases hx
 | cons y r ih =>
  simp only [hasFM]
  rcases List.mem_cons.1 hx with rfl | hx'
  ·rw [if_pos ⟨rfl,rfl⟩]
  ·rw [if_neg (fun e=>((List.pairwise_cons.1 h.1).1 x hx').ne ⟨e.1.symm,e.2.symm⟩)]
   exact ih h.tail hx'
theorem StkM.g {l:List It} (h:StkM l):GM l:=⟨h.2.1.pair,fun x hx=>(h.2.2.2 x hx).1⟩
def cntFM:List It→Int→Int→Int
 | [],_,_=>0
 | x::l,a,b=>(if x.1=a∧x.2.1=b then x.2.2 else 0)+cntFM l a b
theorem cnt_appM (l m:List It) (a b:Int):cntFM (l++m) a b=cntFM l a b+cntFM m a b:=by
 induction l with
 | nil=>simp [cntFM]
 | cons x l ih=>simp only [List.cons_append,cntFM,ih]; omega
theorem cnt_permM {l m:List It} (h:l.Perm m) (a b:Int):cntFM l a b=cntFM m a b:=by
 induction h with
 | nil=>rfl
 | cons x _ ih=>simp only [cntFM,ih]
 | swap x y l=>simp only [cntFM]; omega
 | trans _ _ ih1 ih2=>exact ih1.trans ih2
theorem cnt_noneM {l:List It} {a b:Int} (h : ∀ y∈l, ¬ (y.1=a∧y.2.1=b)):cntFM l a b=0:=by
 induction l with
 | nil=>rfl
 | cons y r ih=>simp only [cntFM]; rw [if_neg (h y (by simp)),ih (fun z hz=>h z (by simp [hz]))]; rfl
theorem GM.cnt : ∀ {l:List It},GM l → ∀ a b,cntFM l a b=hasFM l a b
 | [],_,_,_=>rfl
 | x::l,h,a,b=>by
  simp only [cntFM,hasFM]
  split
  ·rename_i e
   have:cntFM l a b=0:=cnt_noneM (fun y hy q=>((List.pairwise_cons.1 h.1).1 y hy).ne ⟨q.1.trans e.1.symm,q.2.trans e.2.symm⟩)
   omega
  ·rw [GM.cnt h.tail]; omega
theorem has_app_noneM {l m:List It} {a b:Int} (h : ∀ y∈l, ¬ (y.1=a∧y.2.1=b)):hasFM (l++m) a b=hasFM m a b:=by
 induction l with
 | nil=>rfl
 | cons y r ih=>rw [List.cons_append,hasFM,if_neg (h y (by simp)),ih (fun z hz=>h z (by simp [hz]))]
theorem has_app_someM {l m:List It} {a b:Int} (h : ∃ y∈l,y.1=a∧y.2.1=b):hasFM (l++m) a b=hasFM l a b:=by
 induction l with
 | nil=>obtain ⟨y,hy,_⟩:=h; cases hy
 | cons y r ih =>
  rw [List.cons_append,hasFM,hasFM]
  split
  ·rfl
  ·rename_i hn
   obtain ⟨z,hz,e⟩:=h
   rcases List.mem_cons.1 hz with q | q
   ·subst q; exact (hn e).elim
   ·exact ih ⟨z,q,e⟩
structure MIM (l m:List It):Prop where
 pw:m.Pairwise BefM
 cnt : ∀ a b,hasFM m a b=cntFM l a b
 pos : ∀ y∈m,1≤y.2.2∧y.2.2≤1000 * (l.length:Int)
 last : ∀ x,l.getLast? = some x → ∃ c y,m=c++[y]∧y.1=x.1∧y.2.1=x.2.1
 len:m.length≤l.length
 sub : ∀ y∈m, ∃ x∈l,x.1=y.1∧x.2.1=y.2.1
theorem MIM.nil:MIM [] []:=⟨.nil,fun _ _=>rfl,by simp,by simp,by simp,by simp⟩
theorem MIM.same {l c:List It} {x y:It} (h:MIM l (c++[y])) (hx:1≤x.2.2∧x.2.2≤1000) (he:y.1=x.1∧y.2.1=x.2.1):MIM (l++[x]) (c++[(y.1,y.2.1,y.2.2+x.2.2)]):=by
 have hp:=List.pairwise_append.1 h.pw
 have hcy : ∀ z∈c,BefM z y:=fun z hz=>hp.2.2 z hz y (by simp)
 refine ⟨List.pairwise_append.2 ⟨hp.1,by simp,fun z hz w hw=>?_⟩,fun a b=>?_,fun z hz=>?_,fun w hw=>?_,?_,fun z hz=>?_⟩
 ·have hw:w=(y.1,y.2.1,y.2.2+x.2.2):=by simpa using hw
  subst hw
  exact hcy z hz
 ·have hc:=h.cnt a b
  rw [cnt_appM,← hc]
  simp only [cntFM]
  by_cases e:x.1=a∧x.2.1=b
  ·have hn : ∀ z∈c, ¬ (z.1=a∧z.2.1=b):=fun z hz q=>(hcy z hz).ne ⟨he.1.trans (e.1.trans q.1.symm),he.2.trans (e.2.trans q.2.symm)⟩
   have e1:hasFM [(y.1,y.2.1,y.2.2+x.2.2)] a b=y.2.2+x.2.2:=by rw [hasFM,if_pos ⟨he.1.trans e.1,he.2.trans e.2⟩]
   have e2:hasFM [y] a b=y.2.2:=by rw [hasFM,if_pos ⟨he.1.trans e.1,he.2.trans e.2⟩]
   rw [has_app_noneM hn,has_app_noneM hn,if_pos e,e1,e2]
   omega
  ·rw [if_neg e]
   by_cases q : ∃ z∈c,z.1=a∧z.2.1=b
   ·rw [has_app_someM q,has_app_someM q]; omega
   ·have hn : ∀ z∈c, ¬ (z.1=a∧z.2.1=b):=fun z hz r=>q ⟨z,hz,r⟩
    have e1:hasFM [(y.1,y.2.1,y.2.2+x.2.2)] a b=0:=by rw [hasFM,if_neg (fun r=>e ⟨he.1.symm.trans r.1,he.2.symm.trans r.2⟩)]; rfl
    have e2:hasFM [y] a b=0:=by rw [hasFM,if_neg (fun r=>e ⟨he.1.symm.trans r.1,he.2.symm.trans r.2⟩)]; rfl
    rw [has_app_noneM hn,has_app_noneM hn,e1,e2]
    rfl
 ·rw [List.length_append,List.length_singleton]
  rcases List.mem_append.1 hz with hz | hz
  ·have:=h.pos z (by simp [hz]); omega
  ·have hz:z=(y.1,y.2.1,y.2.2+x.2.2):=by simpa using hz
   subst hz
   have:=h.pos y (by simp)
   simp only
   omega
 ·have hw:x=w:=by simpa using hw
  subst hw
  exact ⟨c,_,rfl,he.1,he.2⟩
 ·have:=h.len
  simp only [List.length_append,List.length_singleton] at *
  omega
 ·rcases List.mem_append.1 hz with hz | hz
  ·obtain ⟨w,h1,h2⟩:=h.sub z (by simp [hz])
   exact ⟨w,by simp [h1],h2⟩
  ·have hz:z=(y.1,y.2.1,y.2.2+x.2.2):=by simpa using hz
   subst hz
   exact ⟨x,by simp,he.1.symm,he.2.symm⟩
theorem MIM.new {l m:List It} {x:It} (h:MIM l m) (hx:1≤x.2.2∧x.2.2≤1000) (hb : ∀ y∈m,BefM y x):MIM (l++[x]) (m++[x]):=by
 refine ⟨List.pairwise_append.2 ⟨h.pw,by simp,fun z hz w hw=>?_⟩,fun a b=>?_,fun z hz=>?_,fun w hw=>?_,?_,fun z hz=>?_⟩
 ·have hw:w=x:=by simpa using hw
  subst hw
  exact hb z hz
 ·rw [cnt_appM,← h.cnt a b]
  simp only [cntFM]
  by_cases e:x.1=a∧x.2.1=b
  ·have hn : ∀ z∈m, ¬ (z.1=a∧z.2.1=b):=fun z hz q=>(hb z hz).ne ⟨e.1.trans q.1.symm,e.2.trans q.2.symm⟩
   rw [has_app_noneM hn,if_pos e,hasFM,if_pos e,has_noneM hn]; omega
  ·rw [if_neg e]
   by_cases q : ∃ z∈m,z.1=a∧z.2.1=b
   ·rw [has_app_someM q]; omega
   ·have hn : ∀ z∈m, ¬ (z.1=a∧z.2.1=b):=fun z hz r=>q ⟨z,hz,r⟩
    rw [has_app_noneM hn,hasFM,if_neg e,has_noneM hn]; rfl
 ·rw [List.length_append,List.length_singleton]
  rcases List.mem_append.1 hz with hz | hz
  ·have:=h.pos z hz; omega
  ·have hz:z=x:=by simpa using hz
   subst hz
   omega
 ·have hw:x=w:=by simpa using hw
  subst hw
  exact ⟨m,_,rfl,rfl,rfl⟩
 ·have:=h.len
  simp only [List.length_append,List.length_singleton] at *
  omega
 ·rcases List.mem_append.1 hz with hz | hz
  ·obtain ⟨w,h1,h2⟩:=h.sub z hz
   exact ⟨w,by simp [h1],h2⟩
  ·have hz:z=x:=by simpa using hz
   subst hz
   exact ⟨z,by simp,rfl,rfl⟩
theorem MIM.cases {l m:List It} {x:It} (h:MIM l m) (hs : ∀ z,l.getLast? = some z → ¬ BefM x z) (c:List It) (y:It) (hm:m=c++[y]) (hne : ¬ (y.1=x.1∧y.2.1=x.2.1)) : ∀ z∈m,BefM z x:=by
 have hl:l≠[]:=fun e=>by have:=h.len; rw [e,hm] at this; simp at this
 obtain ⟨w,hw⟩ : ∃ w,l.getLast? = some w:=by
  cases hq:l.getLast? with
  | none=>exact (hl (List.getLast?_eq_none_iff.1 hq)).elim
  | some w=>exact ⟨w,rfl⟩
 obtain ⟨c', y', e,e1,e2⟩:=h.last w hw
 have:=hs w hw
 rw [hm] at e
 obtain ⟨rfl,e⟩:=List.append_inj' e rfl
 have e:y=y' := by simpa using e
 subst e
 have hyx:BefM y x:=by unfold BefM at *; omega
 intro z hz
 rw [hm] at hz
 rcases List.mem_append.1 hz with hz | hz
 ·have hp:=h.pw
  rw [hm] at hp
  exact ((List.pairwise_append.1 hp).2.2 z hz y (by simp)).trans hyx
 ·have hz:z=y:=by simpa using hz
  subst hz
  exact hyx
set_option maxRecDepth 100000
noncomputable def mem9M (l:List It) (a b:List It):List (Nat×O):=[(2,O.rows 3 true (itl l)),(1,O.rows 1 true [[V.lst 3 (itl a)],[V.lst 3 (itl b)]]),(0,O.rows 1 true [[V.lst 3 (itl a)],[V.lst 3 (itl b)]])]
noncomputable def sh37aM (l a b:List It) (N:Nat) (k:Nat):St:=⟨mkT [(4,nilS),(10,V.sl (Id.p 2) 0 N),(11,iv (N:Int)),(12,iv (k:Int))],⟨mem9M l a b,3,[]⟩⟩
noncomputable def sh37bM (l a b:List It) (N:Nat) (m:List It) (k:Nat):St:=⟨mkT [(4,V.sl (Id.p 3) 0 m.length),(10,V.sl (Id.p 2) 0 N),(11,iv (N:Int)),(12,iv (k:Int))],⟨mem9M l a b++[(3,O.rows 3 true (itl m))],4,[]⟩⟩
noncomputable def sh41aM (a o:List It) (k:Nat):St:=⟨mkT [(1,V.lst 3 (itl o)),(6,nilS),(9,V.lst 3 (itl a)),(10,iv ((itl a).length:Int)),(11,iv (k:Int))],⟨[],0,[]⟩⟩
noncomputable def sh41bM (a o l:List It) (k:Nat):St:=⟨mkT [(1,V.lst 3 (itl o)),(6,V.sl (Id.p 0) 0 l.length),(9,V.lst 3 (itl a)),(10,iv ((itl a).length:Int)),(11,iv (k:Int))],⟨[(0,O.rows 3 true (itl l))],1,[]⟩⟩
noncomputable def sh41M (a:List It) (s:List It×List It×Nat):St:=match s.2.1 with | []=>sh41aM a s.1 s.2.2 | x::r=>sh41bM a s.1 (x::r) s.2.2
noncomputable def sh37M (l a b:List It) (N:Nat) (m:List It) (k:Nat):St:=match m with | []=>sh37aM l a b N k | x::r=>sh37bM l a b N (x::r) k
end Go.Proofs.YtmddjopahcbefabGreat
